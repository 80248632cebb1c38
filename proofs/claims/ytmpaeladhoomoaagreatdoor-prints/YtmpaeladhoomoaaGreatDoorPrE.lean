/-
  The program's Print: names, numbers, steps.
-/
import Derived.Test.YtmpaeladhoomoaaGreatDoorPrS
import Derived.Test.YtmpaeladhoomoaaGreatDoorPrD
namespace Go.Proofs.YtmpaeladhoomoaaGreatDoor
open Go.RowKit

/-- A text as a string. -/
def bT (t : Txt) : ByteArray := ⟨t.toArray⟩
theorem bT_app (a b : Txt) : bT a ++ bT b = bT (a ++ b) := by apply bytes_ext; simp [bT]
theorem bT_size (t : Txt) : (bT t).size = t.length := by simp [bT, ByteArray.size]
theorem dec_canon {n : Nat} (h : n ≤ 9) : (⟨(Lib.decDigits n).toArray⟩ : ByteArray) = canonB 4 n := by
  rw [Lib.decDigits_one (by omega)]; rfl
theorem itoa_any (w : World) (n : Nat) (h : n ≤ 9) : Calls Tryz.prog 78 #[.int .i64 (n : Nat)] w fun e w' => e = .returned (.string (canonB 4 n)) ∧ w' = w := by
  have := Tryz.strconv_Itoa_small n (by omega) w
  rwa [dec_canon h] at this
theorem placeName_any (w : World) (n : Nat) (h : n ≤ 3) : Calls Tryz.prog 76 #[.int .i64 (n : Nat)] w fun e w' => e = .returned (.string (canonB 2 n)) ∧ w' = w := by
  have : n = 0 ∨ n = 1 ∨ n = 2 ∨ n = 3 := by omega
  rcases this with rfl | rfl | rfl | rfl
  all_goals
    go_enter Tryz.func76, Tryz.ntmps76
    go_wp2
    go_ret
    exact ⟨rfl, rfl⟩
theorem size2 (n : Nat) : (canonB 2 n).size = 1 := rfl
theorem size3 (n : Nat) : (canonB 3 n).size = 2 := rfl
theorem size4 (n : Nat) : (canonB 4 n).size = 1 := rfl

theorem registerName_any (w : World) (n : Nat) (h : n ≤ 3) : Calls Tryz.prog 77 #[.int .i64 (n : Nat)] w fun e w' => e = .returned (.string (canonB 3 n)) ∧ w' = w := by
  have z4 := size4 n
  go_enter Tryz.func77, Tryz.ntmps77
  go_wp2_with fail
  refine (itoa_any _ n (by omega)).mono ?_
  rintro e w1 ⟨rfl, rfl⟩
  go_wp2_with fail
  go_ret
  refine ⟨?_, rfl⟩
  show Ending.returned (.string (bT [114] ++ bT (canon 4 n))) = _
  rw [bT_app]; rfl

set_option maxRecDepth 100000 in
set_option maxHeartbeats 2000000 in
theorem stext_any (w : World) (x : St) (h : StOk x) : Calls Tryz.prog 51 #[stV x] w fun e w' => e = .returned (.string (bT (stT x))) ∧ w.grownBy w' none := by
  obtain ⟨k, p, r, d, c⟩ := x
  obtain ⟨h1, h2, h3, h4, h5⟩ := h
  simp only at h1 h2 h3 h4 h5
  have z2 := size2 p
  have z3 := size3 r
  have z4 := size4 d
  have z5 := size4 c
  have hk : k = 0 ∨ k = 1 ∨ k = 2 ∨ k = 3 ∨ k = 4 ∨ k = 5 ∨ k = 6 := by omega
  unfold stV
  rcases hk with rfl | rfl | rfl | rfl | rfl | rfl | rfl
  all_goals
    go_enter Tryz.func51, Tryz.ntmps51
    go_wp2_with fail
    go_quiet (first | (go_at_call 76; exact Calls.quiet_of_same (placeName_any _ p h2)) | (go_at_call 77; exact Calls.quiet_of_same (registerName_any _ r h3)) | (go_at_call 78; exact Calls.quiet_of_same (itoa_any _ d h4)))
    go_wp2_with fail
  · go_ret
    refine ⟨?_, gb_drewN (gb_alloc (gb_refl _ _) _) _⟩
    show Ending.returned (.string (bT (canon 2 p) ++ bT [32, 58, 61, 32] ++ bT (canon 4 d))) = _
    rw [bT_app, bT_app]; rfl
  · go_ret
    refine ⟨?_, gb_drewN (gb_alloc (gb_refl _ _) _) _⟩
    show Ending.returned (.string (bT (canon 2 p) ++ bT [32, 58, 61, 32] ++ bT (canon 3 r))) = _
    rw [bT_app, bT_app]; rfl
  · go_ret
    refine ⟨?_, gb_drewN (gb_alloc (gb_refl _ _) _) _⟩
    show Ending.returned (.string (bT (canon 3 r) ++ bT [32, 58, 61, 32] ++ bT (canon 2 p))) = _
    rw [bT_app, bT_app]; rfl
  · go_ret
    refine ⟨?_, gb_drewN (gb_alloc (gb_refl _ _) _) _⟩
    show Ending.returned (.string (bT (canon 3 r) ++ bT [32, 58, 61, 32] ++ bT (canon 4 d))) = _
    rw [bT_app, bT_app]; rfl
  · go_ret
    refine ⟨?_, gb_drewN (gb_alloc (gb_refl _ _) _) _⟩
    show Ending.returned (.string (bT (canon 3 r) ++ bT [32, 58, 61, 32, 115, 119, 97, 112, 32] ++ bT (canon 2 p) ++ bT [32] ++ bT (canon 4 d))) = _
    rw [bT_app, bT_app, bT_app, bT_app]; rfl
  · go_ret
    exact ⟨rfl, gb_drewN (gb_alloc (gb_refl _ _) _) _⟩
  · refine (itoa_any _ c h5).mono ?_
    rintro e w1 ⟨rfl, rfl⟩
    go_wp2_with fail
    go_ret
    refine ⟨?_, gb_drewN (gb_alloc (gb_refl _ _) _) _⟩
    show Ending.returned (.string (bT [105, 102, 32] ++ bT (canon 3 r) ++ bT [32, 61, 32] ++ bT (canon 4 d) ++ bT [32, 115, 107, 105, 112, 32] ++ bT (canon 4 c))) = _
    rw [bT_app, bT_app, bT_app, bT_app, bT_app]; rfl
end Go.Proofs.YtmpaeladhoomoaaGreatDoor
