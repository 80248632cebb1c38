/-
  The program's tokens: what each small function of its reader answers.
-/
import Derived.Test.YtmpaeladhoomoaaGreatDoorProg
import Derived.Test.YtmpaeladhoomoaaGreatDoorPure
import Derived.WalkKit
import Derived.WalkSpells
import Derived.WalkLawsBesides
import Derived.Deep.QuietTactic
import Derived.BigQuiet
namespace Go.Proofs.YtmpaeladhoomoaaGreatDoor
open Go.RowKit

theorem ret_int {k : IntKind} {a b : Int} (h : a = b) : Ending.returned (.int k a) = .returned (.int k b) := by rw [h]
theorem ret_bool {a b : Bool} (h : a = b) : Ending.returned (.bool a) = .returned (.bool b) := by rw [h]

theorem isLetter_any (c : Nat) (w : World) :
    Calls Tryz.prog 195 #[.int .u8 c] w fun e w' => e = .returned (.bool (decide (97 ≤ c) && decide (c ≤ 122))) ∧ w' = w := by
  by_cases h1 : (97:Int) ≤ (c : Int)
  · by_cases h2 : (c : Int) ≤ 122
    · go_enter Tryz.func195, Tryz.ntmps195
      go_wp2
      go_ret
      exact ⟨by simp; omega, rfl⟩
    · go_enter Tryz.func195, Tryz.ntmps195
      go_wp2
      go_ret
      exact ⟨by simp; omega, rfl⟩
  · go_enter Tryz.func195, Tryz.ntmps195
    go_wp2
    go_ret
    exact ⟨by simp; omega, rfl⟩
theorem isDigit_any (c : Nat) (w : World) :
    Calls Tryz.prog 196 #[.int .u8 c] w fun e w' => e = .returned (.bool (decide (48 ≤ c) && decide (c ≤ 57))) ∧ w' = w := by
  by_cases h1 : (48:Int) ≤ (c : Int)
  · by_cases h2 : (c : Int) ≤ 57
    · go_enter Tryz.func196, Tryz.ntmps196
      go_wp2
      go_ret
      exact ⟨by simp; omega, rfl⟩
    · go_enter Tryz.func196, Tryz.ntmps196
      go_wp2
      go_ret
      exact ⟨by simp; omega, rfl⟩
  · go_enter Tryz.func196, Tryz.ntmps196
    go_wp2
    go_ret
    exact ⟨by simp; omega, rfl⟩

set_option maxHeartbeats 400000 in
theorem behindBlanks_any (s : ByteArray) (i : Nat) (w : World) (hs : s.size ≤ 400) (hi : i ≤ s.size) :
    Calls Tryz.prog 144 #[.string s, .int .i64 i] w fun e w' => e = .returned (.int .i64 (after blank s i : Nat)) ∧ w' = w := by
  go_enter Tryz.func144, Tryz.ntmps144
  go_wp2
  go_loop [1] (fun t => ∃ k : Nat, k ≤ s.size ∧ Hid (after blank s k = after blank s i) ∧ t = .int .i64 k) (fun t => s.size - (intOf t).toNat)
  case atStart => exact ⟨i, hi, rfl, rfl⟩
  case round =>
    obtain ⟨k, hk, ha, rfl⟩ := hrel
    by_cases hlt : k < s.size
    · have hb := bAt_eq s k hlt
      have Hb : Hid (s[k].toNat = bAt s k) := hb
      clear hb
      go_wp2
      all_goals first
        | (go_ret; refine ⟨ret_int ?_, rfl⟩; rw [← ha.out, after_stop _ _ _ hlt]; have h2 := Hb.out; simp [blank]; simp_all; omega)
        | (refine ⟨⟨k + 1, by omega, ?_, by go_num⟩, by simp [intOf]; omega⟩; show _ = _; rw [← ha.out]; refine (after_step _ _ _ hlt ?_).symm; have h2 := Hb.out; simp [blank]; simp_all; omega)
    · go_wp2
      go_ret
      exact ⟨ret_int (by rw [← ha.out, after_end _ _ _ (by omega)]), rfl⟩

set_option maxHeartbeats 400000 in
theorem behindRow_any (s : ByteArray) (i : Nat) (w : World) (hs : s.size ≤ 400) (hi : i ≤ s.size) :
    Calls Tryz.prog 145 #[.string s, .int .i64 i] w fun e w' => e = .returned (.int .i64 (after rowB s i : Nat)) ∧ w' = w := by
  go_enter Tryz.func145, Tryz.ntmps145
  go_wp2_with fail
  go_loop [1] (fun t => ∃ k : Nat, k ≤ s.size ∧ Hid (after rowB s k = after rowB s i) ∧ t = .int .i64 k) (fun t => s.size - (intOf t).toNat)
  case atStart => exact ⟨i, hi, rfl, rfl⟩
  case round =>
    obtain ⟨k, hk, ha, rfl⟩ := hrel
    by_cases hlt : k < s.size
    · have hb := bAt_eq s k hlt
      have Hb : Hid (s[k].toNat = bAt s k) := hb
      clear hb
      go_wp2_with (first | (go_at_call 195; refine (isLetter_any _ _).mono ?_; rintro e w' ⟨rfl, rfl⟩) | (go_at_call 196; refine (isDigit_any _ _).mono ?_; rintro e w' ⟨rfl, rfl⟩))
      all_goals first
        | (go_ret; refine ⟨ret_int ?_, rfl⟩; rw [← ha.out, after_stop _ _ _ hlt]; rw [← Hb.out]; simp [rowB]; omega)
        | (refine ⟨⟨k + 1, by omega, ?_, by go_num⟩, by simp [intOf]; omega⟩; show _ = _; rw [← ha.out]; refine (after_step _ _ _ hlt ?_).symm; rw [← Hb.out]; simp [rowB]; omega)
    · go_wp2_with fail
      go_ret
      exact ⟨ret_int (by rw [← ha.out, after_end _ _ _ (by omega)]), rfl⟩

set_option maxHeartbeats 400000 in
theorem wordKind_any (s : ByteArray) (w : World) :
    Calls Tryz.prog 197 #[.string s] w fun e w' => e = .returned (.int .i64 (wordC s.data.toList : Nat)) ∧ w' = w := by
  rw [← ByteArray.toList_eq]
  go_enter Tryz.func197, Tryz.ntmps197
  go_wp2
  all_goals (go_ret; refine ⟨ret_int ?_, rfl⟩; simp only [wordC, *]; simp)
end Go.Proofs.YtmpaeladhoomoaaGreatDoor
