/-
  The program's Load: what it answers.
-/
import Derived.Test.YtmpaeladhoomoaaGreatDoorRdM
namespace Go.Proofs.YtmpaeladhoomoaaGreatDoor
open Go.RowKit

def ps0 : PS := ⟨0, 0, 0, 0, -1⟩
/-- The error and the place that the program tells. -/
def readS (s : ByteArray) : Nat × Nat :=
  if 400 < s.size then (1, 0) else
  match testS s ps0 with
  | .error q => (2, q)
  | .ok p => if 0 ≤ p.jmp then (3, p.jmp.toNat) else (0, 0)

/-- A pointer, not nil if there is no error; a new block. -/
def PostR (w : World) (r : Nat × Nat) (e : Ending) (w' : World) : Prop :=
  w.grownBy w' none ∧ ∃ o, e = .returned (.tuple #[.pointer o, .int .i64 (r.1 : Nat), .int .i64 (r.2 : Nat)]) ∧ ((r.1 = 0 ∧ r.2 = 0 ∧ ∃ g, o = some ⟨g, 0, none⟩ ∧ w.heap.size ≤ g ∧ g < w'.heap.size) ∨ (r.1 ≠ 0 ∧ o = none))

/-- The same, with what lies behind the pointer. -/
def PostRC (w : World) (K : World → Nat → Prop) (r : Nat × Nat) (e : Ending) (w' : World) : Prop :=
  w.grownBy w' none ∧ ∃ o, e = .returned (.tuple #[.pointer o, .int .i64 (r.1 : Nat), .int .i64 (r.2 : Nat)]) ∧ ((r.1 = 0 ∧ r.2 = 0 ∧ ∃ g, o = some ⟨g, 0, none⟩ ∧ w.heap.size ≤ g ∧ g < w'.heap.size ∧ Hid (K w' g)) ∨ (r.1 ≠ 0 ∧ o = none))
theorem PostRC.weak {w w' : World} {K : World → Nat → Prop} {r : Nat × Nat} {e : Ending} (h : PostRC w K r e w') : PostR w r e w' := by
  obtain ⟨h1, o, h2, h3⟩ := h
  refine ⟨h1, o, h2, ?_⟩
  rcases h3 with ⟨a1, a2, g, a3, a4, a5, _⟩ | h3
  · exact Or.inl ⟨a1, a2, g, a3, a4, a5⟩
  · exact Or.inr h3
/-- What Read lays, what Load lays. -/
def ProgK (s : ByteArray) (w w' : World) (g : Nat) : Prop := ∃ ls fa ft p', testS s ps0 = .ok p' ∧ ProgRep w' (newB w w') g ls fa ft ∧ Said s 0 ls fa ft p'.i
def TestK (s : ByteArray) (w w' : World) (g : Nat) : Prop := ∃ pg, w'.heap[g]? = some (.cells #[.pointer (some ⟨pg, 0, none⟩)] 71 (0, 0)) ∧ ProgK s w w' pg

theorem gb_own {w w1 w2 : World} {b : Nat} (h1 : w.grownBy w1 none) (h2 : w1.grownBy w2 (some b)) (hb : w.heap.size ≤ b) : w.grownBy w2 none :=
  gb_new h1 h2 (fun g e => Or.inr (by simp at e; omega))
theorem readS_long (s : ByteArray) (h : 400 < s.size) : readS s = (1, 0) := by unfold readS; rw [if_pos h]
theorem readS_err (s : ByteArray) (q : Nat) (h : ¬ 400 < s.size) (ht : testS s ps0 = .error q) : readS s = (2, q) := by unfold readS; rw [if_neg h, ht]
theorem readS_jump (s : ByteArray) (p : PS) (h : ¬ 400 < s.size) (ht : testS s ps0 = .ok p) (hj : 0 ≤ p.jmp) : readS s = (3, p.jmp.toNat) := by unfold readS; rw [if_neg h, ht]; simp only; rw [if_pos hj]
theorem readS_ok (s : ByteArray) (p : PS) (h : ¬ 400 < s.size) (ht : testS s ps0 = .ok p) (hj : ¬ 0 ≤ p.jmp) : readS s = (0, 0) := by unfold readS; rw [if_neg h, ht]; simp only; rw [if_neg hj]

set_option maxRecDepth 100000 in
set_option maxHeartbeats 1000000 in
theorem read_any (w : World) (s : ByteArray) (hs : s.size ≤ maxLen) :
    Calls Tryz.prog 40 #[.string s] w fun e w' => PostRC w (ProgK s w) (readS s) e w' := by
  unfold maxLen at hs
  by_cases hl : (400 : Int) < (s.size : Int)
  · have HS : Hid (readS s = (1, 0)) := readS_long s (by omega)
    go_enter Tryz.func40, Tryz.ntmps40
    go_wp2_with fail
    go_ret3
    refine ⟨gb_refl _ _, ?_⟩
    rw [HS.out]
    exact ⟨none, rfl, Or.inr ⟨by simp, rfl⟩⟩
  · go_enter Tryz.func40, Tryz.ntmps40
    go_wp2_with fail
    refine (advance_raw _ w.heap.size s 0 _ _ _ _ _ _ _ (by omega) (Nat.zero_le _) (heap_alloc_new w _)).mono ?_
    rintro e w1 ⟨rfl, hg1, hb1⟩
    have hp1 : PAt w1 w.heap.size s ps0 := ⟨hb1, by omega, Nat.zero_le _, by simp [ps0], by simp [ps0], by simp [ps0], by simp [ps0], by simp [ps0]⟩
    clear hb1
    go_wp2_with fail
    have hin := test_any _ w.heap.size s ps0 hp1 rfl rfl
    refine hin.mono ?_
    clear hin
    rintro e w2 ⟨hg2, hr2⟩
    have hG : w.grownBy w2 none := gb_own (gb_own (gb_alloc (gb_refl w none) _) hg1 (Nat.le_refl _)) hg2 (Nat.le_refl _)
    have hsz1 := hg1.size
    simp only [World.size_alloc] at hsz1
    cases ht : testS s ps0 with
    | error q =>
      rw [ht] at hr2
      obtain ⟨⟨o, rfl⟩, p2, hp2, hq2⟩ := hr2
      have HS : Hid (readS s = (2, pl s p2)) := by show _ = _; rw [hq2]; exact readS_err s q (by omega) ht
      clear ht hq2
      obtain ⟨c0, c1, c2, c3, c4, c5, c6, c7, c8, hf, hbl⟩ := hp2.get
      go_wp2_with fail
      go_quiet (fail)
      go_wp2_with fail
      go_ret3
      refine ⟨gb_drewN hG _, ?_⟩
      rw [HS.out]
      exact ⟨none, rfl, Or.inr ⟨by simp, rfl⟩⟩
    | ok p2 =>
      rw [ht] at hr2
      obtain ⟨⟨g, rfl, hg, hgl, HPR⟩, hp2⟩ := hr2
      have HTS : Hid (testS s ps0 = .ok p2) := ht
      obtain ⟨c0, c1, c2, c3, c4, c5, c6, c7, c8, hf, hbl⟩ := hp2.get
      have hj1 := hp2.jlo
      have hj2 := hp2.jhi
      by_cases hj : 0 ≤ p2.jmp
      · have HS : Hid (readS s = (3, p2.jmp.toNat)) := readS_jump s p2 (by omega) ht hj
        clear ht
        go_wp2_with fail
        go_quiet (fail)
        go_wp2_with fail
        go_ret3
        refine ⟨gb_drewN hG _, ?_⟩
        rw [HS.out]
        refine ⟨none, ?_, Or.inr ⟨by simp, rfl⟩⟩
        rw [show ((p2.jmp.toNat : Nat) : Int) = p2.jmp from by omega]
        rfl
      · have HS : Hid (readS s = (0, 0)) := readS_ok s p2 (by omega) ht hj
        clear ht
        go_wp2_with fail
        go_ret3
        refine ⟨hG, ?_⟩
        rw [HS.out]
        obtain ⟨ls, fa, ft, a1, a2⟩ := HPR.out
        exact ⟨some ⟨g, 0, none⟩, rfl, Or.inl ⟨rfl, rfl, g, rfl, by omega, hgl, ls, fa, ft, p2, HTS.out, a1.mono (fun x hx => ⟨by have := hx.1; omega, hx.2⟩) (fun x _ => rfl), a2⟩⟩

set_option maxHeartbeats 1000000 in
theorem load_anyC (w : World) (s : ByteArray) (hs : s.size ≤ maxLen) :
    Calls Tryz.prog 22 #[.string s] w fun e w' => PostRC w (TestK s w) (readS s) e w' := by
  have hrd := fun wx => read_any wx s hs
  generalize readS s = r at hrd ⊢
  obtain ⟨r1, r2⟩ := r
  have HRD : Hid (∀ wx, Calls Tryz.prog 40 #[.string s] wx fun e w' => PostRC wx (ProgK s wx) (r1, r2) e w') := hrd
  clear hrd
  go_enter Tryz.func22, Tryz.ntmps22
  go_wp2_with fail
  refine (HRD.out _).mono ?_
  rintro e w1 ⟨hg1, o, rfl, hr⟩
  simp only at hr
  rcases hr with ⟨rfl, rfl, g, rfl, h1, h2, HK⟩ | ⟨hne, rfl⟩
  · go_wp2_with fail
    go_ret3
    have hsz := hg1.size
    refine ⟨gb_alloc hg1 _, _, rfl, Or.inl ⟨rfl, rfl, _, rfl, by omega, by simp, g, heap_alloc_new w1 _, ?_⟩⟩
    obtain ⟨ls, fa, ft, p2, a0, a1, a2⟩ := HK.out
    exact ⟨ls, fa, ft, p2, a0, a1.mono (fun x hx => ⟨hx.1, by have := hx.2; simp; omega⟩) (fun x hx => Below.heap_alloc _ _ _ hx.2), a2⟩
  · have hne' : ((r1 : Int) != 0) = true := by rw [bne_iff_ne]; omega
    have HNE : Hid (r1 ≠ 0) := hne
    clear hne
    go_wp2_with fail
    go_ret3
    exact ⟨hg1, _, rfl, Or.inr ⟨HNE.out, rfl⟩⟩
theorem load_any (w : World) (s : ByteArray) (hs : s.size ≤ maxLen) :
    Calls Tryz.prog 22 #[.string s] w fun e w' => PostR w (readS s) e w' := (load_anyC w s hs).mono (fun _ _ h => h.weak)
end Go.Proofs.YtmpaeladhoomoaaGreatDoor
