/-
  The document's answer: is, need, kind.
-/
import Derived.Test.YtmpaeladhoomoaaGreatDoorRfD
namespace Go.Proofs.YtmpaeladhoomoaaGreatDoor
open Go.RowKit

def isQ (s : ByteArray) (q : Q) (c : Nat) : Bool := decide (q.bad < 0) && decide (qk s q = c)
def needQ (s : ByteArray) (q : Q) (c : Nat) : Q := takeQ s (if isQ s q c = true then q else failQ s q)
def kindQ (s : ByteArray) (q : Q) (c : Nat) : Q := takeQ s (if qk s q = c then q else failQ s q)
def valQ (s : ByteArray) (q : Q) (c : Nat) : Nat := if 0 ≤ (kindQ s q c).bad then 0 else qn s q

theorem canon_word (k n : Nat) (h : 5 ≤ k) : canon k n = canon k 0 := by
  unfold canon
  rw [if_neg (by omega), if_neg (by omega), if_neg (by omega)]
  rw [if_neg (c := k = 2) (by omega), if_neg (c := k = 3) (by omega), if_neg (c := k = 4) (by omega)]
theorem canon_inj : ∀ k, k < 21 → ∀ c, c < 21 → 5 ≤ k → 5 ≤ c → canon k 0 = canon c 0 → k = c := by decide +kernel
theorem rkind_lo {k : Nat} (h : k < 5) : ((rkind k : Int) == 119) = false ∧ ((rkind k : Int) == 115) = false := by
  have : k = 0 ∨ k = 1 ∨ k = 2 ∨ k = 3 ∨ k = 4 := by omega
  rcases this with rfl | rfl | rfl | rfl | rfl <;> decide
theorem rkind_hi {k : Nat} (h : 5 ≤ k) (h2 : k ≤ 20) : ((rkind k : Int) == 119) = true ∨ (((rkind k : Int) == 119) = false ∧ ((rkind k : Int) == 115) = true) := by
  by_cases h3 : k ≤ 14
  · left; rw [rkind_word h h3]; rfl
  · right; rw [rkind_sign (by omega)]; exact ⟨rfl, rfl⟩

set_option maxHeartbeats 400000 in
theorem is_any (w : World) (b : Nat) (s : ByteArray) (q : Q) (tv : Value) (h : QAt w b s q tv) (c : Nat) (hc5 : 5 ≤ c) (hc20 : c ≤ 20) (x : ByteArray) (hx : x.data.toList = canon c 0) :
    Calls Tryz.prog 106 #[.pointer (some ⟨b, 0, none⟩), .string x] w fun e w' => e = .returned (.bool (isQ s q c)) ∧ w' = w := by
  obtain ⟨c0, c1, c2, c3, c4, c5, c6, c7, hf, hlt⟩ := h.get
  have hk20 := (tk_le s q.j).1
  by_cases hb : q.bad < 0
  · rcases Nat.lt_or_ge (tk s q.j).kind 5 with hk | hk
    · obtain ⟨k1, k2⟩ := rkind_lo hk
      have HI : Hid (isQ s q c = false) := by show _ = _; unfold isQ qk; simp; omega
      go_enter Tryz.func106, Tryz.ntmps106
      go_wp2_with fail
      go_ret
      exact ⟨ret_bool HI.out.symm, rfl⟩
    · have ht : ((canonB (tk s q.j).kind (tk s q.j).num).toList == x.toList) = isQ s q c := by
        rw [ByteArray.toList_eq, ByteArray.toList_eq, hx]
        show (canon (tk s q.j).kind (tk s q.j).num == canon c 0) = _
        rw [canon_word _ _ hk]
        unfold isQ qk
        simp only [hb, decide_true, Bool.true_and]
        by_cases e : (tk s q.j).kind = c
        · rw [e]; simp
        · have : ¬ canon (tk s q.j).kind 0 = canon c 0 := fun e2 => e (canon_inj _ (by omega) _ (by omega) hk hc5 e2)
          simp [this, e]
      generalize isQ s q c = r at ht ⊢
      rcases rkind_hi hk hk20 with k1 | ⟨k1, k2⟩
      all_goals
        go_enter Tryz.func106, Tryz.ntmps106
        go_wp2_with fail
        go_ret
        exact ⟨rfl, rfl⟩
  · have HI : Hid (isQ s q c = false) := by show _ = _; unfold isQ; simp [hb]
    go_enter Tryz.func106, Tryz.ntmps106
    go_wp2_with fail
    go_ret
    exact ⟨ret_bool HI.out.symm, rfl⟩

set_option maxHeartbeats 400000 in
theorem need_any (w : World) (b : Nat) (s : ByteArray) (q : Q) (tv : Value) (h : QAt w b s q tv) (c : Nat) (hc5 : 5 ≤ c) (hc20 : c ≤ 20) (x : ByteArray) (hx : x.data.toList = canon c 0) :
    Calls Tryz.prog 103 #[.pointer (some ⟨b, 0, none⟩), .string x] w fun e w' => e = .returned (.tuple #[]) ∧ ∃ tv', FR b tv w tv' w' ∧ QAt w' b s (needQ s q c) tv' := by
  go_enter Tryz.func103, Tryz.ntmps103
  go_wp2_with fail
  refine (is_any _ b s q tv h c hc5 hc20 x hx).mono ?_
  rintro e w1 ⟨rfl, rfl⟩
  cases hI : isQ s q c
  · have HN : Hid (needQ s q c = takeQ s (failQ s q)) := by show _ = _; unfold needQ; rw [hI]; rfl
    clear hI
    go_wp2_with fail
    refine (fail_any _ b s q tv h).mono ?_
    rintro e w2 ⟨rfl, hf2, hq2⟩
    go_wp2_with fail
    refine (rtake_any _ b s _ tv hq2).mono ?_
    rintro e w3 ⟨rfl, tv3, hf3, hq3⟩
    go_wp2_with fail
    go_end0
    rw [HN.out]
    exact ⟨rfl, tv3, hf2.trans hf3, hq3⟩
  · have HN : Hid (needQ s q c = takeQ s q) := by show _ = _; unfold needQ; rw [hI]; rfl
    clear hI
    go_wp2_with fail
    refine (rtake_any _ b s _ tv h).mono ?_
    rintro e w3 ⟨rfl, tv3, hf3, hq3⟩
    go_wp2_with fail
    go_end0
    rw [HN.out]
    exact ⟨rfl, tv3, hf3, hq3⟩

/-- The numbers of places, registers and digits. -/
theorem tk_num (s : ByteArray) (i : Nat) : ((tk s i).kind = 2 → (tk s i).num ≤ 3) ∧ ((tk s i).kind = 3 → (tk s i).num ≤ 3) := by
  have hr : ∀ l, ((rowC l).1 = 2 → (rowC l).2 ≤ 3) ∧ ((rowC l).1 = 3 → (rowC l).2 ≤ 3) := by
    intro l
    have hw : wordC l ≠ 2 ∧ wordC l ≠ 3 := by
      unfold wordC
      repeat' split
      all_goals omega
    unfold rowC
    repeat' split
    all_goals simp
    all_goals omega
  have hsg : ∀ l, (signC l).1 ≠ 2 ∧ (signC l).1 ≠ 3 := by
    intro l
    unfold signC
    repeat' split
    all_goals simp
  unfold tk
  split
  · simp
  · split
    · exact hr _
    · exact ⟨fun e => absurd e (hsg _).1, fun e => absurd e (hsg _).2⟩
theorem canonB_place (n : Nat) (h : n ≤ 3) : (canonB 2 n).size = 1 ∧ ∀ h : 0 < (canonB 2 n).size, (canonB 2 n)[0].toNat = 119 + n := by
  have : n = 0 ∨ n = 1 ∨ n = 2 ∨ n = 3 := by omega
  rcases this with rfl | rfl | rfl | rfl <;> exact ⟨rfl, fun _ => rfl⟩
theorem canonB_reg (n : Nat) (h : n ≤ 3) : (canonB 3 n).size = 2 ∧ ∀ h : 1 < (canonB 3 n).size, (canonB 3 n)[1].toNat = 48 + n := by
  have : n = 0 ∨ n = 1 ∨ n = 2 ∨ n = 3 := by omega
  rcases this with rfl | rfl | rfl | rfl <;> exact ⟨rfl, fun _ => rfl⟩
theorem canonB_digit (n : Nat) (h : n ≤ 9) : (canonB 4 n).size = 1 ∧ ∀ h : 0 < (canonB 4 n).size, (canonB 4 n)[0].toNat = 48 + n := by
  have : n = 0 ∨ n = 1 ∨ n = 2 ∨ n = 3 ∨ n = 4 ∨ n = 5 ∨ n = 6 ∨ n = 7 ∨ n = 8 ∨ n = 9 := by omega
  rcases this with rfl | rfl | rfl | rfl | rfl | rfl | rfl | rfl | rfl | rfl <;> exact ⟨rfl, fun _ => rfl⟩
theorem takeQ_good {s : ByteArray} {q : Q} (h : (takeQ s q).bad < 0) : q.bad < 0 := by
  unfold takeQ at h
  split at h
  · have := failQ_bad s q; omega
  · split at h
    · exact h
    · exact h
theorem kindQ_good {s : ByteArray} {q : Q} {c : Nat} (h : (kindQ s q c).bad < 0) : qk s q = c := by
  unfold kindQ at h
  split at h
  · assumption
  · have h1 := takeQ_good h
    have := failQ_bad s q
    omega
theorem rkind_iff {k c : Nat} (hk : k ≤ 20) (hc : c = 2 ∨ c = 3 ∨ c = 4) : ((rkind k : Int) != (rkind c : Int)) = !decide (k = c) := by
  have : k = 0 ∨ k = 1 ∨ k = 2 ∨ k = 3 ∨ k = 4 ∨ 5 ≤ k := by omega
  rcases hc with rfl | rfl | rfl <;> rcases this with rfl | rfl | rfl | rfl | rfl | h5
  all_goals first
    | decide
    | (have h6 : rkind k = 119 ∨ rkind k = 115 := by
         by_cases h3 : k ≤ 14
         · exact Or.inl (rkind_word h5 h3)
         · exact Or.inr (rkind_sign (by omega))
       have h7 : ¬ k = 2 := by omega
       have h8 : ¬ k = 3 := by omega
       have h9 : ¬ k = 4 := by omega
       rcases h6 with h6 | h6 <;> rw [h6] <;> simp [rkind, h7, h8, h9])
end Go.Proofs.YtmpaeladhoomoaaGreatDoor
