/-
  Plain definitions, no program: the tokens of a text, as both readers see them.
-/
import Derived.WalkKit
import Derived.Lib.Strings
import Derived.Lib.IndexBytes
namespace Go.Proofs.YtmpaeladhoomoaaGreatDoor

/-- The byte at a place. -/
def bAt (s : ByteArray) (i : Nat) : Nat := (s.data.toList[i]?.getD 0).toNat
theorem bAt_eq (s : ByteArray) (i : Nat) (h : i < s.size) : s[i].toNat = bAt s i := by
  unfold bAt
  have h' : i < s.data.toList.length := by simpa using h
  rw [List.getElem?_eq_getElem h']
  rfl
theorem bAt_lt (s : ByteArray) (i : Nat) : bAt s i < 256 := UInt8.toNat_lt _
def blank (c : Nat) : Bool := c == 32 || c == 10
def rowB (c : Nat) : Bool := (decide (97 ≤ c) && decide (c ≤ 122)) || (decide (48 ≤ c) && decide (c ≤ 57))
def skipW (p : Nat → Bool) (s : ByteArray) : Nat → Nat → Nat
  | 0, i => i
  | n + 1, i => if p (bAt s i) = true then skipW p s n (i + 1) else i
def after (p : Nat → Bool) (s : ByteArray) (i : Nat) : Nat := skipW p s (s.size - i) i
theorem after_end (p : Nat → Bool) (s : ByteArray) (i : Nat) (h : s.size ≤ i) : after p s i = i := by
  unfold after
  rw [Nat.sub_eq_zero_of_le h]
  rfl
theorem after_step (p : Nat → Bool) (s : ByteArray) (i : Nat) (h : i < s.size) (hp : p (bAt s i) = true) : after p s i = after p s (i + 1) := by
  unfold after
  obtain ⟨n, hn⟩ : ∃ n, s.size - i = n + 1 := ⟨s.size - i - 1, by omega⟩
  rw [hn, skipW, if_pos hp, show s.size - (i + 1) = n from by omega]
theorem after_stop (p : Nat → Bool) (s : ByteArray) (i : Nat) (h : i < s.size) (hp : p (bAt s i) = false) : after p s i = i := by
  unfold after
  obtain ⟨n, hn⟩ : ∃ n, s.size - i = n + 1 := ⟨s.size - i - 1, by omega⟩
  rw [hn, skipW, if_neg (by simp [hp])]
theorem skipW_bounds (p : Nat → Bool) (s : ByteArray) : ∀ n i, i ≤ skipW p s n i ∧ skipW p s n i ≤ i + n := by
  intro n
  induction n with
  | zero => intro i; simp [skipW]
  | succ n ih =>
    intro i
    rw [skipW]
    split
    · have := ih (i + 1); omega
    · omega
theorem after_ge (p : Nat → Bool) (s : ByteArray) (i : Nat) : i ≤ after p s i := (skipW_bounds p s _ i).1
theorem after_le (p : Nat → Bool) (s : ByteArray) (i : Nat) (h : i ≤ s.size) : after p s i ≤ s.size := by
  have := (skipW_bounds p s (s.size - i) i).2
  unfold after
  omega

/-- The words. -/
def wordC (l : List UInt8) : Nat :=
  if (l == [116, 104, 114, 101, 97, 100]) = true then 5 else if (l == [102, 101, 110, 99, 101]) = true then 6 else if (l == [115, 119, 97, 112]) = true then 7 else
  if (l == [105, 102]) = true then 8 else if (l == [115, 107, 105, 112]) = true then 9 else if (l == [101, 120, 105, 115, 116, 115]) = true then 10 else
  if (l == [102, 111, 114, 97, 108, 108]) = true then 11 else if (l == [97, 110, 100]) = true then 12 else if (l == [111, 114]) = true then 13 else
  if (l == [110, 111, 116]) = true then 14 else 0
/-- A row of letters and digits: its kind, its number. -/
def rowC (l : List UInt8) : Nat × Nat :=
  if l.length = 1 ∧ 48 ≤ (l[0]?.getD 0).toNat ∧ (l[0]?.getD 0).toNat ≤ 57 then (4, (l[0]?.getD 0).toNat - 48) else
  if l.length = 1 ∧ 119 ≤ (l[0]?.getD 0).toNat ∧ (l[0]?.getD 0).toNat ≤ 122 then (2, (l[0]?.getD 0).toNat - 119) else
  if l.length = 2 ∧ (l[0]?.getD 0).toNat = 114 ∧ 48 ≤ (l[1]?.getD 0).toNat ∧ (l[1]?.getD 0).toNat ≤ 51 then (3, (l[1]?.getD 0).toNat - 48) else
  (wordC l, 0)
/-- A sign: its kind, its size. -/
def signC (l : List UInt8) : Nat × Nat :=
  if (l.take 2 == [58, 61]) = true then (15, 2) else
  if (l[0]?.getD 0).toNat = 61 then (16, 1) else if (l[0]?.getD 0).toNat = 58 then (17, 1) else if (l[0]?.getD 0).toNat = 59 then (18, 1) else
  if (l[0]?.getD 0).toNat = 40 then (19, 1) else if (l[0]?.getD 0).toNat = 41 then (20, 1) else (0, 1)

/-- A token: its kind, its number, its place, the place behind it. -/
structure Tk where
  kind : Nat
  num : Nat
  at_ : Nat
  end_ : Nat

def restOf (s : ByteArray) (a : Nat) : List UInt8 := s.data.toList.drop a
def rowOf (s : ByteArray) (a e : Nat) : List UInt8 := (s.data.toList.drop a).take (e - a)

def tk (s : ByteArray) (i : Nat) : Tk :=
  if s.size ≤ after blank s i then ⟨1, 0, after blank s i, after blank s i⟩ else
  if after blank s i < after rowB s (after blank s i) then
    ⟨(rowC (rowOf s (after blank s i) (after rowB s (after blank s i)))).1, (rowC (rowOf s (after blank s i) (after rowB s (after blank s i)))).2, after blank s i, after rowB s (after blank s i)⟩ else
  ⟨(signC (restOf s (after blank s i))).1, 0, after blank s i, after blank s i + (signC (restOf s (after blank s i))).2⟩

theorem signC_pos (l : List UInt8) : 1 ≤ (signC l).2 ∧ (signC l).2 ≤ 2 := by
  unfold signC; repeat' split
  all_goals simp
theorem signC_two (l : List UInt8) (h : (signC l).2 ≠ 1) : 2 ≤ l.length := by
  unfold signC at h
  split at h
  · rename_i h2
    have h3 : l.take 2 = [58, 61] := by simpa using h2
    have h4 : (l.take 2).length = 2 := by rw [h3]; rfl
    simp at h4; omega
  · repeat (split at h; · simp at h)
    simp at h
theorem tk_bounds (s : ByteArray) (i : Nat) (h : i ≤ s.size) : i ≤ (tk s i).at_ ∧ (tk s i).at_ ≤ s.size ∧ (tk s i).at_ ≤ (tk s i).end_ ∧ (tk s i).end_ ≤ s.size := by
  have h1 := after_ge blank s i
  have h2 := after_le blank s i h
  have h3 := after_ge rowB s (after blank s i)
  have h4 := after_le rowB s (after blank s i) h2
  have h5 := signC_pos (restOf s (after blank s i))
  unfold tk
  split
  · simp; omega
  · split
    · simp; omega
    · simp only []
      by_cases h6 : (signC (restOf s (after blank s i))).2 = 1
      · omega
      · have h7 := signC_two _ h6
        unfold restOf at h7
        simp at h7
        have : s.data.size = s.size := rfl
        omega
theorem wordC_le (l : List UInt8) : wordC l ≤ 14 := by
  unfold wordC; repeat' split
  all_goals omega
theorem rowC_le (l : List UInt8) : (rowC l).1 ≤ 14 ∧ (rowC l).2 ≤ 9 := by
  have := wordC_le l
  unfold rowC; repeat' split
  all_goals simp
  all_goals omega
theorem signC_le (l : List UInt8) : (signC l).1 ≤ 20 := by
  unfold signC; repeat' split
  all_goals simp
theorem tk_le (s : ByteArray) (i : Nat) : (tk s i).kind ≤ 20 ∧ (tk s i).num ≤ 9 := by
  unfold tk
  split
  · simp
  · split
    · have := rowC_le (rowOf s (after blank s i) (after rowB s (after blank s i)))
      simp; omega
    · have := signC_le (restOf s (after blank s i))
      simp; omega
/-- A token that is not the end takes up room. -/
theorem tk_lt (s : ByteArray) (i : Nat) (h : (tk s i).kind ≠ 1) : (tk s i).at_ < (tk s i).end_ := by
  have h5 := signC_pos (restOf s (after blank s i))
  unfold tk at h ⊢
  by_cases h1 : s.size ≤ after blank s i
  · rw [if_pos h1] at h; simp at h
  · rw [if_neg h1]
    split
    · simp; omega
    · simp; omega
end Go.Proofs.YtmpaeladhoomoaaGreatDoor
