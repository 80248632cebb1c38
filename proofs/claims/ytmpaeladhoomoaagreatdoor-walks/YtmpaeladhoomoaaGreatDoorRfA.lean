/-
  The document's answer: its tokens, plainly.
-/
import Derived.Test.YtmpaeladhoomoaaGreatDoorLex3
namespace Go.Proofs.YtmpaeladhoomoaaGreatDoor
open Go.RowKit

/-- The text of a token, by its kind and number. -/
def canon (k n : Nat) : List UInt8 :=
  if k = 2 then [UInt8.ofNat (119 + n)] else if k = 3 then [114, UInt8.ofNat (48 + n)] else if k = 4 then [UInt8.ofNat (48 + n)] else
  if k = 5 then [116, 104, 114, 101, 97, 100] else if k = 6 then [102, 101, 110, 99, 101] else if k = 7 then [115, 119, 97, 112] else if k = 8 then [105, 102] else
  if k = 9 then [115, 107, 105, 112] else if k = 10 then [101, 120, 105, 115, 116, 115] else if k = 11 then [102, 111, 114, 97, 108, 108] else if k = 12 then [97, 110, 100] else
  if k = 13 then [111, 114] else if k = 14 then [110, 111, 116] else if k = 15 then [58, 61] else if k = 16 then [61] else if k = 17 then [58] else if k = 18 then [59] else
  if k = 19 then [40] else if k = 20 then [41] else []
def canonB (k n : Nat) : ByteArray := ⟨(canon k n).toArray⟩
/-- The kind's letter. -/
def rkind (k : Nat) : Nat := if k = 0 then 33 else if k = 1 then 46 else if k = 2 then 112 else if k = 3 then 114 else if k = 4 then 48 else if k ≤ 14 then 119 else 115

theorem bytes_ext {x y : ByteArray} (h : x.data.toList = y.data.toList) : x = y := by
  cases x with | mk a => cases y with | mk c => simp at h; rw [h]
theorem bytes_canon {x : ByteArray} {k n : Nat} (h : x.data.toList = canon k n) : x = canonB k n := bytes_ext (by rw [h]; rfl)

def inP (l : List UInt8) : Bool := l == [119] || l == [120] || l == [121] || l == [122]
def inR (l : List UInt8) : Bool := l == [114, 48] || l == [114, 49] || l == [114, 50] || l == [114, 51]
def inW (l : List UInt8) : Bool := l == [116, 104, 114, 101, 97, 100] || l == [102, 101, 110, 99, 101] || l == [115, 119, 97, 112] || l == [105, 102] || l == [115, 107, 105, 112] || l == [101, 120, 105, 115, 116, 115] || l == [102, 111, 114, 97, 108, 108] || l == [97, 110, 100] || l == [111, 114] || l == [110, 111, 116]

theorem inP_row {l : List UInt8} (h : inP l = true) : ∃ n, rowC l = (2, n) ∧ l = canon 2 n := by
  simp only [inP, Bool.or_eq_true, beq_iff_eq] at h
  rcases h with ((rfl | rfl) | rfl) | rfl
  · exact ⟨0, by decide, by decide⟩
  · exact ⟨1, by decide, by decide⟩
  · exact ⟨2, by decide, by decide⟩
  · exact ⟨3, by decide, by decide⟩
theorem inR_row {l : List UInt8} (h : inR l = true) : ∃ n, rowC l = (3, n) ∧ l = canon 3 n := by
  simp only [inR, Bool.or_eq_true, beq_iff_eq] at h
  rcases h with ((rfl | rfl) | rfl) | rfl
  · exact ⟨0, by decide, by decide⟩
  · exact ⟨1, by decide, by decide⟩
  · exact ⟨2, by decide, by decide⟩
  · exact ⟨3, by decide, by decide⟩
theorem inW_row {l : List UInt8} (h : inW l = true) : ∃ k, 5 ≤ k ∧ k ≤ 14 ∧ rowC l = (k, 0) ∧ l = canon k 0 := by
  simp only [inW, Bool.or_eq_true, beq_iff_eq] at h
  rcases h with ((((((((rfl | rfl) | rfl) | rfl) | rfl) | rfl) | rfl) | rfl) | rfl) | rfl
  · exact ⟨5, by decide, by decide, by decide, by decide⟩
  · exact ⟨6, by decide, by decide, by decide, by decide⟩
  · exact ⟨7, by decide, by decide, by decide, by decide⟩
  · exact ⟨8, by decide, by decide, by decide, by decide⟩
  · exact ⟨9, by decide, by decide, by decide, by decide⟩
  · exact ⟨10, by decide, by decide, by decide, by decide⟩
  · exact ⟨11, by decide, by decide, by decide, by decide⟩
  · exact ⟨12, by decide, by decide, by decide, by decide⟩
  · exact ⟨13, by decide, by decide, by decide, by decide⟩
  · exact ⟨14, by decide, by decide, by decide, by decide⟩
theorem wordC_none {l : List UInt8} (h : inW l = false) : wordC l = 0 := by
  simp only [inW, Bool.or_eq_false_iff] at h
  obtain ⟨⟨⟨⟨⟨⟨⟨⟨⟨h1, h2⟩, h3⟩, h4⟩, h5⟩, h6⟩, h7⟩, h8⟩, h9⟩, h10⟩ := h
  simp [wordC, h1, h2, h3, h4, h5, h6, h7, h8, h9, h10]
theorem digit_row {l : List UInt8} (h1 : l.length = 1) (h2 : 48 ≤ (l[0]?.getD 0).toNat) (h3 : (l[0]?.getD 0).toNat ≤ 57) : rowC l = (4, (l[0]?.getD 0).toNat - 48) ∧ l = canon 4 ((l[0]?.getD 0).toNat - 48) := by
  refine ⟨by unfold rowC; rw [if_pos ⟨h1, h2, h3⟩], ?_⟩
  match l, h1 with
  | [c], _ =>
    simp at h2 h3
    show [c] = [UInt8.ofNat (48 + (c.toNat - 48))]
    rw [show 48 + (c.toNat - 48) = c.toNat from by omega]
    simp
theorem none_row {l : List UInt8} (hp : inP l = false) (hr : inR l = false) (hw : inW l = false) (hd : ¬ (l.length = 1 ∧ (l[0]?.getD 0).toNat ≤ 57)) : rowC l = (0, 0) := by
  unfold rowC
  rw [if_neg (by rintro ⟨a, _, c⟩; exact hd ⟨a, c⟩)]
  rw [if_neg (by
    rintro ⟨a, h1, h2⟩
    match l, a with
    | [c], _ =>
      simp at h1 h2
      have hc : c = 119 ∨ c = 120 ∨ c = 121 ∨ c = 122 := by
        rcases (by omega : c.toNat = 119 ∨ c.toNat = 120 ∨ c.toNat = 121 ∨ c.toNat = 122) with h | h | h | h
        · exact Or.inl (UInt8.toNat_inj.1 (h.trans (by rfl)))
        · exact Or.inr (Or.inl (UInt8.toNat_inj.1 (h.trans (by rfl))))
        · exact Or.inr (Or.inr (Or.inl (UInt8.toNat_inj.1 (h.trans (by rfl)))))
        · exact Or.inr (Or.inr (Or.inr (UInt8.toNat_inj.1 (h.trans (by rfl)))))
      rcases hc with rfl | rfl | rfl | rfl <;> simp [inP] at hp)]
  rw [if_neg (by
    rintro ⟨a, h0, h1, h2⟩
    match l, a with
    | [e, c], _ =>
      simp at h0 h1 h2
      have he : e = 114 := UInt8.toNat_inj.1 (h0.trans (by rfl))
      have hc : c = 48 ∨ c = 49 ∨ c = 50 ∨ c = 51 := by
        rcases (by omega : c.toNat = 48 ∨ c.toNat = 49 ∨ c.toNat = 50 ∨ c.toNat = 51) with h | h | h | h
        · exact Or.inl (UInt8.toNat_inj.1 (h.trans (by rfl)))
        · exact Or.inr (Or.inl (UInt8.toNat_inj.1 (h.trans (by rfl))))
        · exact Or.inr (Or.inr (Or.inl (UInt8.toNat_inj.1 (h.trans (by rfl)))))
        · exact Or.inr (Or.inr (Or.inr (UInt8.toNat_inj.1 (h.trans (by rfl)))))
      subst he
      rcases hc with rfl | rfl | rfl | rfl <;> simp [inR] at hr)]
  rw [wordC_none hw]

theorem isRow_any (c : Nat) (w : World) :
    Calls Tryz.prog 163 #[.int .u8 c] w fun e w' => e = .returned (.bool (rowB c)) ∧ w' = w := by
  by_cases h1 : (97:Int) ≤ (c : Int) <;> by_cases h2 : (c : Int) ≤ 122 <;> by_cases h3 : (48:Int) ≤ (c : Int) <;> by_cases h4 : (c : Int) ≤ 57
  all_goals first
    | (exfalso; omega)
    | (go_enter Tryz.func163, Tryz.ntmps163
       go_wp2
       go_ret
       refine ⟨ret_bool ?_, rfl⟩
       simp [rowB]
       omega)

set_option maxHeartbeats 400000 in
theorem within_any (w : World) (g cap n : Nat) (t : TypeId) (l : List ByteArray) (x : ByteArray) (hn : n = l.length) (hn9 : n ≤ 100) (h : w.heap[g]? = some (.cells (l.map Value.string).toArray t (0, 0))) :
    Calls Tryz.prog 120 #[.slice (some ⟨g, 0, none⟩) n cap, .string x] w fun e w' => e = .returned (.bool (l.any fun y => y.toList == x.toList)) ∧ w' = w := by
  have HN : Hid (n = l.length) := hn
  clear hn
  have hc : ∀ k, k < n → w.cell? ⟨g, k, none⟩ = some (.string (l[k]?.getD ByteArray.empty)) := by
    intro k hk
    refine cell_of h k _ ?_
    rw [HN.out] at hk
    simp [hk]
  go_enter Tryz.func120, Tryz.ntmps120
  go_wp2
  go_loop [5] (fun t => ∃ k : Nat, k ≤ n ∧ Hid ((l.take k).any (fun y => y.toList == x.toList) = false) ∧ t = .int .i64 k) (fun t => n - (intOf t).toNat)
  case atStart => exact ⟨0, Nat.zero_le _, rfl, rfl⟩
  case round =>
    obtain ⟨k, hk, ha, rfl⟩ := hrel
    by_cases hlt : k < n
    · have hck := hc k hlt
      clear hc
      obtain ⟨y, hy⟩ : ∃ y, y = l[k]?.getD ByteArray.empty := ⟨_, rfl⟩
      rw [← hy] at hck
      have HY : Hid (y = l[k]?.getD ByteArray.empty) := hy
      clear hy
      cases he : (y.toList == x.toList)
      · have HT : Hid ((l.take (k + 1)).any (fun y => y.toList == x.toList) = false) := by
          show _ = _
          have hk2 : k < l.length := by rw [← HN.out]; exact hlt
          rw [List.take_succ_eq_append_getElem hk2, List.any_append, ha.out]
          have : y = l[k] := by rw [HY.out, List.getElem?_eq_getElem hk2]; rfl
          rw [this] at he
          simp [he]
        go_wp2
        exact ⟨⟨k + 1, by omega, HT, by go_num⟩, by simp [intOf]; omega⟩
      · have HT : Hid (l.any (fun y => y.toList == x.toList) = true) := by
          show _ = _
          have hk2 : k < l.length := by rw [← HN.out]; exact hlt
          have : y = l[k] := by rw [HY.out, List.getElem?_eq_getElem hk2]; rfl
          rw [this] at he
          exact List.any_eq_true.2 ⟨l[k], List.getElem_mem hk2, he⟩
        go_wp2
        go_ret
        exact ⟨ret_bool HT.out.symm, rfl⟩
    · go_wp2
      go_ret
      refine ⟨ret_bool ?_, rfl⟩
      have h2 := ha.out
      rw [List.take_of_length_le (by rw [← HN.out]; omega)] at h2
      exact h2.symm
end Go.Proofs.YtmpaeladhoomoaaGreatDoor
