/-
  The document's answer: the token from a place on.
-/
import Derived.Test.YtmpaeladhoomoaaGreatDoorRfA
namespace Go.Proofs.YtmpaeladhoomoaaGreatDoor
open Go.RowKit

def rtV (t : Tk) : Value := .agg #[.int .u8 (rkind t.kind : Nat), .string (canonB t.kind t.num), .int .i64 (t.at_ : Nat)]
theorem beq_swap (a b : List UInt8) : (a == b) = (b == a) := by
  rw [Bool.eq_iff_iff]; simp only [beq_iff_eq]; exact eq_comm
theorem any_P (x : ByteArray) : ([⟨#[119]⟩, ⟨#[120]⟩, ⟨#[121]⟩, ⟨#[122]⟩] : List ByteArray).any (fun y => y.toList == x.toList) = inP x.data.toList := by
  simp only [List.any_cons, List.any_nil, Bool.or_false, ByteArray.toList_eq, inP, ← Bool.or_assoc]
  rw [beq_swap _ x.data.toList, beq_swap _ x.data.toList, beq_swap _ x.data.toList, beq_swap _ x.data.toList]
theorem any_R (x : ByteArray) : ([⟨#[114, 48]⟩, ⟨#[114, 49]⟩, ⟨#[114, 50]⟩, ⟨#[114, 51]⟩] : List ByteArray).any (fun y => y.toList == x.toList) = inR x.data.toList := by
  simp only [List.any_cons, List.any_nil, Bool.or_false, ByteArray.toList_eq, inR, ← Bool.or_assoc]
  rw [beq_swap _ x.data.toList, beq_swap _ x.data.toList, beq_swap _ x.data.toList, beq_swap _ x.data.toList]
def wordsB : List ByteArray := [⟨#[116, 104, 114, 101, 97, 100]⟩, ⟨#[102, 101, 110, 99, 101]⟩, ⟨#[115, 119, 97, 112]⟩, ⟨#[105, 102]⟩, ⟨#[115, 107, 105, 112]⟩, ⟨#[101, 120, 105, 115, 116, 115]⟩, ⟨#[102, 111, 114, 97, 108, 108]⟩, ⟨#[97, 110, 100]⟩, ⟨#[111, 114]⟩, ⟨#[110, 111, 116]⟩]
theorem any_W (x : ByteArray) : wordsB.any (fun y => y.toList == x.toList) = inW x.data.toList := by
  simp only [wordsB, List.any_cons, List.any_nil, Bool.or_false, ByteArray.toList_eq, inW, ← Bool.or_assoc]
  rw [beq_swap _ x.data.toList, beq_swap _ x.data.toList, beq_swap _ x.data.toList, beq_swap _ x.data.toList, beq_swap _ x.data.toList, beq_swap _ x.data.toList, beq_swap _ x.data.toList, beq_swap _ x.data.toList, beq_swap _ x.data.toList, beq_swap _ x.data.toList]
def inS (l : List UInt8) : Bool := l == [61] || l == [58] || l == [59] || l == [40] || l == [41]
theorem any_S (x : ByteArray) : ([⟨#[61]⟩, ⟨#[58]⟩, ⟨#[59]⟩, ⟨#[40]⟩, ⟨#[41]⟩] : List ByteArray).any (fun y => y.toList == x.toList) = inS x.data.toList := by
  simp only [List.any_cons, List.any_nil, Bool.or_false, ByteArray.toList_eq, inS, ← Bool.or_assoc]
  rw [beq_swap _ x.data.toList, beq_swap _ x.data.toList, beq_swap _ x.data.toList, beq_swap _ x.data.toList, beq_swap _ x.data.toList]
/-- What a token is, from its row. -/
theorem tk_of_row (s : ByteArray) (i a e k n : Nat) (ha : after blank s i = a) (he : after rowB s a = e) (hz : a < s.size) (hlt : a < e) (hr : rowC (rowOf s a e) = (k, n)) : tk s i = ⟨k, n, a, e⟩ := by
  rw [tk_row s i (by rw [ha]; omega) (by rw [ha, he]; exact hlt), ha, he, hr]
theorem tk_of_sign (s : ByteArray) (i a k z : Nat) (ha : after blank s i = a) (he : after rowB s a = a) (hz : a < s.size) (hr : signC (restOf s a) = (k, z)) : tk s i = ⟨k, 0, a, a + z⟩ := by
  rw [tk_sign s i (by rw [ha]; omega) (by rw [ha, he]; omega), ha, hr]
theorem row_nil (s : ByteArray) (a : Nat) : rowOf s a a = [] := by unfold rowOf; simp
theorem row_first (s : ByteArray) (a e : Nat) (h : a < e) : ((rowOf s a e)[0]?.getD 0).toNat = bAt s a := by
  unfold rowOf bAt
  rw [List.getElem?_take, if_pos (by omega), List.getElem?_drop]
  simp
theorem row_len (s : ByteArray) (a e : Nat) (h : a ≤ e) (hz : e ≤ s.size) : (rowOf s a e).length = e - a := by
  unfold rowOf; simp; have : s.data.size = s.size := rfl; omega
theorem after_first (p : Nat → Bool) (s : ByteArray) (a : Nat) (h : a < after p s a) (hz : a < s.size) : p (bAt s a) = true := by
  cases hp : p (bAt s a)
  · rw [after_stop p s a hz hp] at h; omega
  · rfl
theorem rest_cons (s : ByteArray) (a : Nat) (h : a < s.size) : ∃ c l', restOf s a = c :: l' ∧ rowOf s a (a + 1) = [c] ∧ c.toNat = bAt s a ∧ l' = restOf s (a + 1) := by
  have hl : a < s.data.toList.length := by simpa using h
  refine ⟨s.data.toList[a], restOf s (a + 1), ?_, ?_, ?_, rfl⟩
  · unfold restOf; rw [List.drop_eq_getElem_cons hl]
  · unfold rowOf; rw [List.drop_eq_getElem_cons hl, show a + 1 - a = 1 from by omega]; rfl
  · unfold bAt; rw [List.getElem?_eq_getElem hl]; rfl
theorem rest_nil (s : ByteArray) (a : Nat) (h : s.size ≤ a) : restOf s a = [] := by unfold restOf; exact List.drop_eq_nil_of_le (by simpa using h)
theorem sign_two (s : ByteArray) (a : Nat) (h : a < s.size) (h1 : bAt s a = 58) (h2 : a + 1 < s.size) (h3 : bAt s (a + 1) = 61) : signC (restOf s a) = (15, 2) := by
  obtain ⟨c, l', e1, _, e3, e4⟩ := rest_cons s a h
  obtain ⟨c2, l2, f1, _, f3, _⟩ := rest_cons s (a + 1) h2
  have hc : c = 58 := UInt8.toNat_inj.1 ((e3.trans h1).trans (by rfl))
  have hc2 : c2 = 61 := UInt8.toNat_inj.1 ((f3.trans h3).trans (by rfl))
  rw [e1, e4, f1, hc, hc2]
  unfold signC
  rw [if_pos (by simp)]
theorem sign_not (s : ByteArray) (a : Nat) (h : a < s.size) (hn : ¬ (bAt s a = 58 ∧ a + 1 < s.size ∧ bAt s (a + 1) = 61)) : ((restOf s a).take 2 == [58, 61]) = false := by
  obtain ⟨c, l', e1, _, e3, e4⟩ := rest_cons s a h
  rw [e1]
  rw [beq_eq_false_iff_ne]
  intro he
  rcases Nat.lt_or_ge (a + 1) s.size with h2 | h2
  · obtain ⟨c2, l2, f1, _, f3, _⟩ := rest_cons s (a + 1) h2
    rw [e4, f1] at he
    simp at he
    exact hn ⟨by rw [← e3, he.1]; rfl, h2, by rw [← f3, he.2]; rfl⟩
  · rw [e4, rest_nil s (a + 1) h2] at he
    simp at he
theorem sign_yes (s : ByteArray) (a : Nat) (h : a < s.size) (hn : ((restOf s a).take 2 == [58, 61]) = false) (hs : inS (rowOf s a (a + 1)) = true) : ∃ k, 16 ≤ k ∧ k ≤ 20 ∧ signC (restOf s a) = (k, 1) ∧ rowOf s a (a + 1) = canon k 0 := by
  obtain ⟨c, l', e1, e2, e3, e4⟩ := rest_cons s a h
  rw [e2] at hs ⊢
  unfold signC
  rw [if_neg (by simp [hn]), e1]
  simp only [inS, Bool.or_eq_true, beq_iff_eq, List.cons.injEq, and_true] at hs
  rcases hs with (((rfl | rfl) | rfl) | rfl) | rfl
  · exact ⟨16, by decide, by decide, rfl, by decide⟩
  · exact ⟨17, by decide, by decide, rfl, by decide⟩
  · exact ⟨18, by decide, by decide, rfl, by decide⟩
  · exact ⟨19, by decide, by decide, rfl, by decide⟩
  · exact ⟨20, by decide, by decide, rfl, by decide⟩
theorem sign_none (s : ByteArray) (a : Nat) (h : a < s.size) (hn : ((restOf s a).take 2 == [58, 61]) = false) (hs : inS (rowOf s a (a + 1)) = false) : signC (restOf s a) = (0, 1) := by
  obtain ⟨c, l', e1, e2, e3, e4⟩ := rest_cons s a h
  rw [e2] at hs
  unfold signC
  rw [if_neg (by simp [hn]), e1]
  simp only [inS, Bool.or_eq_false_iff, beq_eq_false_iff_ne, ne_eq, List.cons.injEq, and_true] at hs
  obtain ⟨⟨⟨⟨h1, h2⟩, h3⟩, h4⟩, h5⟩ := hs
  have k : ∀ n : UInt8, ¬ c = n → ¬ c.toNat = n.toNat := fun n hne e => hne (UInt8.toNat_inj.1 e)
  simp only [List.getElem?_cons_zero, Option.getD_some]
  rw [if_neg (show ¬ c.toNat = 61 from k 61 h1), if_neg (show ¬ c.toNat = 58 from k 58 h2), if_neg (show ¬ c.toNat = 59 from k 59 h3), if_neg (show ¬ c.toNat = 40 from k 40 h4), if_neg (show ¬ c.toNat = 41 from k 41 h5)]
theorem rkind_word {k : Nat} (h1 : 5 ≤ k) (h2 : k ≤ 14) : rkind k = 119 := by unfold rkind; rw [if_neg (by omega), if_neg (by omega), if_neg (by omega), if_neg (by omega), if_neg (by omega), if_pos h2]
theorem rkind_sign {k : Nat} (h1 : 15 ≤ k) : rkind k = 115 := by unfold rkind; rw [if_neg (by omega), if_neg (by omega), if_neg (by omega), if_neg (by omega), if_neg (by omega), if_neg (by omega)]
theorem canon_ne (k n : Nat) (h : k ≠ 0) (h1 : k ≠ 1) (h2 : k ≤ 20) : canon k n ≠ [] := by
  have hk : k = 2 ∨ k = 3 ∨ k = 4 ∨ k = 5 ∨ k = 6 ∨ k = 7 ∨ k = 8 ∨ k = 9 ∨ k = 10 ∨ k = 11 ∨ k = 12 ∨ k = 13 ∨ k = 14 ∨ k = 15 ∨ k = 16 ∨ k = 17 ∨ k = 18 ∨ k = 19 ∨ k = 20 := by omega
  rcases hk with rfl | rfl | rfl | rfl | rfl | rfl | rfl | rfl | rfl | rfl | rfl | rfl | rfl | rfl | rfl | rfl | rfl | rfl | rfl <;> simp [canon]
theorem row_ne {s : ByteArray} {a e k n : Nat} (h : rowOf s a e = canon k n) (ha : a ≤ e) (h0 : k ≠ 0) (h1 : k ≠ 1) (h2 : k ≤ 20) : a < e := by
  rcases Nat.lt_or_ge a e with h' | h'
  · exact h'
  · have : e = a := by omega
    rw [this, row_nil] at h
    exact absurd h.symm (canon_ne k n h0 h1 h2)
theorem ext_size (s : ByteArray) (a e : Nat) (h : e ≤ s.size) : (s.extract a e).size = e - a := by simp; omega
theorem ext_first (s : ByteArray) (a e : Nat) (r : ByteArray) (hr : r = s.extract a e) (h : a < e) (h0 : 0 < r.size) : r[0].toNat = bAt s a := by
  subst hr
  rw [bAt_eq _ 0 h0]
  show (((s.extract a e).data.toList)[0]?.getD 0).toNat = _
  rw [Lib.extract_data]
  exact row_first s a e h

set_option maxRecDepth 100000 in
set_option maxHeartbeats 4000000 in
theorem cut_any (s : ByteArray) (i : Nat) (w : World) (hs : s.size ≤ 400) (hi : i ≤ s.size) :
    Calls Tryz.prog 101 #[.string s, .int .i64 i] w fun e w' => e = .returned (.tuple #[rtV (tk s i), .int .i64 ((tk s i).end_ : Nat)]) ∧ w.grownBy w' none := by
  go_enter Tryz.func101, Tryz.ntmps101
  go_wp2_with fail
  go_loop [1] (fun t => ∃ k : Nat, k ≤ s.size ∧ Hid (after blank s k = after blank s i) ∧ t = .int .i64 k) (fun t => s.size - (intOf t).toNat)
  case atStart => exact ⟨i, hi, rfl, rfl⟩
  case round =>
    obtain ⟨a, hk, ha, rfl⟩ := hrel
    by_cases hz : a < s.size
    · have hb := bAt_eq s a hz
      by_cases hbl : blank (bAt s a) = true
      · have hb2 : (((s[a].toNat : Nat) : Int) = 32 ∨ ((s[a].toNat : Nat) : Int) = 10) := by rw [hb]; simp [blank] at hbl; omega
        have HN : Hid (after blank s (a + 1) = after blank s i) := by show _ = _; rw [← ha.out]; exact (after_step _ _ _ hz hbl).symm
        clear hb hbl
        rcases hb2 with hb2 | hb2
        · go_wp2_with fail
          exact ⟨⟨a + 1, by omega, HN, by go_num⟩, by simp [intOf]; omega⟩
        · have hb3 : ¬ ((s[a].toNat : Nat) : Int) = 32 := by omega
          go_wp2_with fail
          exact ⟨⟨a + 1, by omega, HN, by go_num⟩, by simp [intOf]; omega⟩
      · have hb2 : (((s[a].toNat : Nat) : Int) == 32) = false := by rw [beq_eq_false_iff_ne, hb]; simp [blank] at hbl; omega
        have hb3 : (((s[a].toNat : Nat) : Int) == 10) = false := by rw [beq_eq_false_iff_ne, hb]; simp [blank] at hbl; omega
        have HA : Hid (after blank s i = a) := by show _ = _; rw [← ha.out]; exact after_stop _ _ _ hz (by simpa using hbl)
        have hza : ((a : Int) == (s.size : Int)) = false := by rw [beq_eq_false_iff_ne]; omega
        clear hb hbl ha
        go_wp2_with fail
        go_loop [6] (fun t => ∃ k : Nat, a ≤ k ∧ k ≤ s.size ∧ Hid (after rowB s k = after rowB s a) ∧ t = .int .i64 k) (fun t => s.size - (intOf t).toNat)
        case atStart => exact ⟨a, Nat.le_refl _, hk, rfl, rfl⟩
        case round =>
          obtain ⟨k2, hak, hk2, he, rfl⟩ := hrel
          have HR : Hid ((s.extract a k2).data.toList = rowOf s a k2) := by show _ = _; rw [Lib.extract_data]; rfl
          by_cases hz2 : k2 < s.size
          · have hb := bAt_eq s k2 hz2
            have HB : Hid (s[k2].toNat = bAt s k2) := hb
            clear hb
            cases hrb : rowB (s[k2].toNat)
            · have HE : Hid (after rowB s a = k2) := by show _ = _; rw [← he.out]; exact after_stop _ _ _ hz2 (by rw [← HB.out]; exact hrb)
              have HRB : Hid (_ = _) := hrb
              clear hrb he
              go_wp2_with (go_at_call 163; refine (isRow_any _ _).mono ?_; rintro e w' ⟨rfl, rfl⟩; rw [HRB.out])
              cases hP : inP (rowOf s a k2)
              · cases hR : inR (rowOf s a k2)
                · cases hW : inW (rowOf s a k2)
                  · by_cases hd : (rowOf s a k2).length = 1 ∧ ((rowOf s a k2)[0]?.getD 0).toNat ≤ 57
                    · have hlen := row_len s a k2 hak hk2
                      have hne : a < k2 := by omega
                      have hfr := row_first s a k2 hne
                      have hrw := after_first rowB s a (by rw [HE.out]; exact hne) hz
                      have h48 : 48 ≤ bAt s a := by have := hd.2; simp [rowB] at hrw; omega
                      have h57 : bAt s a ≤ 57 := by have := hd.2; omega
                      obtain ⟨hrow, hcan⟩ := digit_row hd.1 (by omega) hd.2
                      rw [hfr] at hrow hcan
                      have HT : Hid (tk s i = ⟨4, bAt s a - 48, a, k2⟩) := tk_of_row s i a k2 4 _ HA.out HE.out hz hne hrow
                      obtain ⟨r, hr⟩ : ∃ r, r = s.extract a k2 := ⟨_, rfl⟩
                      have HX : Hid (r = s.extract a k2) := hr
                      have HC : Hid (r = canonB 4 (bAt s a - 48)) := bytes_canon (by rw [hr, HR.out, hcan])
                      have hrs : r.size = 1 := by rw [hr, ext_size s a k2 hk2]; omega
                      have hr0 : 0 < r.size := by omega
                      have h0 := ext_first s a k2 r hr hne hr0
                      have hle : ((r[0].toNat : Nat) : Int) ≤ 57 := by rw [h0]; omega
                      have hrs1 : ((r.size : Int) == 1) = true := by rw [beq_iff_eq]; omega
                      have HPP : Hid (_ = _) := hP
                      have HRR : Hid (_ = _) := hR
                      have HWW : Hid (_ = _) := hW
                      have HR2 : Hid (r.data.toList = rowOf s a k2) := by show _ = _; rw [hr]; exact HR.out
                      clear hP hR hW hrow hcan hd hlen hfr hrw hr h0 hrs
                      go_wp2_with fail
                      rw [← HX.out]
                      refine (within_any _ (w.heap.size + 1) 4 4 9 [⟨#[119]⟩, ⟨#[120]⟩, ⟨#[121]⟩, ⟨#[122]⟩] r rfl (by omega) (new_at (by simp) _)).mono ?_
                      rintro e w5 ⟨rfl, rfl⟩
                      rw [any_P, HR2.out, HPP.out]
                      go_wp2_with fail
                      refine (within_any _ (w.heap.size + 1 + 1) 4 4 9 [⟨#[114, 48]⟩, ⟨#[114, 49]⟩, ⟨#[114, 50]⟩, ⟨#[114, 51]⟩] r rfl (by omega) (new_at (by simp) _)).mono ?_
                      rintro e w5 ⟨rfl, rfl⟩
                      rw [any_R, HR2.out, HRR.out]
                      go_wp2_with fail
                      refine (within_any _ (w.heap.size + 1 + 1 + 1) 10 10 9 wordsB r rfl (by omega) (new_at (by simp) _)).mono ?_
                      rintro e w5 ⟨rfl, rfl⟩
                      rw [any_W, HR2.out, HWW.out]
                      go_wp2_with fail
                      exact bodyPost_ret (v := .tuple #[.agg #[.int .u8 48, .string r, .int .i64 (a : Nat)], .int .i64 (k2 : Nat)]) (by simp [results, Tryz.results101, go_sem]) rfl ⟨by rw [HT.out]; unfold rtV; rw [show canonB (Tk.mk 4 (bAt s a - 48) a k2).kind (Tk.mk 4 (bAt s a - 48) a k2).num = r from HC.out.symm]; rfl, by repeat (first | exact gb_refl _ _ | refine gb_alloc ?_ _)⟩
                    · by_cases hne : a < k2
                      · have HT : Hid (tk s i = ⟨0, 0, a, k2⟩) := tk_of_row s i a k2 0 0 HA.out HE.out hz hne (none_row hP hR hW hd)
                        have hlen := row_len s a k2 hak hk2
                        have hfr := row_first s a k2 hne
                        obtain ⟨r, hr⟩ : ∃ r, r = s.extract a k2 := ⟨_, rfl⟩
                        have HX : Hid (r = s.extract a k2) := hr
                        have hrs : r.size = k2 - a := by rw [hr, ext_size s a k2 hk2]
                        have hr0 : 0 < r.size := by omega
                        have h0 := ext_first s a k2 r hr hne hr0
                        have HD : Hid (¬ (r.size = 1 ∧ r[0].toNat ≤ 57)) := by show ¬ _; rw [h0, hrs]; rw [hlen, hfr] at hd; exact hd
                        have HPP : Hid (_ = _) := hP
                        have HRR : Hid (_ = _) := hR
                        have HWW : Hid (_ = _) := hW
                        have HR2 : Hid (r.data.toList = rowOf s a k2) := by show _ = _; rw [hr]; exact HR.out
                        clear hP hR hW hd hlen hfr hr h0 hrs
                        by_cases hr1 : ((r.size : Int) = 1)
                        · have hr2 : ((r.size : Int) == 1) = true := by rw [beq_iff_eq]; exact hr1
                          have hle : ¬ ((r[0].toNat : Nat) : Int) ≤ 57 := by have := HD.out; omega
                          clear hr1
                          go_wp2_with fail
                          rw [← HX.out]
                          refine (within_any _ (w.heap.size + 1) 4 4 9 [⟨#[119]⟩, ⟨#[120]⟩, ⟨#[121]⟩, ⟨#[122]⟩] r rfl (by omega) (new_at (by simp) _)).mono ?_
                          rintro e w5 ⟨rfl, rfl⟩
                          rw [any_P, HR2.out, HPP.out]
                          go_wp2_with fail
                          refine (within_any _ (w.heap.size + 1 + 1) 4 4 9 [⟨#[114, 48]⟩, ⟨#[114, 49]⟩, ⟨#[114, 50]⟩, ⟨#[114, 51]⟩] r rfl (by omega) (new_at (by simp) _)).mono ?_
                          rintro e w5 ⟨rfl, rfl⟩
                          rw [any_R, HR2.out, HRR.out]
                          go_wp2_with fail
                          refine (within_any _ (w.heap.size + 1 + 1 + 1) 10 10 9 wordsB r rfl (by omega) (new_at (by simp) _)).mono ?_
                          rintro e w5 ⟨rfl, rfl⟩
                          rw [any_W, HR2.out, HWW.out]
                          go_wp2_with fail
                          exact bodyPost_ret (v := .tuple #[.agg #[.int .u8 33, .string ⟨#[]⟩, .int .i64 (a : Nat)], .int .i64 (k2 : Nat)]) (by simp [results, Tryz.results101, go_sem]) rfl ⟨by rw [HT.out]; rfl, by repeat (first | exact gb_refl _ _ | refine gb_alloc ?_ _)⟩
                        · have hr2 : ((r.size : Int) == 1) = false := by rw [beq_eq_false_iff_ne]; exact hr1
                          clear hr1
                          go_wp2_with fail
                          rw [← HX.out]
                          refine (within_any _ (w.heap.size + 1) 4 4 9 [⟨#[119]⟩, ⟨#[120]⟩, ⟨#[121]⟩, ⟨#[122]⟩] r rfl (by omega) (new_at (by simp) _)).mono ?_
                          rintro e w5 ⟨rfl, rfl⟩
                          rw [any_P, HR2.out, HPP.out]
                          go_wp2_with fail
                          refine (within_any _ (w.heap.size + 1 + 1) 4 4 9 [⟨#[114, 48]⟩, ⟨#[114, 49]⟩, ⟨#[114, 50]⟩, ⟨#[114, 51]⟩] r rfl (by omega) (new_at (by simp) _)).mono ?_
                          rintro e w5 ⟨rfl, rfl⟩
                          rw [any_R, HR2.out, HRR.out]
                          go_wp2_with fail
                          refine (within_any _ (w.heap.size + 1 + 1 + 1) 10 10 9 wordsB r rfl (by omega) (new_at (by simp) _)).mono ?_
                          rintro e w5 ⟨rfl, rfl⟩
                          rw [any_W, HR2.out, HWW.out]
                          go_wp2_with fail
                          exact bodyPost_ret (v := .tuple #[.agg #[.int .u8 33, .string ⟨#[]⟩, .int .i64 (a : Nat)], .int .i64 (k2 : Nat)]) (by simp [results, Tryz.results101, go_sem]) rfl ⟨by rw [HT.out]; rfl, by repeat (first | exact gb_refl _ _ | refine gb_alloc ?_ _)⟩
                      · have HKA : Hid (k2 = a) := by show k2 = a; omega
                        have HE2 : Hid (after rowB s a = a) := by show _ = _; rw [HE.out]; exact HKA.out
                        have HPP : Hid (_ = _) := hP
                        have HRR : Hid (_ = _) := hR
                        have HWW : Hid (_ = _) := hW
                        clear hP hR hW hd
                        obtain ⟨r, hr⟩ : ∃ r, r = s.extract a k2 := ⟨_, rfl⟩
                        have HX : Hid (r = s.extract a k2) := hr
                        have hrs : r.size = k2 - a := by rw [hr, ext_size s a k2 hk2]
                        have hr2 : ((r.size : Int) == 1) = false := by rw [beq_eq_false_iff_ne]; have := HKA.out; omega
                        have HR2 : Hid (r.data.toList = rowOf s a k2) := by show _ = _; rw [hr]; exact HR.out
                        have hba := bAt_eq s a hz
                        have HBA : Hid (s[a].toNat = bAt s a) := hba
                        have HR1 : Hid ((s.extract a (a + 1)).data.toList = rowOf s a (a + 1)) := by show _ = _; rw [Lib.extract_data]; rfl
                        clear hr hrs hba
                        by_cases h58 : ((s[a].toNat : Nat) : Int) = 58
                        · have h58b : (((s[a].toNat : Nat) : Int) == 58) = true := by rw [beq_iff_eq]; exact h58
                          by_cases h1 : ((a : Int) + 1) < (s.size : Int)
                          · have h1n : a + 1 < s.size := by omega
                            have hb1 := bAt_eq s (a + 1) h1n
                            by_cases h61 : ((s[a + 1].toNat : Nat) : Int) = 61
                            · have h61b : (((s[a + 1].toNat : Nat) : Int) == 61) = true := by rw [beq_iff_eq]; exact h61
                              have HT : Hid (tk s i = ⟨15, 0, a, a + 2⟩) := tk_of_sign s i a 15 2 HA.out HE2.out hz (sign_two s a hz (by have := HBA.out; omega) h1n (by omega))
                              clear hb1 h58 h61
                              go_wp2_with fail
                              rw [← HX.out]
                              refine (within_any _ (w.heap.size + 1) 4 4 9 [⟨#[119]⟩, ⟨#[120]⟩, ⟨#[121]⟩, ⟨#[122]⟩] r rfl (by omega) (new_at (by simp) _)).mono ?_
                              rintro e w5 ⟨rfl, rfl⟩
                              rw [any_P, HR2.out, HPP.out]
                              go_wp2_with fail
                              refine (within_any _ (w.heap.size + 1 + 1) 4 4 9 [⟨#[114, 48]⟩, ⟨#[114, 49]⟩, ⟨#[114, 50]⟩, ⟨#[114, 51]⟩] r rfl (by omega) (new_at (by simp) _)).mono ?_
                              rintro e w5 ⟨rfl, rfl⟩
                              rw [any_R, HR2.out, HRR.out]
                              go_wp2_with fail
                              refine (within_any _ (w.heap.size + 1 + 1 + 1) 10 10 9 wordsB r rfl (by omega) (new_at (by simp) _)).mono ?_
                              rintro e w5 ⟨rfl, rfl⟩
                              rw [any_W, HR2.out, HWW.out]
                              go_wp2_with fail
                              exact bodyPost_ret (v := .tuple #[.agg #[.int .u8 115, .string ⟨#[58, 61]⟩, .int .i64 (a : Nat)], .int .i64 ((a : Int) + 2)]) (by simp [results, Tryz.results101, go_sem]) rfl ⟨by rw [HT.out]; rfl, by repeat (first | exact gb_refl _ _ | refine gb_alloc ?_ _)⟩
                            · have h61b : (((s[a + 1].toNat : Nat) : Int) == 61) = false := by rw [beq_eq_false_iff_ne]; exact h61
                              have HNP : Hid (((restOf s a).take 2 == [58, 61]) = false) := sign_not s a hz (by rintro ⟨_, _, q3⟩; rw [← hb1] at q3; omega)
                              clear hb1 h58 h61
                              cases hS : inS (rowOf s a (a + 1))
                              · have HT : Hid (tk s i = ⟨0, 0, a, a + 1⟩) := tk_of_sign s i a 0 1 HA.out HE2.out hz (sign_none s a hz HNP.out hS)
                                have HSS : Hid (_ = _) := hS
                                clear hS
                                go_wp2_with fail
                                rw [← HX.out]
                                refine (within_any _ (w.heap.size + 1) 4 4 9 [⟨#[119]⟩, ⟨#[120]⟩, ⟨#[121]⟩, ⟨#[122]⟩] r rfl (by omega) (new_at (by simp) _)).mono ?_
                                rintro e w5 ⟨rfl, rfl⟩
                                rw [any_P, HR2.out, HPP.out]
                                go_wp2_with fail
                                refine (within_any _ (w.heap.size + 1 + 1) 4 4 9 [⟨#[114, 48]⟩, ⟨#[114, 49]⟩, ⟨#[114, 50]⟩, ⟨#[114, 51]⟩] r rfl (by omega) (new_at (by simp) _)).mono ?_
                                rintro e w5 ⟨rfl, rfl⟩
                                rw [any_R, HR2.out, HRR.out]
                                go_wp2_with fail
                                refine (within_any _ (w.heap.size + 1 + 1 + 1) 10 10 9 wordsB r rfl (by omega) (new_at (by simp) _)).mono ?_
                                rintro e w5 ⟨rfl, rfl⟩
                                rw [any_W, HR2.out, HWW.out]
                                go_wp2_with fail
                                refine (within_any _ (w.heap.size + 1 + 1 + 1 + 1) 5 5 9 [⟨#[61]⟩, ⟨#[58]⟩, ⟨#[59]⟩, ⟨#[40]⟩, ⟨#[41]⟩] (s.extract a (a + 1)) rfl (by omega) (new_at (by simp) _)).mono ?_
                                rintro e w5 ⟨rfl, rfl⟩
                                rw [any_S, HR1.out, HSS.out]
                                go_wp2_with fail
                                exact bodyPost_ret (v := .tuple #[.agg #[.int .u8 33, .string ⟨#[]⟩, .int .i64 (a : Nat)], .int .i64 ((a : Int) + 1)]) (by simp [results, Tryz.results101, go_sem]) rfl ⟨by rw [HT.out]; rfl, by repeat (first | exact gb_refl _ _ | refine gb_alloc ?_ _)⟩
                              · obtain ⟨k, hk16, hk20, hsg, hcan⟩ := sign_yes s a hz HNP.out hS
                                have HT : Hid (tk s i = ⟨k, 0, a, a + 1⟩) := tk_of_sign s i a k 1 HA.out HE2.out hz hsg
                                have HC : Hid (s.extract a (a + 1) = canonB k 0) := bytes_canon (HR1.out.trans hcan)
                                clear hsg hcan
                                have HSS : Hid (_ = _) := hS
                                clear hS
                                go_wp2_with fail
                                rw [← HX.out]
                                refine (within_any _ (w.heap.size + 1) 4 4 9 [⟨#[119]⟩, ⟨#[120]⟩, ⟨#[121]⟩, ⟨#[122]⟩] r rfl (by omega) (new_at (by simp) _)).mono ?_
                                rintro e w5 ⟨rfl, rfl⟩
                                rw [any_P, HR2.out, HPP.out]
                                go_wp2_with fail
                                refine (within_any _ (w.heap.size + 1 + 1) 4 4 9 [⟨#[114, 48]⟩, ⟨#[114, 49]⟩, ⟨#[114, 50]⟩, ⟨#[114, 51]⟩] r rfl (by omega) (new_at (by simp) _)).mono ?_
                                rintro e w5 ⟨rfl, rfl⟩
                                rw [any_R, HR2.out, HRR.out]
                                go_wp2_with fail
                                refine (within_any _ (w.heap.size + 1 + 1 + 1) 10 10 9 wordsB r rfl (by omega) (new_at (by simp) _)).mono ?_
                                rintro e w5 ⟨rfl, rfl⟩
                                rw [any_W, HR2.out, HWW.out]
                                go_wp2_with fail
                                refine (within_any _ (w.heap.size + 1 + 1 + 1 + 1) 5 5 9 [⟨#[61]⟩, ⟨#[58]⟩, ⟨#[59]⟩, ⟨#[40]⟩, ⟨#[41]⟩] (s.extract a (a + 1)) rfl (by omega) (new_at (by simp) _)).mono ?_
                                rintro e w5 ⟨rfl, rfl⟩
                                rw [any_S, HR1.out, HSS.out]
                                go_wp2_with fail
                                rw [HC.out]
                                exact bodyPost_ret (v := .tuple #[.agg #[.int .u8 115, .string (canonB k 0), .int .i64 (a : Nat)], .int .i64 ((a : Int) + 1)]) (by simp [results, Tryz.results101, go_sem]) rfl ⟨by rw [HT.out]; unfold rtV; rw [show (Tk.mk k 0 a (a + 1)).kind = k from rfl, rkind_sign (by omega)]; rfl, by repeat (first | exact gb_refl _ _ | refine gb_alloc ?_ _)⟩
                          · skip
                            have HNP : Hid (((restOf s a).take 2 == [58, 61]) = false) := sign_not s a hz (by rintro ⟨_, q2, _⟩; omega)
                            clear h58
                            cases hS : inS (rowOf s a (a + 1))
                            · have HT : Hid (tk s i = ⟨0, 0, a, a + 1⟩) := tk_of_sign s i a 0 1 HA.out HE2.out hz (sign_none s a hz HNP.out hS)
                              have HSS : Hid (_ = _) := hS
                              clear hS
                              go_wp2_with fail
                              rw [← HX.out]
                              refine (within_any _ (w.heap.size + 1) 4 4 9 [⟨#[119]⟩, ⟨#[120]⟩, ⟨#[121]⟩, ⟨#[122]⟩] r rfl (by omega) (new_at (by simp) _)).mono ?_
                              rintro e w5 ⟨rfl, rfl⟩
                              rw [any_P, HR2.out, HPP.out]
                              go_wp2_with fail
                              refine (within_any _ (w.heap.size + 1 + 1) 4 4 9 [⟨#[114, 48]⟩, ⟨#[114, 49]⟩, ⟨#[114, 50]⟩, ⟨#[114, 51]⟩] r rfl (by omega) (new_at (by simp) _)).mono ?_
                              rintro e w5 ⟨rfl, rfl⟩
                              rw [any_R, HR2.out, HRR.out]
                              go_wp2_with fail
                              refine (within_any _ (w.heap.size + 1 + 1 + 1) 10 10 9 wordsB r rfl (by omega) (new_at (by simp) _)).mono ?_
                              rintro e w5 ⟨rfl, rfl⟩
                              rw [any_W, HR2.out, HWW.out]
                              go_wp2_with fail
                              refine (within_any _ (w.heap.size + 1 + 1 + 1 + 1) 5 5 9 [⟨#[61]⟩, ⟨#[58]⟩, ⟨#[59]⟩, ⟨#[40]⟩, ⟨#[41]⟩] (s.extract a (a + 1)) rfl (by omega) (new_at (by simp) _)).mono ?_
                              rintro e w5 ⟨rfl, rfl⟩
                              rw [any_S, HR1.out, HSS.out]
                              go_wp2_with fail
                              exact bodyPost_ret (v := .tuple #[.agg #[.int .u8 33, .string ⟨#[]⟩, .int .i64 (a : Nat)], .int .i64 ((a : Int) + 1)]) (by simp [results, Tryz.results101, go_sem]) rfl ⟨by rw [HT.out]; rfl, by repeat (first | exact gb_refl _ _ | refine gb_alloc ?_ _)⟩
                            · obtain ⟨k, hk16, hk20, hsg, hcan⟩ := sign_yes s a hz HNP.out hS
                              have HT : Hid (tk s i = ⟨k, 0, a, a + 1⟩) := tk_of_sign s i a k 1 HA.out HE2.out hz hsg
                              have HC : Hid (s.extract a (a + 1) = canonB k 0) := bytes_canon (HR1.out.trans hcan)
                              clear hsg hcan
                              have HSS : Hid (_ = _) := hS
                              clear hS
                              go_wp2_with fail
                              rw [← HX.out]
                              refine (within_any _ (w.heap.size + 1) 4 4 9 [⟨#[119]⟩, ⟨#[120]⟩, ⟨#[121]⟩, ⟨#[122]⟩] r rfl (by omega) (new_at (by simp) _)).mono ?_
                              rintro e w5 ⟨rfl, rfl⟩
                              rw [any_P, HR2.out, HPP.out]
                              go_wp2_with fail
                              refine (within_any _ (w.heap.size + 1 + 1) 4 4 9 [⟨#[114, 48]⟩, ⟨#[114, 49]⟩, ⟨#[114, 50]⟩, ⟨#[114, 51]⟩] r rfl (by omega) (new_at (by simp) _)).mono ?_
                              rintro e w5 ⟨rfl, rfl⟩
                              rw [any_R, HR2.out, HRR.out]
                              go_wp2_with fail
                              refine (within_any _ (w.heap.size + 1 + 1 + 1) 10 10 9 wordsB r rfl (by omega) (new_at (by simp) _)).mono ?_
                              rintro e w5 ⟨rfl, rfl⟩
                              rw [any_W, HR2.out, HWW.out]
                              go_wp2_with fail
                              refine (within_any _ (w.heap.size + 1 + 1 + 1 + 1) 5 5 9 [⟨#[61]⟩, ⟨#[58]⟩, ⟨#[59]⟩, ⟨#[40]⟩, ⟨#[41]⟩] (s.extract a (a + 1)) rfl (by omega) (new_at (by simp) _)).mono ?_
                              rintro e w5 ⟨rfl, rfl⟩
                              rw [any_S, HR1.out, HSS.out]
                              go_wp2_with fail
                              rw [HC.out]
                              exact bodyPost_ret (v := .tuple #[.agg #[.int .u8 115, .string (canonB k 0), .int .i64 (a : Nat)], .int .i64 ((a : Int) + 1)]) (by simp [results, Tryz.results101, go_sem]) rfl ⟨by rw [HT.out]; unfold rtV; rw [show (Tk.mk k 0 a (a + 1)).kind = k from rfl, rkind_sign (by omega)]; rfl, by repeat (first | exact gb_refl _ _ | refine gb_alloc ?_ _)⟩
                        · have h58b : (((s[a].toNat : Nat) : Int) == 58) = false := by rw [beq_eq_false_iff_ne]; exact h58
                          have HNP : Hid (((restOf s a).take 2 == [58, 61]) = false) := sign_not s a hz (by rintro ⟨q1, _, _⟩; have := HBA.out; omega)
                          clear h58
                          cases hS : inS (rowOf s a (a + 1))
                          · have HT : Hid (tk s i = ⟨0, 0, a, a + 1⟩) := tk_of_sign s i a 0 1 HA.out HE2.out hz (sign_none s a hz HNP.out hS)
                            have HSS : Hid (_ = _) := hS
                            clear hS
                            go_wp2_with fail
                            rw [← HX.out]
                            refine (within_any _ (w.heap.size + 1) 4 4 9 [⟨#[119]⟩, ⟨#[120]⟩, ⟨#[121]⟩, ⟨#[122]⟩] r rfl (by omega) (new_at (by simp) _)).mono ?_
                            rintro e w5 ⟨rfl, rfl⟩
                            rw [any_P, HR2.out, HPP.out]
                            go_wp2_with fail
                            refine (within_any _ (w.heap.size + 1 + 1) 4 4 9 [⟨#[114, 48]⟩, ⟨#[114, 49]⟩, ⟨#[114, 50]⟩, ⟨#[114, 51]⟩] r rfl (by omega) (new_at (by simp) _)).mono ?_
                            rintro e w5 ⟨rfl, rfl⟩
                            rw [any_R, HR2.out, HRR.out]
                            go_wp2_with fail
                            refine (within_any _ (w.heap.size + 1 + 1 + 1) 10 10 9 wordsB r rfl (by omega) (new_at (by simp) _)).mono ?_
                            rintro e w5 ⟨rfl, rfl⟩
                            rw [any_W, HR2.out, HWW.out]
                            go_wp2_with fail
                            refine (within_any _ (w.heap.size + 1 + 1 + 1 + 1) 5 5 9 [⟨#[61]⟩, ⟨#[58]⟩, ⟨#[59]⟩, ⟨#[40]⟩, ⟨#[41]⟩] (s.extract a (a + 1)) rfl (by omega) (new_at (by simp) _)).mono ?_
                            rintro e w5 ⟨rfl, rfl⟩
                            rw [any_S, HR1.out, HSS.out]
                            go_wp2_with fail
                            exact bodyPost_ret (v := .tuple #[.agg #[.int .u8 33, .string ⟨#[]⟩, .int .i64 (a : Nat)], .int .i64 ((a : Int) + 1)]) (by simp [results, Tryz.results101, go_sem]) rfl ⟨by rw [HT.out]; rfl, by repeat (first | exact gb_refl _ _ | refine gb_alloc ?_ _)⟩
                          · obtain ⟨k, hk16, hk20, hsg, hcan⟩ := sign_yes s a hz HNP.out hS
                            have HT : Hid (tk s i = ⟨k, 0, a, a + 1⟩) := tk_of_sign s i a k 1 HA.out HE2.out hz hsg
                            have HC : Hid (s.extract a (a + 1) = canonB k 0) := bytes_canon (HR1.out.trans hcan)
                            clear hsg hcan
                            have HSS : Hid (_ = _) := hS
                            clear hS
                            go_wp2_with fail
                            rw [← HX.out]
                            refine (within_any _ (w.heap.size + 1) 4 4 9 [⟨#[119]⟩, ⟨#[120]⟩, ⟨#[121]⟩, ⟨#[122]⟩] r rfl (by omega) (new_at (by simp) _)).mono ?_
                            rintro e w5 ⟨rfl, rfl⟩
                            rw [any_P, HR2.out, HPP.out]
                            go_wp2_with fail
                            refine (within_any _ (w.heap.size + 1 + 1) 4 4 9 [⟨#[114, 48]⟩, ⟨#[114, 49]⟩, ⟨#[114, 50]⟩, ⟨#[114, 51]⟩] r rfl (by omega) (new_at (by simp) _)).mono ?_
                            rintro e w5 ⟨rfl, rfl⟩
                            rw [any_R, HR2.out, HRR.out]
                            go_wp2_with fail
                            refine (within_any _ (w.heap.size + 1 + 1 + 1) 10 10 9 wordsB r rfl (by omega) (new_at (by simp) _)).mono ?_
                            rintro e w5 ⟨rfl, rfl⟩
                            rw [any_W, HR2.out, HWW.out]
                            go_wp2_with fail
                            refine (within_any _ (w.heap.size + 1 + 1 + 1 + 1) 5 5 9 [⟨#[61]⟩, ⟨#[58]⟩, ⟨#[59]⟩, ⟨#[40]⟩, ⟨#[41]⟩] (s.extract a (a + 1)) rfl (by omega) (new_at (by simp) _)).mono ?_
                            rintro e w5 ⟨rfl, rfl⟩
                            rw [any_S, HR1.out, HSS.out]
                            go_wp2_with fail
                            rw [HC.out]
                            exact bodyPost_ret (v := .tuple #[.agg #[.int .u8 115, .string (canonB k 0), .int .i64 (a : Nat)], .int .i64 ((a : Int) + 1)]) (by simp [results, Tryz.results101, go_sem]) rfl ⟨by rw [HT.out]; unfold rtV; rw [show (Tk.mk k 0 a (a + 1)).kind = k from rfl, rkind_sign (by omega)]; rfl, by repeat (first | exact gb_refl _ _ | refine gb_alloc ?_ _)⟩
                  · obtain ⟨k, hk5, hk14, hrow, hcan⟩ := inW_row hW
                    have hne : a < k2 := row_ne hcan hak (by omega) (by omega) (by omega)
                    have HT : Hid (tk s i = ⟨k, 0, a, k2⟩) := tk_of_row s i a k2 k 0 HA.out HE.out hz hne hrow
                    have HX : Hid (s.extract a k2 = canonB k 0) := bytes_canon (HR.out.trans hcan)
                    have HPP : Hid (_ = _) := hP
                    have HRR : Hid (_ = _) := hR
                    have HWW : Hid (_ = _) := hW
                    clear hP hR hW hrow hcan
                    go_wp2_with fail
                    refine (within_any _ (w.heap.size + 1) 4 4 9 [⟨#[119]⟩, ⟨#[120]⟩, ⟨#[121]⟩, ⟨#[122]⟩] (s.extract a k2) rfl (by omega) (new_at (by simp) _)).mono ?_
                    rintro e w5 ⟨rfl, rfl⟩
                    rw [any_P, HR.out, HPP.out]
                    go_wp2_with fail
                    refine (within_any _ (w.heap.size + 1 + 1) 4 4 9 [⟨#[114, 48]⟩, ⟨#[114, 49]⟩, ⟨#[114, 50]⟩, ⟨#[114, 51]⟩] (s.extract a k2) rfl (by omega) (new_at (by simp) _)).mono ?_
                    rintro e w5 ⟨rfl, rfl⟩
                    rw [any_R, HR.out, HRR.out]
                    go_wp2_with fail
                    refine (within_any _ (w.heap.size + 1 + 1 + 1) 10 10 9 wordsB (s.extract a k2) rfl (by omega) (new_at (by simp) _)).mono ?_
                    rintro e w5 ⟨rfl, rfl⟩
                    rw [any_W, HR.out, HWW.out]
                    go_wp2_with fail
                    rw [HX.out]
                    exact bodyPost_ret (v := .tuple #[.agg #[.int .u8 119, .string (canonB k 0), .int .i64 (a : Nat)], .int .i64 (k2 : Nat)]) (by simp [results, Tryz.results101, go_sem]) rfl ⟨by rw [HT.out]; unfold rtV; rw [show (Tk.mk k 0 a k2).kind = k from rfl, rkind_word hk5 hk14]; rfl, by repeat (first | exact gb_refl _ _ | refine gb_alloc ?_ _)⟩
                · obtain ⟨n, hrow, hcan⟩ := inR_row hR
                  have hne : a < k2 := row_ne hcan hak (by omega) (by omega) (by omega)
                  have HT : Hid (tk s i = ⟨3, n, a, k2⟩) := tk_of_row s i a k2 3 n HA.out HE.out hz hne hrow
                  have HX : Hid (s.extract a k2 = canonB 3 n) := bytes_canon (HR.out.trans hcan)
                  have HPP : Hid (_ = _) := hP
                  have HRR : Hid (_ = _) := hR
                  clear hP hR hrow hcan
                  go_wp2_with fail
                  refine (within_any _ (w.heap.size + 1) 4 4 9 [⟨#[119]⟩, ⟨#[120]⟩, ⟨#[121]⟩, ⟨#[122]⟩] (s.extract a k2) rfl (by omega) (new_at (by simp) _)).mono ?_
                  rintro e w5 ⟨rfl, rfl⟩
                  rw [any_P, HR.out, HPP.out]
                  go_wp2_with fail
                  refine (within_any _ (w.heap.size + 1 + 1) 4 4 9 [⟨#[114, 48]⟩, ⟨#[114, 49]⟩, ⟨#[114, 50]⟩, ⟨#[114, 51]⟩] (s.extract a k2) rfl (by omega) (new_at (by simp) _)).mono ?_
                  rintro e w5 ⟨rfl, rfl⟩
                  rw [any_R, HR.out, HRR.out]
                  go_wp2_with fail
                  refine (within_any _ (w.heap.size + 1 + 1 + 1) 10 10 9 wordsB (s.extract a k2) rfl (by omega) (new_at (by simp) _)).mono ?_
                  rintro e w5 ⟨rfl, rfl⟩
                  rw [any_W, HR.out]
                  go_wp2_with fail
                  rw [HX.out]
                  exact bodyPost_ret (v := .tuple #[.agg #[.int .u8 114, .string (canonB 3 n), .int .i64 (a : Nat)], .int .i64 (k2 : Nat)]) (by simp [results, Tryz.results101, go_sem]) rfl ⟨by rw [HT.out]; rfl, by repeat (first | exact gb_refl _ _ | refine gb_alloc ?_ _)⟩
              · obtain ⟨n, hrow, hcan⟩ := inP_row hP
                have hne : a < k2 := row_ne hcan hak (by omega) (by omega) (by omega)
                have HT : Hid (tk s i = ⟨2, n, a, k2⟩) := tk_of_row s i a k2 2 n HA.out HE.out hz hne hrow
                have HX : Hid (s.extract a k2 = canonB 2 n) := bytes_canon (HR.out.trans hcan)
                have HPP : Hid (_ = _) := hP
                clear hP hrow hcan
                go_wp2_with fail
                refine (within_any _ (w.heap.size + 1) 4 4 9 [⟨#[119]⟩, ⟨#[120]⟩, ⟨#[121]⟩, ⟨#[122]⟩] (s.extract a k2) rfl (by omega) (new_at (by simp) _)).mono ?_
                rintro e w5 ⟨rfl, rfl⟩
                rw [any_P, HR.out, HPP.out]
                go_wp2_with fail
                refine (within_any _ (w.heap.size + 1 + 1) 4 4 9 [⟨#[114, 48]⟩, ⟨#[114, 49]⟩, ⟨#[114, 50]⟩, ⟨#[114, 51]⟩] (s.extract a k2) rfl (by omega) (new_at (by simp) _)).mono ?_
                rintro e w5 ⟨rfl, rfl⟩
                rw [any_R, HR.out]
                go_wp2_with fail
                refine (within_any _ (w.heap.size + 1 + 1 + 1) 10 10 9 wordsB (s.extract a k2) rfl (by omega) (new_at (by simp) _)).mono ?_
                rintro e w5 ⟨rfl, rfl⟩
                rw [any_W, HR.out]
                go_wp2_with fail
                rw [HX.out]
                exact bodyPost_ret (v := .tuple #[.agg #[.int .u8 112, .string (canonB 2 n), .int .i64 (a : Nat)], .int .i64 (k2 : Nat)]) (by simp [results, Tryz.results101, go_sem]) rfl ⟨by rw [HT.out]; rfl, by repeat (first | exact gb_refl _ _ | refine gb_alloc ?_ _)⟩
            · have HN : Hid (after rowB s (k2 + 1) = after rowB s a) := by show _ = _; rw [← he.out]; exact (after_step _ _ _ hz2 (by rw [← HB.out]; exact hrb)).symm
              have HRB : Hid (_ = _) := hrb
              clear hrb he
              go_wp2_with (go_at_call 163; refine (isRow_any _ _).mono ?_; rintro e w' ⟨rfl, rfl⟩; rw [HRB.out])
              exact ⟨⟨k2 + 1, by omega, by omega, HN, by go_num⟩, by simp [intOf]; omega⟩
          · have HE : Hid (after rowB s a = k2) := by show _ = _; rw [← he.out]; exact after_end _ _ _ (by omega)
            clear he
            cases hP : inP (rowOf s a k2)
            · cases hR : inR (rowOf s a k2)
              · cases hW : inW (rowOf s a k2)
                · by_cases hd : (rowOf s a k2).length = 1 ∧ ((rowOf s a k2)[0]?.getD 0).toNat ≤ 57
                  · have hlen := row_len s a k2 hak hk2
                    have hne : a < k2 := by omega
                    have hfr := row_first s a k2 hne
                    have hrw := after_first rowB s a (by rw [HE.out]; exact hne) hz
                    have h48 : 48 ≤ bAt s a := by have := hd.2; simp [rowB] at hrw; omega
                    have h57 : bAt s a ≤ 57 := by have := hd.2; omega
                    obtain ⟨hrow, hcan⟩ := digit_row hd.1 (by omega) hd.2
                    rw [hfr] at hrow hcan
                    have HT : Hid (tk s i = ⟨4, bAt s a - 48, a, k2⟩) := tk_of_row s i a k2 4 _ HA.out HE.out hz hne hrow
                    obtain ⟨r, hr⟩ : ∃ r, r = s.extract a k2 := ⟨_, rfl⟩
                    have HX : Hid (r = s.extract a k2) := hr
                    have HC : Hid (r = canonB 4 (bAt s a - 48)) := bytes_canon (by rw [hr, HR.out, hcan])
                    have hrs : r.size = 1 := by rw [hr, ext_size s a k2 hk2]; omega
                    have hr0 : 0 < r.size := by omega
                    have h0 := ext_first s a k2 r hr hne hr0
                    have hle : ((r[0].toNat : Nat) : Int) ≤ 57 := by rw [h0]; omega
                    have hrs1 : ((r.size : Int) == 1) = true := by rw [beq_iff_eq]; omega
                    have HPP : Hid (_ = _) := hP
                    have HRR : Hid (_ = _) := hR
                    have HWW : Hid (_ = _) := hW
                    have HR2 : Hid (r.data.toList = rowOf s a k2) := by show _ = _; rw [hr]; exact HR.out
                    clear hP hR hW hrow hcan hd hlen hfr hrw hr h0 hrs
                    go_wp2_with fail
                    rw [← HX.out]
                    refine (within_any _ (w.heap.size + 1) 4 4 9 [⟨#[119]⟩, ⟨#[120]⟩, ⟨#[121]⟩, ⟨#[122]⟩] r rfl (by omega) (new_at (by simp) _)).mono ?_
                    rintro e w5 ⟨rfl, rfl⟩
                    rw [any_P, HR2.out, HPP.out]
                    go_wp2_with fail
                    refine (within_any _ (w.heap.size + 1 + 1) 4 4 9 [⟨#[114, 48]⟩, ⟨#[114, 49]⟩, ⟨#[114, 50]⟩, ⟨#[114, 51]⟩] r rfl (by omega) (new_at (by simp) _)).mono ?_
                    rintro e w5 ⟨rfl, rfl⟩
                    rw [any_R, HR2.out, HRR.out]
                    go_wp2_with fail
                    refine (within_any _ (w.heap.size + 1 + 1 + 1) 10 10 9 wordsB r rfl (by omega) (new_at (by simp) _)).mono ?_
                    rintro e w5 ⟨rfl, rfl⟩
                    rw [any_W, HR2.out, HWW.out]
                    go_wp2_with fail
                    exact bodyPost_ret (v := .tuple #[.agg #[.int .u8 48, .string r, .int .i64 (a : Nat)], .int .i64 (k2 : Nat)]) (by simp [results, Tryz.results101, go_sem]) rfl ⟨by rw [HT.out]; unfold rtV; rw [show canonB (Tk.mk 4 (bAt s a - 48) a k2).kind (Tk.mk 4 (bAt s a - 48) a k2).num = r from HC.out.symm]; rfl, by repeat (first | exact gb_refl _ _ | refine gb_alloc ?_ _)⟩
                  · by_cases hne : a < k2
                    · have HT : Hid (tk s i = ⟨0, 0, a, k2⟩) := tk_of_row s i a k2 0 0 HA.out HE.out hz hne (none_row hP hR hW hd)
                      have hlen := row_len s a k2 hak hk2
                      have hfr := row_first s a k2 hne
                      obtain ⟨r, hr⟩ : ∃ r, r = s.extract a k2 := ⟨_, rfl⟩
                      have HX : Hid (r = s.extract a k2) := hr
                      have hrs : r.size = k2 - a := by rw [hr, ext_size s a k2 hk2]
                      have hr0 : 0 < r.size := by omega
                      have h0 := ext_first s a k2 r hr hne hr0
                      have HD : Hid (¬ (r.size = 1 ∧ r[0].toNat ≤ 57)) := by show ¬ _; rw [h0, hrs]; rw [hlen, hfr] at hd; exact hd
                      have HPP : Hid (_ = _) := hP
                      have HRR : Hid (_ = _) := hR
                      have HWW : Hid (_ = _) := hW
                      have HR2 : Hid (r.data.toList = rowOf s a k2) := by show _ = _; rw [hr]; exact HR.out
                      clear hP hR hW hd hlen hfr hr h0 hrs
                      by_cases hr1 : ((r.size : Int) = 1)
                      · have hr2 : ((r.size : Int) == 1) = true := by rw [beq_iff_eq]; exact hr1
                        have hle : ¬ ((r[0].toNat : Nat) : Int) ≤ 57 := by have := HD.out; omega
                        clear hr1
                        go_wp2_with fail
                        rw [← HX.out]
                        refine (within_any _ (w.heap.size + 1) 4 4 9 [⟨#[119]⟩, ⟨#[120]⟩, ⟨#[121]⟩, ⟨#[122]⟩] r rfl (by omega) (new_at (by simp) _)).mono ?_
                        rintro e w5 ⟨rfl, rfl⟩
                        rw [any_P, HR2.out, HPP.out]
                        go_wp2_with fail
                        refine (within_any _ (w.heap.size + 1 + 1) 4 4 9 [⟨#[114, 48]⟩, ⟨#[114, 49]⟩, ⟨#[114, 50]⟩, ⟨#[114, 51]⟩] r rfl (by omega) (new_at (by simp) _)).mono ?_
                        rintro e w5 ⟨rfl, rfl⟩
                        rw [any_R, HR2.out, HRR.out]
                        go_wp2_with fail
                        refine (within_any _ (w.heap.size + 1 + 1 + 1) 10 10 9 wordsB r rfl (by omega) (new_at (by simp) _)).mono ?_
                        rintro e w5 ⟨rfl, rfl⟩
                        rw [any_W, HR2.out, HWW.out]
                        go_wp2_with fail
                        exact bodyPost_ret (v := .tuple #[.agg #[.int .u8 33, .string ⟨#[]⟩, .int .i64 (a : Nat)], .int .i64 (k2 : Nat)]) (by simp [results, Tryz.results101, go_sem]) rfl ⟨by rw [HT.out]; rfl, by repeat (first | exact gb_refl _ _ | refine gb_alloc ?_ _)⟩
                      · have hr2 : ((r.size : Int) == 1) = false := by rw [beq_eq_false_iff_ne]; exact hr1
                        clear hr1
                        go_wp2_with fail
                        rw [← HX.out]
                        refine (within_any _ (w.heap.size + 1) 4 4 9 [⟨#[119]⟩, ⟨#[120]⟩, ⟨#[121]⟩, ⟨#[122]⟩] r rfl (by omega) (new_at (by simp) _)).mono ?_
                        rintro e w5 ⟨rfl, rfl⟩
                        rw [any_P, HR2.out, HPP.out]
                        go_wp2_with fail
                        refine (within_any _ (w.heap.size + 1 + 1) 4 4 9 [⟨#[114, 48]⟩, ⟨#[114, 49]⟩, ⟨#[114, 50]⟩, ⟨#[114, 51]⟩] r rfl (by omega) (new_at (by simp) _)).mono ?_
                        rintro e w5 ⟨rfl, rfl⟩
                        rw [any_R, HR2.out, HRR.out]
                        go_wp2_with fail
                        refine (within_any _ (w.heap.size + 1 + 1 + 1) 10 10 9 wordsB r rfl (by omega) (new_at (by simp) _)).mono ?_
                        rintro e w5 ⟨rfl, rfl⟩
                        rw [any_W, HR2.out, HWW.out]
                        go_wp2_with fail
                        exact bodyPost_ret (v := .tuple #[.agg #[.int .u8 33, .string ⟨#[]⟩, .int .i64 (a : Nat)], .int .i64 (k2 : Nat)]) (by simp [results, Tryz.results101, go_sem]) rfl ⟨by rw [HT.out]; rfl, by repeat (first | exact gb_refl _ _ | refine gb_alloc ?_ _)⟩
                    · exfalso; omega
                · obtain ⟨k, hk5, hk14, hrow, hcan⟩ := inW_row hW
                  have hne : a < k2 := row_ne hcan hak (by omega) (by omega) (by omega)
                  have HT : Hid (tk s i = ⟨k, 0, a, k2⟩) := tk_of_row s i a k2 k 0 HA.out HE.out hz hne hrow
                  have HX : Hid (s.extract a k2 = canonB k 0) := bytes_canon (HR.out.trans hcan)
                  have HPP : Hid (_ = _) := hP
                  have HRR : Hid (_ = _) := hR
                  have HWW : Hid (_ = _) := hW
                  clear hP hR hW hrow hcan
                  go_wp2_with fail
                  refine (within_any _ (w.heap.size + 1) 4 4 9 [⟨#[119]⟩, ⟨#[120]⟩, ⟨#[121]⟩, ⟨#[122]⟩] (s.extract a k2) rfl (by omega) (new_at (by simp) _)).mono ?_
                  rintro e w5 ⟨rfl, rfl⟩
                  rw [any_P, HR.out, HPP.out]
                  go_wp2_with fail
                  refine (within_any _ (w.heap.size + 1 + 1) 4 4 9 [⟨#[114, 48]⟩, ⟨#[114, 49]⟩, ⟨#[114, 50]⟩, ⟨#[114, 51]⟩] (s.extract a k2) rfl (by omega) (new_at (by simp) _)).mono ?_
                  rintro e w5 ⟨rfl, rfl⟩
                  rw [any_R, HR.out, HRR.out]
                  go_wp2_with fail
                  refine (within_any _ (w.heap.size + 1 + 1 + 1) 10 10 9 wordsB (s.extract a k2) rfl (by omega) (new_at (by simp) _)).mono ?_
                  rintro e w5 ⟨rfl, rfl⟩
                  rw [any_W, HR.out, HWW.out]
                  go_wp2_with fail
                  rw [HX.out]
                  exact bodyPost_ret (v := .tuple #[.agg #[.int .u8 119, .string (canonB k 0), .int .i64 (a : Nat)], .int .i64 (k2 : Nat)]) (by simp [results, Tryz.results101, go_sem]) rfl ⟨by rw [HT.out]; unfold rtV; rw [show (Tk.mk k 0 a k2).kind = k from rfl, rkind_word hk5 hk14]; rfl, by repeat (first | exact gb_refl _ _ | refine gb_alloc ?_ _)⟩
              · obtain ⟨n, hrow, hcan⟩ := inR_row hR
                have hne : a < k2 := row_ne hcan hak (by omega) (by omega) (by omega)
                have HT : Hid (tk s i = ⟨3, n, a, k2⟩) := tk_of_row s i a k2 3 n HA.out HE.out hz hne hrow
                have HX : Hid (s.extract a k2 = canonB 3 n) := bytes_canon (HR.out.trans hcan)
                have HPP : Hid (_ = _) := hP
                have HRR : Hid (_ = _) := hR
                clear hP hR hrow hcan
                go_wp2_with fail
                refine (within_any _ (w.heap.size + 1) 4 4 9 [⟨#[119]⟩, ⟨#[120]⟩, ⟨#[121]⟩, ⟨#[122]⟩] (s.extract a k2) rfl (by omega) (new_at (by simp) _)).mono ?_
                rintro e w5 ⟨rfl, rfl⟩
                rw [any_P, HR.out, HPP.out]
                go_wp2_with fail
                refine (within_any _ (w.heap.size + 1 + 1) 4 4 9 [⟨#[114, 48]⟩, ⟨#[114, 49]⟩, ⟨#[114, 50]⟩, ⟨#[114, 51]⟩] (s.extract a k2) rfl (by omega) (new_at (by simp) _)).mono ?_
                rintro e w5 ⟨rfl, rfl⟩
                rw [any_R, HR.out, HRR.out]
                go_wp2_with fail
                refine (within_any _ (w.heap.size + 1 + 1 + 1) 10 10 9 wordsB (s.extract a k2) rfl (by omega) (new_at (by simp) _)).mono ?_
                rintro e w5 ⟨rfl, rfl⟩
                rw [any_W, HR.out]
                go_wp2_with fail
                rw [HX.out]
                exact bodyPost_ret (v := .tuple #[.agg #[.int .u8 114, .string (canonB 3 n), .int .i64 (a : Nat)], .int .i64 (k2 : Nat)]) (by simp [results, Tryz.results101, go_sem]) rfl ⟨by rw [HT.out]; rfl, by repeat (first | exact gb_refl _ _ | refine gb_alloc ?_ _)⟩
            · obtain ⟨n, hrow, hcan⟩ := inP_row hP
              have hne : a < k2 := row_ne hcan hak (by omega) (by omega) (by omega)
              have HT : Hid (tk s i = ⟨2, n, a, k2⟩) := tk_of_row s i a k2 2 n HA.out HE.out hz hne hrow
              have HX : Hid (s.extract a k2 = canonB 2 n) := bytes_canon (HR.out.trans hcan)
              have HPP : Hid (_ = _) := hP
              clear hP hrow hcan
              go_wp2_with fail
              refine (within_any _ (w.heap.size + 1) 4 4 9 [⟨#[119]⟩, ⟨#[120]⟩, ⟨#[121]⟩, ⟨#[122]⟩] (s.extract a k2) rfl (by omega) (new_at (by simp) _)).mono ?_
              rintro e w5 ⟨rfl, rfl⟩
              rw [any_P, HR.out, HPP.out]
              go_wp2_with fail
              refine (within_any _ (w.heap.size + 1 + 1) 4 4 9 [⟨#[114, 48]⟩, ⟨#[114, 49]⟩, ⟨#[114, 50]⟩, ⟨#[114, 51]⟩] (s.extract a k2) rfl (by omega) (new_at (by simp) _)).mono ?_
              rintro e w5 ⟨rfl, rfl⟩
              rw [any_R, HR.out]
              go_wp2_with fail
              refine (within_any _ (w.heap.size + 1 + 1 + 1) 10 10 9 wordsB (s.extract a k2) rfl (by omega) (new_at (by simp) _)).mono ?_
              rintro e w5 ⟨rfl, rfl⟩
              rw [any_W, HR.out]
              go_wp2_with fail
              rw [HX.out]
              exact bodyPost_ret (v := .tuple #[.agg #[.int .u8 112, .string (canonB 2 n), .int .i64 (a : Nat)], .int .i64 (k2 : Nat)]) (by simp [results, Tryz.results101, go_sem]) rfl ⟨by rw [HT.out]; rfl, by repeat (first | exact gb_refl _ _ | refine gb_alloc ?_ _)⟩
    · obtain rfl : a = s.size := by omega
      have HA : Hid (tk s i = ⟨1, 0, s.size, s.size⟩) := by show _ = _; rw [after_end _ _ _ (Nat.le_refl _)] at ha; rw [tk_none s i (by rw [← ha.out]; exact Nat.le_refl _), ← ha.out]
      clear ha
      go_wp2_with fail
      rw [HA.out]
      exact bodyPost_ret (v := .tuple #[.agg #[.int .u8 46, .string ⟨#[]⟩, .int .i64 s.size], .int .i64 s.size]) (by simp [results, Tryz.results101, go_sem]) rfl ⟨rfl, gb_alloc (gb_refl _ _) _⟩

end Go.Proofs.YtmpaeladhoomoaaGreatDoor
