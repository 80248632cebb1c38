/-
  The program's tokens: signs, and the token from a place on.
-/
import Derived.Test.YtmpaeladhoomoaaGreatDoorLex2
import Derived.Test.YtmpaeladhoomoaaGreatDoorFrame
namespace Go.Proofs.YtmpaeladhoomoaaGreatDoor
open Go.RowKit

theorem take2_eq (r : ByteArray) : (r.extract 0 2).toList = r.data.toList.take 2 := by
  rw [ByteArray.toList_eq, Lib.extract_data]; simp

set_option maxHeartbeats 400000 in
theorem hasPrefix_any (r : ByteArray) (w : World) (hs : r.size ≤ 400) :
    Calls Tryz.prog 198 #[.string r, .string ⟨#[58, 61]⟩] w fun e w' => e = .returned (.bool (r.data.toList.take 2 == [58, 61])) ∧ w' = w := by
  have H2 : Hid ((r.extract 0 2).toList = r.data.toList.take 2) := take2_eq r
  by_cases h : (2 : Int) ≤ (r.size : Int)
  · go_enter Tryz.func198, Tryz.ntmps198
    go_wp2
    go_ret
    exact ⟨ret_bool (by rw [← H2.out]), rfl⟩
  · go_enter Tryz.func198, Tryz.ntmps198
    go_wp2
    go_ret
    refine ⟨ret_bool ?_, rfl⟩
    have hl : r.data.toList.length < 2 := by simp; omega
    symm
    rw [beq_eq_false_iff_ne]
    intro h2
    have := congrArg List.length h2
    simp at this
    omega

theorem signC_two' (r : ByteArray) (h : (r.data.toList.take 2 == [58, 61]) = true) : signC r.data.toList = (15, 2) := by unfold signC; rw [if_pos h]
theorem signC_one' (r : ByteArray) (h : (r.data.toList.take 2 == [58, 61]) = false) : signC r.data.toList = 
  if bAt r 0 = 61 then (16, 1) else if bAt r 0 = 58 then (17, 1) else if bAt r 0 = 59 then (18, 1) else if bAt r 0 = 40 then (19, 1) else if bAt r 0 = 41 then (20, 1) else (0, 1) := by unfold signC; rw [if_neg (by simp [h])]; rfl

set_option maxHeartbeats 400000 in
theorem signKind_any (r : ByteArray) (w : World) (hs : r.size ≤ 400) (h0 : 0 < r.size) :
    Calls Tryz.prog 147 #[.string r] w fun e w' => e = .returned (.tuple #[.int .i64 ((signC r.data.toList).1 : Nat), .int .i64 ((signC r.data.toList).2 : Nat)]) ∧ w' = w := by
  have hb := bAt_eq r 0 h0
  have hlt := bAt_lt r 0
  rw [← hb] at hlt
  have Hb : Hid (r[0].toNat = bAt r 0) := hb
  clear hb
  cases hp : (r.data.toList.take 2 == [58, 61])
  · have Hd := signC_one' r hp
    rw [← Hb.out] at Hd
    have HD : Hid (_ = _) := Hd
    clear Hd
    have HP : Hid (_ = _) := hp
    clear hp
    go_enter Tryz.func147, Tryz.ntmps147
    go_wp2_with (go_at_call 198; refine (hasPrefix_any _ _ hs).mono ?_; rintro e w' ⟨rfl, rfl⟩; rw [HP.out])
    all_goals go_ret2
    all_goals refine ⟨ret_ii ?_ ?_, rfl⟩
    all_goals rw [HD.out]
    all_goals repeat' split
    all_goals first | rfl | (exfalso; simp_all; done) | (exfalso; simp_all; omega)
  · have HD : Hid (_ = _) := signC_two' r hp
    have HP : Hid (_ = _) := hp
    clear hp
    go_enter Tryz.func147, Tryz.ntmps147
    go_wp2_with (go_at_call 198; refine (hasPrefix_any _ _ hs).mono ?_; rintro e w' ⟨rfl, rfl⟩; rw [HP.out])
    go_ret2
    exact ⟨ret_ii (by rw [HD.out]; rfl) (by rw [HD.out]; rfl), rfl⟩

theorem tk_none (s : ByteArray) (i : Nat) (h : s.size ≤ after blank s i) : tk s i = ⟨1, 0, after blank s i, after blank s i⟩ := by unfold tk; rw [if_pos h]
theorem tk_row (s : ByteArray) (i : Nat) (h : ¬ s.size ≤ after blank s i) (h2 : after blank s i < after rowB s (after blank s i)) :
    tk s i = ⟨(rowC (rowOf s (after blank s i) (after rowB s (after blank s i)))).1, (rowC (rowOf s (after blank s i) (after rowB s (after blank s i)))).2, after blank s i, after rowB s (after blank s i)⟩ := by unfold tk; rw [if_neg h, if_pos h2]
theorem tk_sign (s : ByteArray) (i : Nat) (h : ¬ s.size ≤ after blank s i) (h2 : ¬ after blank s i < after rowB s (after blank s i)) :
    tk s i = ⟨(signC (restOf s (after blank s i))).1, 0, after blank s i, after blank s i + (signC (restOf s (after blank s i))).2⟩ := by unfold tk; rw [if_neg h, if_neg h2]

/-- A token as the program lays it. -/
def tkV (t : Tk) : Value := .agg #[.int .i64 (t.kind : Nat), .int .i64 (t.num : Nat), .int .i64 (t.at_ : Nat)]

set_option maxHeartbeats 400000 in
theorem tokenFrom_any (s : ByteArray) (i : Nat) (w : World) (hs : s.size ≤ 400) (hi : i ≤ s.size) :
    Calls Tryz.prog 90 #[.string s, .int .i64 i] w fun e w' => e = .returned (.tuple #[tkV (tk s i), .int .i64 ((tk s i).end_ : Nat)]) ∧ w.grownBy w' none := by
  have h1 := after_le blank s i hi
  have h2 := after_le rowB s (after blank s i) h1
  have h3 := after_ge rowB s (after blank s i)
  generalize ha : after blank s i = a at *
  generalize he : after rowB s a = e0 at *
  have Ha : Hid (after blank s i = a) := ha
  have He : Hid (after rowB s a = e0) := he
  clear ha he
  by_cases hz : s.size ≤ a
  · have HT : Hid (tk s i = ⟨1, 0, a, a⟩) := by show _ = _; rw [tk_none s i (by rw [Ha.out]; exact hz), Ha.out]
    obtain rfl : a = s.size := by omega
    go_enter Tryz.func90, Tryz.ntmps90
    go_wp2_with (go_at_call 144; refine (behindBlanks_any s i _ hs hi).mono ?_; rintro e w' ⟨rfl, rfl⟩; rw [Ha.out])
    rw [HT.out]
    exact bodyPost_ret (v := .tuple #[.agg #[.int .i64 1, .int .i64 0, .int .i64 s.size], .int .i64 s.size]) (by simp [results, Tryz.results90, go_sem]) rfl ⟨rfl, gb_alloc (gb_refl _ _) _⟩
  · by_cases hr : a < e0
    · have HT : Hid (tk s i = ⟨(rowC (rowOf s a e0)).1, (rowC (rowOf s a e0)).2, a, e0⟩) := by show _ = _; rw [tk_row s i (by rw [Ha.out]; exact hz) (by rw [Ha.out, He.out]; exact hr), Ha.out, He.out]
      have HR : Hid ((s.extract a e0).data.toList = rowOf s a e0) := by show _ = _; rw [Lib.extract_data]; rfl
      have hz' : ¬ (a : Int) = (s.size : Int) := by omega
      go_enter Tryz.func90, Tryz.ntmps90
      go_wp2_with (first | (go_at_call 144; refine (behindBlanks_any s i _ hs hi).mono ?_; rintro e w' ⟨rfl, rfl⟩; rw [Ha.out]) | (go_at_call 145; refine (behindRow_any s a _ hs h1).mono ?_; rintro e w' ⟨rfl, rfl⟩; rw [He.out]) | (go_at_call 146; refine (rowKind_any (s.extract a e0) _ (by simp; omega)).mono ?_; rintro e w' ⟨rfl, n, rfl⟩; rw [HR.out]))
      rw [HT.out]
      exact bodyPost_ret (v := .tuple #[.agg #[.int .i64 ((rowC (rowOf s a e0)).1 : Nat), .int .i64 ((rowC (rowOf s a e0)).2 : Nat), .int .i64 a], .int .i64 e0]) (by simp [results, Tryz.results90, go_sem]) rfl ⟨rfl, gb_set (gb_set (gb_set (gb_drewN (gb_alloc (gb_refl _ _) _) _) _ _ (Or.inr (Nat.le_refl _))) _ _ (Or.inr (Nat.le_refl _))) _ _ (Or.inr (Nat.le_refl _))⟩
    · have hsp := signC_pos (restOf s a)
      have HT : Hid (tk s i = ⟨(signC (restOf s a)).1, 0, a, a + (signC (restOf s a)).2⟩) := by show _ = _; rw [tk_sign s i (by rw [Ha.out]; exact hz) (by rw [Ha.out, He.out]; exact hr), Ha.out]
      have HR : Hid ((s.extract a s.size).data.toList = restOf s a) := by show _ = _; rw [Lib.extract_to_end]; rfl
      have hz' : ¬ (a : Int) = (s.size : Int) := by omega
      go_enter Tryz.func90, Tryz.ntmps90
      go_wp2_with (first | (go_at_call 144; refine (behindBlanks_any s i _ hs hi).mono ?_; rintro e w' ⟨rfl, rfl⟩; rw [Ha.out]) | (go_at_call 145; refine (behindRow_any s a _ hs h1).mono ?_; rintro e w' ⟨rfl, rfl⟩; rw [He.out]) | (go_at_call 147; refine (signKind_any (s.extract a s.size) _ (by simp; omega) (by simp; omega)).mono ?_; rintro e w' ⟨rfl, rfl⟩; rw [HR.out]))
      rw [HT.out]
      exact bodyPost_ret (v := .tuple #[.agg #[.int .i64 ((signC (restOf s a)).1 : Nat), .int .i64 0, .int .i64 a], .int .i64 ((a : Int) + ((signC (restOf s a)).2 : Nat))]) (by simp [results, Tryz.results90, go_sem]) rfl ⟨rfl, gb_alloc (gb_refl _ _) _⟩
end Go.Proofs.YtmpaeladhoomoaaGreatDoor
