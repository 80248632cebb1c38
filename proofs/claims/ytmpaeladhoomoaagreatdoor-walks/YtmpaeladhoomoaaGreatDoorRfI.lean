/-
  The document's answer: atoms of a formula.
-/
import Derived.Test.YtmpaeladhoomoaaGreatDoorRfH
namespace Go.Proofs.YtmpaeladhoomoaaGreatDoor
open Go.RowKit

def atomQ (s : ByteArray) (q : Q) : TM × Q :=
  if qk s q = 4 then (TM.reg (valQ s q 4) (valQ s (needQ s (kindQ s q 4) 17) 3) (valQ s (needQ s (kindQ s (needQ s (kindQ s q 4) 17) 3) 16) 4) (qa s q), kindQ s (needQ s (kindQ s (needQ s (kindQ s q 4) 17) 3) 16) 4) else (TM.plc (valQ s q 2) (valQ s (needQ s (kindQ s q 2) 16) 4), kindQ s (needQ s (kindQ s q 2) 16) 4)
def okT (B : Nat) (w : World) (tv : Value) (X g : Nat) : Prop := B ≤ g ∧ g < w.heap.size ∧ tv.ownBlock ≠ some g ∧ g ≠ X
/-- What a reader of a formula answers. -/
def PostQ (w : World) (tv : Value) (b : Nat) (s : ByteArray) (q : Q) (r : TM × Q) (e : Ending) (w' : World) : Prop :=
  ∃ (tv' : Value) (d : Nat) (cs : List Value), e = .returned (.agg cs.toArray) ∧ FR b tv w tv' w' ∧ QAt w' b s r.2 tv' ∧ TRep d w' (okT w.heap.size w' tv' w.heap.size) cs r.1 ∧ r.2.opn = q.opn ∧ q.j ≤ r.2.j ∧ (0 ≤ q.bad → 0 ≤ r.2.bad)
theorem takeQ_o (s : ByteArray) (q : Q) (hj : q.j ≤ s.size) : (takeQ s q).opn = q.opn ∧ q.j ≤ (takeQ s q).j ∧ (takeQ s q).j ≤ s.size := by
  have hb := tk_bounds s q.j hj
  unfold takeQ
  split
  · unfold failQ; split <;> exact ⟨rfl, Nat.le_refl _, hj⟩
  · split
    · exact ⟨rfl, Nat.le_refl _, hj⟩
    · exact ⟨rfl, by show q.j ≤ (tk s q.j).end_; omega, by show (tk s q.j).end_ ≤ s.size; omega⟩
theorem failQ_o (s : ByteArray) (q : Q) : (failQ s q).opn = q.opn ∧ (failQ s q).j = q.j := by unfold failQ; split <;> exact ⟨rfl, rfl⟩
theorem needQ_o (s : ByteArray) (q : Q) (c : Nat) (hj : q.j ≤ s.size) : (needQ s q c).opn = q.opn ∧ q.j ≤ (needQ s q c).j ∧ (needQ s q c).j ≤ s.size := by
  unfold needQ
  split
  · exact takeQ_o s q hj
  · have := takeQ_o s (failQ s q) (by rw [(failQ_o s q).2]; exact hj)
    rw [(failQ_o s q).1, (failQ_o s q).2] at this; exact this
theorem kindQ_o (s : ByteArray) (q : Q) (c : Nat) (hj : q.j ≤ s.size) : (kindQ s q c).opn = q.opn ∧ q.j ≤ (kindQ s q c).j ∧ (kindQ s q c).j ≤ s.size := by
  unfold kindQ
  split
  · exact takeQ_o s q hj
  · have := takeQ_o s (failQ s q) (by rw [(failQ_o s q).2]; exact hj)
    rw [(failQ_o s q).1, (failQ_o s q).2] at this; exact this
theorem needQ_bad {s : ByteArray} {q : Q} {c : Nat} (h : 0 ≤ q.bad) : 0 ≤ (needQ s q c).bad := by
  unfold needQ
  split
  · exact takeQ_bad h
  · exact takeQ_bad (failQ_bad s q)
theorem kindQ_bad {s : ByteArray} {q : Q} {c : Nat} (h : 0 ≤ q.bad) : 0 ≤ (kindQ s q c).bad := by
  unfold kindQ
  split
  · exact takeQ_bad h
  · exact takeQ_bad (failQ_bad s q)
theorem valQ_le (s : ByteArray) (q : Q) (c : Nat) (hc : c = 2 ∨ c = 3) : valQ s q c ≤ 3 := by
  unfold valQ
  split
  · omega
  · rename_i h
    have hk : qk s q = c := by
      by_cases e : qk s q = c
      · exact e
      · exfalso
        apply h
        unfold kindQ
        rw [if_neg e]
        exact takeQ_bad (failQ_bad s q)
    have hn := tk_num s q.j
    have hk2 : (tk s q.j).kind = c := hk
    show (tk s q.j).num ≤ 3
    rcases hc with rfl | rfl
    · exact hn.1 hk2
    · exact hn.2 hk2
theorem atomQ_bad {s : ByteArray} {q : Q} (h : 0 ≤ q.bad) : 0 ≤ (atomQ s q).2.bad := by
  unfold atomQ
  split
  · exact kindQ_bad (needQ_bad (kindQ_bad (needQ_bad (kindQ_bad h))))
  · exact kindQ_bad (needQ_bad (kindQ_bad h))
theorem atomQ_o (s : ByteArray) (q : Q) (hj : q.j ≤ s.size) : (atomQ s q).2.opn = q.opn ∧ q.j ≤ (atomQ s q).2.j := by
  unfold atomQ
  split
  · have h1 := kindQ_o s q 4 hj
    have h2 := needQ_o s _ 17 h1.2.2
    have h3 := kindQ_o s _ 3 h2.2.2
    have h4 := needQ_o s _ 16 h3.2.2
    have h5 := kindQ_o s _ 4 h4.2.2
    exact ⟨by show (kindQ s _ 4).opn = _; rw [h5.1, h4.1, h3.1, h2.1, h1.1], by show q.j ≤ (kindQ s _ 4).j; omega⟩
  · have h1 := kindQ_o s q 2 hj
    have h2 := needQ_o s _ 16 h1.2.2
    have h3 := kindQ_o s _ 4 h2.2.2
    exact ⟨by show (kindQ s _ 4).opn = _; rw [h3.1, h2.1, h1.1], by show q.j ≤ (kindQ s _ 4).j; omega⟩

set_option maxRecDepth 100000 in
set_option maxHeartbeats 4000000 in
theorem atom_any (w : World) (b : Nat) (s : ByteArray) (q : Q) (tv : Value) (h : QAt w b s q tv) (h14 : isQ s q 14 = false) (h19 : isQ s q 19 = false) :
    Calls Tryz.prog 108 #[.pointer (some ⟨b, 0, none⟩), .int .i64 2] w fun e w' => PostQ w tv b s q (atomQ s q) e w' := by
  have hjs := h.jsz
  have HO : Hid ((atomQ s q).2.opn = q.opn ∧ q.j ≤ (atomQ s q).2.j) := atomQ_o s q hjs
  have h14 : isQ s q 14 = false := h14
  obtain ⟨c0, c1, c2, c3, c4, c5, c6, c7, hf, _⟩ := h.get
  have e4 : ((rkind (tk s q.j).kind : Int) == 48) = decide ((tk s q.j).kind = 4) := rkind_eq (c := 4) (tk_le s q.j).1 (by omega)
  have H14 : Hid (isQ s q 14 = false) := h14
  have H19 : Hid (isQ s q 19 = false) := h19
  clear h14 h19
  by_cases hk4 : (tk s q.j).kind = 4
  · skip
    have e4' : ((rkind (tk s q.j).kind : Int) == 48) = true := by rw [e4]; simpa using hk4
    have HA : Hid (atomQ s q = (TM.reg (valQ s q 4) (valQ s (needQ s (kindQ s q 4) 17) 3) (valQ s (needQ s (kindQ s (needQ s (kindQ s q 4) 17) 3) 16) 4) (qa s q), kindQ s (needQ s (kindQ s (needQ s (kindQ s q 4) 17) 3) 16) 4)) := if_pos hk4
    clear e4 hk4
    go_enter Tryz.func108, Tryz.ntmps108
    go_wp2_with fail
    refine (is_any _ b s q tv (h.alloc _) 14 (by omega) (by omega) ⟨#[110, 111, 116]⟩ rfl).mono ?_
    rintro e w1 ⟨rfl, rfl⟩
    rw [H14.out]
    go_wp2_with fail
    refine (is_any _ b s q tv (h.alloc _) 19 (by omega) (by omega) ⟨#[40]⟩ rfl).mono ?_
    rintro e w1 ⟨rfl, rfl⟩
    rw [H19.out]
    go_wp2_with fail
    have L0 := M2.start h 146 #[.string ⟨#[]⟩, .int .i64 0, .int .i64 0, .int .i64 0, .int .i64 0, .slice none 0 0] #[.string ⟨#[114]⟩, .int .i64 0, .int .i64 0, .int .i64 0, .int .i64 ((tk s q.j).at_ : Nat), .slice none 0 0]
    clear c0 c1 c2 c3 c4 c5 c6 c7 hf
    refine (kindD_any _ b s q _ L0.at_).mono ?_
    rintro e w1 ⟨rfl, tv1, hf1, hq1⟩
    have L1 := L0.call hf1 hq1
    obtain ⟨⟨a0, a1, a2, a3, a4, a5, af⟩, ⟨b0, b1, b2, b3, b4, b5, bf⟩⟩ := L1.get6
    obtain ⟨c0, c1, c2, c3, c4, c5, c6, c7, hf, _⟩ := L1.at_.get
    go_wp2_with fail
    have L1p1 := L1.put' 1 (.int .i64 (valQ s q 4 : Nat)) #[.string ⟨#[114]⟩, .int .i64 (valQ s q 4 : Nat), .int .i64 0, .int .i64 0, .int .i64 ((tk s q.j).at_ : Nat), .slice none 0 0] rfl
    refine (need_any _ b s (kindQ s q 4) _ L1p1.at_ 17 (by omega) (by omega) ⟨#[58]⟩ rfl).mono ?_
    rintro e w2 ⟨rfl, tv2, hf2, hq2⟩
    have L2 := L1p1.call hf2 hq2
    clear a0 a1 a2 a3 a4 a5 af b0 b1 b2 b3 b4 b5 bf c0 c1 c2 c3 c4 c5 c6 c7 hf
    obtain ⟨⟨a0, a1, a2, a3, a4, a5, af⟩, ⟨b0, b1, b2, b3, b4, b5, bf⟩⟩ := L2.get6
    obtain ⟨c0, c1, c2, c3, c4, c5, c6, c7, hf, _⟩ := L2.at_.get
    go_wp2_with fail
    refine (kindR_any _ b s (needQ s (kindQ s q 4) 17) _ L2.at_).mono ?_
    rintro e w3 ⟨rfl, tv3, hf3, hq3⟩
    have L3 := L2.call hf3 hq3
    clear a0 a1 a2 a3 a4 a5 af b0 b1 b2 b3 b4 b5 bf c0 c1 c2 c3 c4 c5 c6 c7 hf
    obtain ⟨⟨a0, a1, a2, a3, a4, a5, af⟩, ⟨b0, b1, b2, b3, b4, b5, bf⟩⟩ := L3.get6
    obtain ⟨c0, c1, c2, c3, c4, c5, c6, c7, hf, _⟩ := L3.at_.get
    go_wp2_with fail
    have L3p2 := L3.put' 2 (.int .i64 (valQ s (needQ s (kindQ s q 4) 17) 3 : Nat)) #[.string ⟨#[114]⟩, .int .i64 (valQ s q 4 : Nat), .int .i64 (valQ s (needQ s (kindQ s q 4) 17) 3 : Nat), .int .i64 0, .int .i64 ((tk s q.j).at_ : Nat), .slice none 0 0] rfl
    refine (need_any _ b s (kindQ s (needQ s (kindQ s q 4) 17) 3) _ L3p2.at_ 16 (by omega) (by omega) ⟨#[61]⟩ rfl).mono ?_
    rintro e w4 ⟨rfl, tv4, hf4, hq4⟩
    have L4 := L3p2.call hf4 hq4
    clear a0 a1 a2 a3 a4 a5 af b0 b1 b2 b3 b4 b5 bf c0 c1 c2 c3 c4 c5 c6 c7 hf
    obtain ⟨⟨a0, a1, a2, a3, a4, a5, af⟩, ⟨b0, b1, b2, b3, b4, b5, bf⟩⟩ := L4.get6
    obtain ⟨c0, c1, c2, c3, c4, c5, c6, c7, hf, _⟩ := L4.at_.get
    go_wp2_with fail
    refine (kindD_any _ b s (needQ s (kindQ s (needQ s (kindQ s q 4) 17) 3) 16) _ L4.at_).mono ?_
    rintro e w5 ⟨rfl, tv5, hf5, hq5⟩
    have L5 := L4.call hf5 hq5
    clear a0 a1 a2 a3 a4 a5 af b0 b1 b2 b3 b4 b5 bf c0 c1 c2 c3 c4 c5 c6 c7 hf
    obtain ⟨⟨a0, a1, a2, a3, a4, a5, af⟩, ⟨b0, b1, b2, b3, b4, b5, bf⟩⟩ := L5.get6
    obtain ⟨c0, c1, c2, c3, c4, c5, c6, c7, hf, _⟩ := L5.at_.get
    go_wp2_with fail
    have L5p3 := L5.put' 3 (.int .i64 (valQ s (needQ s (kindQ s (needQ s (kindQ s q 4) 17) 3) 16) 4 : Nat)) #[.string ⟨#[114]⟩, .int .i64 (valQ s q 4 : Nat), .int .i64 (valQ s (needQ s (kindQ s q 4) 17) 3 : Nat), .int .i64 (valQ s (needQ s (kindQ s (needQ s (kindQ s q 4) 17) 3) 16) 4 : Nat), .int .i64 ((tk s q.j).at_ : Nat), .slice none 0 0] rfl
    have LD := L5p3.done6 (.string ⟨#[114]⟩) (.int .i64 (valQ s q 4 : Nat)) (.int .i64 (valQ s (needQ s (kindQ s q 4) 17) 3 : Nat)) (.int .i64 (valQ s (needQ s (kindQ s (needQ s (kindQ s q 4) 17) 3) 16) 4 : Nat)) (.int .i64 ((tk s q.j).at_ : Nat)) (.slice none 0 0)
    obtain ⟨d0, d1, d2, d3, d4, d5, _⟩ := loc6 LD.res
    exact bodyPost_ret (v := .agg #[.string ⟨#[114]⟩, .int .i64 (valQ s q 4 : Nat), .int .i64 (valQ s (needQ s (kindQ s q 4) 17) 3 : Nat), .int .i64 (valQ s (needQ s (kindQ s (needQ s (kindQ s q 4) 17) 3) 16) 4 : Nat), .int .i64 ((tk s q.j).at_ : Nat), .slice none 0 0]) (by simp [results, Tryz.results108, go_sem, d0, d1, d2, d3, d4, d5]) rfl ⟨_, 1, [.string ⟨#[114]⟩, .int .i64 (valQ s q 4 : Nat), .int .i64 (valQ s (needQ s (kindQ s q 4) 17) 3 : Nat), .int .i64 (valQ s (needQ s (kindQ s (needQ s (kindQ s q 4) 17) 3) 16) 4 : Nat), .int .i64 ((tk s q.j).at_ : Nat), .slice none 0 0], rfl, LD.fr, by rw [HA.out]; exact LD.at_, by rw [HA.out]; exact (Or.inr (Or.inl ⟨valQ s q 4, _, _, qa s q, valQ_le s _ 3 (Or.inr rfl), rfl, rfl⟩)), HO.out.1, HO.out.2, fun hb => atomQ_bad hb⟩
  · skip
    have e4' : ((rkind (tk s q.j).kind : Int) == 48) = false := by rw [e4]; simpa using hk4
    have HA : Hid (atomQ s q = (TM.plc (valQ s q 2) (valQ s (needQ s (kindQ s q 2) 16) 4), kindQ s (needQ s (kindQ s q 2) 16) 4)) := if_neg hk4
    clear e4 hk4
    go_enter Tryz.func108, Tryz.ntmps108
    go_wp2_with fail
    refine (is_any _ b s q tv (h.alloc _) 14 (by omega) (by omega) ⟨#[110, 111, 116]⟩ rfl).mono ?_
    rintro e w1 ⟨rfl, rfl⟩
    rw [H14.out]
    go_wp2_with fail
    refine (is_any _ b s q tv (h.alloc _) 19 (by omega) (by omega) ⟨#[40]⟩ rfl).mono ?_
    rintro e w1 ⟨rfl, rfl⟩
    rw [H19.out]
    go_wp2_with fail
    have L0 := M2.start h 146 #[.string ⟨#[]⟩, .int .i64 0, .int .i64 0, .int .i64 0, .int .i64 0, .slice none 0 0] #[.string ⟨#[112]⟩, .int .i64 0, .int .i64 0, .int .i64 0, .int .i64 ((tk s q.j).at_ : Nat), .slice none 0 0]
    clear c0 c1 c2 c3 c4 c5 c6 c7 hf
    refine (kindP_any _ b s q _ L0.at_).mono ?_
    rintro e w1 ⟨rfl, tv1, hf1, hq1⟩
    have L1 := L0.call hf1 hq1
    obtain ⟨⟨a0, a1, a2, a3, a4, a5, af⟩, ⟨b0, b1, b2, b3, b4, b5, bf⟩⟩ := L1.get6
    obtain ⟨c0, c1, c2, c3, c4, c5, c6, c7, hf, _⟩ := L1.at_.get
    go_wp2_with fail
    have L1p1 := L1.put' 1 (.int .i64 (valQ s q 2 : Nat)) #[.string ⟨#[112]⟩, .int .i64 (valQ s q 2 : Nat), .int .i64 0, .int .i64 0, .int .i64 ((tk s q.j).at_ : Nat), .slice none 0 0] rfl
    refine (need_any _ b s (kindQ s q 2) _ L1p1.at_ 16 (by omega) (by omega) ⟨#[61]⟩ rfl).mono ?_
    rintro e w2 ⟨rfl, tv2, hf2, hq2⟩
    have L2 := L1p1.call hf2 hq2
    clear a0 a1 a2 a3 a4 a5 af b0 b1 b2 b3 b4 b5 bf c0 c1 c2 c3 c4 c5 c6 c7 hf
    obtain ⟨⟨a0, a1, a2, a3, a4, a5, af⟩, ⟨b0, b1, b2, b3, b4, b5, bf⟩⟩ := L2.get6
    obtain ⟨c0, c1, c2, c3, c4, c5, c6, c7, hf, _⟩ := L2.at_.get
    go_wp2_with fail
    refine (kindD_any _ b s (needQ s (kindQ s q 2) 16) _ L2.at_).mono ?_
    rintro e w3 ⟨rfl, tv3, hf3, hq3⟩
    have L3 := L2.call hf3 hq3
    clear a0 a1 a2 a3 a4 a5 af b0 b1 b2 b3 b4 b5 bf c0 c1 c2 c3 c4 c5 c6 c7 hf
    obtain ⟨⟨a0, a1, a2, a3, a4, a5, af⟩, ⟨b0, b1, b2, b3, b4, b5, bf⟩⟩ := L3.get6
    obtain ⟨c0, c1, c2, c3, c4, c5, c6, c7, hf, _⟩ := L3.at_.get
    go_wp2_with fail
    have L3p3 := L3.put' 3 (.int .i64 (valQ s (needQ s (kindQ s q 2) 16) 4 : Nat)) #[.string ⟨#[112]⟩, .int .i64 (valQ s q 2 : Nat), .int .i64 0, .int .i64 (valQ s (needQ s (kindQ s q 2) 16) 4 : Nat), .int .i64 ((tk s q.j).at_ : Nat), .slice none 0 0] rfl
    have LD := L3p3.done6 (.string ⟨#[112]⟩) (.int .i64 (valQ s q 2 : Nat)) (.int .i64 0) (.int .i64 (valQ s (needQ s (kindQ s q 2) 16) 4 : Nat)) (.int .i64 ((tk s q.j).at_ : Nat)) (.slice none 0 0)
    obtain ⟨d0, d1, d2, d3, d4, d5, _⟩ := loc6 LD.res
    exact bodyPost_ret (v := .agg #[.string ⟨#[112]⟩, .int .i64 (valQ s q 2 : Nat), .int .i64 0, .int .i64 (valQ s (needQ s (kindQ s q 2) 16) 4 : Nat), .int .i64 ((tk s q.j).at_ : Nat), .slice none 0 0]) (by simp [results, Tryz.results108, go_sem, d0, d1, d2, d3, d4, d5]) rfl ⟨_, 1, [.string ⟨#[112]⟩, .int .i64 (valQ s q 2 : Nat), .int .i64 0, .int .i64 (valQ s (needQ s (kindQ s q 2) 16) 4 : Nat), .int .i64 ((tk s q.j).at_ : Nat), .slice none 0 0], rfl, LD.fr, by rw [HA.out]; exact LD.at_, by rw [HA.out]; exact (Or.inl ⟨_, _, _, valQ_le s _ 2 (Or.inl rfl), rfl, rfl⟩), HO.out.1, HO.out.2, fun hb => atomQ_bad hb⟩

end Go.Proofs.YtmpaeladhoomoaaGreatDoor
