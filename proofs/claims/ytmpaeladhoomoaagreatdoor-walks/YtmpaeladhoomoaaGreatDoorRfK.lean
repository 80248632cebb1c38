/-
  The document's answer: parts by 'or', by 'and'.
-/
import Derived.Test.YtmpaeladhoomoaaGreatDoorRfJ
namespace Go.Proofs.YtmpaeladhoomoaaGreatDoor
open Go.RowKit

def loopQ (s : ByteArray) (c : Nat) (sub : Q → TM × Q) : Nat → TM → Q → TM × Q
  | 0, l, q => (l, q)
  | k + 1, l, q => if isQ s q c = true then loopQ s c sub k (TM.two c l (sub (takeQ s q)).1) (sub (takeQ s q)).2 else (l, q)
def levQ (s : ByteArray) (c : Nat) (sub : Q → TM × Q) (q : Q) : TM × Q := loopQ s c sub (s.size + 1) (sub q).1 (sub q).2
theorem loopQ_yes (s : ByteArray) (c : Nat) (sub : Q → TM × Q) (k : Nat) (l : TM) (q : Q) (hk : 0 < k) (h : isQ s q c = true) : loopQ s c sub k l q = loopQ s c sub (k - 1) (TM.two c l (sub (takeQ s q)).1) (sub (takeQ s q)).2 := by
  obtain ⟨m, rfl⟩ : ∃ m, k = m + 1 := ⟨k - 1, by omega⟩
  rw [loopQ, if_pos h]; rfl
theorem loopQ_no (s : ByteArray) (c : Nat) (sub : Q → TM × Q) (k : Nat) (l : TM) (q : Q) (h : isQ s q c = false) : loopQ s c sub k l q = (l, q) := by
  cases k with
  | zero => rfl
  | succ m => rw [loopQ, if_neg (by rw [h]; simp)]
theorem preQ_take {s : ByteArray} {n : Nat} {q : Q} (h : preQ n q) (hj : q.j ≤ s.size) : preQ n (takeQ s q) := by
  have ho := takeQ_o s q hj
  exact ⟨by rw [ho.1]; exact h.1, by rw [ho.1]; exact h.2.1, h.2.2.1, fun hb => by rw [ho.1]; exact h.2.2.2 (takeQ_good hb)⟩
theorem preQ_of {n : Nat} {q r : Q} (h : preQ n q) (ho : r.opn = q.opn) (hb : 0 ≤ q.bad → 0 ≤ r.bad) : preQ n r :=
  ⟨by rw [ho]; exact h.1, by rw [ho]; exact h.2.1, h.2.2.1, fun hr => by rw [ho]; exact h.2.2.2 (by rcases Int.lt_or_le q.bad 0 with h1 | h1; exact h1; have := hb h1; omega)⟩
theorem takeQ_lt {s : ByteArray} {q : Q} {c : Nat} (h : isQ s q c = true) (hc : 2 ≤ c) (hj : q.j ≤ s.size) : q.j < (takeQ s q).j := by
  obtain ⟨h1, h2⟩ := isQ_bad h
  unfold takeQ
  rw [if_neg (by omega), if_neg (by omega)]
  have hb := tk_bounds s q.j hj
  have := tk_lt s q.j (by intro e; have : qk s q = 1 := e; omega)
  show q.j < (tk s q.j).end_
  omega
/-- The new node over two trees, behind the stores into the local tree's block and two new blocks. -/
theorem node_two {w3 : World} {B C X4 d d3 : Nat} {tv : Value} {op : ByteArray} {c1 c2 : List Value} {l l3 : TM} {o1 : Obj} {v0 v1 v2 v3 v4 v5 : Value} (h1 : TRep d w3 (okT B w3 tv C) c1 l) (h2 : TRep d3 w3 (okT X4 w3 tv X4) c2 l3) (hX : B ≤ X4) (hC : C < X4) (c : Nat) (hop : (c = 12 ∨ c = 13) ∧ op.toList = opB c) (hr : ∀ k, w3.heap.size ≤ k → tv.ownBlock ≠ some k) (hB : B ≤ w3.heap.size + 1) (hCs : C < w3.heap.size) (W : World)
    (hW : W = (((((((w3.setCell ⟨C, 0, none⟩ v0).setCell ⟨C, 1, none⟩ v1).setCell ⟨C, 2, none⟩ v2).setCell ⟨C, 3, none⟩ v3).setCell ⟨C, 4, none⟩ v4).setCell ⟨C, 5, none⟩ v5).alloc o1).alloc (.cells (c1 ++ c2).toArray 146 (0, 0))) :
    TRep (max d d3 + 1) W (okT B W tv C) (trC op 0 0 0 0 (.slice (some ⟨w3.heap.size + 1, 0, none⟩) 2 2)) (TM.two c l l3) := by
  have hs : W.heap.size = w3.heap.size + 1 + 1 := by rw [hW, World.size_alloc, World.size_alloc, put6_size]
  have hk : ∀ g, g < w3.heap.size → g ≠ C → W.heap[g]? = w3.heap[g]? := by
    intro g hg hne
    rw [hW, Below.heap_alloc _ _ _ (by rw [World.size_alloc, put6_size]; omega), Below.heap_alloc _ _ _ (by rw [put6_size]; omega)]
    exact put6_other w3 C g hne _ _ _ _ _ _
  refine Or.inr (Or.inr (Or.inr ⟨c, op, w3.heap.size + 1, c1, c2, l, l3, hop, ⟨hB, by omega, hr _ (by omega), by omega⟩, ?_, rfl, ?_, ?_, rfl⟩))
  · rw [hW]; exact new_at (by rw [World.size_alloc, put6_size]) _
  · exact (h1.keep (fun g _ hg hne => hk g hg hne) (by omega) (Nat.le_refl _) (fun g _ _ hne => hne)).up (Nat.le_max_left _ _)
  · exact (h2.keep (fun g hg1 hg _ => hk g hg (by omega)) (by omega) hX (fun g hg1 _ _ => by omega)).up (Nat.le_max_right _ _)

set_option maxRecDepth 100000 in
set_option maxHeartbeats 4000000 in
theorem or_lev (n : Nat) (sub : Q → TM × Q) (w : World) (b : Nat) (s : ByteArray) (q : Q) (tv : Value) (h : QAt w b s q tv) (hpre : preQ n q)
    (HC : ∀ (wx : World) (tx : Value) (qx : Q), QAt wx b s qx tx → preQ n qx → Calls Tryz.prog 108 #[.pointer (some ⟨b, 0, none⟩), .int .i64 1] wx fun e w' => PostQ wx tx b s qx (sub qx) e w') :
    Calls Tryz.prog 108 #[.pointer (some ⟨b, 0, none⟩), .int .i64 0] w fun e w' => PostQ w tv b s q (levQ s 13 sub q) e w' := by
  have HCH : Hid (∀ (wx : World) (tx : Value) (qx : Q), QAt wx b s qx tx → preQ n qx → Calls Tryz.prog 108 #[.pointer (some ⟨b, 0, none⟩), .int .i64 1] wx fun e w' => PostQ wx tx b s qx (sub qx) e w') := HC
  have HPRE : Hid (preQ n q) := hpre
  clear HC hpre
  have hlt := heap_lt h.blk
  have hss := h.ssz
  have N0 := (N1.start h 146 #[.string ⟨#[]⟩, .int .i64 0, .int .i64 0, .int .i64 0, .int .i64 0, .slice none 0 0]).alloc (.cells #[.string ⟨#[111, 114]⟩, .string ⟨#[97, 110, 100]⟩] 9)
  go_enter Tryz.func108, Tryz.ntmps108
  go_wp2_with fail
  refine (HCH.out _ tv q N0.at_ HPRE.out).mono ?_
  rintro e w1 ⟨tv1, d1, cs1, rfl, hf1, hq1, ht1, ho1, hj1, hbd1⟩
  have N1a := N0.call hf1 hq1
  obtain ⟨op1, a1, bb1, nn1, at1, sa1, k1, c1, rfl⟩ := ht1.form
  have M0 := N1a.local (trC op1 a1 bb1 nn1 at1 (.slice sa1 k1 c1)).toArray
  have hsz1 := hf1.size
  simp only [World.size_alloc] at hsz1 ht1
  have hT1 : TRep d1 (w1.alloc (.cells (trC op1 a1 bb1 nn1 at1 (.slice sa1 k1 c1)).toArray 146)) (okT (w.heap.size + 1 + 1) (w1.alloc (.cells (trC op1 a1 bb1 nn1 at1 (.slice sa1 k1 c1)).toArray 146)) tv1 w1.heap.size) (trC op1 a1 bb1 nn1 at1 (.slice sa1 k1 c1)) (sub q).1 :=
    ht1.keep (fun g _ h2 _ => Below.heap_alloc _ _ _ h2) (by simp) (Nat.le_refl _) (fun g _ h2 _ => by omega)
  have HT1 : Hid (TRep _ _ _ _ _) := hT1
  have HO1 : Hid ((sub q).2.opn = q.opn ∧ q.j ≤ (sub q).2.j ∧ (0 ≤ q.bad → 0 ≤ (sub q).2.bad)) := ⟨ho1, hj1, hbd1⟩
  clear ht1 hT1 ho1 hj1 hbd1
  have hq1j := hq1.jsz
  unfold trC at M0 ⊢
  go_wp2_with fail
  refine (is_any _ b s _ _ M0.at_ 13 (by omega) (by omega) ⟨#[111, 114]⟩ rfl).mono ?_
  rintro e wx ⟨rfl, rfl⟩
  go_wp2_with fail
  go_loopg [7] (s.size + 1) (fun k v7 wr => ∃ (qr : Q) (tvr : Value) (op : ByteArray) (a bb nn at_ : Int) (sa : Option Addr) (kk cc : Nat) (l : TM) (d : Nat), M2 w tv wr b s qr tvr w.heap.size w1.heap.size 146 #[.string ⟨#[]⟩, .int .i64 0, .int .i64 0, .int .i64 0, .int .i64 0, .slice none 0 0] #[.string op, .int .i64 a, .int .i64 bb, .int .i64 nn, .int .i64 at_, .slice sa kk cc] ∧ Hid (TRep d wr (okT (w.heap.size + 1 + 1) wr tvr w1.heap.size) (trC op a bb nn at_ (.slice sa kk cc)) l) ∧ v7 = .bool (isQ s qr 13) ∧ s.size < qr.j + k ∧ Hid (loopQ s 13 sub k l qr = levQ s 13 sub q) ∧ Hid (qr.opn = q.opn ∧ q.j ≤ qr.j ∧ (0 ≤ q.bad → 0 ≤ qr.bad)))
  case atStart => exact ⟨_, tv1, op1, a1, bb1, nn1, at1, sa1, k1, c1, _, d1, M0, HT1, rfl, by omega, rfl, HO1⟩
  case round =>
    obtain ⟨qr, tvr, op, a, bb, nn, at_, sa, kk, cc, l, d, M1, HT, rfl, hkj, HSP, HOR⟩ := hrel
    have hrj := M1.at_.jsz
    obtain ⟨⟨a0, a1', a2, a3, a4, a5, af⟩, ⟨b0, b1, b2, b3, b4, b5, bf⟩⟩ := M1.get6
    have hRl := heap_lt M1.res
    have hCl := heap_lt M1.loc
    cases hI : isQ s qr 13
    · have HLV : Hid (levQ s 13 sub q = (l, qr)) := by show _ = _; rw [← HSP.out, loopQ_no s 13 sub gk l qr hI]
      clear hI
      go_wp2_with fail
      have LD := M1.done6 (.string op) (.int .i64 a) (.int .i64 bb) (.int .i64 nn) (.int .i64 at_) (.slice sa kk cc)
      obtain ⟨d0, d1', d2, d3, d4, d5, _⟩ := loc6 LD.res
      refine bodyPost_ret (v := .agg #[.string op, .int .i64 a, .int .i64 bb, .int .i64 nn, .int .i64 at_, .slice sa kk cc]) (by simp [results, Tryz.results108, go_sem, d0, d1', d2, d3, d4, d5]) rfl ⟨tvr, d, _, rfl, LD.fr, by rw [HLV.out]; exact LD.at_, ?_, by rw [HLV.out]; exact HOR.out.1, by rw [HLV.out]; exact HOR.out.2.1, by rw [HLV.out]; exact HOR.out.2.2⟩
      rw [HLV.out]
      exact HT.out.keep (fun g h1 h2 _ => put6_other _ w.heap.size g (by omega) _ _ _ _ _ _) (by rw [put6_size]; exact Nat.le_refl _) (by omega) (fun g h1 _ _ => by omega)
    · have HLY : Hid (levQ s 13 sub q = loopQ s 13 sub (gk - 1) (TM.two 13 l (sub (takeQ s qr)).1) (sub (takeQ s qr)).2) := by show _ = _; rw [← HSP.out, loopQ_yes s 13 sub gk l qr (by omega) hI]
      have hjl := takeQ_lt hI (by omega) hrj
      have HB : Hid (isQ s qr 13 = true) := hI
      clear hI
      go_wp2_with fail
      refine (rtake_any _ b s qr tvr M1.at_).mono ?_
      rintro e w2 ⟨rfl, tv2, hf2, hq2⟩
      have M2a := M1.call hf2 hq2
      have hT2 := HT.out.fr (b := b) (by omega) hf2
      have HT2 : Hid (TRep _ _ _ _ _) := hT2
      clear hT2
      go_wp2_with fail
      have hpr : preQ n (takeQ s qr) := preQ_take (preQ_of HPRE.out HOR.out.1 HOR.out.2.2) hrj
      have hto := takeQ_o s qr hrj
      have HTO : Hid (_ ∧ _) := hto
      refine (HCH.out _ tv2 _ M2a.at_ hpr).mono ?_
      clear hpr hto
      rintro e w3 ⟨tv3, d3, cs3, rfl, hf3, hq3, ht3, ho3, hj3, hbd3⟩
      obtain ⟨op3, a3', bb3, nn3, at3, sa3, k3, c3, rfl⟩ := ht3.form
      have M3 := M2a.call hf3 hq3
      have hT3 := HT2.out.fr (b := b) (by omega) hf3
      have HT3 : Hid (TRep _ _ _ _ _) := hT3
      have HT4 : Hid (TRep _ _ _ _ _) := ht3
      have HO3 : Hid ((sub (takeQ s qr)).2.opn = q.opn ∧ q.j ≤ (sub (takeQ s qr)).2.j ∧ (0 ≤ q.bad → 0 ≤ (sub (takeQ s qr)).2.bad)) := ⟨ho3.trans (HTO.out.1.trans HOR.out.1), Nat.le_trans HOR.out.2.1 (Nat.le_trans HTO.out.2.1 hj3), fun hb => hbd3 (takeQ_bad (HOR.out.2.2 hb))⟩
      clear hT3 ht3 ho3 hbd3
      clear a0 a1' a2 a3 a4 a5 af b0 b1 b2 b3 b4 b5 bf
      obtain ⟨⟨a0, a1', a2, a3, a4, a5, af⟩, ⟨b0, b1, b2, b3, b4, b5, bf⟩⟩ := M3.get6
      have hCl2 := heap_lt M2a.loc
      have hCl3 := heap_lt M3.loc
      have hRl3 := heap_lt M3.res
      have hsz3 := hf3.size
      have hq3j := hq3.jsz
      unfold trC
      go_wp2_with fail
      have M4 := ((M3.put6 (.string ⟨#[111, 114]⟩) (.int .i64 0) (.int .i64 0) (.int .i64 0) (.int .i64 0) (.slice (some ⟨w3.heap.size + 1, 0, none⟩) 2 2)).alloc (.cells #[.string op3, .int .i64 a3', .int .i64 bb3, .int .i64 nn3, .int .i64 at3, .slice sa3 k3 c3] 146)).alloc (.cells #[.string op, .int .i64 a, .int .i64 bb, .int .i64 nn, .int .i64 at_, .slice sa kk cc, .string op3, .int .i64 a3', .int .i64 bb3, .int .i64 nn3, .int .i64 at3, .slice sa3 k3 c3] 146)
      have HTN : Hid (TRep _ _ _ _ _) := node_two (op := ⟨#[111, 114]⟩) (o1 := .cells #[.string op3, .int .i64 a3', .int .i64 bb3, .int .i64 nn3, .int .i64 at3, .slice sa3 k3 c3] 146) (v0 := .string ⟨#[111, 114]⟩) (v1 := .int .i64 0) (v2 := .int .i64 0) (v3 := .int .i64 0) (v4 := .int .i64 0) (v5 := .slice (some ⟨w3.heap.size + 1, 0, none⟩) 2 2) HT3.out HT4.out (by omega) hCl2 13 ⟨Or.inr rfl, by simp [ByteArray.toList_eq, opB]⟩ (fun k hk => hq3.rowlt k hk) (by omega) hCl3 _ rfl
      refine (is_any _ b s _ _ M4.at_ 13 (by omega) (by omega) ⟨#[111, 114]⟩ rfl).mono ?_
      rintro e wx ⟨rfl, rfl⟩
      go_wp2_with fail
      go_roundg (gk - 1)
      case measure => omega
      case rel => exact ⟨_, tv3, ⟨#[111, 114]⟩, 0, 0, 0, 0, some ⟨w3.heap.size + 1, 0, none⟩, 2, 2, _, max d d3 + 1, M4, HTN, rfl, by omega, HLY.out.symm, HO3⟩

set_option maxRecDepth 100000 in
set_option maxHeartbeats 4000000 in
theorem and_lev (n : Nat) (sub : Q → TM × Q) (w : World) (b : Nat) (s : ByteArray) (q : Q) (tv : Value) (h : QAt w b s q tv) (hpre : preQ n q)
    (HC : ∀ (wx : World) (tx : Value) (qx : Q), QAt wx b s qx tx → preQ n qx → Calls Tryz.prog 108 #[.pointer (some ⟨b, 0, none⟩), .int .i64 2] wx fun e w' => PostQ wx tx b s qx (sub qx) e w') :
    Calls Tryz.prog 108 #[.pointer (some ⟨b, 0, none⟩), .int .i64 1] w fun e w' => PostQ w tv b s q (levQ s 12 sub q) e w' := by
  have HCH : Hid (∀ (wx : World) (tx : Value) (qx : Q), QAt wx b s qx tx → preQ n qx → Calls Tryz.prog 108 #[.pointer (some ⟨b, 0, none⟩), .int .i64 2] wx fun e w' => PostQ wx tx b s qx (sub qx) e w') := HC
  have HPRE : Hid (preQ n q) := hpre
  clear HC hpre
  have hlt := heap_lt h.blk
  have hss := h.ssz
  have N0 := (N1.start h 146 #[.string ⟨#[]⟩, .int .i64 0, .int .i64 0, .int .i64 0, .int .i64 0, .slice none 0 0]).alloc (.cells #[.string ⟨#[111, 114]⟩, .string ⟨#[97, 110, 100]⟩] 9)
  go_enter Tryz.func108, Tryz.ntmps108
  go_wp2_with fail
  refine (HCH.out _ tv q N0.at_ HPRE.out).mono ?_
  rintro e w1 ⟨tv1, d1, cs1, rfl, hf1, hq1, ht1, ho1, hj1, hbd1⟩
  have N1a := N0.call hf1 hq1
  obtain ⟨op1, a1, bb1, nn1, at1, sa1, k1, c1, rfl⟩ := ht1.form
  have M0 := N1a.local (trC op1 a1 bb1 nn1 at1 (.slice sa1 k1 c1)).toArray
  have hsz1 := hf1.size
  simp only [World.size_alloc] at hsz1 ht1
  have hT1 : TRep d1 (w1.alloc (.cells (trC op1 a1 bb1 nn1 at1 (.slice sa1 k1 c1)).toArray 146)) (okT (w.heap.size + 1 + 1) (w1.alloc (.cells (trC op1 a1 bb1 nn1 at1 (.slice sa1 k1 c1)).toArray 146)) tv1 w1.heap.size) (trC op1 a1 bb1 nn1 at1 (.slice sa1 k1 c1)) (sub q).1 :=
    ht1.keep (fun g _ h2 _ => Below.heap_alloc _ _ _ h2) (by simp) (Nat.le_refl _) (fun g _ h2 _ => by omega)
  have HT1 : Hid (TRep _ _ _ _ _) := hT1
  have HO1 : Hid ((sub q).2.opn = q.opn ∧ q.j ≤ (sub q).2.j ∧ (0 ≤ q.bad → 0 ≤ (sub q).2.bad)) := ⟨ho1, hj1, hbd1⟩
  clear ht1 hT1 ho1 hj1 hbd1
  have hq1j := hq1.jsz
  unfold trC at M0 ⊢
  go_wp2_with fail
  refine (is_any _ b s _ _ M0.at_ 12 (by omega) (by omega) ⟨#[97, 110, 100]⟩ rfl).mono ?_
  rintro e wx ⟨rfl, rfl⟩
  go_wp2_with fail
  go_loopg [7] (s.size + 1) (fun k v7 wr => ∃ (qr : Q) (tvr : Value) (op : ByteArray) (a bb nn at_ : Int) (sa : Option Addr) (kk cc : Nat) (l : TM) (d : Nat), M2 w tv wr b s qr tvr w.heap.size w1.heap.size 146 #[.string ⟨#[]⟩, .int .i64 0, .int .i64 0, .int .i64 0, .int .i64 0, .slice none 0 0] #[.string op, .int .i64 a, .int .i64 bb, .int .i64 nn, .int .i64 at_, .slice sa kk cc] ∧ Hid (TRep d wr (okT (w.heap.size + 1 + 1) wr tvr w1.heap.size) (trC op a bb nn at_ (.slice sa kk cc)) l) ∧ v7 = .bool (isQ s qr 12) ∧ s.size < qr.j + k ∧ Hid (loopQ s 12 sub k l qr = levQ s 12 sub q) ∧ Hid (qr.opn = q.opn ∧ q.j ≤ qr.j ∧ (0 ≤ q.bad → 0 ≤ qr.bad)))
  case atStart => exact ⟨_, tv1, op1, a1, bb1, nn1, at1, sa1, k1, c1, _, d1, M0, HT1, rfl, by omega, rfl, HO1⟩
  case round =>
    obtain ⟨qr, tvr, op, a, bb, nn, at_, sa, kk, cc, l, d, M1, HT, rfl, hkj, HSP, HOR⟩ := hrel
    have hrj := M1.at_.jsz
    obtain ⟨⟨a0, a1', a2, a3, a4, a5, af⟩, ⟨b0, b1, b2, b3, b4, b5, bf⟩⟩ := M1.get6
    have hRl := heap_lt M1.res
    have hCl := heap_lt M1.loc
    cases hI : isQ s qr 12
    · have HLV : Hid (levQ s 12 sub q = (l, qr)) := by show _ = _; rw [← HSP.out, loopQ_no s 12 sub gk l qr hI]
      clear hI
      go_wp2_with fail
      have LD := M1.done6 (.string op) (.int .i64 a) (.int .i64 bb) (.int .i64 nn) (.int .i64 at_) (.slice sa kk cc)
      obtain ⟨d0, d1', d2, d3, d4, d5, _⟩ := loc6 LD.res
      refine bodyPost_ret (v := .agg #[.string op, .int .i64 a, .int .i64 bb, .int .i64 nn, .int .i64 at_, .slice sa kk cc]) (by simp [results, Tryz.results108, go_sem, d0, d1', d2, d3, d4, d5]) rfl ⟨tvr, d, _, rfl, LD.fr, by rw [HLV.out]; exact LD.at_, ?_, by rw [HLV.out]; exact HOR.out.1, by rw [HLV.out]; exact HOR.out.2.1, by rw [HLV.out]; exact HOR.out.2.2⟩
      rw [HLV.out]
      exact HT.out.keep (fun g h1 h2 _ => put6_other _ w.heap.size g (by omega) _ _ _ _ _ _) (by rw [put6_size]; exact Nat.le_refl _) (by omega) (fun g h1 _ _ => by omega)
    · have HLY : Hid (levQ s 12 sub q = loopQ s 12 sub (gk - 1) (TM.two 12 l (sub (takeQ s qr)).1) (sub (takeQ s qr)).2) := by show _ = _; rw [← HSP.out, loopQ_yes s 12 sub gk l qr (by omega) hI]
      have hjl := takeQ_lt hI (by omega) hrj
      have HB : Hid (isQ s qr 12 = true) := hI
      clear hI
      go_wp2_with fail
      refine (rtake_any _ b s qr tvr M1.at_).mono ?_
      rintro e w2 ⟨rfl, tv2, hf2, hq2⟩
      have M2a := M1.call hf2 hq2
      have hT2 := HT.out.fr (b := b) (by omega) hf2
      have HT2 : Hid (TRep _ _ _ _ _) := hT2
      clear hT2
      go_wp2_with fail
      have hpr : preQ n (takeQ s qr) := preQ_take (preQ_of HPRE.out HOR.out.1 HOR.out.2.2) hrj
      have hto := takeQ_o s qr hrj
      have HTO : Hid (_ ∧ _) := hto
      refine (HCH.out _ tv2 _ M2a.at_ hpr).mono ?_
      clear hpr hto
      rintro e w3 ⟨tv3, d3, cs3, rfl, hf3, hq3, ht3, ho3, hj3, hbd3⟩
      obtain ⟨op3, a3', bb3, nn3, at3, sa3, k3, c3, rfl⟩ := ht3.form
      have M3 := M2a.call hf3 hq3
      have hT3 := HT2.out.fr (b := b) (by omega) hf3
      have HT3 : Hid (TRep _ _ _ _ _) := hT3
      have HT4 : Hid (TRep _ _ _ _ _) := ht3
      have HO3 : Hid ((sub (takeQ s qr)).2.opn = q.opn ∧ q.j ≤ (sub (takeQ s qr)).2.j ∧ (0 ≤ q.bad → 0 ≤ (sub (takeQ s qr)).2.bad)) := ⟨ho3.trans (HTO.out.1.trans HOR.out.1), Nat.le_trans HOR.out.2.1 (Nat.le_trans HTO.out.2.1 hj3), fun hb => hbd3 (takeQ_bad (HOR.out.2.2 hb))⟩
      clear hT3 ht3 ho3 hbd3
      clear a0 a1' a2 a3 a4 a5 af b0 b1 b2 b3 b4 b5 bf
      obtain ⟨⟨a0, a1', a2, a3, a4, a5, af⟩, ⟨b0, b1, b2, b3, b4, b5, bf⟩⟩ := M3.get6
      have hCl2 := heap_lt M2a.loc
      have hCl3 := heap_lt M3.loc
      have hRl3 := heap_lt M3.res
      have hsz3 := hf3.size
      have hq3j := hq3.jsz
      unfold trC
      go_wp2_with fail
      have M4 := ((M3.put6 (.string ⟨#[97, 110, 100]⟩) (.int .i64 0) (.int .i64 0) (.int .i64 0) (.int .i64 0) (.slice (some ⟨w3.heap.size + 1, 0, none⟩) 2 2)).alloc (.cells #[.string op3, .int .i64 a3', .int .i64 bb3, .int .i64 nn3, .int .i64 at3, .slice sa3 k3 c3] 146)).alloc (.cells #[.string op, .int .i64 a, .int .i64 bb, .int .i64 nn, .int .i64 at_, .slice sa kk cc, .string op3, .int .i64 a3', .int .i64 bb3, .int .i64 nn3, .int .i64 at3, .slice sa3 k3 c3] 146)
      have HTN : Hid (TRep _ _ _ _ _) := node_two (op := ⟨#[97, 110, 100]⟩) (o1 := .cells #[.string op3, .int .i64 a3', .int .i64 bb3, .int .i64 nn3, .int .i64 at3, .slice sa3 k3 c3] 146) (v0 := .string ⟨#[97, 110, 100]⟩) (v1 := .int .i64 0) (v2 := .int .i64 0) (v3 := .int .i64 0) (v4 := .int .i64 0) (v5 := .slice (some ⟨w3.heap.size + 1, 0, none⟩) 2 2) HT3.out HT4.out (by omega) hCl2 12 ⟨Or.inl rfl, by simp [ByteArray.toList_eq, opB]⟩ (fun k hk => hq3.rowlt k hk) (by omega) hCl3 _ rfl
      refine (is_any _ b s _ _ M4.at_ 12 (by omega) (by omega) ⟨#[97, 110, 100]⟩ rfl).mono ?_
      rintro e wx ⟨rfl, rfl⟩
      go_wp2_with fail
      go_roundg (gk - 1)
      case measure => omega
      case rel => exact ⟨_, tv3, ⟨#[97, 110, 100]⟩, 0, 0, 0, 0, some ⟨w3.heap.size + 1, 0, none⟩, 2, 2, _, max d d3 + 1, M4, HTN, rfl, by omega, HLY.out.symm, HO3⟩

end Go.Proofs.YtmpaeladhoomoaaGreatDoor
