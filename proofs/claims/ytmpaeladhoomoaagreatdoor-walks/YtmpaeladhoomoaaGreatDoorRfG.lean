/-
  The document's answer: a step.
-/
import Derived.Test.YtmpaeladhoomoaaGreatDoorRfF
namespace Go.Proofs.YtmpaeladhoomoaaGreatDoor
open Go.RowKit

/-- A reader of the document's in mid-call: block R is the result's, block C the local struct's. -/
structure M2 (w0 : World) (tv0 : Value) (w : World) (b : Nat) (s : ByteArray) (q : Q) (tv : Value) (R C : Nat) (t : TypeId) (rs cs : Array Value) : Prop where
  fr : FR b tv0 w0 tv w
  at_ : QAt w b s q tv
  res : w.heap[R]? = some (.cells rs t (0, 0))
  loc : w.heap[C]? = some (.cells cs t (0, 0))
  hR : w0.heap.size ≤ R
  hC : w0.heap.size ≤ C
  hb : b < w0.heap.size
  hne : R ≠ C
  nR : tv.ownBlock ≠ some R
  nC : tv.ownBlock ≠ some C
theorem M2.start {w : World} {b : Nat} {s : ByteArray} {q : Q} {tv : Value} (h : QAt w b s q tv) (t : TypeId) (rs cs : Array Value) : M2 w tv ((w.alloc (.cells rs t (0, 0))).alloc (.cells cs t (0, 0))) b s q tv w.heap.size (w.heap.size + 1) t rs cs :=
  ⟨((FR.refl _ _ _).alloc _).alloc _, (h.alloc _).alloc _, heap_alloc_at (heap_alloc_new w _) _, new_at (by simp) _, Nat.le_refl _, Nat.le_succ _, heap_lt h.blk, by omega, h.rowlt _ (Nat.le_refl _), h.rowlt _ (Nat.le_succ _)⟩
theorem M2.call {w0 w w' : World} {tv0 tv tv' : Value} {b : Nat} {s : ByteArray} {q q' : Q} {R C : Nat} {t : TypeId} {rs cs : Array Value} (l : M2 w0 tv0 w b s q tv R C t rs cs) (hf : FR b tv w tv' w') (hq : QAt w' b s q' tv') : M2 w0 tv0 w' b s q' tv' R C t rs cs :=
  ⟨l.fr.trans hf, hq, hf.heap l.res (by have := l.hb; have := l.hR; omega) l.nR, hf.heap l.loc (by have := l.hb; have := l.hC; omega) l.nC, l.hR, l.hC, l.hb, l.hne, hf.apart (heap_lt l.res) l.nR, hf.apart (heap_lt l.loc) l.nC⟩
theorem FR.putN {b : Nat} {tv tv' : Value} {w w' : World} {R : Nat} (h : FR b tv w tv' w') (hR : w.heap.size ≤ R) (o : Nat) (v : Value) : FR b tv w tv' (w'.setCell ⟨R, o, none⟩ v) :=
  ⟨h.os, h.tape, h.output, by simpa [World.setCell] using h.size, fun k hk hb ht => by rw [Below.heap_setCell _ _ _ _ (by simp; omega)]; exact h.block k hk hb ht, h.row⟩
theorem M2.put' {w0 w : World} {tv0 tv : Value} {b : Nat} {s : ByteArray} {q : Q} {R C : Nat} {t : TypeId} {rs cs : Array Value} (l : M2 w0 tv0 w b s q tv R C t rs cs) (o : Nat) (v : Value) (cs' : Array Value) (hc : cs.setIfInBounds o v = cs') : M2 w0 tv0 (w.setCell ⟨C, o, none⟩ v) b s q tv R C t rs cs' :=
  ⟨l.fr.putN l.hC o v, l.at_.other _ _ (by simp; have := l.hb; have := l.hC; omega) l.nC, heap_set_ne l.res _ _ (by simpa using l.hne), heap_set' l.loc o v cs' hc, l.hR, l.hC, l.hb, l.hne, l.nR, l.nC⟩
theorem M2.ret {w0 w : World} {tv0 tv : Value} {b : Nat} {s : ByteArray} {q : Q} {R C : Nat} {t : TypeId} {rs cs : Array Value} (l : M2 w0 tv0 w b s q tv R C t rs cs) (o : Nat) (v : Value) (rs' : Array Value) (hc : rs.setIfInBounds o v = rs') : M2 w0 tv0 (w.setCell ⟨R, o, none⟩ v) b s q tv R C t rs' cs :=
  ⟨l.fr.putN l.hR o v, l.at_.other _ _ (by simp; have := l.hb; have := l.hR; omega) l.nR, heap_set' l.res o v rs' hc, heap_set_ne l.loc _ _ (by simpa using l.hne.symm), l.hR, l.hC, l.hb, l.hne, l.nR, l.nC⟩
theorem M2.get6 {w0 w : World} {tv0 tv : Value} {b : Nat} {s : ByteArray} {q : Q} {R C : Nat} {t : TypeId} {r0 r1 r2 r3 r4 r5 a0 a1 a2 a3 a4 a5 : Value} (l : M2 w0 tv0 w b s q tv R C t #[r0, r1, r2, r3, r4, r5] #[a0, a1, a2, a3, a4, a5]) :
    (w.cell? ⟨C, 0, none⟩ = some a0 ∧ w.cell? ⟨C, 1, none⟩ = some a1 ∧ w.cell? ⟨C, 2, none⟩ = some a2 ∧ w.cell? ⟨C, 3, none⟩ = some a3 ∧ w.cell? ⟨C, 4, none⟩ = some a4 ∧ w.cell? ⟨C, 5, none⟩ = some a5 ∧ (∀ o, w.frozen? ⟨C, o, none⟩ = false)) ∧
    (w.cell? ⟨R, 0, none⟩ = some r0 ∧ w.cell? ⟨R, 1, none⟩ = some r1 ∧ w.cell? ⟨R, 2, none⟩ = some r2 ∧ w.cell? ⟨R, 3, none⟩ = some r3 ∧ w.cell? ⟨R, 4, none⟩ = some r4 ∧ w.cell? ⟨R, 5, none⟩ = some r5 ∧ (∀ o, w.frozen? ⟨R, o, none⟩ = false)) :=
  ⟨loc6 l.loc, loc6 l.res⟩
theorem M2.done6 {w0 w : World} {tv0 tv : Value} {b : Nat} {s : ByteArray} {q : Q} {R C : Nat} {t : TypeId} {r0 r1 r2 r3 r4 r5 : Value} {cs : Array Value} (l : M2 w0 tv0 w b s q tv R C t #[r0, r1, r2, r3, r4, r5] cs) (v0 v1 v2 v3 v4 v5 : Value) :
    M2 w0 tv0 ((((((w.setCell ⟨R, 0, none⟩ v0).setCell ⟨R, 1, none⟩ v1).setCell ⟨R, 2, none⟩ v2).setCell ⟨R, 3, none⟩ v3).setCell ⟨R, 4, none⟩ v4).setCell ⟨R, 5, none⟩ v5) b s q tv R C t #[v0, v1, v2, v3, v4, v5] cs :=
  (((((l.ret 0 v0 #[v0, r1, r2, r3, r4, r5] rfl).ret 1 v1 #[v0, v1, r2, r3, r4, r5] rfl).ret 2 v2 #[v0, v1, v2, r3, r4, r5] rfl).ret 3 v3 #[v0, v1, v2, v3, r4, r5] rfl).ret 4 v4 #[v0, v1, v2, v3, v4, r5] rfl).ret 5 v5 _ rfl

/-- A step as the document lays it. -/
structure RSt where
  kind : Nat
  reg : Nat
  place : Nat
  n : Nat
  skip : Nat
  at_ : Nat
def rsV (x : RSt) : Value := .agg #[.int .u8 (x.kind : Nat), .int .i64 (x.reg : Nat), .int .i64 (x.place : Nat), .int .i64 (x.n : Nat), .int .i64 (x.skip : Nat), .int .i64 (x.at_ : Nat)]
def stepQ (s : ByteArray) (q : Q) : RSt × Q :=
  if qk s q = 2 then
    if qk s (needQ s (kindQ s q 2) 15) = 3 then (⟨83, valQ s (needQ s (kindQ s q 2) 15) 3, valQ s q 2, 0, 0, 0⟩, needQ s (kindQ s (needQ s (kindQ s q 2) 15) 3) 18)
    else (⟨115, 0, valQ s q 2, valQ s (needQ s (kindQ s q 2) 15) 4, 0, 0⟩, needQ s (kindQ s (needQ s (kindQ s q 2) 15) 4) 18)
  else if qk s q = 3 then
    if qk s (needQ s (kindQ s q 3) 15) = 2 then (⟨108, valQ s q 3, valQ s (needQ s (kindQ s q 3) 15) 2, 0, 0, 0⟩, needQ s (kindQ s (needQ s (kindQ s q 3) 15) 2) 18)
    else if isQ s (needQ s (kindQ s q 3) 15) 7 = true then (⟨120, valQ s q 3, valQ s (takeQ s (needQ s (kindQ s q 3) 15)) 2, valQ s (kindQ s (takeQ s (needQ s (kindQ s q 3) 15)) 2) 4, 0, 0⟩, needQ s (kindQ s (kindQ s (takeQ s (needQ s (kindQ s q 3) 15)) 2) 4) 18)
    else (⟨107, valQ s q 3, 0, valQ s (needQ s (kindQ s q 3) 15) 4, 0, 0⟩, needQ s (kindQ s (needQ s (kindQ s q 3) 15) 4) 18)
  else if isQ s q 6 = true then (⟨102, 0, 0, 0, 0, 0⟩, needQ s (takeQ s q) 18)
  else (⟨106, valQ s (needQ s q 8) 3, 0, valQ s (needQ s (kindQ s (needQ s q 8) 3) 16) 4, valQ s (needQ s (kindQ s (needQ s (kindQ s (needQ s q 8) 3) 16) 4) 9) 4, qa s (needQ s (kindQ s (needQ s (kindQ s (needQ s q 8) 3) 16) 4) 9)⟩,
    needQ s (kindQ s (needQ s (kindQ s (needQ s (kindQ s (needQ s q 8) 3) 16) 4) 9) 4) 18)
theorem stepQ_A1 (s : ByteArray) (q : Q) (h2 : qk s q = 2) (h3 : qk s (needQ s (kindQ s q 2) 15) = 3) : stepQ s q = (⟨83, valQ s (needQ s (kindQ s q 2) 15) 3, valQ s q 2, 0, 0, 0⟩, needQ s (kindQ s (needQ s (kindQ s q 2) 15) 3) 18) := by unfold stepQ; rw [if_pos h2, if_pos h3]
theorem stepQ_A2 (s : ByteArray) (q : Q) (h2 : qk s q = 2) (h3 : ¬ qk s (needQ s (kindQ s q 2) 15) = 3) : stepQ s q = (⟨115, 0, valQ s q 2, valQ s (needQ s (kindQ s q 2) 15) 4, 0, 0⟩, needQ s (kindQ s (needQ s (kindQ s q 2) 15) 4) 18) := by unfold stepQ; rw [if_pos h2, if_neg h3]
theorem stepQ_B1 (s : ByteArray) (q : Q) (h2 : ¬ qk s q = 2) (h3 : qk s q = 3) (h4 : qk s (needQ s (kindQ s q 3) 15) = 2) : stepQ s q = (⟨108, valQ s q 3, valQ s (needQ s (kindQ s q 3) 15) 2, 0, 0, 0⟩, needQ s (kindQ s (needQ s (kindQ s q 3) 15) 2) 18) := by unfold stepQ; rw [if_neg h2, if_pos h3, if_pos h4]
theorem stepQ_B2 (s : ByteArray) (q : Q) (h2 : ¬ qk s q = 2) (h3 : qk s q = 3) (h4 : ¬ qk s (needQ s (kindQ s q 3) 15) = 2) (h5 : isQ s (needQ s (kindQ s q 3) 15) 7 = true) : stepQ s q = (⟨120, valQ s q 3, valQ s (takeQ s (needQ s (kindQ s q 3) 15)) 2, valQ s (kindQ s (takeQ s (needQ s (kindQ s q 3) 15)) 2) 4, 0, 0⟩, needQ s (kindQ s (kindQ s (takeQ s (needQ s (kindQ s q 3) 15)) 2) 4) 18) := by unfold stepQ; rw [if_neg h2, if_pos h3, if_neg h4, if_pos h5]
theorem stepQ_B3 (s : ByteArray) (q : Q) (h2 : ¬ qk s q = 2) (h3 : qk s q = 3) (h4 : ¬ qk s (needQ s (kindQ s q 3) 15) = 2) (h5 : isQ s (needQ s (kindQ s q 3) 15) 7 = false) : stepQ s q = (⟨107, valQ s q 3, 0, valQ s (needQ s (kindQ s q 3) 15) 4, 0, 0⟩, needQ s (kindQ s (needQ s (kindQ s q 3) 15) 4) 18) := by unfold stepQ; rw [if_neg h2, if_pos h3, if_neg h4, if_neg (by rw [h5]; simp)]
theorem stepQ_C1 (s : ByteArray) (q : Q) (h2 : ¬ qk s q = 2) (h3 : ¬ qk s q = 3) (h4 : isQ s q 6 = true) : stepQ s q = (⟨102, 0, 0, 0, 0, 0⟩, needQ s (takeQ s q) 18) := by unfold stepQ; rw [if_neg h2, if_neg h3, if_pos h4]
theorem stepQ_C2 (s : ByteArray) (q : Q) (h2 : ¬ qk s q = 2) (h3 : ¬ qk s q = 3) (h4 : isQ s q 6 = false) : stepQ s q = (⟨106, valQ s (needQ s q 8) 3, 0, valQ s (needQ s (kindQ s (needQ s q 8) 3) 16) 4, valQ s (needQ s (kindQ s (needQ s (kindQ s (needQ s q 8) 3) 16) 4) 9) 4, qa s (needQ s (kindQ s (needQ s (kindQ s (needQ s q 8) 3) 16) 4) 9)⟩,
    needQ s (kindQ s (needQ s (kindQ s (needQ s (kindQ s (needQ s q 8) 3) 16) 4) 9) 4) 18) := by unfold stepQ; rw [if_neg h2, if_neg h3, if_neg (by rw [h4]; simp)]
theorem rkind_eq {k c : Nat} (hk : k ≤ 20) (hc : c = 2 ∨ c = 3 ∨ c = 4) : ((rkind k : Int) == (rkind c : Int)) = decide (k = c) := by
  have := rkind_iff hk hc
  rw [bne] at this
  cases h : decide (k = c) <;> rw [h] at this <;> simpa using this

set_option maxRecDepth 100000 in
set_option maxHeartbeats 4000000 in
theorem rstep_any (w : World) (b : Nat) (s : ByteArray) (q : Q) (tv : Value) (h : QAt w b s q tv) :
    Calls Tryz.prog 104 #[.pointer (some ⟨b, 0, none⟩)] w fun e w' => e = .returned (rsV (stepQ s q).1) ∧ ∃ tv', FR b tv w tv' w' ∧ QAt w' b s (stepQ s q).2 tv' := by
  have L0 := M2.start h 209 #[.int .u8 0, .int .i64 0, .int .i64 0, .int .i64 0, .int .i64 0, .int .i64 0] #[.int .u8 0, .int .i64 0, .int .i64 0, .int .i64 0, .int .i64 0, .int .i64 0]
  obtain ⟨c0, c1, c2, c3, c4, c5, c6, c7, hf, _⟩ := h.get
  by_cases hk2 : (tk s q.j).kind = 2
  · skip
    have k2 : ((rkind (tk s q.j).kind : Int) == 112) = true := by rw [show ((112 : Int)) = ((rkind 2 : Nat) : Int) from rfl, rkind_eq (tk_le s q.j).1 (by omega)]; simpa using hk2
    go_enter Tryz.func104, Tryz.ntmps104
    go_wp2_with fail
    clear c0 c1 c2 c3 c4 c5 c6 c7 hf
    refine (kindP_any _ b s q _ L0.at_).mono ?_
    rintro e w1 ⟨rfl, tv1, hf1, hq1⟩
    have L1 := L0.call hf1 hq1
    obtain ⟨⟨a0, a1, a2, a3, a4, a5, af⟩, ⟨b0, b1, b2, b3, b4, b5, bf⟩⟩ := L1.get6
    obtain ⟨c0, c1, c2, c3, c4, c5, c6, c7, hf, _⟩ := L1.at_.get
    go_wp2_with fail
    have L1p2 := L1.put' 2 (.int .i64 (valQ s q 2 : Nat)) #[.int .u8 0, .int .i64 0, .int .i64 (valQ s q 2 : Nat), .int .i64 0, .int .i64 0, .int .i64 0] rfl
    refine (need_any _ b s (kindQ s q 2) _ L1p2.at_ 15 (by omega) (by omega) ⟨#[58, 61]⟩ rfl).mono ?_
    rintro e w2 ⟨rfl, tv2, hf2, hq2⟩
    have L2 := L1p2.call hf2 hq2
    clear a0 a1 a2 a3 a4 a5 af b0 b1 b2 b3 b4 b5 bf c0 c1 c2 c3 c4 c5 c6 c7 hf
    obtain ⟨⟨a0, a1, a2, a3, a4, a5, af⟩, ⟨b0, b1, b2, b3, b4, b5, bf⟩⟩ := L2.get6
    obtain ⟨c0, c1, c2, c3, c4, c5, c6, c7, hf, _⟩ := L2.at_.get
    by_cases hm3 : (tk s (needQ s (kindQ s q 2) 15).j).kind = 3
    · skip
      have m3 : ((rkind (tk s (needQ s (kindQ s q 2) 15).j).kind : Int) == 114) = true := by rw [show ((114 : Int)) = ((rkind 3 : Nat) : Int) from rfl, rkind_eq (tk_le s (needQ s (kindQ s q 2) 15).j).1 (by omega)]; simpa using hm3
      have HS0 := stepQ_A1 s q hk2 hm3
      have HS : Hid (_ = _) := HS0
      clear HS0
      clear hm3
      go_wp2_with fail
      have L2p0 := L2.put' 0 (.int .u8 83) #[.int .u8 83, .int .i64 0, .int .i64 (valQ s q 2 : Nat), .int .i64 0, .int .i64 0, .int .i64 0] rfl
      refine (kindR_any _ b s (needQ s (kindQ s q 2) 15) _ L2p0.at_).mono ?_
      rintro e w3 ⟨rfl, tv3, hf3, hq3⟩
      have L3 := L2p0.call hf3 hq3
      clear a0 a1 a2 a3 a4 a5 af b0 b1 b2 b3 b4 b5 bf c0 c1 c2 c3 c4 c5 c6 c7 hf
      obtain ⟨⟨a0, a1, a2, a3, a4, a5, af⟩, ⟨b0, b1, b2, b3, b4, b5, bf⟩⟩ := L3.get6
      obtain ⟨c0, c1, c2, c3, c4, c5, c6, c7, hf, _⟩ := L3.at_.get
      go_wp2_with fail
      have L3p1 := L3.put' 1 (.int .i64 (valQ s (needQ s (kindQ s q 2) 15) 3 : Nat)) #[.int .u8 83, .int .i64 (valQ s (needQ s (kindQ s q 2) 15) 3 : Nat), .int .i64 (valQ s q 2 : Nat), .int .i64 0, .int .i64 0, .int .i64 0] rfl
      refine (need_any _ b s (kindQ s (needQ s (kindQ s q 2) 15) 3) _ L3p1.at_ 18 (by omega) (by omega) ⟨#[59]⟩ rfl).mono ?_
      rintro e w4 ⟨rfl, tv4, hf4, hq4⟩
      have L4 := L3p1.call hf4 hq4
      clear a0 a1 a2 a3 a4 a5 af b0 b1 b2 b3 b4 b5 bf c0 c1 c2 c3 c4 c5 c6 c7 hf
      obtain ⟨⟨a0, a1, a2, a3, a4, a5, af⟩, ⟨b0, b1, b2, b3, b4, b5, bf⟩⟩ := L4.get6
      obtain ⟨c0, c1, c2, c3, c4, c5, c6, c7, hf, _⟩ := L4.at_.get
      go_wp2_with fail
      have LD := L4.done6 (.int .u8 83) (.int .i64 (valQ s (needQ s (kindQ s q 2) 15) 3 : Nat)) (.int .i64 (valQ s q 2 : Nat)) (.int .i64 0) (.int .i64 0) (.int .i64 0)
      obtain ⟨d0, d1, d2, d3, d4, d5, _⟩ := loc6 LD.res
      exact bodyPost_ret (v := .agg #[.int .u8 83, .int .i64 (valQ s (needQ s (kindQ s q 2) 15) 3 : Nat), .int .i64 (valQ s q 2 : Nat), .int .i64 0, .int .i64 0, .int .i64 0]) (by simp [results, Tryz.results104, go_sem, d0, d1, d2, d3, d4, d5]) rfl ⟨by rw [HS.out]; rfl, _, LD.fr, by rw [HS.out]; exact LD.at_⟩
    · skip
      have m3 : ((rkind (tk s (needQ s (kindQ s q 2) 15).j).kind : Int) == 114) = false := by rw [show ((114 : Int)) = ((rkind 3 : Nat) : Int) from rfl, rkind_eq (tk_le s (needQ s (kindQ s q 2) 15).j).1 (by omega)]; simpa using hm3
      have HS0 := stepQ_A2 s q hk2 hm3
      have HS : Hid (_ = _) := HS0
      clear HS0
      clear hm3
      go_wp2_with fail
      have L2p0 := L2.put' 0 (.int .u8 115) #[.int .u8 115, .int .i64 0, .int .i64 (valQ s q 2 : Nat), .int .i64 0, .int .i64 0, .int .i64 0] rfl
      refine (kindD_any _ b s (needQ s (kindQ s q 2) 15) _ L2p0.at_).mono ?_
      rintro e w3 ⟨rfl, tv3, hf3, hq3⟩
      have L3 := L2p0.call hf3 hq3
      clear a0 a1 a2 a3 a4 a5 af b0 b1 b2 b3 b4 b5 bf c0 c1 c2 c3 c4 c5 c6 c7 hf
      obtain ⟨⟨a0, a1, a2, a3, a4, a5, af⟩, ⟨b0, b1, b2, b3, b4, b5, bf⟩⟩ := L3.get6
      obtain ⟨c0, c1, c2, c3, c4, c5, c6, c7, hf, _⟩ := L3.at_.get
      go_wp2_with fail
      have L3p3 := L3.put' 3 (.int .i64 (valQ s (needQ s (kindQ s q 2) 15) 4 : Nat)) #[.int .u8 115, .int .i64 0, .int .i64 (valQ s q 2 : Nat), .int .i64 (valQ s (needQ s (kindQ s q 2) 15) 4 : Nat), .int .i64 0, .int .i64 0] rfl
      refine (need_any _ b s (kindQ s (needQ s (kindQ s q 2) 15) 4) _ L3p3.at_ 18 (by omega) (by omega) ⟨#[59]⟩ rfl).mono ?_
      rintro e w4 ⟨rfl, tv4, hf4, hq4⟩
      have L4 := L3p3.call hf4 hq4
      clear a0 a1 a2 a3 a4 a5 af b0 b1 b2 b3 b4 b5 bf c0 c1 c2 c3 c4 c5 c6 c7 hf
      obtain ⟨⟨a0, a1, a2, a3, a4, a5, af⟩, ⟨b0, b1, b2, b3, b4, b5, bf⟩⟩ := L4.get6
      obtain ⟨c0, c1, c2, c3, c4, c5, c6, c7, hf, _⟩ := L4.at_.get
      go_wp2_with fail
      have LD := L4.done6 (.int .u8 115) (.int .i64 0) (.int .i64 (valQ s q 2 : Nat)) (.int .i64 (valQ s (needQ s (kindQ s q 2) 15) 4 : Nat)) (.int .i64 0) (.int .i64 0)
      obtain ⟨d0, d1, d2, d3, d4, d5, _⟩ := loc6 LD.res
      exact bodyPost_ret (v := .agg #[.int .u8 115, .int .i64 0, .int .i64 (valQ s q 2 : Nat), .int .i64 (valQ s (needQ s (kindQ s q 2) 15) 4 : Nat), .int .i64 0, .int .i64 0]) (by simp [results, Tryz.results104, go_sem, d0, d1, d2, d3, d4, d5]) rfl ⟨by rw [HS.out]; rfl, _, LD.fr, by rw [HS.out]; exact LD.at_⟩
  have k2 : ((rkind (tk s q.j).kind : Int) == 112) = false := by rw [show ((112 : Int)) = ((rkind 2 : Nat) : Int) from rfl, rkind_eq (tk_le s q.j).1 (by omega)]; simpa using hk2
  by_cases hk3 : (tk s q.j).kind = 3
  · skip
    have k3 : ((rkind (tk s q.j).kind : Int) == 114) = true := by rw [show ((114 : Int)) = ((rkind 3 : Nat) : Int) from rfl, rkind_eq (tk_le s q.j).1 (by omega)]; simpa using hk3
    go_enter Tryz.func104, Tryz.ntmps104
    go_wp2_with fail
    clear c0 c1 c2 c3 c4 c5 c6 c7 hf
    refine (kindR_any _ b s q _ L0.at_).mono ?_
    rintro e w1 ⟨rfl, tv1, hf1, hq1⟩
    have L1 := L0.call hf1 hq1
    obtain ⟨⟨a0, a1, a2, a3, a4, a5, af⟩, ⟨b0, b1, b2, b3, b4, b5, bf⟩⟩ := L1.get6
    obtain ⟨c0, c1, c2, c3, c4, c5, c6, c7, hf, _⟩ := L1.at_.get
    go_wp2_with fail
    have L1p1 := L1.put' 1 (.int .i64 (valQ s q 3 : Nat)) #[.int .u8 0, .int .i64 (valQ s q 3 : Nat), .int .i64 0, .int .i64 0, .int .i64 0, .int .i64 0] rfl
    refine (need_any _ b s (kindQ s q 3) _ L1p1.at_ 15 (by omega) (by omega) ⟨#[58, 61]⟩ rfl).mono ?_
    rintro e w2 ⟨rfl, tv2, hf2, hq2⟩
    have L2 := L1p1.call hf2 hq2
    clear a0 a1 a2 a3 a4 a5 af b0 b1 b2 b3 b4 b5 bf c0 c1 c2 c3 c4 c5 c6 c7 hf
    obtain ⟨⟨a0, a1, a2, a3, a4, a5, af⟩, ⟨b0, b1, b2, b3, b4, b5, bf⟩⟩ := L2.get6
    obtain ⟨c0, c1, c2, c3, c4, c5, c6, c7, hf, _⟩ := L2.at_.get
    go_wp2_with fail
    refine (is_any _ b s (needQ s (kindQ s q 3) 15) _ L2.at_ 7 (by omega) (by omega) ⟨#[115, 119, 97, 112]⟩ rfl).mono ?_
    rintro e w3 ⟨rfl, rfl⟩
    by_cases hm2 : (tk s (needQ s (kindQ s q 3) 15).j).kind = 2
    · skip
      have m2 : ((rkind (tk s (needQ s (kindQ s q 3) 15).j).kind : Int) == 112) = true := by rw [show ((112 : Int)) = ((rkind 2 : Nat) : Int) from rfl, rkind_eq (tk_le s (needQ s (kindQ s q 3) 15).j).1 (by omega)]; simpa using hm2
      have HS0 := stepQ_B1 s q hk2 hk3 hm2
      have HS : Hid (_ = _) := HS0
      clear HS0
      clear hm2
      go_wp2_with fail
      have L2p0 := L2.put' 0 (.int .u8 108) #[.int .u8 108, .int .i64 (valQ s q 3 : Nat), .int .i64 0, .int .i64 0, .int .i64 0, .int .i64 0] rfl
      refine (kindP_any _ b s (needQ s (kindQ s q 3) 15) _ L2p0.at_).mono ?_
      rintro e w4 ⟨rfl, tv4, hf4, hq4⟩
      have L4 := L2p0.call hf4 hq4
      clear a0 a1 a2 a3 a4 a5 af b0 b1 b2 b3 b4 b5 bf c0 c1 c2 c3 c4 c5 c6 c7 hf
      obtain ⟨⟨a0, a1, a2, a3, a4, a5, af⟩, ⟨b0, b1, b2, b3, b4, b5, bf⟩⟩ := L4.get6
      obtain ⟨c0, c1, c2, c3, c4, c5, c6, c7, hf, _⟩ := L4.at_.get
      go_wp2_with fail
      have L4p2 := L4.put' 2 (.int .i64 (valQ s (needQ s (kindQ s q 3) 15) 2 : Nat)) #[.int .u8 108, .int .i64 (valQ s q 3 : Nat), .int .i64 (valQ s (needQ s (kindQ s q 3) 15) 2 : Nat), .int .i64 0, .int .i64 0, .int .i64 0] rfl
      refine (need_any _ b s (kindQ s (needQ s (kindQ s q 3) 15) 2) _ L4p2.at_ 18 (by omega) (by omega) ⟨#[59]⟩ rfl).mono ?_
      rintro e w5 ⟨rfl, tv5, hf5, hq5⟩
      have L5 := L4p2.call hf5 hq5
      clear a0 a1 a2 a3 a4 a5 af b0 b1 b2 b3 b4 b5 bf c0 c1 c2 c3 c4 c5 c6 c7 hf
      obtain ⟨⟨a0, a1, a2, a3, a4, a5, af⟩, ⟨b0, b1, b2, b3, b4, b5, bf⟩⟩ := L5.get6
      obtain ⟨c0, c1, c2, c3, c4, c5, c6, c7, hf, _⟩ := L5.at_.get
      go_wp2_with fail
      have LD := L5.done6 (.int .u8 108) (.int .i64 (valQ s q 3 : Nat)) (.int .i64 (valQ s (needQ s (kindQ s q 3) 15) 2 : Nat)) (.int .i64 0) (.int .i64 0) (.int .i64 0)
      obtain ⟨d0, d1, d2, d3, d4, d5, _⟩ := loc6 LD.res
      exact bodyPost_ret (v := .agg #[.int .u8 108, .int .i64 (valQ s q 3 : Nat), .int .i64 (valQ s (needQ s (kindQ s q 3) 15) 2 : Nat), .int .i64 0, .int .i64 0, .int .i64 0]) (by simp [results, Tryz.results104, go_sem, d0, d1, d2, d3, d4, d5]) rfl ⟨by rw [HS.out]; rfl, _, LD.fr, by rw [HS.out]; exact LD.at_⟩
    · skip
      have m2 : ((rkind (tk s (needQ s (kindQ s q 3) 15).j).kind : Int) == 112) = false := by rw [show ((112 : Int)) = ((rkind 2 : Nat) : Int) from rfl, rkind_eq (tk_le s (needQ s (kindQ s q 3) 15).j).1 (by omega)]; simpa using hm2
      cases h7 : isQ s (needQ s (kindQ s q 3) 15) 7
      · skip
        have HS0 := stepQ_B3 s q hk2 hk3 hm2 h7
        have HS : Hid (_ = _) := HS0
        clear HS0
        clear hm2 h7
        go_wp2_with fail
        have L2p0 := L2.put' 0 (.int .u8 107) #[.int .u8 107, .int .i64 (valQ s q 3 : Nat), .int .i64 0, .int .i64 0, .int .i64 0, .int .i64 0] rfl
        refine (kindD_any _ b s (needQ s (kindQ s q 3) 15) _ L2p0.at_).mono ?_
        rintro e w4 ⟨rfl, tv4, hf4, hq4⟩
        have L4 := L2p0.call hf4 hq4
        clear a0 a1 a2 a3 a4 a5 af b0 b1 b2 b3 b4 b5 bf c0 c1 c2 c3 c4 c5 c6 c7 hf
        obtain ⟨⟨a0, a1, a2, a3, a4, a5, af⟩, ⟨b0, b1, b2, b3, b4, b5, bf⟩⟩ := L4.get6
        obtain ⟨c0, c1, c2, c3, c4, c5, c6, c7, hf, _⟩ := L4.at_.get
        go_wp2_with fail
        have L4p3 := L4.put' 3 (.int .i64 (valQ s (needQ s (kindQ s q 3) 15) 4 : Nat)) #[.int .u8 107, .int .i64 (valQ s q 3 : Nat), .int .i64 0, .int .i64 (valQ s (needQ s (kindQ s q 3) 15) 4 : Nat), .int .i64 0, .int .i64 0] rfl
        refine (need_any _ b s (kindQ s (needQ s (kindQ s q 3) 15) 4) _ L4p3.at_ 18 (by omega) (by omega) ⟨#[59]⟩ rfl).mono ?_
        rintro e w5 ⟨rfl, tv5, hf5, hq5⟩
        have L5 := L4p3.call hf5 hq5
        clear a0 a1 a2 a3 a4 a5 af b0 b1 b2 b3 b4 b5 bf c0 c1 c2 c3 c4 c5 c6 c7 hf
        obtain ⟨⟨a0, a1, a2, a3, a4, a5, af⟩, ⟨b0, b1, b2, b3, b4, b5, bf⟩⟩ := L5.get6
        obtain ⟨c0, c1, c2, c3, c4, c5, c6, c7, hf, _⟩ := L5.at_.get
        go_wp2_with fail
        have LD := L5.done6 (.int .u8 107) (.int .i64 (valQ s q 3 : Nat)) (.int .i64 0) (.int .i64 (valQ s (needQ s (kindQ s q 3) 15) 4 : Nat)) (.int .i64 0) (.int .i64 0)
        obtain ⟨d0, d1, d2, d3, d4, d5, _⟩ := loc6 LD.res
        exact bodyPost_ret (v := .agg #[.int .u8 107, .int .i64 (valQ s q 3 : Nat), .int .i64 0, .int .i64 (valQ s (needQ s (kindQ s q 3) 15) 4 : Nat), .int .i64 0, .int .i64 0]) (by simp [results, Tryz.results104, go_sem, d0, d1, d2, d3, d4, d5]) rfl ⟨by rw [HS.out]; rfl, _, LD.fr, by rw [HS.out]; exact LD.at_⟩
      · skip
        have HS0 := stepQ_B2 s q hk2 hk3 hm2 h7
        have HS : Hid (_ = _) := HS0
        clear HS0
        clear hm2 h7
        go_wp2_with fail
        refine (rtake_any _ b s (needQ s (kindQ s q 3) 15) _ L2.at_).mono ?_
        rintro e w4 ⟨rfl, tv4, hf4, hq4⟩
        have L4 := L2.call hf4 hq4
        clear a0 a1 a2 a3 a4 a5 af b0 b1 b2 b3 b4 b5 bf c0 c1 c2 c3 c4 c5 c6 c7 hf
        obtain ⟨⟨a0, a1, a2, a3, a4, a5, af⟩, ⟨b0, b1, b2, b3, b4, b5, bf⟩⟩ := L4.get6
        obtain ⟨c0, c1, c2, c3, c4, c5, c6, c7, hf, _⟩ := L4.at_.get
        go_wp2_with fail
        have L4p0 := L4.put' 0 (.int .u8 120) #[.int .u8 120, .int .i64 (valQ s q 3 : Nat), .int .i64 0, .int .i64 0, .int .i64 0, .int .i64 0] rfl
        refine (kindP_any _ b s (takeQ s (needQ s (kindQ s q 3) 15)) _ L4p0.at_).mono ?_
        rintro e w5 ⟨rfl, tv5, hf5, hq5⟩
        have L5 := L4p0.call hf5 hq5
        clear a0 a1 a2 a3 a4 a5 af b0 b1 b2 b3 b4 b5 bf c0 c1 c2 c3 c4 c5 c6 c7 hf
        obtain ⟨⟨a0, a1, a2, a3, a4, a5, af⟩, ⟨b0, b1, b2, b3, b4, b5, bf⟩⟩ := L5.get6
        obtain ⟨c0, c1, c2, c3, c4, c5, c6, c7, hf, _⟩ := L5.at_.get
        go_wp2_with fail
        have L5p2 := L5.put' 2 (.int .i64 (valQ s (takeQ s (needQ s (kindQ s q 3) 15)) 2 : Nat)) #[.int .u8 120, .int .i64 (valQ s q 3 : Nat), .int .i64 (valQ s (takeQ s (needQ s (kindQ s q 3) 15)) 2 : Nat), .int .i64 0, .int .i64 0, .int .i64 0] rfl
        refine (kindD_any _ b s (kindQ s (takeQ s (needQ s (kindQ s q 3) 15)) 2) _ L5p2.at_).mono ?_
        rintro e w6 ⟨rfl, tv6, hf6, hq6⟩
        have L6 := L5p2.call hf6 hq6
        clear a0 a1 a2 a3 a4 a5 af b0 b1 b2 b3 b4 b5 bf c0 c1 c2 c3 c4 c5 c6 c7 hf
        obtain ⟨⟨a0, a1, a2, a3, a4, a5, af⟩, ⟨b0, b1, b2, b3, b4, b5, bf⟩⟩ := L6.get6
        obtain ⟨c0, c1, c2, c3, c4, c5, c6, c7, hf, _⟩ := L6.at_.get
        go_wp2_with fail
        have L6p3 := L6.put' 3 (.int .i64 (valQ s (kindQ s (takeQ s (needQ s (kindQ s q 3) 15)) 2) 4 : Nat)) #[.int .u8 120, .int .i64 (valQ s q 3 : Nat), .int .i64 (valQ s (takeQ s (needQ s (kindQ s q 3) 15)) 2 : Nat), .int .i64 (valQ s (kindQ s (takeQ s (needQ s (kindQ s q 3) 15)) 2) 4 : Nat), .int .i64 0, .int .i64 0] rfl
        refine (need_any _ b s (kindQ s (kindQ s (takeQ s (needQ s (kindQ s q 3) 15)) 2) 4) _ L6p3.at_ 18 (by omega) (by omega) ⟨#[59]⟩ rfl).mono ?_
        rintro e w7 ⟨rfl, tv7, hf7, hq7⟩
        have L7 := L6p3.call hf7 hq7
        clear a0 a1 a2 a3 a4 a5 af b0 b1 b2 b3 b4 b5 bf c0 c1 c2 c3 c4 c5 c6 c7 hf
        obtain ⟨⟨a0, a1, a2, a3, a4, a5, af⟩, ⟨b0, b1, b2, b3, b4, b5, bf⟩⟩ := L7.get6
        obtain ⟨c0, c1, c2, c3, c4, c5, c6, c7, hf, _⟩ := L7.at_.get
        go_wp2_with fail
        have LD := L7.done6 (.int .u8 120) (.int .i64 (valQ s q 3 : Nat)) (.int .i64 (valQ s (takeQ s (needQ s (kindQ s q 3) 15)) 2 : Nat)) (.int .i64 (valQ s (kindQ s (takeQ s (needQ s (kindQ s q 3) 15)) 2) 4 : Nat)) (.int .i64 0) (.int .i64 0)
        obtain ⟨d0, d1, d2, d3, d4, d5, _⟩ := loc6 LD.res
        exact bodyPost_ret (v := .agg #[.int .u8 120, .int .i64 (valQ s q 3 : Nat), .int .i64 (valQ s (takeQ s (needQ s (kindQ s q 3) 15)) 2 : Nat), .int .i64 (valQ s (kindQ s (takeQ s (needQ s (kindQ s q 3) 15)) 2) 4 : Nat), .int .i64 0, .int .i64 0]) (by simp [results, Tryz.results104, go_sem, d0, d1, d2, d3, d4, d5]) rfl ⟨by rw [HS.out]; rfl, _, LD.fr, by rw [HS.out]; exact LD.at_⟩
  have k3 : ((rkind (tk s q.j).kind : Int) == 114) = false := by rw [show ((114 : Int)) = ((rkind 3 : Nat) : Int) from rfl, rkind_eq (tk_le s q.j).1 (by omega)]; simpa using hk3
  go_enter Tryz.func104, Tryz.ntmps104
  go_wp2_with fail
  refine (is_any _ b s q _ L0.at_ 6 (by omega) (by omega) ⟨#[102, 101, 110, 99, 101]⟩ rfl).mono ?_
  rintro e w1 ⟨rfl, rfl⟩
  cases h6 : isQ s q 6
  · skip
    have HS0 := stepQ_C2 s q hk2 hk3 h6
    have HS : Hid (_ = _) := HS0
    clear HS0
    clear h6
    go_wp2_with fail
    clear c0 c1 c2 c3 c4 c5 c6 c7 hf
    refine (need_any _ b s q _ L0.at_ 8 (by omega) (by omega) ⟨#[105, 102]⟩ rfl).mono ?_
    rintro e w1 ⟨rfl, tv1, hf1, hq1⟩
    have L1 := L0.call hf1 hq1
    obtain ⟨⟨a0, a1, a2, a3, a4, a5, af⟩, ⟨b0, b1, b2, b3, b4, b5, bf⟩⟩ := L1.get6
    obtain ⟨c0, c1, c2, c3, c4, c5, c6, c7, hf, _⟩ := L1.at_.get
    go_wp2_with fail
    have L1p0 := L1.put' 0 (.int .u8 106) #[.int .u8 106, .int .i64 0, .int .i64 0, .int .i64 0, .int .i64 0, .int .i64 0] rfl
    refine (kindR_any _ b s (needQ s q 8) _ L1p0.at_).mono ?_
    rintro e w2 ⟨rfl, tv2, hf2, hq2⟩
    have L2 := L1p0.call hf2 hq2
    clear a0 a1 a2 a3 a4 a5 af b0 b1 b2 b3 b4 b5 bf c0 c1 c2 c3 c4 c5 c6 c7 hf
    obtain ⟨⟨a0, a1, a2, a3, a4, a5, af⟩, ⟨b0, b1, b2, b3, b4, b5, bf⟩⟩ := L2.get6
    obtain ⟨c0, c1, c2, c3, c4, c5, c6, c7, hf, _⟩ := L2.at_.get
    go_wp2_with fail
    have L2p1 := L2.put' 1 (.int .i64 (valQ s (needQ s q 8) 3 : Nat)) #[.int .u8 106, .int .i64 (valQ s (needQ s q 8) 3 : Nat), .int .i64 0, .int .i64 0, .int .i64 0, .int .i64 0] rfl
    refine (need_any _ b s (kindQ s (needQ s q 8) 3) _ L2p1.at_ 16 (by omega) (by omega) ⟨#[61]⟩ rfl).mono ?_
    rintro e w3 ⟨rfl, tv3, hf3, hq3⟩
    have L3 := L2p1.call hf3 hq3
    clear a0 a1 a2 a3 a4 a5 af b0 b1 b2 b3 b4 b5 bf c0 c1 c2 c3 c4 c5 c6 c7 hf
    obtain ⟨⟨a0, a1, a2, a3, a4, a5, af⟩, ⟨b0, b1, b2, b3, b4, b5, bf⟩⟩ := L3.get6
    obtain ⟨c0, c1, c2, c3, c4, c5, c6, c7, hf, _⟩ := L3.at_.get
    go_wp2_with fail
    refine (kindD_any _ b s (needQ s (kindQ s (needQ s q 8) 3) 16) _ L3.at_).mono ?_
    rintro e w4 ⟨rfl, tv4, hf4, hq4⟩
    have L4 := L3.call hf4 hq4
    clear a0 a1 a2 a3 a4 a5 af b0 b1 b2 b3 b4 b5 bf c0 c1 c2 c3 c4 c5 c6 c7 hf
    obtain ⟨⟨a0, a1, a2, a3, a4, a5, af⟩, ⟨b0, b1, b2, b3, b4, b5, bf⟩⟩ := L4.get6
    obtain ⟨c0, c1, c2, c3, c4, c5, c6, c7, hf, _⟩ := L4.at_.get
    go_wp2_with fail
    have L4p3 := L4.put' 3 (.int .i64 (valQ s (needQ s (kindQ s (needQ s q 8) 3) 16) 4 : Nat)) #[.int .u8 106, .int .i64 (valQ s (needQ s q 8) 3 : Nat), .int .i64 0, .int .i64 (valQ s (needQ s (kindQ s (needQ s q 8) 3) 16) 4 : Nat), .int .i64 0, .int .i64 0] rfl
    refine (need_any _ b s (kindQ s (needQ s (kindQ s (needQ s q 8) 3) 16) 4) _ L4p3.at_ 9 (by omega) (by omega) ⟨#[115, 107, 105, 112]⟩ rfl).mono ?_
    rintro e w5 ⟨rfl, tv5, hf5, hq5⟩
    have L5 := L4p3.call hf5 hq5
    clear a0 a1 a2 a3 a4 a5 af b0 b1 b2 b3 b4 b5 bf c0 c1 c2 c3 c4 c5 c6 c7 hf
    obtain ⟨⟨a0, a1, a2, a3, a4, a5, af⟩, ⟨b0, b1, b2, b3, b4, b5, bf⟩⟩ := L5.get6
    obtain ⟨c0, c1, c2, c3, c4, c5, c6, c7, hf, _⟩ := L5.at_.get
    go_wp2_with fail
    have L5p5 := L5.put' 5 (.int .i64 ((tk s (needQ s (kindQ s (needQ s (kindQ s (needQ s q 8) 3) 16) 4) 9).j).at_ : Nat)) #[.int .u8 106, .int .i64 (valQ s (needQ s q 8) 3 : Nat), .int .i64 0, .int .i64 (valQ s (needQ s (kindQ s (needQ s q 8) 3) 16) 4 : Nat), .int .i64 0, .int .i64 ((tk s (needQ s (kindQ s (needQ s (kindQ s (needQ s q 8) 3) 16) 4) 9).j).at_ : Nat)] rfl
    refine (kindD_any _ b s (needQ s (kindQ s (needQ s (kindQ s (needQ s q 8) 3) 16) 4) 9) _ L5p5.at_).mono ?_
    rintro e w6 ⟨rfl, tv6, hf6, hq6⟩
    have L6 := L5p5.call hf6 hq6
    clear a0 a1 a2 a3 a4 a5 af b0 b1 b2 b3 b4 b5 bf c0 c1 c2 c3 c4 c5 c6 c7 hf
    obtain ⟨⟨a0, a1, a2, a3, a4, a5, af⟩, ⟨b0, b1, b2, b3, b4, b5, bf⟩⟩ := L6.get6
    obtain ⟨c0, c1, c2, c3, c4, c5, c6, c7, hf, _⟩ := L6.at_.get
    go_wp2_with fail
    have L6p4 := L6.put' 4 (.int .i64 (valQ s (needQ s (kindQ s (needQ s (kindQ s (needQ s q 8) 3) 16) 4) 9) 4 : Nat)) #[.int .u8 106, .int .i64 (valQ s (needQ s q 8) 3 : Nat), .int .i64 0, .int .i64 (valQ s (needQ s (kindQ s (needQ s q 8) 3) 16) 4 : Nat), .int .i64 (valQ s (needQ s (kindQ s (needQ s (kindQ s (needQ s q 8) 3) 16) 4) 9) 4 : Nat), .int .i64 ((tk s (needQ s (kindQ s (needQ s (kindQ s (needQ s q 8) 3) 16) 4) 9).j).at_ : Nat)] rfl
    refine (need_any _ b s (kindQ s (needQ s (kindQ s (needQ s (kindQ s (needQ s q 8) 3) 16) 4) 9) 4) _ L6p4.at_ 18 (by omega) (by omega) ⟨#[59]⟩ rfl).mono ?_
    rintro e w7 ⟨rfl, tv7, hf7, hq7⟩
    have L7 := L6p4.call hf7 hq7
    clear a0 a1 a2 a3 a4 a5 af b0 b1 b2 b3 b4 b5 bf c0 c1 c2 c3 c4 c5 c6 c7 hf
    obtain ⟨⟨a0, a1, a2, a3, a4, a5, af⟩, ⟨b0, b1, b2, b3, b4, b5, bf⟩⟩ := L7.get6
    obtain ⟨c0, c1, c2, c3, c4, c5, c6, c7, hf, _⟩ := L7.at_.get
    go_wp2_with fail
    have LD := L7.done6 (.int .u8 106) (.int .i64 (valQ s (needQ s q 8) 3 : Nat)) (.int .i64 0) (.int .i64 (valQ s (needQ s (kindQ s (needQ s q 8) 3) 16) 4 : Nat)) (.int .i64 (valQ s (needQ s (kindQ s (needQ s (kindQ s (needQ s q 8) 3) 16) 4) 9) 4 : Nat)) (.int .i64 ((tk s (needQ s (kindQ s (needQ s (kindQ s (needQ s q 8) 3) 16) 4) 9).j).at_ : Nat))
    obtain ⟨d0, d1, d2, d3, d4, d5, _⟩ := loc6 LD.res
    exact bodyPost_ret (v := .agg #[.int .u8 106, .int .i64 (valQ s (needQ s q 8) 3 : Nat), .int .i64 0, .int .i64 (valQ s (needQ s (kindQ s (needQ s q 8) 3) 16) 4 : Nat), .int .i64 (valQ s (needQ s (kindQ s (needQ s (kindQ s (needQ s q 8) 3) 16) 4) 9) 4 : Nat), .int .i64 ((tk s (needQ s (kindQ s (needQ s (kindQ s (needQ s q 8) 3) 16) 4) 9).j).at_ : Nat)]) (by simp [results, Tryz.results104, go_sem, d0, d1, d2, d3, d4, d5]) rfl ⟨by rw [HS.out]; rfl, _, LD.fr, by rw [HS.out]; exact LD.at_⟩
  · skip
    have HS0 := stepQ_C1 s q hk2 hk3 h6
    have HS : Hid (_ = _) := HS0
    clear HS0
    clear h6
    go_wp2_with fail
    clear c0 c1 c2 c3 c4 c5 c6 c7 hf
    refine (rtake_any _ b s q _ L0.at_).mono ?_
    rintro e w1 ⟨rfl, tv1, hf1, hq1⟩
    have L1 := L0.call hf1 hq1
    obtain ⟨⟨a0, a1, a2, a3, a4, a5, af⟩, ⟨b0, b1, b2, b3, b4, b5, bf⟩⟩ := L1.get6
    obtain ⟨c0, c1, c2, c3, c4, c5, c6, c7, hf, _⟩ := L1.at_.get
    go_wp2_with fail
    have L1p0 := L1.put' 0 (.int .u8 102) #[.int .u8 102, .int .i64 0, .int .i64 0, .int .i64 0, .int .i64 0, .int .i64 0] rfl
    refine (need_any _ b s (takeQ s q) _ L1p0.at_ 18 (by omega) (by omega) ⟨#[59]⟩ rfl).mono ?_
    rintro e w2 ⟨rfl, tv2, hf2, hq2⟩
    have L2 := L1p0.call hf2 hq2
    clear a0 a1 a2 a3 a4 a5 af b0 b1 b2 b3 b4 b5 bf c0 c1 c2 c3 c4 c5 c6 c7 hf
    obtain ⟨⟨a0, a1, a2, a3, a4, a5, af⟩, ⟨b0, b1, b2, b3, b4, b5, bf⟩⟩ := L2.get6
    obtain ⟨c0, c1, c2, c3, c4, c5, c6, c7, hf, _⟩ := L2.at_.get
    go_wp2_with fail
    have LD := L2.done6 (.int .u8 102) (.int .i64 0) (.int .i64 0) (.int .i64 0) (.int .i64 0) (.int .i64 0)
    obtain ⟨d0, d1, d2, d3, d4, d5, _⟩ := loc6 LD.res
    exact bodyPost_ret (v := .agg #[.int .u8 102, .int .i64 0, .int .i64 0, .int .i64 0, .int .i64 0, .int .i64 0]) (by simp [results, Tryz.results104, go_sem, d0, d1, d2, d3, d4, d5]) rfl ⟨by rw [HS.out]; rfl, _, LD.fr, by rw [HS.out]; exact LD.at_⟩

end Go.Proofs.YtmpaeladhoomoaaGreatDoor
