/-
  The program's reader: atoms.
-/
import Derived.Test.YtmpaeladhoomoaaGreatDoorPrB
namespace Go.Proofs.YtmpaeladhoomoaaGreatDoor
open Go.RowKit

theorem loc6 {w : World} {B : Nat} {t : TypeId} {a0 a1 a2 a3 a4 a5 : Value} (h : w.heap[B]? = some (.cells #[a0, a1, a2, a3, a4, a5] t (0, 0))) :
    w.cell? ⟨B, 0, none⟩ = some a0 ∧ w.cell? ⟨B, 1, none⟩ = some a1 ∧ w.cell? ⟨B, 2, none⟩ = some a2 ∧ w.cell? ⟨B, 3, none⟩ = some a3 ∧ w.cell? ⟨B, 4, none⟩ = some a4 ∧ w.cell? ⟨B, 5, none⟩ = some a5 ∧ (∀ o, w.frozen? ⟨B, o, none⟩ = false) :=
  ⟨cell_of h 0 _ rfl, cell_of h 1 _ rfl, cell_of h 2 _ rfl, cell_of h 3 _ rfl, cell_of h 4 _ rfl, cell_of h 5 _ rfl, frozen_of h⟩
theorem L2.get6 {w0 w : World} {b : Nat} {s : ByteArray} {p : PS} {R C : Nat} {t : TypeId} {r0 r1 r2 r3 r4 r5 a0 a1 a2 a3 a4 a5 : Value} (l : L2 w0 w b s p R C t #[r0, r1, r2, r3, r4, r5] #[a0, a1, a2, a3, a4, a5]) :
    (w.cell? ⟨C, 0, none⟩ = some a0 ∧ w.cell? ⟨C, 1, none⟩ = some a1 ∧ w.cell? ⟨C, 2, none⟩ = some a2 ∧ w.cell? ⟨C, 3, none⟩ = some a3 ∧ w.cell? ⟨C, 4, none⟩ = some a4 ∧ w.cell? ⟨C, 5, none⟩ = some a5 ∧ (∀ o, w.frozen? ⟨C, o, none⟩ = false)) ∧
    (w.cell? ⟨R, 0, none⟩ = some r0 ∧ w.cell? ⟨R, 1, none⟩ = some r1 ∧ w.cell? ⟨R, 2, none⟩ = some r2 ∧ w.cell? ⟨R, 3, none⟩ = some r3 ∧ w.cell? ⟨R, 4, none⟩ = some r4 ∧ w.cell? ⟨R, 5, none⟩ = some r5 ∧ (∀ o, w.frozen? ⟨R, o, none⟩ = false)) :=
  ⟨loc6 l.loc, loc6 l.res⟩
theorem L2.done6 {w0 w : World} {b : Nat} {s : ByteArray} {p : PS} {R C : Nat} {t : TypeId} {r0 r1 r2 r3 r4 r5 : Value} {cs : Array Value} (l : L2 w0 w b s p R C t #[r0, r1, r2, r3, r4, r5] cs) (v0 v1 v2 v3 v4 v5 : Value) :
    L2 w0 ((((((w.setCell ⟨R, 0, none⟩ v0).setCell ⟨R, 1, none⟩ v1).setCell ⟨R, 2, none⟩ v2).setCell ⟨R, 3, none⟩ v3).setCell ⟨R, 4, none⟩ v4).setCell ⟨R, 5, none⟩ v5) b s p R C t #[v0, v1, v2, v3, v4, v5] cs :=
  (((((l.ret 0 v0).ret 1 v1).ret 2 v2).ret 3 v3).ret 4 v4).ret 5 v5
theorem L1.done6 {w0 w : World} {b : Nat} {s : ByteArray} {p : PS} {R : Nat} {t : TypeId} {r0 r1 r2 r3 r4 r5 : Value} (l : L1 w0 w b s p R t #[r0, r1, r2, r3, r4, r5]) (v0 v1 v2 v3 v4 v5 : Value) :
    L1 w0 ((((((w.setCell ⟨R, 0, none⟩ v0).setCell ⟨R, 1, none⟩ v1).setCell ⟨R, 2, none⟩ v2).setCell ⟨R, 3, none⟩ v3).setCell ⟨R, 4, none⟩ v4).setCell ⟨R, 5, none⟩ v5) b s p R t #[v0, v1, v2, v3, v4, v5] :=
  (((((l.ret 0 v0).ret 1 v1).ret 2 v2).ret 3 v3).ret 4 v4).ret 5 v5

theorem L2.drewN {w0 w : World} {b : Nat} {s : ByteArray} {p : PS} {R C : Nat} {t : TypeId} {rs cs : Array Value} (l : L2 w0 w b s p R C t rs cs) (n : Nat) : L2 w0 (w.drewN n) b s p R C t rs cs :=
  ⟨gb_drewN l.g n, ⟨l.pa.blk, l.pa.ssz, l.pa.isz, l.pa.dsz, l.pa.tsz, l.pa.osz, l.pa.jlo, l.pa.jhi⟩, l.res, l.loc, l.hR, l.hC, l.hb, l.hne⟩
theorem L2.as {w0 w : World} {b : Nat} {s : ByteArray} {p p' : PS} {R C : Nat} {t : TypeId} {rs cs : Array Value} (l : L2 w0 w b s p R C t rs cs) (h : p' = p) : L2 w0 w b s p' R C t rs cs := h ▸ l
/-- A formula as it is laid: one cell each. -/
def fmV (n0 : Int) (a : Option Addr) (k c : Nat) (n2 n3 n4 n5 : Int) : Value := .agg #[.int .i64 n0, .slice a k c, .int .i64 n2, .int .i64 n3, .int .i64 n4, .int .i64 n5]
/-- What a reader of a formula answers; T: what its text must be, behind p'. -/
def PostFT (w : World) (b : Nat) (s : ByteArray) (p : PS) (T : PS → Txt → Prop) (r : Except Nat PS) (e : Ending) (w' : World) : Prop :=
  w.grownBy w' (some b) ∧ match r with
  | .ok p' => (∃ (n0 : Int) (a : Option Addr) (k c : Nat) (n2 n3 n4 n5 : Int), e = .returned (.tuple #[fmV n0 a k c n2 n3 n4 n5, .bool true]) ∧ Hid (∃ d t, FRep d w' (newB w w') [.int .i64 n0, .slice a k c, .int .i64 n2, .int .i64 n3, .int .i64 n4, .int .i64 n5] t ∧ T p' t)) ∧ PAt w' b s p' ∧ p'.opn = p.opn ∧ p.i ≤ p'.i
  | .error q => (∃ (n0 : Int) (a : Option Addr) (k c : Nat) (n2 n3 n4 n5 : Int), e = .returned (.tuple #[fmV n0 a k c n2 n3 n4 n5, .bool false])) ∧ ∃ p', PAt w' b s p' ∧ pl s p' = q ∧ p'.opn = p.opn
def PostF (w : World) (b : Nat) (s : ByteArray) (p : PS) (r : Except Nat PS) (e : Ending) (w' : World) : Prop := PostFT w b s p (fun p' t => Ren s p.i p'.i t) r e w'
theorem postF_ok {w w' : World} {b : Nat} {s : ByteArray} {p p' : PS} {T : PS → Txt → Prop} {r : Except Nat PS} (n0 : Int) (a : Option Addr) (k c : Nat) (n2 n3 n4 n5 : Int) (hr : r = .ok p') (hg : w.grownBy w' (some b)) (hp : PAt w' b s p') (ho : p'.opn = p.opn) (hi : p.i ≤ p'.i)
    (hF : ∃ d t, FRep d w' (newB w w') [.int .i64 n0, .slice a k c, .int .i64 n2, .int .i64 n3, .int .i64 n4, .int .i64 n5] t ∧ T p' t) :
    PostFT w b s p T r (.returned (.tuple #[.agg #[.int .i64 n0, .slice a k c, .int .i64 n2, .int .i64 n3, .int .i64 n4, .int .i64 n5], .bool true])) w' := by
  subst hr; exact ⟨hg, ⟨n0, a, k, c, n2, n3, n4, n5, rfl, hF⟩, hp, ho, hi⟩
theorem postF_err {w w' : World} {b : Nat} {s : ByteArray} {p p' : PS} {T : PS → Txt → Prop} {r : Except Nat PS} (n0 : Int) (a : Option Addr) (k c : Nat) (n2 n3 n4 n5 : Int) (hr : r = .error (pl s p')) (hg : w.grownBy w' (some b)) (hp : PAt w' b s p') (ho : p'.opn = p.opn) :
    PostFT w b s p T r (.returned (.tuple #[.agg #[.int .i64 n0, .slice a k c, .int .i64 n2, .int .i64 n3, .int .i64 n4, .int .i64 n5], .bool false])) w' := by
  subst hr; exact ⟨hg, ⟨n0, a, k, c, n2, n3, n4, n5, rfl⟩, p', hp, rfl, ho⟩

theorem eqdS_mono {s : ByteArray} {p p' : PS} {d : Nat} (h : eqdS s p = .ok (d, p')) (hi : p.i ≤ s.size) : p.i ≤ p'.i := by
  unfold eqdS at h
  repeat' split at h
  all_goals first
    | (simp at h; done)
    | (simp only [Except.ok.injEq, Prod.mk.injEq] at h; obtain ⟨rfl, rfl⟩ := h; have h1 := nxt_mono s p 16 hi; have h2 := nxt_mono s (nxt s p 16) 4 h1.2; omega)
def unN (r : Except Nat (Nat × PS)) : Except Nat PS := match r with | .ok (_, p') => .ok p' | .error q => .error q
def placeS (s : ByteArray) (p : PS) : Except Nat PS :=
  if kd s p = 2 then unN (eqdS s (nxt s p 2)) else .error (pl s p)
/-- A thread that is none is a wrong jump. -/
def thrS (s : ByteArray) (p : PS) : PS := if (nxt s p 4).thr ≤ nm s p then jumped (nxt s p 4) (nxt s p 4).dig else nxt s p 4
theorem jumped_o (p : PS) (a : Nat) : (jumped p a).opn = p.opn ∧ (jumped p a).i = p.i := by unfold jumped; split <;> exact ⟨rfl, rfl⟩
theorem thrS_o (s : ByteArray) (p : PS) : (thrS s p).opn = p.opn ∧ (thrS s p).i = (nxt s p 4).i := by
  unfold thrS; split
  · exact ⟨(jumped_o _ _).1.trans (nxt_thr s p 4).2.1, (jumped_o _ _).2⟩
  · exact ⟨(nxt_thr s p 4).2.1, rfl⟩
def registerS (s : ByteArray) (p : PS) : Except Nat PS :=
  if kd s (thrS s p) = 17 then
    if kd s (nxt s (thrS s p) 17) = 3 then unN (eqdS s (nxt s (nxt s (thrS s p) 17) 3)) else .error (pl s (nxt s (thrS s p) 17))
  else .error (pl s (thrS s p))

set_option maxHeartbeats 1000000 in
theorem placeAtom_any (w : World) (b : Nat) (s : ByteArray) (p : PS) (h : PAt w b s p)  :
    Calls Tryz.prog 235 #[.pointer (some ⟨b, 0, none⟩)] w fun e w' => PostF w b s p (placeS s p) e w' := by
  go_enter Tryz.func235, Tryz.ntmps235
  go_wp2_with fail
  have L0 := L2.start h 97 #[.int .i64 0, .slice none 0 0, .int .i64 0, .int .i64 0, .int .i64 0, .int .i64 0] #[.int .i64 5, .slice none 0 0, .int .i64 0, .int .i64 0, .int .i64 0, .int .i64 0]
  by_cases h2 : kd s p = 2
  · skip
    refine (take_yes _ b s p 2 L0.pa (by show ((kd s p : Nat) : Int) = 2; omega)).mono ?_
    rintro e w1 ⟨rfl, hg1, hp1⟩
    have L1 := L0.call hg1 hp1
    try clear a0 a1 a2 a3 a4 a5 af b0 b1 b2 b3 b4 b5 bf
    obtain ⟨⟨a0, a1, a2, a3, a4, a5, af⟩, ⟨b0, b1, b2, b3, b4, b5, bf⟩⟩ := L1.get6
    go_wp2_with fail
    have L1p4 := L1.put' 4 (.int .i64 ((tk s p.i).num : Nat)) #[.int .i64 5, .slice none 0 0, .int .i64 0, .int .i64 0, .int .i64 ((tk s p.i).num : Nat), .int .i64 0] rfl
    have heq := eqd_any _ b s (nxt s p 2) L1p4.pa
    refine heq.mono ?_
    clear heq
    rintro e w8 ⟨hg8, hr8⟩
    have HO : Hid ((nxt s p 2).opn = p.opn) := (nxt_thr s p 2).2.1
    have HI : Hid (p.i ≤ (nxt s p 2).i ∧ (nxt s p 2).i ≤ s.size) := nxt_mono s p 2 h.isz
    cases hs : eqdS s (nxt s p 2) with
    | error q =>
      rw [hs] at hr8
      obtain ⟨rfl, p8, hp8, hq8, ho8⟩ := hr8
      have HO8 : Hid (p8.opn = p.opn) := ho8.trans HO.out
      clear ho8
      have HS : Hid (placeS s p = .error q) := by show _ = _; unfold placeS; rw [if_pos h2, hs]; rfl
      clear hs
      have L8 := L1p4.call hg8 hp8
      try clear a0 a1 a2 a3 a4 a5 af b0 b1 b2 b3 b4 b5 bf
      obtain ⟨⟨a0, a1, a2, a3, a4, a5, af⟩, ⟨b0, b1, b2, b3, b4, b5, bf⟩⟩ := L8.get6
      go_wp2_with fail
      have L8p5 := L8.put' 5 (.int .i64 0) #[.int .i64 5, .slice none 0 0, .int .i64 0, .int .i64 0, .int .i64 ((tk s p.i).num : Nat), .int .i64 0] rfl
      have LD := L8p5.done6 (.int .i64 5) (.slice none 0 0) (.int .i64 0) (.int .i64 0) (.int .i64 ((tk s p.i).num : Nat)) (.int .i64 0)
      obtain ⟨d0, d1, d2, d3, d4, d5, _⟩ := loc6 LD.res
      exact bodyPost_ret (v := .tuple #[.agg #[.int .i64 5, .slice none 0 0, .int .i64 0, .int .i64 0, .int .i64 ((tk s p.i).num : Nat), .int .i64 0], .bool false]) (by simp [results, Tryz.results235, go_sem, d0, d1, d2, d3, d4, d5]) rfl (postF_err (p' := p8) _ _ _ _ _ _ _ _ (by rw [HS.out, hq8]) LD.g LD.pa HO8.out)
    | ok r =>
      obtain ⟨d, p8⟩ := r
      rw [hs] at hr8
      obtain ⟨rfl, hp8⟩ := hr8
      have HS : Hid (placeS s p = .ok p8) := by show _ = _; unfold placeS; rw [if_pos h2, hs]; rfl
      have HRN : Hid (Ren s p.i p8.i (plcT (nm s p) d) ∧ nm s p ≤ 3 ∧ d ≤ 9) := place_ren h2 hs
      have HO8 : Hid (p8.opn = p.opn) := (eqdS_kept hs).2.1.trans HO.out
      have HI8 : Hid (p.i ≤ p8.i) := Nat.le_trans HI.out.1 (eqdS_mono hs HI.out.2)
      clear hs
      have L8 := L1p4.call hg8 hp8
      try clear a0 a1 a2 a3 a4 a5 af b0 b1 b2 b3 b4 b5 bf
      obtain ⟨⟨a0, a1, a2, a3, a4, a5, af⟩, ⟨b0, b1, b2, b3, b4, b5, bf⟩⟩ := L8.get6
      go_wp2_with fail
      have L8p5 := L8.put' 5 (.int .i64 (d : Nat)) #[.int .i64 5, .slice none 0 0, .int .i64 0, .int .i64 0, .int .i64 ((tk s p.i).num : Nat), .int .i64 (d : Nat)] rfl
      have LD := L8p5.done6 (.int .i64 5) (.slice none 0 0) (.int .i64 0) (.int .i64 0) (.int .i64 ((tk s p.i).num : Nat)) (.int .i64 (d : Nat))
      obtain ⟨d0, d1, d2, d3, d4, d5, _⟩ := loc6 LD.res
      exact bodyPost_ret (v := .tuple #[.agg #[.int .i64 5, .slice none 0 0, .int .i64 0, .int .i64 0, .int .i64 ((tk s p.i).num : Nat), .int .i64 (d : Nat)], .bool true]) (by simp [results, Tryz.results235, go_sem, d0, d1, d2, d3, d4, d5]) rfl (postF_ok _ _ _ _ _ _ _ _ HS.out LD.g LD.pa HO8.out HI8.out ⟨1, _, FRep.plc (nm s p) d HRN.out.2.1 HRN.out.2.2, HRN.out.1⟩)
  · skip
    refine (take_no _ b s p 2 L0.pa (by show ¬ ((kd s p : Nat) : Int) = 2; omega)).mono ?_
    rintro e w1 ⟨rfl, rfl⟩
    go_wp2_with fail
    have LD := L2.start h 97 #[.int .i64 5, .slice none 0 0, .int .i64 0, .int .i64 0, .int .i64 0, .int .i64 0] #[.int .i64 5, .slice none 0 0, .int .i64 0, .int .i64 0, .int .i64 0, .int .i64 0]
    obtain ⟨d0, d1, d2, d3, d4, d5, _⟩ := loc6 LD.res
    exact bodyPost_ret (v := .tuple #[.agg #[.int .i64 5, .slice none 0 0, .int .i64 0, .int .i64 0, .int .i64 0, .int .i64 0], .bool false]) (by simp [results, Tryz.results235, go_sem, d0, d1, d2, d3, d4, d5]) rfl (postF_err _ _ _ _ _ _ _ _ (by unfold placeS; rw [if_neg h2]) LD.g LD.pa rfl)

set_option maxHeartbeats 1000000 in
theorem registerAtom_any (w : World) (b : Nat) (s : ByteArray) (p : PS) (h : PAt w b s p) (hk : kd s p = 4) :
    Calls Tryz.prog 234 #[.pointer (some ⟨b, 0, none⟩)] w fun e w' => PostF w b s p (registerS s p) e w' := by
  go_enter Tryz.func234, Tryz.ntmps234
  go_wp2_with fail
  have L0 := L2.start h 97 #[.int .i64 0, .slice none 0 0, .int .i64 0, .int .i64 0, .int .i64 0, .int .i64 0] #[.int .i64 4, .slice none 0 0, .int .i64 0, .int .i64 0, .int .i64 0, .int .i64 0]
  refine (take_yes _ b s p 4 L0.pa (by show ((kd s p : Nat) : Int) = 4; omega)).mono ?_
  rintro e w1 ⟨rfl, hg1, hp1⟩
  have L1 := L0.call hg1 hp1
  try clear a0 a1 a2 a3 a4 a5 af b0 b1 b2 b3 b4 b5 bf
  obtain ⟨⟨a0, a1, a2, a3, a4, a5, af⟩, ⟨b0, b1, b2, b3, b4, b5, bf⟩⟩ := L1.get6
  go_wp2_with fail
  have L1p2 := L1.put' 2 (.int .i64 ((tk s p.i).num : Nat)) #[.int .i64 4, .slice none 0 0, .int .i64 ((tk s p.i).num : Nat), .int .i64 0, .int .i64 0, .int .i64 0] rfl
  obtain ⟨c0, c1, c2, c3, c4, c5, c6, c7, c8, hf, hlt⟩ := hp1.get
  have hnm := nm_le s p
  have hts := hp1.tsz
  have hds := hp1.dsz
  clear c0 c1 c2 c3 c4 c7 c8
  by_cases hj : (nxt s p 4).thr ≤ nm s p
  · skip
    have HT : Hid (thrS s p = jumped (nxt s p 4) (nxt s p 4).dig) := if_pos hj
    have hj2 : (nxt s p 4).thr ≤ (tk s p.i).num := hj
    go_quiet (fail)
    go_wp2_with fail
    have L1q := L1p2.drewN nq
    refine (wrongJump_any _ b s _ _ hds L1q.pa).mono ?_
    rintro e w2 ⟨rfl, hg2, hp2⟩
    have L2a := (L1q.call hg2 hp2).as HT.out
    try clear a0 a1 a2 a3 a4 a5 af b0 b1 b2 b3 b4 b5 bf
    obtain ⟨⟨a0, a1, a2, a3, a4, a5, af⟩, ⟨b0, b1, b2, b3, b4, b5, bf⟩⟩ := L2a.get6
    go_wp2_with fail
    by_cases h17 : kd s (thrS s p) = 17
    · skip
      refine (pass_yes _ b s (thrS s p) 17 L2a.pa (by show ((kd s (thrS s p) : Nat) : Int) = 17; omega)).mono ?_
      rintro e w3 ⟨rfl, hg3, hp3⟩
      have L3 := L2a.call hg3 hp3
      try clear a0 a1 a2 a3 a4 a5 af b0 b1 b2 b3 b4 b5 bf
      obtain ⟨⟨a0, a1, a2, a3, a4, a5, af⟩, ⟨b0, b1, b2, b3, b4, b5, bf⟩⟩ := L3.get6
      go_wp2_with fail
      by_cases h3 : kd s (nxt s (thrS s p) 17) = 3
      · skip
        refine (take_yes _ b s (nxt s (thrS s p) 17) 3 L3.pa (by show ((kd s (nxt s (thrS s p) 17) : Nat) : Int) = 3; omega)).mono ?_
        rintro e w4 ⟨rfl, hg4, hp4⟩
        have L4 := L3.call hg4 hp4
        try clear a0 a1 a2 a3 a4 a5 af b0 b1 b2 b3 b4 b5 bf
        obtain ⟨⟨a0, a1, a2, a3, a4, a5, af⟩, ⟨b0, b1, b2, b3, b4, b5, bf⟩⟩ := L4.get6
        go_wp2_with fail
        have L4p3 := L4.put' 3 (.int .i64 ((tk s (nxt s (thrS s p) 17).i).num : Nat)) #[.int .i64 4, .slice none 0 0, .int .i64 ((tk s p.i).num : Nat), .int .i64 ((tk s (nxt s (thrS s p) 17).i).num : Nat), .int .i64 0, .int .i64 0] rfl
        have heq := eqd_any _ b s (nxt s (nxt s (thrS s p) 17) 3) L4p3.pa
        refine heq.mono ?_
        clear heq
        rintro e w8 ⟨hg8, hr8⟩
        have HO : Hid ((nxt s (nxt s (thrS s p) 17) 3).opn = p.opn) := (nxt_thr s _ 3).2.1.trans ((nxt_thr s _ 17).2.1.trans (thrS_o s p).1)
        have HI : Hid (p.i ≤ (nxt s (nxt s (thrS s p) 17) 3).i ∧ (nxt s (nxt s (thrS s p) 17) 3).i ≤ s.size) := by have h1 := nxt_mono s p 4 h.isz; have h0 := (thrS_o s p).2; have h2 := nxt_mono s (thrS s p) 17 (by omega); have h3 := nxt_mono s (nxt s (thrS s p) 17) 3 h2.2; exact ⟨by omega, h3.2⟩
        cases hs : eqdS s (nxt s (nxt s (thrS s p) 17) 3) with
        | error q =>
          rw [hs] at hr8
          obtain ⟨rfl, p8, hp8, hq8, ho8⟩ := hr8
          have HO8 : Hid (p8.opn = p.opn) := ho8.trans HO.out
          clear ho8
          have HS : Hid (registerS s p = .error q) := by show _ = _; unfold registerS; rw [if_pos h17, if_pos h3, hs]; rfl
          clear hs
          have L8 := L4p3.call hg8 hp8
          try clear a0 a1 a2 a3 a4 a5 af b0 b1 b2 b3 b4 b5 bf
          obtain ⟨⟨a0, a1, a2, a3, a4, a5, af⟩, ⟨b0, b1, b2, b3, b4, b5, bf⟩⟩ := L8.get6
          go_wp2_with fail
          have L8p5 := L8.put' 5 (.int .i64 0) #[.int .i64 4, .slice none 0 0, .int .i64 ((tk s p.i).num : Nat), .int .i64 ((tk s (nxt s (thrS s p) 17).i).num : Nat), .int .i64 0, .int .i64 0] rfl
          have LD := L8p5.done6 (.int .i64 4) (.slice none 0 0) (.int .i64 ((tk s p.i).num : Nat)) (.int .i64 ((tk s (nxt s (thrS s p) 17).i).num : Nat)) (.int .i64 0) (.int .i64 0)
          obtain ⟨d0, d1, d2, d3, d4, d5, _⟩ := loc6 LD.res
          exact bodyPost_ret (v := .tuple #[.agg #[.int .i64 4, .slice none 0 0, .int .i64 ((tk s p.i).num : Nat), .int .i64 ((tk s (nxt s (thrS s p) 17).i).num : Nat), .int .i64 0, .int .i64 0], .bool false]) (by simp [results, Tryz.results234, go_sem, d0, d1, d2, d3, d4, d5]) rfl (postF_err (p' := p8) _ _ _ _ _ _ _ _ (by rw [HS.out, hq8]) LD.g LD.pa HO8.out)
        | ok r =>
          obtain ⟨d, p8⟩ := r
          rw [hs] at hr8
          obtain ⟨rfl, hp8⟩ := hr8
          have HS : Hid (registerS s p = .ok p8) := by show _ = _; unfold registerS; rw [if_pos h17, if_pos h3, hs]; rfl
          have HRN : Hid (Ren s p.i p8.i (regT (nm s p) (nm s (nxt s (thrS s p) 17)) d) ∧ nm s p ≤ 9 ∧ nm s (nxt s (thrS s p) 17) ≤ 3 ∧ d ≤ 9) := reg_ren hk (thrS_o s p).2 h17 h3 hs
          have HO8 : Hid (p8.opn = p.opn) := (eqdS_kept hs).2.1.trans HO.out
          have HI8 : Hid (p.i ≤ p8.i) := Nat.le_trans HI.out.1 (eqdS_mono hs HI.out.2)
          clear hs
          have L8 := L4p3.call hg8 hp8
          try clear a0 a1 a2 a3 a4 a5 af b0 b1 b2 b3 b4 b5 bf
          obtain ⟨⟨a0, a1, a2, a3, a4, a5, af⟩, ⟨b0, b1, b2, b3, b4, b5, bf⟩⟩ := L8.get6
          go_wp2_with fail
          have L8p5 := L8.put' 5 (.int .i64 (d : Nat)) #[.int .i64 4, .slice none 0 0, .int .i64 ((tk s p.i).num : Nat), .int .i64 ((tk s (nxt s (thrS s p) 17).i).num : Nat), .int .i64 0, .int .i64 (d : Nat)] rfl
          have LD := L8p5.done6 (.int .i64 4) (.slice none 0 0) (.int .i64 ((tk s p.i).num : Nat)) (.int .i64 ((tk s (nxt s (thrS s p) 17).i).num : Nat)) (.int .i64 0) (.int .i64 (d : Nat))
          obtain ⟨d0, d1, d2, d3, d4, d5, _⟩ := loc6 LD.res
          exact bodyPost_ret (v := .tuple #[.agg #[.int .i64 4, .slice none 0 0, .int .i64 ((tk s p.i).num : Nat), .int .i64 ((tk s (nxt s (thrS s p) 17).i).num : Nat), .int .i64 0, .int .i64 (d : Nat)], .bool true]) (by simp [results, Tryz.results234, go_sem, d0, d1, d2, d3, d4, d5]) rfl (postF_ok _ _ _ _ _ _ _ _ HS.out LD.g LD.pa HO8.out HI8.out ⟨1, _, FRep.reg (nm s p) (nm s (nxt s (thrS s p) 17)) d HRN.out.2.1 HRN.out.2.2.1 HRN.out.2.2.2, HRN.out.1⟩)
      · skip
        refine (take_no _ b s (nxt s (thrS s p) 17) 3 L3.pa (by show ¬ ((kd s (nxt s (thrS s p) 17) : Nat) : Int) = 3; omega)).mono ?_
        rintro e w4 ⟨rfl, rfl⟩
        go_wp2_with fail
        have L3p3 := L3.put' 3 (.int .i64 0) #[.int .i64 4, .slice none 0 0, .int .i64 ((tk s p.i).num : Nat), .int .i64 0, .int .i64 0, .int .i64 0] rfl
        have LD := L3p3.done6 (.int .i64 4) (.slice none 0 0) (.int .i64 ((tk s p.i).num : Nat)) (.int .i64 0) (.int .i64 0) (.int .i64 0)
        obtain ⟨d0, d1, d2, d3, d4, d5, _⟩ := loc6 LD.res
        exact bodyPost_ret (v := .tuple #[.agg #[.int .i64 4, .slice none 0 0, .int .i64 ((tk s p.i).num : Nat), .int .i64 0, .int .i64 0, .int .i64 0], .bool false]) (by simp [results, Tryz.results234, go_sem, d0, d1, d2, d3, d4, d5]) rfl (postF_err _ _ _ _ _ _ _ _ (by unfold registerS; rw [if_pos h17, if_neg h3]) LD.g LD.pa ((nxt_thr s _ 17).2.1.trans (thrS_o s p).1))
    · skip
      refine (pass_no _ b s (thrS s p) 17 L2a.pa (by show ¬ ((kd s (thrS s p) : Nat) : Int) = 17; omega)).mono ?_
      rintro e w3 ⟨rfl, rfl⟩
      go_wp2_with fail
      have LD := L2a.done6 (.int .i64 4) (.slice none 0 0) (.int .i64 ((tk s p.i).num : Nat)) (.int .i64 0) (.int .i64 0) (.int .i64 0)
      obtain ⟨d0, d1, d2, d3, d4, d5, _⟩ := loc6 LD.res
      exact bodyPost_ret (v := .tuple #[.agg #[.int .i64 4, .slice none 0 0, .int .i64 ((tk s p.i).num : Nat), .int .i64 0, .int .i64 0, .int .i64 0], .bool false]) (by simp [results, Tryz.results234, go_sem, d0, d1, d2, d3, d4, d5]) rfl (postF_err _ _ _ _ _ _ _ _ (by unfold registerS; rw [if_neg h17]) LD.g LD.pa (thrS_o s p).1)
  · skip
    have HT : Hid (thrS s p = nxt s p 4) := if_neg hj
    have hj2 : ¬ (nxt s p 4).thr ≤ (tk s p.i).num := hj
    go_quiet (fail)
    go_wp2_with fail
    have L1q := (L1p2.drewN nq).as HT.out
    by_cases h17 : kd s (thrS s p) = 17
    · skip
      refine (pass_yes _ b s (thrS s p) 17 L1q.pa (by show ((kd s (thrS s p) : Nat) : Int) = 17; omega)).mono ?_
      rintro e w2 ⟨rfl, hg2, hp2⟩
      have L2 := L1q.call hg2 hp2
      try clear a0 a1 a2 a3 a4 a5 af b0 b1 b2 b3 b4 b5 bf
      obtain ⟨⟨a0, a1, a2, a3, a4, a5, af⟩, ⟨b0, b1, b2, b3, b4, b5, bf⟩⟩ := L2.get6
      go_wp2_with fail
      by_cases h3 : kd s (nxt s (thrS s p) 17) = 3
      · skip
        refine (take_yes _ b s (nxt s (thrS s p) 17) 3 L2.pa (by show ((kd s (nxt s (thrS s p) 17) : Nat) : Int) = 3; omega)).mono ?_
        rintro e w3 ⟨rfl, hg3, hp3⟩
        have L3 := L2.call hg3 hp3
        try clear a0 a1 a2 a3 a4 a5 af b0 b1 b2 b3 b4 b5 bf
        obtain ⟨⟨a0, a1, a2, a3, a4, a5, af⟩, ⟨b0, b1, b2, b3, b4, b5, bf⟩⟩ := L3.get6
        go_wp2_with fail
        have L3p3 := L3.put' 3 (.int .i64 ((tk s (nxt s (thrS s p) 17).i).num : Nat)) #[.int .i64 4, .slice none 0 0, .int .i64 ((tk s p.i).num : Nat), .int .i64 ((tk s (nxt s (thrS s p) 17).i).num : Nat), .int .i64 0, .int .i64 0] rfl
        have heq := eqd_any _ b s (nxt s (nxt s (thrS s p) 17) 3) L3p3.pa
        refine heq.mono ?_
        clear heq
        rintro e w8 ⟨hg8, hr8⟩
        have HO : Hid ((nxt s (nxt s (thrS s p) 17) 3).opn = p.opn) := (nxt_thr s _ 3).2.1.trans ((nxt_thr s _ 17).2.1.trans (thrS_o s p).1)
        have HI : Hid (p.i ≤ (nxt s (nxt s (thrS s p) 17) 3).i ∧ (nxt s (nxt s (thrS s p) 17) 3).i ≤ s.size) := by have h1 := nxt_mono s p 4 h.isz; have h0 := (thrS_o s p).2; have h2 := nxt_mono s (thrS s p) 17 (by omega); have h3 := nxt_mono s (nxt s (thrS s p) 17) 3 h2.2; exact ⟨by omega, h3.2⟩
        cases hs : eqdS s (nxt s (nxt s (thrS s p) 17) 3) with
        | error q =>
          rw [hs] at hr8
          obtain ⟨rfl, p8, hp8, hq8, ho8⟩ := hr8
          have HO8 : Hid (p8.opn = p.opn) := ho8.trans HO.out
          clear ho8
          have HS : Hid (registerS s p = .error q) := by show _ = _; unfold registerS; rw [if_pos h17, if_pos h3, hs]; rfl
          clear hs
          have L8 := L3p3.call hg8 hp8
          try clear a0 a1 a2 a3 a4 a5 af b0 b1 b2 b3 b4 b5 bf
          obtain ⟨⟨a0, a1, a2, a3, a4, a5, af⟩, ⟨b0, b1, b2, b3, b4, b5, bf⟩⟩ := L8.get6
          go_wp2_with fail
          have L8p5 := L8.put' 5 (.int .i64 0) #[.int .i64 4, .slice none 0 0, .int .i64 ((tk s p.i).num : Nat), .int .i64 ((tk s (nxt s (thrS s p) 17).i).num : Nat), .int .i64 0, .int .i64 0] rfl
          have LD := L8p5.done6 (.int .i64 4) (.slice none 0 0) (.int .i64 ((tk s p.i).num : Nat)) (.int .i64 ((tk s (nxt s (thrS s p) 17).i).num : Nat)) (.int .i64 0) (.int .i64 0)
          obtain ⟨d0, d1, d2, d3, d4, d5, _⟩ := loc6 LD.res
          exact bodyPost_ret (v := .tuple #[.agg #[.int .i64 4, .slice none 0 0, .int .i64 ((tk s p.i).num : Nat), .int .i64 ((tk s (nxt s (thrS s p) 17).i).num : Nat), .int .i64 0, .int .i64 0], .bool false]) (by simp [results, Tryz.results234, go_sem, d0, d1, d2, d3, d4, d5]) rfl (postF_err (p' := p8) _ _ _ _ _ _ _ _ (by rw [HS.out, hq8]) LD.g LD.pa HO8.out)
        | ok r =>
          obtain ⟨d, p8⟩ := r
          rw [hs] at hr8
          obtain ⟨rfl, hp8⟩ := hr8
          have HS : Hid (registerS s p = .ok p8) := by show _ = _; unfold registerS; rw [if_pos h17, if_pos h3, hs]; rfl
          have HRN : Hid (Ren s p.i p8.i (regT (nm s p) (nm s (nxt s (thrS s p) 17)) d) ∧ nm s p ≤ 9 ∧ nm s (nxt s (thrS s p) 17) ≤ 3 ∧ d ≤ 9) := reg_ren hk (thrS_o s p).2 h17 h3 hs
          have HO8 : Hid (p8.opn = p.opn) := (eqdS_kept hs).2.1.trans HO.out
          have HI8 : Hid (p.i ≤ p8.i) := Nat.le_trans HI.out.1 (eqdS_mono hs HI.out.2)
          clear hs
          have L8 := L3p3.call hg8 hp8
          try clear a0 a1 a2 a3 a4 a5 af b0 b1 b2 b3 b4 b5 bf
          obtain ⟨⟨a0, a1, a2, a3, a4, a5, af⟩, ⟨b0, b1, b2, b3, b4, b5, bf⟩⟩ := L8.get6
          go_wp2_with fail
          have L8p5 := L8.put' 5 (.int .i64 (d : Nat)) #[.int .i64 4, .slice none 0 0, .int .i64 ((tk s p.i).num : Nat), .int .i64 ((tk s (nxt s (thrS s p) 17).i).num : Nat), .int .i64 0, .int .i64 (d : Nat)] rfl
          have LD := L8p5.done6 (.int .i64 4) (.slice none 0 0) (.int .i64 ((tk s p.i).num : Nat)) (.int .i64 ((tk s (nxt s (thrS s p) 17).i).num : Nat)) (.int .i64 0) (.int .i64 (d : Nat))
          obtain ⟨d0, d1, d2, d3, d4, d5, _⟩ := loc6 LD.res
          exact bodyPost_ret (v := .tuple #[.agg #[.int .i64 4, .slice none 0 0, .int .i64 ((tk s p.i).num : Nat), .int .i64 ((tk s (nxt s (thrS s p) 17).i).num : Nat), .int .i64 0, .int .i64 (d : Nat)], .bool true]) (by simp [results, Tryz.results234, go_sem, d0, d1, d2, d3, d4, d5]) rfl (postF_ok _ _ _ _ _ _ _ _ HS.out LD.g LD.pa HO8.out HI8.out ⟨1, _, FRep.reg (nm s p) (nm s (nxt s (thrS s p) 17)) d HRN.out.2.1 HRN.out.2.2.1 HRN.out.2.2.2, HRN.out.1⟩)
      · skip
        refine (take_no _ b s (nxt s (thrS s p) 17) 3 L2.pa (by show ¬ ((kd s (nxt s (thrS s p) 17) : Nat) : Int) = 3; omega)).mono ?_
        rintro e w3 ⟨rfl, rfl⟩
        go_wp2_with fail
        have L2p3 := L2.put' 3 (.int .i64 0) #[.int .i64 4, .slice none 0 0, .int .i64 ((tk s p.i).num : Nat), .int .i64 0, .int .i64 0, .int .i64 0] rfl
        have LD := L2p3.done6 (.int .i64 4) (.slice none 0 0) (.int .i64 ((tk s p.i).num : Nat)) (.int .i64 0) (.int .i64 0) (.int .i64 0)
        obtain ⟨d0, d1, d2, d3, d4, d5, _⟩ := loc6 LD.res
        exact bodyPost_ret (v := .tuple #[.agg #[.int .i64 4, .slice none 0 0, .int .i64 ((tk s p.i).num : Nat), .int .i64 0, .int .i64 0, .int .i64 0], .bool false]) (by simp [results, Tryz.results234, go_sem, d0, d1, d2, d3, d4, d5]) rfl (postF_err _ _ _ _ _ _ _ _ (by unfold registerS; rw [if_pos h17, if_neg h3]) LD.g LD.pa ((nxt_thr s _ 17).2.1.trans (thrS_o s p).1))
    · skip
      refine (pass_no _ b s (thrS s p) 17 L1q.pa (by show ¬ ((kd s (thrS s p) : Nat) : Int) = 17; omega)).mono ?_
      rintro e w2 ⟨rfl, rfl⟩
      go_wp2_with fail
      have LD := L1q.done6 (.int .i64 4) (.slice none 0 0) (.int .i64 ((tk s p.i).num : Nat)) (.int .i64 0) (.int .i64 0) (.int .i64 0)
      obtain ⟨d0, d1, d2, d3, d4, d5, _⟩ := loc6 LD.res
      exact bodyPost_ret (v := .tuple #[.agg #[.int .i64 4, .slice none 0 0, .int .i64 ((tk s p.i).num : Nat), .int .i64 0, .int .i64 0, .int .i64 0], .bool false]) (by simp [results, Tryz.results234, go_sem, d0, d1, d2, d3, d4, d5]) rfl (postF_err _ _ _ _ _ _ _ _ (by unfold registerS; rw [if_neg h17]) LD.g LD.pa (thrS_o s p).1)

end Go.Proofs.YtmpaeladhoomoaaGreatDoor
