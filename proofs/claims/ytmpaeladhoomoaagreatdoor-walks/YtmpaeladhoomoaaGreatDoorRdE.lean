/-
  The program's reader: comparisons, branches, steps.
-/
import Derived.Test.YtmpaeladhoomoaaGreatDoorRdD
namespace Go.Proofs.YtmpaeladhoomoaaGreatDoor
open Go.RowKit

def PostN (w : World) (b : Nat) (s : ByteArray) (p : PS) (r : Except Nat (Nat × PS)) (e : Ending) (w' : World) : Prop :=
  w.grownBy w' (some b) ∧ match r with
  | .ok (d, p') => e = .returned (.tuple #[.int .i64 (d : Nat), .bool true]) ∧ PAt w' b s p'
  | .error q => e = .returned (.tuple #[.int .i64 0, .bool false]) ∧ ∃ p', PAt w' b s p' ∧ pl s p' = q ∧ p'.opn = p.opn

set_option maxHeartbeats 400000 in
theorem eqd_any (w : World) (b : Nat) (s : ByteArray) (p : PS) (h : PAt w b s p) :
    Calls Tryz.prog 232 #[.pointer (some ⟨b, 0, none⟩)] w fun e w' => PostN w b s p (eqdS s p) e w' := by
  go_enter Tryz.func232, Tryz.ntmps232
  go_wp2_with fail
  by_cases h16 : kd s p = 16
  · refine (pass_yes _ b s p 16 h (by show ((kd s p : Nat) : Int) = 16; omega)).mono ?_
    rintro e w1 ⟨rfl, hg1, hp1⟩
    go_wp2_with fail
    by_cases h4 : kd s (nxt s p 16) = 4
    · refine (take_yes _ b s (nxt s p 16) 4 hp1 (by show ((kd s (nxt s p 16) : Nat) : Int) = 4; omega)).mono ?_
      rintro e w2 ⟨rfl, hg2, hp2⟩
      have HS : Hid (eqdS s p = .ok (nm s (nxt s p 16), nxt s (nxt s p 16) 4)) := by show _ = _; unfold eqdS; rw [if_pos h16, if_pos h4]
      go_wp2_with fail
      go_ret2
      refine ⟨gb_trans hg1 hg2, ?_⟩
      rw [HS.out]
      exact ⟨rfl, hp2⟩
    · refine (take_no _ b s (nxt s p 16) 4 hp1 (by show ¬ ((kd s (nxt s p 16) : Nat) : Int) = 4; omega)).mono ?_
      rintro e w2 ⟨rfl, rfl⟩
      have HS : Hid (eqdS s p = .error (pl s (nxt s p 16))) := by show _ = _; unfold eqdS; rw [if_pos h16, if_neg h4]
      go_wp2_with fail
      go_ret2
      refine ⟨hg1, ?_⟩
      rw [HS.out]
      exact ⟨rfl, _, hp1, rfl, (nxt_thr s p 16).2.1⟩
  · refine (pass_no _ b s p 16 h (by show ¬ ((kd s p : Nat) : Int) = 16; omega)).mono ?_
    rintro e w1 ⟨rfl, rfl⟩
    have HS : Hid (eqdS s p = .error (pl s p)) := by show _ = _; unfold eqdS; rw [if_neg h16]
    go_wp2_with fail
    go_ret2
    refine ⟨gb_refl _ _, ?_⟩
    rw [HS.out]
    exact ⟨rfl, _, h, rfl, rfl⟩

set_option maxHeartbeats 400000 in
theorem branch_any (w : World) (b : Nat) (s : ByteArray) (p : PS) (h : PAt w b s p) (hk : kd s p = 8) :
    Calls Tryz.prog 202 #[.pointer (some ⟨b, 0, none⟩)] w fun e w' => PostSt w b s (branchS s p) e w' := by
  go_enter Tryz.func202, Tryz.ntmps202
  go_wp2_with fail
  have L0 := L2.start h 107 #[.int .i64 0, .int .i64 0, .int .i64 0, .int .i64 0, .int .i64 0] #[.int .i64 6, .int .i64 0, .int .i64 0, .int .i64 0, .int .i64 0]
  refine (pass_yes _ b s p 8 L0.pa (by show ((kd s p : Nat) : Int) = 8; omega)).mono ?_
  rintro e w1 ⟨rfl, hg1, hp1⟩
  have L1 := L0.call hg1 hp1
  try clear a0 a1 a2 a3 a4 af b0 b1 b2 b3 b4 bf
  obtain ⟨⟨a0, a1, a2, a3, a4, af⟩, ⟨b0, b1, b2, b3, b4, bf⟩⟩ := L1.get5
  go_wp2_with fail
  by_cases h3 : kd s (nxt s p 8) = 3
  · skip
    refine (take_yes _ b s (nxt s p 8) 3 L1.pa (by show ((kd s (nxt s p 8) : Nat) : Int) = 3; omega)).mono ?_
    rintro e w2 ⟨rfl, hg2, hp2⟩
    have L2 := L1.call hg2 hp2
    try clear a0 a1 a2 a3 a4 af b0 b1 b2 b3 b4 bf
    obtain ⟨⟨a0, a1, a2, a3, a4, af⟩, ⟨b0, b1, b2, b3, b4, bf⟩⟩ := L2.get5
    go_wp2_with fail
    have L2p2 := L2.put' 2 (.int .i64 ((tk s (nxt s p 8).i).num : Nat)) #[.int .i64 6, .int .i64 0, .int .i64 ((tk s (nxt s p 8).i).num : Nat), .int .i64 0, .int .i64 0] rfl
    have heq := eqd_any _ b s (nxt s (nxt s p 8) 3) L2p2.pa
    refine heq.mono ?_
    clear heq
    rintro e w8 ⟨hg8, hr8⟩
    cases hs : eqdS s (nxt s (nxt s p 8) 3) with
    | error q =>
      rw [hs] at hr8
      obtain ⟨rfl, p8, hp8, hq8, _⟩ := hr8
      have HS : Hid (branchS s p = .error q) := by show _ = _; unfold branchS; rw [if_pos h3, hs]
      clear hs
      have L8 := L2p2.call hg8 hp8
      try clear a0 a1 a2 a3 a4 af b0 b1 b2 b3 b4 bf
      obtain ⟨⟨a0, a1, a2, a3, a4, af⟩, ⟨b0, b1, b2, b3, b4, bf⟩⟩ := L8.get5
      go_wp2_with fail
      have L8p3 := L8.put' 3 (.int .i64 0) #[.int .i64 6, .int .i64 0, .int .i64 ((tk s (nxt s p 8).i).num : Nat), .int .i64 0, .int .i64 0] rfl
      have LD := L8p3.done5 (.int .i64 6) (.int .i64 0) (.int .i64 ((tk s (nxt s p 8).i).num : Nat)) (.int .i64 0) (.int .i64 0)
      obtain ⟨d0, d1, d2, d3, d4, _⟩ := loc5 LD.res
      exact bodyPost_ret (v := .tuple #[.agg #[.int .i64 6, .int .i64 0, .int .i64 ((tk s (nxt s p 8).i).num : Nat), .int .i64 0, .int .i64 0], .bool false]) (by simp [results, Tryz.results202, go_sem, d0, d1, d2, d3, d4]) rfl (post_err (p' := p8) _ _ _ _ _ (by rw [HS.out, hq8]) LD)
    | ok r =>
      obtain ⟨d, p8⟩ := r
      rw [hs] at hr8
      obtain ⟨rfl, hp8⟩ := hr8
      have HS : Hid (branchS s p = if kd s p8 = 9 then (if kd s (nxt s p8 9) = 4 then .ok (⟨6, 0, nm s (nxt s p 8), d, nm s (nxt s p8 9)⟩, nxt s (nxt s p8 9) 4) else .error (pl s (nxt s p8 9))) else .error (pl s p8)) := by show _ = _; unfold branchS; rw [if_pos h3, hs]
      clear hs
      have L8 := L2p2.call hg8 hp8
      try clear a0 a1 a2 a3 a4 af b0 b1 b2 b3 b4 bf
      obtain ⟨⟨a0, a1, a2, a3, a4, af⟩, ⟨b0, b1, b2, b3, b4, bf⟩⟩ := L8.get5
      go_wp2_with fail
      have L8p3 := L8.put' 3 (.int .i64 (d : Nat)) #[.int .i64 6, .int .i64 0, .int .i64 ((tk s (nxt s p 8).i).num : Nat), .int .i64 (d : Nat), .int .i64 0] rfl
      by_cases h9 : kd s p8 = 9
      · skip
        refine (pass_yes _ b s p8 9 L8p3.pa (by show ((kd s p8 : Nat) : Int) = 9; omega)).mono ?_
        rintro e w9 ⟨rfl, hg9, hp9⟩
        have L9 := L8p3.call hg9 hp9
        try clear a0 a1 a2 a3 a4 af b0 b1 b2 b3 b4 bf
        obtain ⟨⟨a0, a1, a2, a3, a4, af⟩, ⟨b0, b1, b2, b3, b4, bf⟩⟩ := L9.get5
        go_wp2_with fail
        by_cases h4 : kd s (nxt s p8 9) = 4
        · skip
          refine (take_yes _ b s (nxt s p8 9) 4 L9.pa (by show ((kd s (nxt s p8 9) : Nat) : Int) = 4; omega)).mono ?_
          rintro e w10 ⟨rfl, hg10, hp10⟩
          have L10 := L9.call hg10 hp10
          try clear a0 a1 a2 a3 a4 af b0 b1 b2 b3 b4 bf
          obtain ⟨⟨a0, a1, a2, a3, a4, af⟩, ⟨b0, b1, b2, b3, b4, bf⟩⟩ := L10.get5
          go_wp2_with fail
          have L10p4 := L10.put' 4 (.int .i64 ((tk s (nxt s p8 9).i).num : Nat)) #[.int .i64 6, .int .i64 0, .int .i64 ((tk s (nxt s p 8).i).num : Nat), .int .i64 (d : Nat), .int .i64 ((tk s (nxt s p8 9).i).num : Nat)] rfl
          have LD := L10p4.done5 (.int .i64 6) (.int .i64 0) (.int .i64 ((tk s (nxt s p 8).i).num : Nat)) (.int .i64 (d : Nat)) (.int .i64 ((tk s (nxt s p8 9).i).num : Nat))
          obtain ⟨d0, d1, d2, d3, d4, _⟩ := loc5 LD.res
          exact bodyPost_ret (v := .tuple #[.agg #[.int .i64 6, .int .i64 0, .int .i64 ((tk s (nxt s p 8).i).num : Nat), .int .i64 (d : Nat), .int .i64 ((tk s (nxt s p8 9).i).num : Nat)], .bool true]) (by simp [results, Tryz.results202, go_sem, d0, d1, d2, d3, d4]) rfl (post_ok ⟨6, 0, nm s (nxt s p 8), d, nm s (nxt s p8 9)⟩ (by rw [HS.out, if_pos h9, if_pos h4]) LD)
        · skip
          refine (take_no _ b s (nxt s p8 9) 4 L9.pa (by show ¬ ((kd s (nxt s p8 9) : Nat) : Int) = 4; omega)).mono ?_
          rintro e w10 ⟨rfl, rfl⟩
          go_wp2_with fail
          have L9p4 := L9.put' 4 (.int .i64 0) #[.int .i64 6, .int .i64 0, .int .i64 ((tk s (nxt s p 8).i).num : Nat), .int .i64 (d : Nat), .int .i64 0] rfl
          have LD := L9p4.done5 (.int .i64 6) (.int .i64 0) (.int .i64 ((tk s (nxt s p 8).i).num : Nat)) (.int .i64 (d : Nat)) (.int .i64 0)
          obtain ⟨d0, d1, d2, d3, d4, _⟩ := loc5 LD.res
          exact bodyPost_ret (v := .tuple #[.agg #[.int .i64 6, .int .i64 0, .int .i64 ((tk s (nxt s p 8).i).num : Nat), .int .i64 (d : Nat), .int .i64 0], .bool false]) (by simp [results, Tryz.results202, go_sem, d0, d1, d2, d3, d4]) rfl (post_err _ _ _ _ _ (by rw [HS.out, if_pos h9, if_neg h4]) LD)
      · skip
        refine (pass_no _ b s p8 9 L8p3.pa (by show ¬ ((kd s p8 : Nat) : Int) = 9; omega)).mono ?_
        rintro e w9 ⟨rfl, rfl⟩
        go_wp2_with fail
        have LD := L8p3.done5 (.int .i64 6) (.int .i64 0) (.int .i64 ((tk s (nxt s p 8).i).num : Nat)) (.int .i64 (d : Nat)) (.int .i64 0)
        obtain ⟨d0, d1, d2, d3, d4, _⟩ := loc5 LD.res
        exact bodyPost_ret (v := .tuple #[.agg #[.int .i64 6, .int .i64 0, .int .i64 ((tk s (nxt s p 8).i).num : Nat), .int .i64 (d : Nat), .int .i64 0], .bool false]) (by simp [results, Tryz.results202, go_sem, d0, d1, d2, d3, d4]) rfl (post_err _ _ _ _ _ (by rw [HS.out, if_neg h9]) LD)
  · skip
    refine (take_no _ b s (nxt s p 8) 3 L1.pa (by show ¬ ((kd s (nxt s p 8) : Nat) : Int) = 3; omega)).mono ?_
    rintro e w2 ⟨rfl, rfl⟩
    go_wp2_with fail
    have L1p2 := L1.put' 2 (.int .i64 0) #[.int .i64 6, .int .i64 0, .int .i64 0, .int .i64 0, .int .i64 0] rfl
    have LD := L1p2.done5 (.int .i64 6) (.int .i64 0) (.int .i64 0) (.int .i64 0) (.int .i64 0)
    obtain ⟨d0, d1, d2, d3, d4, _⟩ := loc5 LD.res
    exact bodyPost_ret (v := .tuple #[.agg #[.int .i64 6, .int .i64 0, .int .i64 0, .int .i64 0, .int .i64 0], .bool false]) (by simp [results, Tryz.results202, go_sem, d0, d1, d2, d3, d4]) rfl (post_err _ _ _ _ _ (by unfold branchS; rw [if_neg h3]) LD)


/-- The same with a result's block alone. -/
structure L1 (w0 w : World) (b : Nat) (s : ByteArray) (p : PS) (R : Nat) (t : TypeId) (rs : Array Value) : Prop where
  g : w0.grownBy w (some b)
  pa : PAt w b s p
  res : w.heap[R]? = some (.cells rs t (0, 0))
  hR : w0.heap.size ≤ R
  hb : b < w0.heap.size
theorem L1.start {w : World} {b : Nat} {s : ByteArray} {p : PS} (h : PAt w b s p) (t : TypeId) (rs : Array Value) : L1 w (w.alloc (.cells rs t (0, 0))) b s p w.heap.size t rs :=
  ⟨gb_alloc (gb_refl _ _) _, h.alloc _, heap_alloc_new w _, Nat.le_refl _, heap_lt h.blk⟩
theorem L1.call {w0 w w' : World} {b : Nat} {s : ByteArray} {p p' : PS} {R : Nat} {t : TypeId} {rs : Array Value} (l : L1 w0 w b s p R t rs) (hg : w.grownBy w' (some b)) (hp : PAt w' b s p') : L1 w0 w' b s p' R t rs :=
  ⟨gb_trans l.g hg, hp, heap_gb hg l.res (by simp; have := l.hb; have := l.hR; omega), l.hR, l.hb⟩
theorem L1.ret {w0 w : World} {b : Nat} {s : ByteArray} {p : PS} {R : Nat} {t : TypeId} {rs : Array Value} (l : L1 w0 w b s p R t rs) (o : Nat) (v : Value) : L1 w0 (w.setCell ⟨R, o, none⟩ v) b s p R t (rs.setIfInBounds o v) :=
  ⟨gb_put_new l.g l.hR o v, l.pa.other _ _ (by simp; have := l.hb; have := l.hR; omega), heap_set l.res o v, l.hR, l.hb⟩
theorem L1.done5 {w0 w : World} {b : Nat} {s : ByteArray} {p : PS} {R : Nat} {t : TypeId} {r0 r1 r2 r3 r4 : Value} (l : L1 w0 w b s p R t #[r0, r1, r2, r3, r4]) (v0 v1 v2 v3 v4 : Value) :
    L1 w0 (((((w.setCell ⟨R, 0, none⟩ v0).setCell ⟨R, 1, none⟩ v1).setCell ⟨R, 2, none⟩ v2).setCell ⟨R, 3, none⟩ v3).setCell ⟨R, 4, none⟩ v4) b s p R t #[v0, v1, v2, v3, v4] :=
  ((((l.ret 0 v0).ret 1 v1).ret 2 v2).ret 3 v3).ret 4 v4
theorem L1.ok {w w' : World} {b : Nat} {s : ByteArray} {p' : PS} {R : Nat} {t : TypeId} {rs : Array Value} {r : Except Nat (St × PS)} (x : St) (hr : r = .ok (x, p')) (l : L1 w w' b s p' R t rs) : PostSt w b s r (.returned (.tuple #[stV x, .bool true])) w' := by
  subst hr; exact ⟨l.g, rfl, l.pa⟩
theorem L1.err {w w' : World} {b : Nat} {s : ByteArray} {p' : PS} {R : Nat} {t : TypeId} {rs : Array Value} {r : Except Nat (St × PS)} (n0 n1 n2 n3 n4 : Int) (hr : r = .error (pl s p')) (l : L1 w w' b s p' R t rs) :
    PostSt w b s r (.returned (.tuple #[.agg #[.int .i64 n0, .int .i64 n1, .int .i64 n2, .int .i64 n3, .int .i64 n4], .bool false])) w' := by
  subst hr; exact ⟨l.g, ⟨n0, n1, n2, n3, n4, rfl⟩, p', l.pa, rfl⟩

set_option maxHeartbeats 1000000 in
theorem step_any (w : World) (b : Nat) (s : ByteArray) (p : PS) (h : PAt w b s p) :
    Calls Tryz.prog 150 #[.pointer (some ⟨b, 0, none⟩)] w fun e w' => PostSt w b s (stepS s p) e w' := by
  obtain ⟨c0, c1, c2, c3, c4, c5, c6, c7, c8, hf, hlt⟩ := h.get
  have L0 := L1.start h 107 #[.int .i64 0, .int .i64 0, .int .i64 0, .int .i64 0, .int .i64 0]
  by_cases hk : kd s p = 2
  · skip
    have k2 : (((tk s p.i).kind : Int) == 2) = true := by show ((kd s p : Int) == 2) = true; rw [hk]; rfl
    have HR : Hid (stepS s p = storeS s p) := by show _ = _; unfold stepS; rw [if_pos hk]
    go_enter Tryz.func150, Tryz.ntmps150
    go_wp2_with fail
    have hc := store_any _ b s p L0.pa hk
    refine hc.mono ?_
    clear hc
    rintro e w9 ⟨hg9, hr9⟩
    cases hs : storeS s p with
    | error q =>
      rw [hs] at hr9
      obtain ⟨⟨n0, n1, n2, n3, n4, rfl⟩, p9, hp9, hq9⟩ := hr9
      have L9 := L0.call hg9 hp9
      have HS : Hid (_ = _) := hs
      clear hs
      obtain ⟨b0, b1, b2, b3, b4, bf⟩ := loc5 L9.res
      go_wp2_with fail
      have LD := L9.done5 (.int .i64 n0) (.int .i64 n1) (.int .i64 n2) (.int .i64 n3) (.int .i64 n4)
      obtain ⟨d0, d1, d2, d3, d4, _⟩ := loc5 LD.res
      exact bodyPost_ret (v := .tuple #[.agg #[.int .i64 n0, .int .i64 n1, .int .i64 n2, .int .i64 n3, .int .i64 n4], .bool false]) (by simp [results, Tryz.results150, go_sem, d0, d1, d2, d3, d4]) rfl (L1.err (p' := p9) _ _ _ _ _ (by rw [HR.out, HS.out, hq9]) LD)
    | ok r =>
      obtain ⟨x, p9⟩ := r
      rw [hs] at hr9
      obtain ⟨rfl, hp9⟩ := hr9
      have L9 := L0.call hg9 hp9
      have HS : Hid (_ = _) := hs
      clear hs
      obtain ⟨b0, b1, b2, b3, b4, bf⟩ := loc5 L9.res
      unfold stV
      go_wp2_with fail
      have LD := L9.done5 (.int .i64 (x.kind : Nat)) (.int .i64 (x.place : Nat)) (.int .i64 (x.reg : Nat)) (.int .i64 (x.digit : Nat)) (.int .i64 (x.count : Nat))
      obtain ⟨d0, d1, d2, d3, d4, _⟩ := loc5 LD.res
      exact bodyPost_ret (v := .tuple #[.agg #[.int .i64 (x.kind : Nat), .int .i64 (x.place : Nat), .int .i64 (x.reg : Nat), .int .i64 (x.digit : Nat), .int .i64 (x.count : Nat)], .bool true]) (by simp [results, Tryz.results150, go_sem, d0, d1, d2, d3, d4]) rfl (L1.ok x (by rw [HR.out, HS.out]) LD)
  have k2 : (((tk s p.i).kind : Int) == 2) = false := by show ((kd s p : Int) == 2) = false; rw [beq_eq_false_iff_ne]; omega
  have hk2 := hk
  clear hk
  by_cases hk : kd s p = 3
  · skip
    have k3 : (((tk s p.i).kind : Int) == 3) = true := by show ((kd s p : Int) == 3) = true; rw [hk]; rfl
    have HR : Hid (stepS s p = assignS s p) := by show _ = _; unfold stepS; rw [if_neg hk2, if_pos hk]
    go_enter Tryz.func150, Tryz.ntmps150
    go_wp2_with fail
    have hc := assign_any _ b s p L0.pa hk
    refine hc.mono ?_
    clear hc
    rintro e w9 ⟨hg9, hr9⟩
    cases hs : assignS s p with
    | error q =>
      rw [hs] at hr9
      obtain ⟨⟨n0, n1, n2, n3, n4, rfl⟩, p9, hp9, hq9⟩ := hr9
      have L9 := L0.call hg9 hp9
      have HS : Hid (_ = _) := hs
      clear hs
      obtain ⟨b0, b1, b2, b3, b4, bf⟩ := loc5 L9.res
      go_wp2_with fail
      have LD := L9.done5 (.int .i64 n0) (.int .i64 n1) (.int .i64 n2) (.int .i64 n3) (.int .i64 n4)
      obtain ⟨d0, d1, d2, d3, d4, _⟩ := loc5 LD.res
      exact bodyPost_ret (v := .tuple #[.agg #[.int .i64 n0, .int .i64 n1, .int .i64 n2, .int .i64 n3, .int .i64 n4], .bool false]) (by simp [results, Tryz.results150, go_sem, d0, d1, d2, d3, d4]) rfl (L1.err (p' := p9) _ _ _ _ _ (by rw [HR.out, HS.out, hq9]) LD)
    | ok r =>
      obtain ⟨x, p9⟩ := r
      rw [hs] at hr9
      obtain ⟨rfl, hp9⟩ := hr9
      have L9 := L0.call hg9 hp9
      have HS : Hid (_ = _) := hs
      clear hs
      obtain ⟨b0, b1, b2, b3, b4, bf⟩ := loc5 L9.res
      unfold stV
      go_wp2_with fail
      have LD := L9.done5 (.int .i64 (x.kind : Nat)) (.int .i64 (x.place : Nat)) (.int .i64 (x.reg : Nat)) (.int .i64 (x.digit : Nat)) (.int .i64 (x.count : Nat))
      obtain ⟨d0, d1, d2, d3, d4, _⟩ := loc5 LD.res
      exact bodyPost_ret (v := .tuple #[.agg #[.int .i64 (x.kind : Nat), .int .i64 (x.place : Nat), .int .i64 (x.reg : Nat), .int .i64 (x.digit : Nat), .int .i64 (x.count : Nat)], .bool true]) (by simp [results, Tryz.results150, go_sem, d0, d1, d2, d3, d4]) rfl (L1.ok x (by rw [HR.out, HS.out]) LD)
  have k3 : (((tk s p.i).kind : Int) == 3) = false := by show ((kd s p : Int) == 3) = false; rw [beq_eq_false_iff_ne]; omega
  have hk3 := hk
  clear hk
  by_cases hk : kd s p = 8
  · skip
    have k8 : (((tk s p.i).kind : Int) == 8) = true := by show ((kd s p : Int) == 8) = true; rw [hk]; rfl
    have HR : Hid (stepS s p = branchS s p) := by show _ = _; unfold stepS; rw [if_neg hk2, if_neg hk3, if_pos hk]
    go_enter Tryz.func150, Tryz.ntmps150
    go_wp2_with fail
    have hc := branch_any _ b s p L0.pa hk
    refine hc.mono ?_
    clear hc
    rintro e w9 ⟨hg9, hr9⟩
    cases hs : branchS s p with
    | error q =>
      rw [hs] at hr9
      obtain ⟨⟨n0, n1, n2, n3, n4, rfl⟩, p9, hp9, hq9⟩ := hr9
      have L9 := L0.call hg9 hp9
      have HS : Hid (_ = _) := hs
      clear hs
      obtain ⟨b0, b1, b2, b3, b4, bf⟩ := loc5 L9.res
      go_wp2_with fail
      have LD := L9.done5 (.int .i64 n0) (.int .i64 n1) (.int .i64 n2) (.int .i64 n3) (.int .i64 n4)
      obtain ⟨d0, d1, d2, d3, d4, _⟩ := loc5 LD.res
      exact bodyPost_ret (v := .tuple #[.agg #[.int .i64 n0, .int .i64 n1, .int .i64 n2, .int .i64 n3, .int .i64 n4], .bool false]) (by simp [results, Tryz.results150, go_sem, d0, d1, d2, d3, d4]) rfl (L1.err (p' := p9) _ _ _ _ _ (by rw [HR.out, HS.out, hq9]) LD)
    | ok r =>
      obtain ⟨x, p9⟩ := r
      rw [hs] at hr9
      obtain ⟨rfl, hp9⟩ := hr9
      have L9 := L0.call hg9 hp9
      have HS : Hid (_ = _) := hs
      clear hs
      obtain ⟨b0, b1, b2, b3, b4, bf⟩ := loc5 L9.res
      unfold stV
      go_wp2_with fail
      have LD := L9.done5 (.int .i64 (x.kind : Nat)) (.int .i64 (x.place : Nat)) (.int .i64 (x.reg : Nat)) (.int .i64 (x.digit : Nat)) (.int .i64 (x.count : Nat))
      obtain ⟨d0, d1, d2, d3, d4, _⟩ := loc5 LD.res
      exact bodyPost_ret (v := .tuple #[.agg #[.int .i64 (x.kind : Nat), .int .i64 (x.place : Nat), .int .i64 (x.reg : Nat), .int .i64 (x.digit : Nat), .int .i64 (x.count : Nat)], .bool true]) (by simp [results, Tryz.results150, go_sem, d0, d1, d2, d3, d4]) rfl (L1.ok x (by rw [HR.out, HS.out]) LD)
  have k8 : (((tk s p.i).kind : Int) == 8) = false := by show ((kd s p : Int) == 8) = false; rw [beq_eq_false_iff_ne]; omega
  go_enter Tryz.func150, Tryz.ntmps150
  go_wp2_with fail
  by_cases h6 : kd s p = 6
  · refine (pass_yes _ b s p 6 L0.pa (by show ((kd s p : Nat) : Int) = 6; omega)).mono ?_
    rintro e w1 ⟨rfl, hg1, hp1⟩
    have L9 := L0.call hg1 hp1
    obtain ⟨b0, b1, b2, b3, b4, bf⟩ := loc5 L9.res
    go_wp2_with fail
    have LD := L9.done5 (.int .i64 5) (.int .i64 0) (.int .i64 0) (.int .i64 0) (.int .i64 0)
    obtain ⟨d0, d1, d2, d3, d4, _⟩ := loc5 LD.res
    exact bodyPost_ret (v := .tuple #[.agg #[.int .i64 5, .int .i64 0, .int .i64 0, .int .i64 0, .int .i64 0], .bool true]) (by simp [results, Tryz.results150, go_sem, d0, d1, d2, d3, d4]) rfl (L1.ok ⟨5, 0, 0, 0, 0⟩ (by unfold stepS; rw [if_neg hk2, if_neg hk3, if_neg hk, if_pos h6]) LD)
  · refine (pass_no _ b s p 6 L0.pa (by show ¬ ((kd s p : Nat) : Int) = 6; omega)).mono ?_
    rintro e w1 ⟨rfl, rfl⟩
    go_wp2_with fail
    have LD := L1.start h 107 #[.int .i64 5, .int .i64 0, .int .i64 0, .int .i64 0, .int .i64 0]
    obtain ⟨d0, d1, d2, d3, d4, _⟩ := loc5 LD.res
    exact bodyPost_ret (v := .tuple #[.agg #[.int .i64 5, .int .i64 0, .int .i64 0, .int .i64 0, .int .i64 0], .bool false]) (by simp [results, Tryz.results150, go_sem, d0, d1, d2, d3, d4]) rfl (L1.err _ _ _ _ _ (by unfold stepS; rw [if_neg hk2, if_neg hk3, if_neg hk, if_neg h6]) LD)

end Go.Proofs.YtmpaeladhoomoaaGreatDoor
