/-
  The two readers beside one another, plainly: a step.
-/
import Derived.Test.YtmpaeladhoomoaaGreatDoorEqA
namespace Go.Proofs.YtmpaeladhoomoaaGreatDoor

/-- The document's parser stands where the program's does; nothing went wrong. -/
def SS (p : PS) (q0 q : Q) : Prop := q.bad = q0.bad ∧ q.j = p.i ∧ q.opn = q0.opn ∧ q0.bad < 0
/-- The document's parser has failed at e. -/
def SE (e : Nat) (q0 q : Q) : Prop := q.bad = (e : Int) ∧ q.opn = q0.opn
theorem SS.k {s : ByteArray} {p : PS} {q0 q : Q} (h : SS p q0 q) : qk s q = kd s p := qk_eq h.2.1
theorem SS.b {p : PS} {q0 q : Q} (h : SS p q0 q) : q.bad < 0 := by have := h.1; have := h.2.2.2; omega
theorem SS.go {s : ByteArray} {p : PS} {q0 q : Q} (h : SS p q0 q) (c : Int) : SS (nxt s p c) q0 (adv s q) := ⟨h.1, kd_nxt s p q c h.2.1, h.2.2.1, h.2.2.2⟩
theorem SS.no {s : ByteArray} {p : PS} {q0 q : Q} (h : SS p q0 q) : SE (pl s p) q0 (failQ s q) := by
  have := failQ_new (s := s) h.b
  rw [qa_eq h.2.1] at this
  exact ⟨this.1, this.2.trans h.2.2.1⟩
theorem SS.kind {s : ByteArray} {p : PS} {q0 q : Q} (h : SS p q0 q) (ci : Int) (c : Nat) (hk : kd s p = c) (hc : 2 ≤ c) : SS (nxt s p ci) q0 (kindQ s q c) := by
  rw [kindQ_ok h.b (h.k.trans hk) hc]; exact h.go _
theorem SS.kindE {s : ByteArray} {p : PS} {q0 q : Q} (h : SS p q0 q) {c : Nat} (hk : ¬ kd s p = c) : SE (pl s p) q0 (kindQ s q c) := by
  rw [kindQ_err (by rw [h.k]; exact hk)]; exact h.no
theorem SS.need {s : ByteArray} {p : PS} {q0 q : Q} (h : SS p q0 q) (ci : Int) (c : Nat) (hk : kd s p = c) (hc : 2 ≤ c) : SS (nxt s p ci) q0 (needQ s q c) := by
  rw [needQ_ok h.b (h.k.trans hk) hc]; exact h.go _
theorem SS.needE {s : ByteArray} {p : PS} {q0 q : Q} (h : SS p q0 q) {c : Nat} (hk : ¬ kd s p = c) : SE (pl s p) q0 (needQ s q c) := by
  rw [needQ_err (by rw [h.k]; exact hk)]; exact h.no
theorem SS.take {s : ByteArray} {p : PS} {q0 q : Q} (h : SS p q0 q) (c : Int) (hk : 2 ≤ kd s p) : SS (nxt s p c) q0 (takeQ s q) := by
  rw [takeQ_ok h.b (by rw [h.k]; omega)]; exact h.go _
theorem SS.is {s : ByteArray} {p : PS} {q0 q : Q} (h : SS p q0 q) (c : Nat) : isQ s q c = decide (kd s p = c) := by
  unfold isQ; rw [h.k, decide_eq_true h.b]; rfl
theorem SE.p {e : Nat} {q0 q : Q} (h : SE e q0 q) : 0 ≤ q.bad := by rw [h.1]; omega
theorem SE.kind {s : ByteArray} {e : Nat} {q0 q : Q} (h : SE e q0 q) (c : Nat) : SE e q0 (kindQ s q c) := by rw [kindQ_keep h.p]; exact h
theorem SE.need {s : ByteArray} {e : Nat} {q0 q : Q} (h : SE e q0 q) (c : Nat) : SE e q0 (needQ s q c) := by rw [needQ_keep h.p]; exact h
theorem SE.take {s : ByteArray} {e : Nat} {q0 q : Q} (h : SE e q0 q) : SE e q0 (takeQ s q) := by rw [takeQ_keep h.p]; exact h
theorem SE.is {s : ByteArray} {e : Nat} {q0 q : Q} (h : SE e q0 q) (c : Nat) : isQ s q c = false := by unfold isQ; have := h.p; simp; omega
theorem isQ_keep {s : ByteArray} {q : Q} (hb : 0 ≤ q.bad) (c : Nat) : isQ s q c = false := by unfold isQ; simp; omega

/-- The document's step beside the program's and its ';'. -/
def Sim (s : ByteArray) (q : Q) (r : Except Nat (St × PS)) : Prop :=
  match r with
  | .error e => SE e q (stepQ s q).2
  | .ok (x, p') => SS p' q (stepQ s q).2 ∧ ((stepQ s q).1.kind = 106 ↔ x.kind = 6) ∧ (x.kind = 6 → (stepQ s q).1.skip = x.count ∧ (stepQ s q).1.at_ = p'.dig)
/-- A step's end. -/
theorem Sim.ok {s : ByteArray} {q q1 : Q} {x : RSt} {y : St} {p1 : PS} (e : stepQ s q = (x, needQ s q1 18)) (h : SS p1 q q1) (h1 : x.kind = 106 ↔ y.kind = 6) (h2 : y.kind = 6 → x.skip = y.count ∧ x.at_ = p1.dig) : Sim s q (if kd s p1 = 18 then .ok (y, nxt s p1 18) else .error (pl s p1)) := by
  unfold Sim
  rw [e]
  by_cases hk : kd s p1 = 18
  · rw [if_pos hk]
    exact ⟨h.need 18 18 hk (by omega), h1, fun hy => ⟨(h2 hy).1, by rw [nxt_dig18]; exact (h2 hy).2⟩⟩
  · rw [if_neg hk]
    exact h.needE hk
theorem Sim.err {s : ByteArray} {q q1 : Q} {x : RSt} {n : Nat} (e : stepQ s q = (x, needQ s q1 18)) (h : SE n q q1) : Sim s q (.error n) := by
  unfold Sim
  rw [e]
  exact h.need 18
theorem st2_ok {s : ByteArray} {p p1 : PS} {x : St} (h : stepS s p = .ok (x, p1)) : st2 s p = if kd s p1 = 18 then .ok (x, nxt s p1 18) else .error (pl s p1) := by unfold st2; rw [h]
theorem st2_err {s : ByteArray} {p : PS} {e : Nat} (h : stepS s p = .error e) : st2 s p = .error e := by unfold st2; rw [h]

theorem store_sim {s : ByteArray} {p : PS} {q : Q} (h : SS p q q) (hk : kd s p = 2) : Sim s q (st2 s p) := by
  have e0 : stepS s p = storeS s p := by unfold stepS; rw [if_pos hk]
  have h1 := h.kind 2 2 hk (by omega)
  have k2 : qk s q = 2 := h.k.trans hk
  by_cases h15 : kd s (nxt s p 2) = 15
  · have h2 := h1.need 15 15 h15 (by omega)
    by_cases h3 : kd s (nxt s (nxt s p 2) 15) = 3
    · rw [st2_ok (x := ⟨1, nm s p, nm s (nxt s (nxt s p 2) 15), 0, 0⟩) (p1 := nxt s (nxt s (nxt s p 2) 15) 3) (by rw [e0]; unfold storeS; rw [if_pos h15, if_pos h3])]
      exact Sim.ok (stepQ_A1 s q k2 (h2.k.trans h3)) (h2.kind 3 3 h3 (by omega)) (by simp) (by simp)
    · have eq := stepQ_A2 s q k2 (by rw [h2.k]; exact h3)
      by_cases h4 : kd s (nxt s (nxt s p 2) 15) = 4
      · rw [st2_ok (x := ⟨0, nm s p, 0, nm s (nxt s (nxt s p 2) 15), 0⟩) (p1 := nxt s (nxt s (nxt s p 2) 15) 4) (by rw [e0]; unfold storeS; rw [if_pos h15, if_neg h3, if_pos h4])]
        exact Sim.ok eq (h2.kind 4 4 h4 (by omega)) (by simp) (by simp)
      · rw [st2_err (e := pl s (nxt s (nxt s p 2) 15)) (by rw [e0]; unfold storeS; rw [if_pos h15, if_neg h3, if_neg h4])]
        exact Sim.err eq (h2.kindE h4)
  · have h2 := h1.needE h15
    rw [st2_err (e := pl s (nxt s p 2)) (by rw [e0]; unfold storeS; rw [if_neg h15])]
    by_cases h3 : qk s (needQ s (kindQ s q 2) 15) = 3
    · exact Sim.err (stepQ_A1 s q k2 h3) (h2.kind 3)
    · exact Sim.err (stepQ_A2 s q k2 h3) (h2.kind 4)

theorem assign_sim {s : ByteArray} {p : PS} {q : Q} (h : SS p q q) (hk : kd s p = 3) : Sim s q (st2 s p) := by
  have e0 : stepS s p = assignS s p := by unfold stepS; rw [if_neg (by omega), if_pos hk]
  have h1 := h.kind 3 3 hk (by omega)
  have k2 : ¬ qk s q = 2 := by rw [h.k]; omega
  have k3 : qk s q = 3 := h.k.trans hk
  by_cases h15 : kd s (nxt s p 3) = 15
  · have h2 := h1.need 15 15 h15 (by omega)
    by_cases a2 : kd s (nxt s (nxt s p 3) 15) = 2
    · rw [st2_ok (x := ⟨2, nm s (nxt s (nxt s p 3) 15), nm s p, 0, 0⟩) (p1 := nxt s (nxt s (nxt s p 3) 15) 2) (by rw [e0]; unfold assignS; rw [if_pos h15, if_pos a2])]
      exact Sim.ok (stepQ_B1 s q k2 k3 (h2.k.trans a2)) (h2.kind 2 2 a2 (by omega)) (by simp) (by simp)
    · have n2 : ¬ qk s (needQ s (kindQ s q 3) 15) = 2 := by rw [h2.k]; exact a2
      by_cases a4 : kd s (nxt s (nxt s p 3) 15) = 4
      · rw [st2_ok (x := ⟨3, 0, nm s p, nm s (nxt s (nxt s p 3) 15), 0⟩) (p1 := nxt s (nxt s (nxt s p 3) 15) 4) (by rw [e0]; unfold assignS; rw [if_pos h15, if_neg a2, if_pos a4])]
        exact Sim.ok (stepQ_B3 s q k2 k3 n2 (by rw [h2.is]; simp; omega)) (h2.kind 4 4 a4 (by omega)) (by simp) (by simp)
      · have e1 : stepS s p = swapS s (nxt s (nxt s p 3) 15) (nm s p) := by rw [e0]; unfold assignS; rw [if_pos h15, if_neg a2, if_neg a4]
        by_cases a7 : kd s (nxt s (nxt s p 3) 15) = 7
        · have eq := stepQ_B2 s q k2 k3 n2 (by rw [h2.is]; simp; omega)
          have h3 := h2.take (s := s) 7 (by omega)
          by_cases b2 : kd s (nxt s (nxt s (nxt s p 3) 15) 7) = 2
          · have h4 := h3.kind 2 2 b2 (by omega)
            by_cases c4 : kd s (nxt s (nxt s (nxt s (nxt s p 3) 15) 7) 2) = 4
            · rw [st2_ok (x := ⟨4, nm s (nxt s (nxt s (nxt s p 3) 15) 7), nm s p, nm s (nxt s (nxt s (nxt s (nxt s p 3) 15) 7) 2), 0⟩) (p1 := nxt s (nxt s (nxt s (nxt s (nxt s p 3) 15) 7) 2) 4) (by rw [e1]; unfold swapS; rw [if_pos a7, if_pos b2, if_pos c4])]
              exact Sim.ok eq (h4.kind 4 4 c4 (by omega)) (by simp) (by simp)
            · rw [st2_err (e := pl s (nxt s (nxt s (nxt s (nxt s p 3) 15) 7) 2)) (by rw [e1]; unfold swapS; rw [if_pos a7, if_pos b2, if_neg c4])]
              exact Sim.err eq (h4.kindE c4)
          · rw [st2_err (e := pl s (nxt s (nxt s (nxt s p 3) 15) 7)) (by rw [e1]; unfold swapS; rw [if_pos a7, if_neg b2])]
            exact Sim.err eq ((h3.kindE b2).kind 4)
        · rw [st2_err (e := pl s (nxt s (nxt s p 3) 15)) (by rw [e1]; unfold swapS; rw [if_neg a7])]
          exact Sim.err (stepQ_B3 s q k2 k3 n2 (by rw [h2.is]; simp; omega)) (h2.kindE a4)
  · have h2 := h1.needE h15
    rw [st2_err (e := pl s (nxt s p 3)) (by rw [e0]; unfold assignS; rw [if_neg h15])]
    by_cases h3 : qk s (needQ s (kindQ s q 3) 15) = 2
    · exact Sim.err (stepQ_B1 s q k2 k3 h3) (h2.kind 2)
    · exact Sim.err (stepQ_B3 s q k2 k3 h3 (h2.is 7)) (h2.kind 4)

theorem branch_sim {s : ByteArray} {p : PS} {q : Q} (h : SS p q q) (hk : kd s p = 8) : Sim s q (st2 s p) := by
  have e0 : stepS s p = branchS s p := by unfold stepS; rw [if_neg (by omega), if_neg (by omega), if_pos hk]
  have eq := stepQ_C2 s q (by rw [h.k]; omega) (by rw [h.k]; omega) (by rw [h.is]; simp; omega)
  have h1 := h.need 8 8 hk (by omega)
  by_cases a3 : kd s (nxt s p 8) = 3
  · have h2 := h1.kind 3 3 a3 (by omega)
    by_cases a16 : kd s (nxt s (nxt s p 8) 3) = 16
    · have h3 := h2.need 16 16 a16 (by omega)
      by_cases a4 : kd s (nxt s (nxt s (nxt s p 8) 3) 16) = 4
      · have h4 := h3.kind 4 4 a4 (by omega)
        have e1 : eqdS s (nxt s (nxt s p 8) 3) = .ok (nm s (nxt s (nxt s (nxt s p 8) 3) 16), nxt s (nxt s (nxt s (nxt s p 8) 3) 16) 4) := by unfold eqdS; rw [if_pos a16, if_pos a4]
        by_cases a9 : kd s (nxt s (nxt s (nxt s (nxt s p 8) 3) 16) 4) = 9
        · have h5 := h4.need 9 9 a9 (by omega)
          by_cases b4 : kd s (nxt s (nxt s (nxt s (nxt s (nxt s p 8) 3) 16) 4) 9) = 4
          · rw [st2_ok (x := ⟨6, 0, nm s (nxt s p 8), nm s (nxt s (nxt s (nxt s p 8) 3) 16), nm s (nxt s (nxt s (nxt s (nxt s (nxt s p 8) 3) 16) 4) 9)⟩) (p1 := nxt s (nxt s (nxt s (nxt s (nxt s (nxt s p 8) 3) 16) 4) 9) 4) (by rw [e0]; unfold branchS; rw [if_pos a3, e1]; show (if _ then _ else _) = _; rw [if_pos a9, if_pos b4])]
            refine Sim.ok eq (h5.kind 4 4 b4 (by omega)) (by simp) (fun _ => ⟨?_, ?_⟩)
            · show valQ s _ 4 = _
              rw [valQ_ok h5.b (h5.k.trans b4) (by omega)]; exact qn_eq h5.2.1
            · rw [nxt_dig4]; exact qa_eq h5.2.1
          · rw [st2_err (e := pl s (nxt s (nxt s (nxt s (nxt s (nxt s p 8) 3) 16) 4) 9)) (by rw [e0]; unfold branchS; rw [if_pos a3, e1]; show (if _ then _ else _) = _; rw [if_pos a9, if_neg b4])]
            exact Sim.err eq (h5.kindE b4)
        · rw [st2_err (e := pl s (nxt s (nxt s (nxt s (nxt s p 8) 3) 16) 4)) (by rw [e0]; unfold branchS; rw [if_pos a3, e1]; show (if _ then _ else _) = _; rw [if_neg a9])]
          exact Sim.err eq ((h4.needE a9).kind 4)
      · have e1 : eqdS s (nxt s (nxt s p 8) 3) = .error (pl s (nxt s (nxt s (nxt s p 8) 3) 16)) := by unfold eqdS; rw [if_pos a16, if_neg a4]
        rw [st2_err (e := pl s (nxt s (nxt s (nxt s p 8) 3) 16)) (by rw [e0]; unfold branchS; rw [if_pos a3, e1])]
        exact Sim.err eq (((h3.kindE a4).need 9).kind 4)
    · have e1 : eqdS s (nxt s (nxt s p 8) 3) = .error (pl s (nxt s (nxt s p 8) 3)) := by unfold eqdS; rw [if_neg a16]
      rw [st2_err (e := pl s (nxt s (nxt s p 8) 3)) (by rw [e0]; unfold branchS; rw [if_pos a3, e1])]
      exact Sim.err eq ((((h2.needE a16).kind 4).need 9).kind 4)
  · rw [st2_err (e := pl s (nxt s p 8)) (by rw [e0]; unfold branchS; rw [if_neg a3])]
    exact Sim.err eq (((((h1.kindE a3).need 16).kind 4).need 9).kind 4)

theorem step_sim {s : ByteArray} {p : PS} {q : Q} (h : SS p q q) : Sim s q (st2 s p) := by
  by_cases h2 : kd s p = 2
  · exact store_sim h h2
  by_cases h3 : kd s p = 3
  · exact assign_sim h h3
  by_cases h8 : kd s p = 8
  · exact branch_sim h h8
  by_cases h6 : kd s p = 6
  · rw [st2_ok (x := ⟨5, 0, 0, 0, 0⟩) (p1 := nxt s p 6) (by unfold stepS; rw [if_neg h2, if_neg h3, if_neg h8, if_pos h6])]
    exact Sim.ok (stepQ_C1 s q (by rw [h.k]; exact h2) (by rw [h.k]; exact h3) (by rw [h.is]; simp; omega)) (h.take (s := s) 6 (by omega)) (by simp) (by simp)
  · rw [st2_err (e := pl s p) (by unfold stepS; rw [if_neg h2, if_neg h3, if_neg h8, if_neg h6])]
    exact Sim.err (stepQ_C2 s q (by rw [h.k]; exact h2) (by rw [h.k]; exact h3) (by rw [h.is]; simp; omega)) (((((((h.needE h8).kind 3).need 16).kind 4).need 9).kind 4))
end Go.Proofs.YtmpaeladhoomoaaGreatDoor
