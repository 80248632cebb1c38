/-
  The two readers beside one another, plainly: tokens and steps.
  The two readers beside one another, plainly: a step.
  The two readers beside one another, plainly: threads.
  The two readers beside one another, plainly: all threads.
  The two readers beside one another, plainly: formulas.
  The two readers beside one another, plainly: the parts of a formula, and the whole.
  The two readers answer alike.
  Plain: the steps that the two readers read, field by field.
  The document's answer: jump, walked.
  The document's answer: the frame of Load's walk.
  The document's answer: Load, walked.
-/
import Derived.Test.YtmpaeladhoomoaaGreatDoorRfL
import Derived.Test.YtmpaeladhoomoaaGreatDoorRdN
import Derived.Test.YtmpaeladhoomoaaGreatDoorPrC
namespace Go.Proofs.YtmpaeladhoomoaaGreatDoor

def adv (s : ByteArray) (q : Q) : Q := { q with j := (tk s q.j).end_, n := q.n + 1 }
theorem takeQ_ok {s : ByteArray} {q : Q} (hb : q.bad < 0) (hk : ¬ qk s q ≤ 1) : takeQ s q = adv s q := by
  unfold takeQ; rw [if_neg hk, if_neg (by omega)]; rfl
theorem takeQ_keep {s : ByteArray} {q : Q} (hb : 0 ≤ q.bad) : takeQ s q = q := by
  unfold takeQ failQ
  split
  · rw [if_neg (by omega)]
  · rfl
theorem failQ_keep {s : ByteArray} {q : Q} (hb : 0 ≤ q.bad) : failQ s q = q := by unfold failQ; rw [if_neg (by omega)]
theorem failQ_new {s : ByteArray} {q : Q} (hb : q.bad < 0) : (failQ s q).bad = (qa s q : Int) ∧ (failQ s q).opn = q.opn := by unfold failQ; rw [if_pos hb]; exact ⟨rfl, rfl⟩
theorem needQ_ok {s : ByteArray} {q : Q} {c : Nat} (hb : q.bad < 0) (hk : qk s q = c) (hc : 2 ≤ c) : needQ s q c = adv s q := by
  unfold needQ
  rw [if_pos (by unfold isQ; simp [hb, hk])]
  exact takeQ_ok hb (by omega)
theorem needQ_err {s : ByteArray} {q : Q} {c : Nat} (hk : ¬ qk s q = c) : needQ s q c = failQ s q := by
  unfold needQ
  rw [if_neg (by unfold isQ; simp [hk])]
  exact takeQ_keep (failQ_bad s q)
theorem needQ_keep {s : ByteArray} {q : Q} {c : Nat} (hb : 0 ≤ q.bad) : needQ s q c = q := by
  unfold needQ
  rw [if_neg (by unfold isQ; simp; omega), failQ_keep hb]
  exact takeQ_keep hb
theorem kindQ_ok {s : ByteArray} {q : Q} {c : Nat} (hb : q.bad < 0) (hk : qk s q = c) (hc : 2 ≤ c) : kindQ s q c = adv s q := by
  unfold kindQ
  rw [if_pos hk]
  exact takeQ_ok hb (by omega)
theorem kindQ_err {s : ByteArray} {q : Q} {c : Nat} (hk : ¬ qk s q = c) : kindQ s q c = failQ s q := by
  unfold kindQ
  rw [if_neg hk]
  exact takeQ_keep (failQ_bad s q)
theorem kindQ_keep {s : ByteArray} {q : Q} {c : Nat} (hb : 0 ≤ q.bad) : kindQ s q c = q := by
  unfold kindQ
  split
  · exact takeQ_keep hb
  · rw [failQ_keep hb]; exact takeQ_keep hb
theorem valQ_ok {s : ByteArray} {q : Q} {c : Nat} (hb : q.bad < 0) (hk : qk s q = c) (hc : 2 ≤ c) : valQ s q c = qn s q := by
  unfold valQ
  rw [kindQ_ok hb hk hc, if_neg (by show ¬ 0 ≤ q.bad; omega)]
theorem stepQ_keep {s : ByteArray} {q : Q} (hb : 0 ≤ q.bad) : (stepQ s q).2 = q := by
  have i1 : ∀ c, isQ s q c = false := by intro c; unfold isQ; simp; omega
  have k1 : ∀ c, kindQ s q c = q := fun c => kindQ_keep hb
  have n1 : ∀ c, needQ s q c = q := fun c => needQ_keep hb
  unfold stepQ
  simp only [k1, n1, i1]
  repeat' split
  all_goals first
    | rfl
    | (exfalso; simp_all; done)

/-- A step and its ';'. -/
def st2 (s : ByteArray) (p : PS) : Except Nat (St × PS) :=
  match stepS s p with
  | .error e => .error e
  | .ok (x, p1) => if kd s p1 = 18 then .ok (x, nxt s p1 18) else .error (pl s p1)
/-- The document's step beside the program's. -/
def StepSim (s : ByteArray) (q : Q) (r : Except Nat (St × PS)) : Prop :=
  match r with
  | .error e => (stepQ s q).2.bad = (e : Int) ∧ (stepQ s q).2.opn = q.opn
  | .ok (x, p') => (stepQ s q).2.bad = q.bad ∧ (stepQ s q).2.j = p'.i ∧ (stepQ s q).2.opn = q.opn ∧ ((stepQ s q).1.kind = 106 ↔ x.kind = 6) ∧ (x.kind = 6 → (stepQ s q).1.skip = x.count ∧ (stepQ s q).1.at_ = p'.dig)
theorem adv_bad (s : ByteArray) (q : Q) : (adv s q).bad = q.bad ∧ (adv s q).opn = q.opn ∧ (adv s q).j = (tk s q.j).end_ := ⟨rfl, rfl, rfl⟩
theorem kd_nxt (s : ByteArray) (p : PS) (q : Q) (k : Int) (h : q.j = p.i) : (adv s q).j = (nxt s p k).i := by rw [nxt_i, ← h]; rfl
theorem qk_eq {s : ByteArray} {p : PS} {q : Q} (h : q.j = p.i) : qk s q = kd s p := by unfold qk kd; rw [h]
theorem qn_eq {s : ByteArray} {p : PS} {q : Q} (h : q.j = p.i) : qn s q = nm s p := by unfold qn nm; rw [h]
theorem qa_eq {s : ByteArray} {p : PS} {q : Q} (h : q.j = p.i) : qa s q = pl s p := by unfold qa pl; rw [h]
theorem nxt_dig4 (s : ByteArray) (p : PS) : (nxt s p 4).dig = pl s p := rfl
theorem nxt_dig18 (s : ByteArray) (p : PS) : (nxt s p 18).dig = p.dig := by unfold nxt; rw [if_neg (by omega)]

/-- A ';' behind what came out well. -/
theorem semi_sim {s : ByteArray} {p1 : PS} {q1 : Q} (hb : q1.bad < 0) (h : q1.j = p1.i) :
    (kd s p1 = 18 → (needQ s q1 18).bad = q1.bad ∧ (needQ s q1 18).j = (nxt s p1 18).i ∧ (needQ s q1 18).opn = q1.opn) ∧ (¬ kd s p1 = 18 → (needQ s q1 18).bad = (pl s p1 : Int) ∧ (needQ s q1 18).opn = q1.opn) := by
  refine ⟨fun hk => ?_, fun hk => ?_⟩
  · rw [needQ_ok hb (by rw [qk_eq h]; exact hk) (by omega)]
    exact ⟨rfl, kd_nxt s p1 q1 18 h, rfl⟩
  · rw [needQ_err (by rw [qk_eq h]; exact hk)]
    have := failQ_new (s := s) hb
    rw [qa_eq h] at this
    exact this
/-- What went wrong stays so. -/
theorem semi_bad {s : ByteArray} {q1 : Q} (hb : 0 ≤ q1.bad) : needQ s q1 18 = q1 := needQ_keep hb
end Go.Proofs.YtmpaeladhoomoaaGreatDoor

namespace Go.Proofs.YtmpaeladhoomoaaGreatDoor

/-- The document's parser stands where the program's does; nothing went wrong. -/
def SS (p : PS) (q0 q : Q) : Prop := q.bad = q0.bad ∧ q.j = p.i ∧ q.opn = q0.opn ∧ q0.bad < 0
/-- The document's parser has failed at e. -/
def SE (e : Nat) (q0 q : Q) : Prop := q.bad = (e : Int) ∧ q.opn = q0.opn
theorem SS.k {s : ByteArray} {p : PS} {q0 q : Q} (h : SS p q0 q) : qk s q = kd s p := qk_eq h.2.1
theorem SS.b {p : PS} {q0 q : Q} (h : SS p q0 q) : q.bad < 0 := by have := h.1; have := h.2.2.2; omega
theorem SS.go {s : ByteArray} {p : PS} {q0 q : Q} (h : SS p q0 q) (c : Int) : SS (nxt s p c) q0 (adv s q) := ⟨h.1, kd_nxt s p q c h.2.1, h.2.2.1, h.2.2.2⟩
theorem SS.no {s : ByteArray} {p : PS} {q0 q : Q} (h : SS p q0 q) : SE (pl s p) q0 (failQ s q) := by
  have := failQ_new (s := s) h.b
  rw [qa_eq h.2.1] at this
  exact ⟨this.1, this.2.trans h.2.2.1⟩
theorem SS.kind {s : ByteArray} {p : PS} {q0 q : Q} (h : SS p q0 q) (ci : Int) (c : Nat) (hk : kd s p = c) (hc : 2 ≤ c) : SS (nxt s p ci) q0 (kindQ s q c) := by
  rw [kindQ_ok h.b (h.k.trans hk) hc]; exact h.go _
theorem SS.kindE {s : ByteArray} {p : PS} {q0 q : Q} (h : SS p q0 q) {c : Nat} (hk : ¬ kd s p = c) : SE (pl s p) q0 (kindQ s q c) := by
  rw [kindQ_err (by rw [h.k]; exact hk)]; exact h.no
theorem SS.need {s : ByteArray} {p : PS} {q0 q : Q} (h : SS p q0 q) (ci : Int) (c : Nat) (hk : kd s p = c) (hc : 2 ≤ c) : SS (nxt s p ci) q0 (needQ s q c) := by
  rw [needQ_ok h.b (h.k.trans hk) hc]; exact h.go _
theorem SS.needE {s : ByteArray} {p : PS} {q0 q : Q} (h : SS p q0 q) {c : Nat} (hk : ¬ kd s p = c) : SE (pl s p) q0 (needQ s q c) := by
  rw [needQ_err (by rw [h.k]; exact hk)]; exact h.no
theorem SS.take {s : ByteArray} {p : PS} {q0 q : Q} (h : SS p q0 q) (c : Int) (hk : 2 ≤ kd s p) : SS (nxt s p c) q0 (takeQ s q) := by
  rw [takeQ_ok h.b (by rw [h.k]; omega)]; exact h.go _
theorem SS.is {s : ByteArray} {p : PS} {q0 q : Q} (h : SS p q0 q) (c : Nat) : isQ s q c = decide (kd s p = c) := by
  unfold isQ; rw [h.k, decide_eq_true h.b]; rfl
theorem SE.p {e : Nat} {q0 q : Q} (h : SE e q0 q) : 0 ≤ q.bad := by rw [h.1]; omega
theorem SE.kind {s : ByteArray} {e : Nat} {q0 q : Q} (h : SE e q0 q) (c : Nat) : SE e q0 (kindQ s q c) := by rw [kindQ_keep h.p]; exact h
theorem SE.need {s : ByteArray} {e : Nat} {q0 q : Q} (h : SE e q0 q) (c : Nat) : SE e q0 (needQ s q c) := by rw [needQ_keep h.p]; exact h
theorem SE.take {s : ByteArray} {e : Nat} {q0 q : Q} (h : SE e q0 q) : SE e q0 (takeQ s q) := by rw [takeQ_keep h.p]; exact h
theorem SE.is {s : ByteArray} {e : Nat} {q0 q : Q} (h : SE e q0 q) (c : Nat) : isQ s q c = false := by unfold isQ; have := h.p; simp; omega
theorem isQ_keep {s : ByteArray} {q : Q} (hb : 0 ≤ q.bad) (c : Nat) : isQ s q c = false := by unfold isQ; simp; omega

/-- The document's step beside the program's and its ';'. -/
def Sim (s : ByteArray) (q : Q) (r : Except Nat (St × PS)) : Prop :=
  match r with
  | .error e => SE e q (stepQ s q).2
  | .ok (x, p') => SS p' q (stepQ s q).2 ∧ ((stepQ s q).1.kind = 106 ↔ x.kind = 6) ∧ (x.kind = 6 → (stepQ s q).1.skip = x.count ∧ (stepQ s q).1.at_ = p'.dig)
/-- A step's end. -/
theorem Sim.ok {s : ByteArray} {q q1 : Q} {x : RSt} {y : St} {p1 : PS} (e : stepQ s q = (x, needQ s q1 18)) (h : SS p1 q q1) (h1 : x.kind = 106 ↔ y.kind = 6) (h2 : y.kind = 6 → x.skip = y.count ∧ x.at_ = p1.dig) : Sim s q (if kd s p1 = 18 then .ok (y, nxt s p1 18) else .error (pl s p1)) := by
  unfold Sim
  rw [e]
  by_cases hk : kd s p1 = 18
  · rw [if_pos hk]
    exact ⟨h.need 18 18 hk (by omega), h1, fun hy => ⟨(h2 hy).1, by rw [nxt_dig18]; exact (h2 hy).2⟩⟩
  · rw [if_neg hk]
    exact h.needE hk
theorem Sim.err {s : ByteArray} {q q1 : Q} {x : RSt} {n : Nat} (e : stepQ s q = (x, needQ s q1 18)) (h : SE n q q1) : Sim s q (.error n) := by
  unfold Sim
  rw [e]
  exact h.need 18
theorem st2_ok {s : ByteArray} {p p1 : PS} {x : St} (h : stepS s p = .ok (x, p1)) : st2 s p = if kd s p1 = 18 then .ok (x, nxt s p1 18) else .error (pl s p1) := by unfold st2; rw [h]
theorem st2_err {s : ByteArray} {p : PS} {e : Nat} (h : stepS s p = .error e) : st2 s p = .error e := by unfold st2; rw [h]

theorem store_sim {s : ByteArray} {p : PS} {q : Q} (h : SS p q q) (hk : kd s p = 2) : Sim s q (st2 s p) := by
  have e0 : stepS s p = storeS s p := by unfold stepS; rw [if_pos hk]
  have h1 := h.kind 2 2 hk (by omega)
  have k2 : qk s q = 2 := h.k.trans hk
  by_cases h15 : kd s (nxt s p 2) = 15
  · have h2 := h1.need 15 15 h15 (by omega)
    by_cases h3 : kd s (nxt s (nxt s p 2) 15) = 3
    · rw [st2_ok (x := ⟨1, nm s p, nm s (nxt s (nxt s p 2) 15), 0, 0⟩) (p1 := nxt s (nxt s (nxt s p 2) 15) 3) (by rw [e0]; unfold storeS; rw [if_pos h15, if_pos h3])]
      exact Sim.ok (stepQ_A1 s q k2 (h2.k.trans h3)) (h2.kind 3 3 h3 (by omega)) (by simp) (by simp)
    · have eq := stepQ_A2 s q k2 (by rw [h2.k]; exact h3)
      by_cases h4 : kd s (nxt s (nxt s p 2) 15) = 4
      · rw [st2_ok (x := ⟨0, nm s p, 0, nm s (nxt s (nxt s p 2) 15), 0⟩) (p1 := nxt s (nxt s (nxt s p 2) 15) 4) (by rw [e0]; unfold storeS; rw [if_pos h15, if_neg h3, if_pos h4])]
        exact Sim.ok eq (h2.kind 4 4 h4 (by omega)) (by simp) (by simp)
      · rw [st2_err (e := pl s (nxt s (nxt s p 2) 15)) (by rw [e0]; unfold storeS; rw [if_pos h15, if_neg h3, if_neg h4])]
        exact Sim.err eq (h2.kindE h4)
  · have h2 := h1.needE h15
    rw [st2_err (e := pl s (nxt s p 2)) (by rw [e0]; unfold storeS; rw [if_neg h15])]
    by_cases h3 : qk s (needQ s (kindQ s q 2) 15) = 3
    · exact Sim.err (stepQ_A1 s q k2 h3) (h2.kind 3)
    · exact Sim.err (stepQ_A2 s q k2 h3) (h2.kind 4)

theorem assign_sim {s : ByteArray} {p : PS} {q : Q} (h : SS p q q) (hk : kd s p = 3) : Sim s q (st2 s p) := by
  have e0 : stepS s p = assignS s p := by unfold stepS; rw [if_neg (by omega), if_pos hk]
  have h1 := h.kind 3 3 hk (by omega)
  have k2 : ¬ qk s q = 2 := by rw [h.k]; omega
  have k3 : qk s q = 3 := h.k.trans hk
  by_cases h15 : kd s (nxt s p 3) = 15
  · have h2 := h1.need 15 15 h15 (by omega)
    by_cases a2 : kd s (nxt s (nxt s p 3) 15) = 2
    · rw [st2_ok (x := ⟨2, nm s (nxt s (nxt s p 3) 15), nm s p, 0, 0⟩) (p1 := nxt s (nxt s (nxt s p 3) 15) 2) (by rw [e0]; unfold assignS; rw [if_pos h15, if_pos a2])]
      exact Sim.ok (stepQ_B1 s q k2 k3 (h2.k.trans a2)) (h2.kind 2 2 a2 (by omega)) (by simp) (by simp)
    · have n2 : ¬ qk s (needQ s (kindQ s q 3) 15) = 2 := by rw [h2.k]; exact a2
      by_cases a4 : kd s (nxt s (nxt s p 3) 15) = 4
      · rw [st2_ok (x := ⟨3, 0, nm s p, nm s (nxt s (nxt s p 3) 15), 0⟩) (p1 := nxt s (nxt s (nxt s p 3) 15) 4) (by rw [e0]; unfold assignS; rw [if_pos h15, if_neg a2, if_pos a4])]
        exact Sim.ok (stepQ_B3 s q k2 k3 n2 (by rw [h2.is]; simp; omega)) (h2.kind 4 4 a4 (by omega)) (by simp) (by simp)
      · have e1 : stepS s p = swapS s (nxt s (nxt s p 3) 15) (nm s p) := by rw [e0]; unfold assignS; rw [if_pos h15, if_neg a2, if_neg a4]
        by_cases a7 : kd s (nxt s (nxt s p 3) 15) = 7
        · have eq := stepQ_B2 s q k2 k3 n2 (by rw [h2.is]; simp; omega)
          have h3 := h2.take (s := s) 7 (by omega)
          by_cases b2 : kd s (nxt s (nxt s (nxt s p 3) 15) 7) = 2
          · have h4 := h3.kind 2 2 b2 (by omega)
            by_cases c4 : kd s (nxt s (nxt s (nxt s (nxt s p 3) 15) 7) 2) = 4
            · rw [st2_ok (x := ⟨4, nm s (nxt s (nxt s (nxt s p 3) 15) 7), nm s p, nm s (nxt s (nxt s (nxt s (nxt s p 3) 15) 7) 2), 0⟩) (p1 := nxt s (nxt s (nxt s (nxt s (nxt s p 3) 15) 7) 2) 4) (by rw [e1]; unfold swapS; rw [if_pos a7, if_pos b2, if_pos c4])]
              exact Sim.ok eq (h4.kind 4 4 c4 (by omega)) (by simp) (by simp)
            · rw [st2_err (e := pl s (nxt s (nxt s (nxt s (nxt s p 3) 15) 7) 2)) (by rw [e1]; unfold swapS; rw [if_pos a7, if_pos b2, if_neg c4])]
              exact Sim.err eq (h4.kindE c4)
          · rw [st2_err (e := pl s (nxt s (nxt s (nxt s p 3) 15) 7)) (by rw [e1]; unfold swapS; rw [if_pos a7, if_neg b2])]
            exact Sim.err eq ((h3.kindE b2).kind 4)
        · rw [st2_err (e := pl s (nxt s (nxt s p 3) 15)) (by rw [e1]; unfold swapS; rw [if_neg a7])]
          exact Sim.err (stepQ_B3 s q k2 k3 n2 (by rw [h2.is]; simp; omega)) (h2.kindE a4)
  · have h2 := h1.needE h15
    rw [st2_err (e := pl s (nxt s p 3)) (by rw [e0]; unfold assignS; rw [if_neg h15])]
    by_cases h3 : qk s (needQ s (kindQ s q 3) 15) = 2
    · exact Sim.err (stepQ_B1 s q k2 k3 h3) (h2.kind 2)
    · exact Sim.err (stepQ_B3 s q k2 k3 h3 (h2.is 7)) (h2.kind 4)

theorem branch_sim {s : ByteArray} {p : PS} {q : Q} (h : SS p q q) (hk : kd s p = 8) : Sim s q (st2 s p) := by
  have e0 : stepS s p = branchS s p := by unfold stepS; rw [if_neg (by omega), if_neg (by omega), if_pos hk]
  have eq := stepQ_C2 s q (by rw [h.k]; omega) (by rw [h.k]; omega) (by rw [h.is]; simp; omega)
  have h1 := h.need 8 8 hk (by omega)
  by_cases a3 : kd s (nxt s p 8) = 3
  · have h2 := h1.kind 3 3 a3 (by omega)
    by_cases a16 : kd s (nxt s (nxt s p 8) 3) = 16
    · have h3 := h2.need 16 16 a16 (by omega)
      by_cases a4 : kd s (nxt s (nxt s (nxt s p 8) 3) 16) = 4
      · have h4 := h3.kind 4 4 a4 (by omega)
        have e1 : eqdS s (nxt s (nxt s p 8) 3) = .ok (nm s (nxt s (nxt s (nxt s p 8) 3) 16), nxt s (nxt s (nxt s (nxt s p 8) 3) 16) 4) := by unfold eqdS; rw [if_pos a16, if_pos a4]
        by_cases a9 : kd s (nxt s (nxt s (nxt s (nxt s p 8) 3) 16) 4) = 9
        · have h5 := h4.need 9 9 a9 (by omega)
          by_cases b4 : kd s (nxt s (nxt s (nxt s (nxt s (nxt s p 8) 3) 16) 4) 9) = 4
          · rw [st2_ok (x := ⟨6, 0, nm s (nxt s p 8), nm s (nxt s (nxt s (nxt s p 8) 3) 16), nm s (nxt s (nxt s (nxt s (nxt s (nxt s p 8) 3) 16) 4) 9)⟩) (p1 := nxt s (nxt s (nxt s (nxt s (nxt s (nxt s p 8) 3) 16) 4) 9) 4) (by rw [e0]; unfold branchS; rw [if_pos a3, e1]; show (if _ then _ else _) = _; rw [if_pos a9, if_pos b4])]
            refine Sim.ok eq (h5.kind 4 4 b4 (by omega)) (by simp) (fun _ => ⟨?_, ?_⟩)
            · show valQ s _ 4 = _
              rw [valQ_ok h5.b (h5.k.trans b4) (by omega)]; exact qn_eq h5.2.1
            · rw [nxt_dig4]; exact qa_eq h5.2.1
          · rw [st2_err (e := pl s (nxt s (nxt s (nxt s (nxt s (nxt s p 8) 3) 16) 4) 9)) (by rw [e0]; unfold branchS; rw [if_pos a3, e1]; show (if _ then _ else _) = _; rw [if_pos a9, if_neg b4])]
            exact Sim.err eq (h5.kindE b4)
        · rw [st2_err (e := pl s (nxt s (nxt s (nxt s (nxt s p 8) 3) 16) 4)) (by rw [e0]; unfold branchS; rw [if_pos a3, e1]; show (if _ then _ else _) = _; rw [if_neg a9])]
          exact Sim.err eq ((h4.needE a9).kind 4)
      · have e1 : eqdS s (nxt s (nxt s p 8) 3) = .error (pl s (nxt s (nxt s (nxt s p 8) 3) 16)) := by unfold eqdS; rw [if_pos a16, if_neg a4]
        rw [st2_err (e := pl s (nxt s (nxt s (nxt s p 8) 3) 16)) (by rw [e0]; unfold branchS; rw [if_pos a3, e1])]
        exact Sim.err eq (((h3.kindE a4).need 9).kind 4)
    · have e1 : eqdS s (nxt s (nxt s p 8) 3) = .error (pl s (nxt s (nxt s p 8) 3)) := by unfold eqdS; rw [if_neg a16]
      rw [st2_err (e := pl s (nxt s (nxt s p 8) 3)) (by rw [e0]; unfold branchS; rw [if_pos a3, e1])]
      exact Sim.err eq ((((h2.needE a16).kind 4).need 9).kind 4)
  · rw [st2_err (e := pl s (nxt s p 8)) (by rw [e0]; unfold branchS; rw [if_neg a3])]
    exact Sim.err eq (((((h1.kindE a3).need 16).kind 4).need 9).kind 4)

theorem step_sim {s : ByteArray} {p : PS} {q : Q} (h : SS p q q) : Sim s q (st2 s p) := by
  by_cases h2 : kd s p = 2
  · exact store_sim h h2
  by_cases h3 : kd s p = 3
  · exact assign_sim h h3
  by_cases h8 : kd s p = 8
  · exact branch_sim h h8
  by_cases h6 : kd s p = 6
  · rw [st2_ok (x := ⟨5, 0, 0, 0, 0⟩) (p1 := nxt s p 6) (by unfold stepS; rw [if_neg h2, if_neg h3, if_neg h8, if_pos h6])]
    exact Sim.ok (stepQ_C1 s q (by rw [h.k]; exact h2) (by rw [h.k]; exact h3) (by rw [h.is]; simp; omega)) (h.take (s := s) 6 (by omega)) (by simp) (by simp)
  · rw [st2_err (e := pl s p) (by unfold stepS; rw [if_neg h2, if_neg h3, if_neg h8, if_neg h6])]
    exact Sim.err (stepQ_C2 s q (by rw [h.k]; exact h2) (by rw [h.k]; exact h3) (by rw [h.is]; simp; omega)) (((((((h.needE h8).kind 3).need 16).kind 4).need 9).kind 4))
end Go.Proofs.YtmpaeladhoomoaaGreatDoor

namespace Go.Proofs.YtmpaeladhoomoaaGreatDoor

/-- The document's steps of a thread. -/
def stepsQ (s : ByteArray) : Nat → List RSt → Q → List RSt × Q
  | 0, l, q => (l, q)
  | k + 1, l, q =>
    if beginsQ s (stepQ s (if l.length = 8 then failQ s q else q)).2 = true then stepsQ s k (l ++ [(stepQ s (if l.length = 8 then failQ s q else q)).1]) (stepQ s (if l.length = 8 then failQ s q else q)).2
    else (l ++ [(stepQ s (if l.length = 8 then failQ s q else q)).1], (stepQ s (if l.length = 8 then failQ s q else q)).2)
/-- The document's threads. -/
def threadsQ (s : ByteArray) : Nat → List (List RSt) → Q → List (List RSt) × Q
  | 0, t, q => (t, q)
  | k + 1, t, q =>
    if isQ s (stepsQ s 9 [] (needQ s (if t.length = 4 then failQ s q else q) 5)).2 5 = true then threadsQ s k (t ++ [(stepsQ s 9 [] (needQ s (if t.length = 4 then failQ s q else q) 5)).1]) (stepsQ s 9 [] (needQ s (if t.length = 4 then failQ s q else q) 5)).2
    else (t ++ [(stepsQ s 9 [] (needQ s (if t.length = 4 then failQ s q else q) 5)).1], (stepsQ s 9 [] (needQ s (if t.length = 4 then failQ s q else q) 5)).2)
def askQ (s : ByteArray) (q : Q) : Q := if isQ s q 11 = true then takeQ s q else needQ s q 10
/-- The first skip that goes too far. -/
def skipL : List RSt → Int
  | [] => -1
  | x :: r => if x.kind = 106 ∧ r.length < x.skip then (x.at_ : Int) else skipL r
def skipT : List (List RSt) → Int
  | [] => -1
  | l :: r => if 0 ≤ skipL l then skipL l else skipT r

theorem beginsQ_keep {s : ByteArray} {q : Q} (hb : 0 ≤ q.bad) : beginsQ s q = false := by unfold beginsQ; rw [decide_eq_false (by omega)]; rfl
theorem SS.begins {s : ByteArray} {p : PS} {q0 q : Q} (h : SS p q0 q) : beginsQ s q = (decide (kd s p = 2) || decide (kd s p = 3) || decide (kd s p = 6) || decide (kd s p = 8)) := by
  unfold beginsQ; rw [h.k, decide_eq_true h.b]; rfl
theorem SE.step {s : ByteArray} {e : Nat} {q0 q : Q} (h : SE e q0 q) : SE e q0 (stepQ s q).2 := by rw [stepQ_keep h.p]; exact h
theorem SE.fail {s : ByteArray} {e : Nat} {q0 q : Q} (h : SE e q0 q) : SE e q0 (failQ s q) := by rw [failQ_keep h.p]; exact h
theorem stepsQ_bad {s : ByteArray} {e : Nat} {q0 q : Q} (h : SE e q0 q) (k : Nat) (l : List RSt) : SE e q0 (stepsQ s k l q).2 := by
  cases k with
  | zero => exact h
  | succ k =>
    have h1 : SE e q0 (stepQ s (if l.length = 8 then failQ s q else q)).2 := by
      split
      · exact h.fail.step
      · exact h.step
    rw [stepsQ, beginsQ_keep h1.p]
    exact h1
theorem threadsQ_bad {s : ByteArray} {e : Nat} {q0 q : Q} (h : SE e q0 q) (k : Nat) (t : List (List RSt)) : SE e q0 (threadsQ s k t q).2 := by
  cases k with
  | zero => exact h
  | succ k =>
    have h1 : SE e q0 (stepsQ s 9 [] (needQ s (if t.length = 4 then failQ s q else q) 5)).2 := by
      apply stepsQ_bad
      split
      · exact h.fail.need 5
      · exact h.need 5
    rw [threadsQ, h1.is]
    exact h1
theorem SE.ask {s : ByteArray} {e : Nat} {q0 q : Q} (h : SE e q0 q) : SE e q0 (askQ s q) := by unfold askQ; rw [h.is]; exact h.need 10
theorem SS.trans {p p1 : PS} {q0 q1 q2 : Q} (h : SS p q0 q1) (h2 : SS p1 q1 q2) : SS p1 q0 q2 := ⟨h2.1.trans h.1, h2.2.1, h2.2.2.1.trans h.2.2.1, h.2.2.2⟩
theorem SS.transE {p : PS} {e : Nat} {q0 q1 q2 : Q} (h : SS p q0 q1) (h2 : SE e q1 q2) : SE e q0 q2 := ⟨h2.1, h2.2.trans h.2.2.1⟩
theorem SS.self {p : PS} {q0 q : Q} (h : SS p q0 q) : SS p q q := ⟨rfl, h.2.1, rfl, h.b⟩

/-- A step beside the other's. -/
def OneS (y : RSt) (x : St × Nat) : Prop := (y.kind = 106 ↔ x.1.kind = 6) ∧ (x.1.kind = 6 → y.skip = x.1.count ∧ y.at_ = x.2)
def AllS : List RSt → List (St × Nat) → Prop
  | [], [] => True
  | y :: l, x :: r => OneS y x ∧ AllS l r
  | _, _ => False
theorem AllS.len : ∀ {l : List RSt} {r : List (St × Nat)}, AllS l r → l.length = r.length
  | [], [], _ => rfl
  | _ :: _, _ :: _, h => by simp [AllS.len h.2]
  | [], _ :: _, h => h.elim
  | _ :: _, [], h => h.elim
theorem AllS.snoc : ∀ {l : List RSt} {r : List (St × Nat)} {y : RSt} {x : St × Nat}, AllS l r → OneS y x → AllS (l ++ [y]) (r ++ [x])
  | [], [], _, _, _, h => ⟨h, trivial⟩
  | _ :: _, _ :: _, _, _, h, k => ⟨h.1, AllS.snoc h.2 k⟩
  | [], _ :: _, _, _, h, _ => h.elim
  | _ :: _, [], _, _, h, _ => h.elim

/-- The steps that the two readers read; where the program's says no, the document's has failed there, or stands there, at what is no thread and no question. -/
def StepsSim (s : ByteArray) (q : Q) (b : List RSt × Q) (r : Except Nat (List (St × Nat) × PS)) : Prop :=
  match r with
  | .error e => SE e q b.2 ∨ ∃ p', SS p' q b.2 ∧ pl s p' = e ∧ endsB s p' = false
  | .ok (l, p') => SS p' q b.2 ∧ AllS b.1 l ∧ endsB s p' = true ∧ l.length ≠ 0
theorem StepsSim.trans {s : ByteArray} {p : PS} {q0 q1 : Q} {b : List RSt × Q} {r : Except Nat (List (St × Nat) × PS)} (h : SS p q0 q1) (k : StepsSim s q1 b r) : StepsSim s q0 b r := by
  unfold StepsSim at *
  split <;> simp only at k
  · rcases k with k | ⟨p', k1, k2⟩
    · exact Or.inl (h.transE k)
    · exact Or.inr ⟨p', h.trans k1, k2⟩
  · exact ⟨h.trans k.1, k.2⟩
theorem stepsS_go {s : ByteArray} {p : PS} {n : Nat} {acc : List (St × Nat)} (he : acc.length = 0 ∨ endsB s p = false) (h8 : ¬ acc.length = 8) : stepsS s (n + 1) acc p = (match st2 s p with | .error e => .error e | .ok (x, p') => stepsS s n (acc ++ [(x, p'.dig)]) p') := by
  rw [stepsS, if_pos he, if_neg h8]
  unfold st2
  cases stepS s p with
  | error e => rfl
  | ok y =>
    obtain ⟨x, p1⟩ := y
    by_cases hk : kd s p1 = 18
    · simp only [hk, if_true]
    · simp only [hk, if_false]
theorem begins_ends {s : ByteArray} {p : PS} (h : endsB s p = true) : kd s p = 5 ∨ kd s p = 10 ∨ kd s p = 11 := by unfold endsB at h; simpa [or_assoc] using h
theorem ends_no {s : ByteArray} {p : PS} (h : ¬ (kd s p = 5 ∨ kd s p = 10 ∨ kd s p = 11)) : endsB s p = false := by unfold endsB; simp; omega
theorem stepS_none {s : ByteArray} {p : PS} (h2 : ¬ kd s p = 2) (h3 : ¬ kd s p = 3) (h6 : ¬ kd s p = 6) (h8 : ¬ kd s p = 8) : stepS s p = .error (pl s p) := by unfold stepS; rw [if_neg h2, if_neg h3, if_neg h8, if_neg h6]
theorem stepsS_ends {s : ByteArray} {p : PS} {n : Nat} {l : List (St × Nat)} (hl : l.length ≠ 0) (h : endsB s p = true) : stepsS s (n + 1) l p = .ok (l, p) := by
  rw [stepsS, if_neg (by rw [h]; simp; intro hh; exact hl (by rw [hh]; rfl))]
theorem stepsS_none {s : ByteArray} {p : PS} {n : Nat} {l : List (St × Nat)} (h : endsB s p = false) (h2 : ¬ kd s p = 2) (h3 : ¬ kd s p = 3) (h6 : ¬ kd s p = 6) (h8 : ¬ kd s p = 8) : stepsS s (n + 1) l p = .error (pl s p) := by
  rw [stepsS, if_pos (Or.inr h)]
  split
  · rfl
  · rw [stepS_none h2 h3 h6 h8]

theorem steps_sim {s : ByteArray} : ∀ (n : Nat) (l : List RSt) (acc : List (St × Nat)) (p : PS) (q : Q), SS p q q → AllS l acc → acc.length + n = 9 → n ≠ 0 → (acc.length = 0 ∨ endsB s p = false) → StepsSim s q (stepsQ s n l q) (stepsS s n acc p) := by
  intro n
  induction n with
  | zero => intro l acc p q _ _ _ h; exact (h rfl).elim
  | succ n ih =>
    intro l acc p q h ha hn _ he
    rw [stepsQ, ha.len]
    by_cases h8 : acc.length = 8
    · rw [if_pos h8, stepsS, if_pos he, if_pos h8]
      have h1 : SE (pl s p) q (stepQ s (failQ s q)).2 := h.no.step
      rw [beginsQ_keep h1.p]
      exact Or.inl h1
    · rw [if_neg h8, stepsS_go he h8]
      have hs := step_sim (s := s) h
      cases hst : st2 s p with
      | error e =>
        rw [hst] at hs
        have hs : SE e q (stepQ s q).2 := hs
        rw [beginsQ_keep hs.p]
        exact Or.inl hs
      | ok y =>
        obtain ⟨x, p'⟩ := y
        rw [hst] at hs
        obtain ⟨hs1, hs2, hs3⟩ := hs
        simp only
        have ha' : AllS (l ++ [(stepQ s q).1]) (acc ++ [(x, p'.dig)]) := ha.snoc ⟨hs2, hs3⟩
        have hl' : (acc ++ [(x, p'.dig)]).length = acc.length + 1 := by simp
        obtain ⟨m, rfl⟩ : ∃ m, n = m + 1 := ⟨n - 1, by omega⟩
        rw [hs1.begins]
        by_cases hb : kd s p' = 2 ∨ kd s p' = 3 ∨ kd s p' = 6 ∨ kd s p' = 8
        · rw [if_pos (by simpa [or_assoc] using hb)]
          exact (ih _ _ p' _ hs1.self ha' (by omega) (by omega) (Or.inr (ends_no (by omega)))).trans hs1
        · rw [if_neg (by simpa [or_assoc] using hb)]
          by_cases hee : endsB s p' = true
          · rw [stepsS_ends (by omega) hee]
            exact ⟨hs1, ha', hee, by omega⟩
          · have hee' : endsB s p' = false := by simpa using hee
            rw [stepsS_none hee' (by omega) (by omega) (by omega) (by omega)]
            exact Or.inr ⟨p', hs1, rfl, hee'⟩
end Go.Proofs.YtmpaeladhoomoaaGreatDoor

namespace Go.Proofs.YtmpaeladhoomoaaGreatDoor

theorem stepsS_jmp (s : ByteArray) : ∀ (n : Nat) (acc : List (St × Nat)) (p : PS) (l : List (St × Nat)) (p' : PS), stepsS s n acc p = .ok (l, p') → Kept p p' := by
  intro n
  induction n with
  | zero => intro acc p l p' h; simp [stepsS] at h
  | succ n ih =>
    intro acc p l p' h
    rw [stepsS] at h
    split at h
    · split at h
      · simp at h
      · cases hs : stepS s p with
        | error q => rw [hs] at h; simp at h
        | ok r =>
          obtain ⟨x, p1⟩ := r
          rw [hs] at h
          simp only at h
          have hk := (stepS_kept hs).1
          split at h
          · exact (hk.trans (kept_nxt s p1 18)).trans (ih _ _ _ _ h)
          · simp at h
    · simp only [Except.ok.injEq, Prod.mk.injEq] at h; obtain ⟨_, rfl⟩ := h; exact Kept.refl _

theorem skipL_lo : ∀ l : List RSt, -1 ≤ skipL l
  | [] => by simp [skipL]
  | x :: r => by have := skipL_lo r; simp only [skipL]; split <;> omega
theorem skipT_lo : ∀ l : List (List RSt), -1 ≤ skipT l
  | [] => by simp [skipT]
  | x :: r => by have := skipT_lo r; have := skipL_lo x; simp only [skipT]; split <;> omega
theorem skipT_snoc : ∀ (t : List (List RSt)) (l : List RSt), skipT (t ++ [l]) = if 0 ≤ skipT t then skipT t else skipL l
  | [], l => by have := skipL_lo l; simp only [List.nil_append, skipT]; split <;> simp <;> omega
  | x :: r, l => by
    have ih := skipT_snoc r l
    simp only [List.cons_append, skipT]
    split
    · rfl
    · exact ih
/-- A place that is kept if there was none. -/
def keepJ (a b : Int) : Int := if 0 ≤ a then a else if 0 ≤ b then b else a
theorem keepJ_keep (a b : Int) (d : Nat) : keepJ (keepJ a d) b = keepJ a d := by
  unfold keepJ
  repeat' split
  all_goals omega
theorem jumped_jmp (p : PS) (d : Nat) : (jumped p d).jmp = keepJ p.jmp d := by
  unfold jumped keepJ
  by_cases hj : p.jmp < 0
  · rw [if_pos hj, if_neg (by omega), if_pos (by omega)]
  · rw [if_neg hj, if_pos (by omega)]
theorem skipsS_jmp : ∀ {l : List RSt} {r : List (St × Nat)}, AllS l r → ∀ p : PS, (skipsS r p).jmp = keepJ p.jmp (skipL l) ∧ (skipsS r p).i = p.i
  | [], [], _, p => by simp only [skipsS, skipL, keepJ]; refine ⟨?_, trivial⟩; split <;> simp
  | y :: l, (x, d) :: r, h, p => by
    have ih := fun p => skipsS_jmp h.2 p
    have hl := AllS.len h.2
    obtain ⟨⟨h1, h2⟩, _⟩ := h
    simp only at h1 h2
    simp only [skipsS, skipL]
    by_cases hk : x.kind = 6 ∧ r.length < x.count
    · have h3 := h2 hk.1
      rw [if_pos hk, if_pos ⟨h1.2 hk.1, by rw [h3.1, hl]; exact hk.2⟩, (ih _).1, (ih _).2, h3.2]
      exact ⟨by rw [jumped_jmp, keepJ_keep], (jumped_o p d).2⟩
    · rw [if_neg hk, if_neg (fun hh => hk ⟨h1.1 hh.1, by have := (h2 (h1.1 hh.1)).1; omega⟩)]
      exact ih p
  | [], _ :: _, h, _ => h.elim
  | _ :: _, [], h, _ => h.elim

/-- The threads that the two readers read. -/
def ThreadsSim (s : ByteArray) (q : Q) (o : Nat) (b : List (List RSt) × Q) (r : Except Nat PS) : Prop :=
  match r with
  | .error e => SE e q b.2 ∨ ∃ p', SS p' q b.2 ∧ pl s p' = e ∧ endsB s p' = false
  | .ok p' => SS p' q b.2 ∧ (kd s p' = 10 ∨ kd s p' = 11) ∧ p'.thr = b.1.length ∧ p'.jmp = skipT b.1 ∧ p'.opn = o
theorem ThreadsSim.trans {s : ByteArray} {p : PS} {q0 q1 : Q} {o : Nat} {b : List (List RSt) × Q} {r : Except Nat PS} (h : SS p q0 q1) (k : ThreadsSim s q1 o b r) : ThreadsSim s q0 o b r := by
  unfold ThreadsSim at *
  split <;> simp only at k
  · rcases k with k | ⟨p', k1, k2⟩
    · exact Or.inl (h.transE k)
    · exact Or.inr ⟨p', h.trans k1, k2⟩
  · exact ⟨h.trans k.1, k.2⟩
theorem threadsS_one {s : ByteArray} {p : PS} (n : Nat) (h : kd s p = 5 ∨ p.thr = 0) : threadsS s (n + 1) p = (match threadS s p with | .error q => .error q | .ok (_, p1) => threadsS s n p1) := by
  rw [threadsS, if_pos h]
  cases threadS s p <;> rfl
theorem threadsS_end {s : ByteArray} {p : PS} (n : Nat) (h : ¬ (kd s p = 5 ∨ p.thr = 0)) : threadsS s (n + 1) p = .ok p := by rw [threadsS, if_neg h]

theorem threads_sim {s : ByteArray} : ∀ (n : Nat) (t : List (List RSt)) (p : PS) (q : Q), SS p q q → p.thr = t.length → p.jmp = skipT t → t.length + n = 5 → n ≠ 0 → (kd s p = 5 ∨ p.thr = 0) → ThreadsSim s q p.opn (threadsQ s n t q) (threadsS s (n + 1) p) := by
  intro n
  induction n with
  | zero => intro t p q _ _ _ _ h; exact (h rfl).elim
  | succ n ih =>
    intro t p q h ht hj hn _ hc
    rw [threadsQ, threadsS_one _ hc]
    by_cases h4 : t.length = 4
    · rw [if_pos h4]
      have e1 : threadS s p = .error (pl s p) := by unfold threadS; rw [if_pos (by omega)]
      have h1 : SE (pl s p) q (stepsQ s 9 [] (needQ s (failQ s q) 5)).2 := stepsQ_bad (h.no.need 5) _ _
      rw [e1, h1.is]
      exact Or.inl h1
    · rw [if_neg h4]
      by_cases h5 : kd s p = 5
      · have h1 : SS (nxt s p 5) q (needQ s q 5) := h.need 5 5 h5 (by omega)
        have hs := (steps_sim (s := s) 9 [] [] (nxt s p 5) (needQ s q 5) h1.self trivial rfl (by omega) (Or.inl rfl)).trans h1
        cases hst : stepsS s 9 [] (nxt s p 5) with
        | error e =>
          have e1 : threadS s p = .error e := by unfold threadS; rw [if_neg (by omega), if_pos h5, hst]
          rw [hst] at hs
          rw [e1]
          rcases hs with hs | ⟨p', hs1, hs2, hs3⟩
          · rw [hs.is]
            exact Or.inl hs
          · rw [hs1.is]
            have hk : ¬ kd s p' = 5 := by unfold endsB at hs3; simp at hs3; omega
            rw [if_neg (by simpa using hk)]
            exact Or.inr ⟨p', hs1, hs2, hs3⟩
        | ok y =>
          obtain ⟨l, p1⟩ := y
          have e1 : threadS s p = .ok (l.map (·.1), skipsS l { p1 with thr := p1.thr + 1 }) := by unfold threadS; rw [if_neg (by omega), if_pos h5, hst]
          have hk := stepsS_jmp s _ _ _ _ _ hst
          have hk2 := (kept_nxt s p 5).trans hk
          have hk3 := skipsS_kept l { p1 with thr := p1.thr + 1 }
          rw [hst] at hs
          obtain ⟨hs1, hs2, hs3, hs4⟩ := hs
          have hk4 := skipsS_jmp hs2 { p1 with thr := p1.thr + 1 }
          rw [e1]
          simp only
          generalize skipsS l { p1 with thr := p1.thr + 1 } = p2 at hk3 hk4 ⊢
          simp only at hk3 hk4
          generalize stepsQ s 9 [] (needQ s q 5) = r at hs1 hs2 hk4 ⊢
          obtain ⟨b1, b2⟩ := r
          simp only at hs1 hs2 hk4 ⊢
          have h2 : SS p2 q b2 := ⟨hs1.1, by rw [hk4.2]; exact hs1.2.1, hs1.2.2.1, hs1.2.2.2⟩
          have ek : kd s p2 = kd s p1 := by unfold kd; rw [hk4.2]
          have ee : endsB s p2 = true := by unfold endsB; rw [ek]; exact hs3
          have t1 : p2.thr = (t ++ [b1]).length := by rw [hk3.2, hk2.1, ht]; simp
          have t0 : p2.opn = p.opn := hk3.1.trans hk2.2.1
          have tj : p2.jmp = skipT (t ++ [b1]) := by
            rw [hk4.1, skipT_snoc, hk2.2.2, hj]
            have := skipT_lo t
            have := skipL_lo b1
            unfold keepJ
            split
            · rfl
            · split
              · rfl
              · omega
          rw [h2.is]
          by_cases k5 : kd s p2 = 5
          · rw [if_pos (by simpa using k5), ← t0]
            obtain ⟨m, rfl⟩ : ∃ m, n = m + 1 := ⟨n - 1, by omega⟩
            exact (ih _ p2 b2 h2.self t1 tj (by simp; omega) (by omega) (Or.inl k5)).trans h2
          · rw [if_neg (by simpa using k5)]
            rw [threadsS_end _ (by rw [t1]; simp; exact k5)]
            exact ⟨h2, by have := begins_ends ee; omega, t1, tj, t0⟩
      · have e1 : threadS s p = .error (pl s p) := by unfold threadS; rw [if_neg (by omega), if_neg h5]
        have h1 : SE (pl s p) q (stepsQ s 9 [] (needQ s q 5)).2 := stepsQ_bad (h.needE h5) _ _
        rw [e1, h1.is]
        exact Or.inl h1

/-- The question behind the threads. -/
theorem ask_err {s : ByteArray} {q : Q} {o e : Nat} {b : List (List RSt) × Q} (h : ThreadsSim s q o b (.error e)) : SE e q (askQ s b.2) := by
  rcases h with h | ⟨p', h1, h2, h3⟩
  · exact h.ask
  · have hk : ¬ (kd s p' = 5 ∨ kd s p' = 10 ∨ kd s p' = 11) := by unfold endsB at h3; simp at h3; omega
    unfold askQ
    rw [h1.is, if_neg (by simp; omega), ← h2]
    exact h1.needE (by omega)
theorem ask_ok {s : ByteArray} {q : Q} {o : Nat} {p' : PS} {b : List (List RSt) × Q} (h : ThreadsSim s q o b (.ok p')) : ∃ x p2, questionS s p' = .ok (x, p2) ∧ SS p2 q (askQ s b.2) ∧ p2.thr = b.1.length ∧ p2.jmp = skipT b.1 ∧ p2.opn = o := by
  obtain ⟨h1, h2, h3, h4, h5⟩ := h
  unfold questionS askQ
  rw [h1.is]
  by_cases k11 : kd s p' = 11
  · rw [if_pos k11, if_pos (by simpa using k11)]
    have hk := nxt_thr s p' 11
    exact ⟨true, nxt s p' 11, rfl, h1.take 11 (by omega), hk.1.trans h3, hk.2.2.trans h4, hk.2.1.trans h5⟩
  · have k10 : kd s p' = 10 := by omega
    rw [if_neg k11, if_pos k10, if_neg (by simpa using k11)]
    have hk := nxt_thr s p' 10
    exact ⟨false, nxt s p' 10, rfl, h1.need 10 10 k10 (by omega), hk.1.trans h3, hk.2.2.trans h4, hk.2.1.trans h5⟩
end Go.Proofs.YtmpaeladhoomoaaGreatDoor

namespace Go.Proofs.YtmpaeladhoomoaaGreatDoor

/-- What has failed is left so. -/
def Keeps (sub : Q → TM × Q) : Prop := ∀ q, 0 ≤ q.bad → (sub q).2 = q
theorem lev_keeps (s : ByteArray) (c : Nat) {sub : Q → TM × Q} (h : Keeps sub) : Keeps (levQ s c sub) := by
  intro q hb
  unfold levQ
  rw [loopQ, h q hb, isQ_keep hb]
  rfl
theorem atom_keeps (s : ByteArray) : Keeps (atomQ s) := by
  intro q hb
  unfold atomQ
  have k1 : ∀ c, kindQ s q c = q := fun c => kindQ_keep hb
  have n1 : ∀ c, needQ s q c = q := fun c => needQ_keep hb
  split <;> simp only [k1, n1]
theorem form2_keeps (s : ByteArray) (n : Nat) : Keeps (form2Q s n) := by
  cases n with
  | zero => intro q _; rfl
  | succ n => intro q hb; rw [form2Q, isQ_keep hb, isQ_keep hb]; exact atom_keeps s q hb

/-- A reader of formulas beside the other. -/
def SubSim (s : ByteArray) (n : Nat) (f : PS → Except Nat PS) (g : Q → TM × Q) : Prop :=
  ∀ p q, SS p q q → q.opn = (p.opn : Int) → p.opn + n = 7 → p.i ≤ s.size →
    match f p with
    | .error e => SE e q (g q).2
    | .ok p' => SS p' q (g q).2 ∧ p'.opn = p.opn ∧ p'.thr = p.thr ∧ p'.jmp = keepJ p.jmp (jumpL p.thr (g q).1.jm) ∧ p.i ≤ p'.i ∧ p'.i ≤ s.size
theorem SubSim.err {s : ByteArray} {n : Nat} {f : PS → Except Nat PS} {g : Q → TM × Q} (h : SubSim s n f g) {p : PS} {q : Q} {e : Nat} (h1 : SS p q q) (h2 : q.opn = (p.opn : Int)) (h3 : p.opn + n = 7) (h4 : p.i ≤ s.size) (he : f p = .error e) : SE e q (g q).2 := by
  have := h p q h1 h2 h3 h4; rw [he] at this; exact this
theorem SubSim.ok {s : ByteArray} {n : Nat} {f : PS → Except Nat PS} {g : Q → TM × Q} (h : SubSim s n f g) {p p' : PS} {q : Q} (h1 : SS p q q) (h2 : q.opn = (p.opn : Int)) (h3 : p.opn + n = 7) (h4 : p.i ≤ s.size) (he : f p = .ok p') : SS p' q (g q).2 ∧ p'.opn = p.opn ∧ p'.thr = p.thr ∧ p'.jmp = keepJ p.jmp (jumpL p.thr (g q).1.jm) ∧ p.i ≤ p'.i ∧ p'.i ≤ s.size := by
  have := h p q h1 h2 h3 h4; rw [he] at this; exact this
theorem keepJ_app (a : Int) (t : Nat) (l r : List (Nat × Nat)) : keepJ (keepJ a (jumpL t l)) (jumpL t r) = keepJ a (jumpL t (l ++ r)) := by
  rw [jumpL_append]
  have := jumpL_lo t l
  have := jumpL_lo t r
  unfold keepJ
  repeat' split
  all_goals omega
theorem keepJ_nil (a : Int) (t : Nat) : keepJ a (jumpL t []) = a := by unfold keepJ jumpL; split <;> simp

theorem loop_sim {s : ByteArray} {m c : Nat} {ci : Int} (hci : ci = (c : Int)) (hc : 2 ≤ c) {f : PS → Except Nat PS} {g : Q → TM × Q} (h : SubSim s m f g) : ∀ (n : Nat) (l : TM) (p : PS) (q : Q), SS p q q → q.opn = (p.opn : Int) → p.opn + m = 7 → p.i ≤ s.size → s.size - p.i < n →
    match loopS s ci f n p with
    | .error e => SE e q (loopQ s c g n l q).2
    | .ok p' => ∃ r, (loopQ s c g n l q).1.jm = l.jm ++ r ∧ SS p' q (loopQ s c g n l q).2 ∧ p'.opn = p.opn ∧ p'.thr = p.thr ∧ p'.jmp = keepJ p.jmp (jumpL p.thr r) ∧ p.i ≤ p'.i ∧ p'.i ≤ s.size := by
  intro n
  induction n with
  | zero => intro l p q _ _ _ _ h; omega
  | succ n ih =>
    intro l p q h1 h2 h3 h4 h5
    rw [loopS, loopQ, h1.is]
    by_cases hk : kd s p = c
    · rw [if_pos (by omega), if_pos (by simpa using hk)]
      have t1 : SS (nxt s p ci) q (takeQ s q) := h1.take ci (by omega)
      have hn := nxt_thr s p ci
      have hm := nxt_mono s p ci h4
      have hl := nxt_lt s p ci h4 (by show kd s p ≠ 1; omega)
      have t2 : (takeQ s q).opn = ((nxt s p ci).opn : Int) := by rw [t1.2.2.1, hn.2.1]; exact h2
      cases hf : f (nxt s p ci) with
      | error e =>
        have he := h.err t1.self t2 (by rw [hn.2.1]; exact h3) hm.2 hf
        have he' := t1.transE he
        simp only
        cases n with
        | zero => exact he'
        | succ n => rw [loopQ, he'.is]; exact he'
      | ok p2 =>
        obtain ⟨o1, o2, o3, o4, o5, o6⟩ := h.ok t1.self t2 (by rw [hn.2.1]; exact h3) hm.2 hf
        simp only
        have u1 := t1.trans o1
        have hh := ih (TM.two c l (g (takeQ s q)).1) p2 (g (takeQ s q)).2 u1.self (by rw [u1.2.2.1, o2, hn.2.1]; exact h2) (by rw [o2, hn.2.1]; exact h3) o6 (by omega)
        cases hl2 : loopS s ci f n p2 with
        | error e => rw [hl2] at hh; exact u1.transE hh
        | ok p3 =>
          rw [hl2] at hh
          obtain ⟨r, r0, r1, r2, r3, r4, r5, r6⟩ := hh
          refine ⟨(g (takeQ s q)).1.jm ++ r, by rw [r0]; exact List.append_assoc _ _ _, u1.trans r1, by rw [r2, o2, hn.2.1], by rw [r3, o3, hn.1], ?_, by omega, r6⟩
          rw [r4, o4, o3, hn.1, hn.2.2, keepJ_app]
    · rw [if_neg (by omega), if_neg (by simpa using hk)]
      exact ⟨[], by simp, h1, rfl, rfl, (keepJ_nil _ _).symm, Nat.le_refl _, h4⟩
theorem lev_sim {s : ByteArray} {m c : Nat} {ci : Int} (hci : ci = (c : Int)) (hc : 2 ≤ c) {f : PS → Except Nat PS} {g : Q → TM × Q} (h : SubSim s m f g) : SubSim s m (partsS s ci f) (levQ s c g) := by
  intro p q h1 h2 h3 h4
  unfold partsS levQ
  cases hf : f p with
  | error e =>
    have he := h.err h1 h2 h3 h4 hf
    simp only
    rw [loopQ, he.is]
    exact he
  | ok p1 =>
    obtain ⟨o1, o2, o3, o4, o5, o6⟩ := h.ok h1 h2 h3 h4 hf
    simp only
    have hh := loop_sim hci hc h (s.size + 1) (g q).1 p1 (g q).2 o1.self (by rw [o1.2.2.1, o2]; exact h2) (by rw [o2]; exact h3) o6 (by omega)
    cases hl2 : loopS s ci f (s.size + 1) p1 with
    | error e => rw [hl2] at hh; exact o1.transE hh
    | ok p3 =>
      rw [hl2] at hh
      obtain ⟨r, r0, r1, r2, r3, r4, r5, r6⟩ := hh
      refine ⟨o1.trans r1, r2.trans o2, r3.trans o3, ?_, by omega, r6⟩
      rw [r4, r0, o4, o3, keepJ_app]
end Go.Proofs.YtmpaeladhoomoaaGreatDoor

namespace Go.Proofs.YtmpaeladhoomoaaGreatDoor

theorem open_fail {s : ByteArray} {p : PS} {q : Q} (h : SS p q q) (ho : q.opn = 6) : (openQ s q).bad = (pl s p : Int) ∧ (openQ s q).opn = q.opn + 1 := by
  unfold openQ
  rw [if_pos ho, takeQ_keep (by show 0 ≤ (failQ s q).bad; exact h.no.p)]
  exact ⟨h.no.1, rfl⟩
theorem open_ok {s : ByteArray} {p : PS} {q : Q} (h : SS p q q) (ho : ¬ q.opn = 6) (hk : 2 ≤ kd s p) : SS { p with i := (tk s p.i).end_, opn := p.opn + 1 } (openQ s q) (openQ s q) ∧ (openQ s q).opn = q.opn + 1 ∧ (openQ s q).bad = q.bad := by
  have e : openQ s q = adv s { q with opn := q.opn + 1 } := by
    unfold openQ
    rw [if_neg ho]
    refine takeQ_ok h.b ?_
    show ¬ qk s q ≤ 1
    rw [h.k]; omega
  rw [e]
  refine ⟨⟨rfl, ?_, rfl, h.b⟩, rfl, rfl⟩
  show (tk s q.j).end_ = (tk s p.i).end_
  rw [h.2.1]
theorem shut_SE {e : Nat} {q q1 r : Q} (h : SE e q1 r) (ho : q1.opn = q.opn + 1) : SE e q (shutQ r) := ⟨h.1, by show r.opn - 1 = q.opn; rw [h.2, ho]; omega⟩
theorem shut_SS {p2 : PS} {o : Nat} {q q1 r : Q} (h : SS p2 q1 r) (ho : q1.opn = q.opn + 1) (hb : q1.bad = q.bad) : SS { p2 with opn := o } q (shutQ r) := ⟨h.1.trans hb, h.2.1, by show r.opn - 1 = q.opn; rw [h.2.2.1, ho]; omega, by rw [← hb]; exact h.2.2.2⟩

theorem eqd_sim {s : ByteArray} {p : PS} {q0 q : Q} (h : SS p q0 q) (hi : p.i ≤ s.size) :
    match eqdS s p with
    | .error e => SE e q0 (kindQ s (needQ s q 16) 4)
    | .ok (_, p') => SS p' q0 (kindQ s (needQ s q 16) 4) ∧ Kept p p' ∧ p.i ≤ p'.i ∧ p'.i ≤ s.size := by
  unfold eqdS
  by_cases h16 : kd s p = 16
  · rw [if_pos h16]
    have h1 := h.need 16 16 h16 (by omega)
    by_cases h4 : kd s (nxt s p 16) = 4
    · rw [if_pos h4]
      have m1 := nxt_mono s p 16 hi
      have m2 := nxt_mono s (nxt s p 16) 4 m1.2
      exact ⟨h1.kind 4 4 h4 (by omega), (kept_nxt s p 16).trans (kept_nxt s _ 4), by omega, m2.2⟩
    · rw [if_neg h4]
      exact h1.kindE h4
  · rw [if_neg h16]
    exact (h.needE h16).kind 4

theorem unN_sim {s : ByteArray} {p p0 : PS} {q0 q : Q} {l : List (Nat × Nat)} (h : SS p q0 q) (hi : p.i ≤ s.size) (h1 : p.opn = p0.opn) (h2 : p.thr = p0.thr) (h3 : p.jmp = keepJ p0.jmp (jumpL p0.thr l)) (h4 : p0.i ≤ p.i) :
    match unN (eqdS s p) with
    | .error e => SE e q0 (kindQ s (needQ s q 16) 4)
    | .ok p' => SS p' q0 (kindQ s (needQ s q 16) 4) ∧ p'.opn = p0.opn ∧ p'.thr = p0.thr ∧ p'.jmp = keepJ p0.jmp (jumpL p0.thr l) ∧ p0.i ≤ p'.i ∧ p'.i ≤ s.size := by
  have he := eqd_sim (s := s) h hi
  cases hh : eqdS s p with
  | error e => rw [hh] at he; exact he
  | ok y =>
    obtain ⟨d, p'⟩ := y
    rw [hh] at he
    obtain ⟨a, ⟨k1, k2, k3⟩, b, c⟩ := he
    exact ⟨a, k2.trans h1, k1.trans h2, k3.trans h3, by omega, c⟩

theorem thrS_jmp (s : ByteArray) (p : PS) : (thrS s p).thr = p.thr ∧ (thrS s p).jmp = keepJ p.jmp (jumpL p.thr [(nm s p, pl s p)]) := by
  have hn := nxt_thr s p 4
  unfold thrS
  rw [hn.1]
  simp only [jumpL]
  by_cases h : p.thr ≤ nm s p
  · rw [if_pos h, if_pos h, jumped_jmp, hn.2.2]
    refine ⟨?_, rfl⟩
    unfold jumped
    split
    · exact hn.1
    · exact hn.1
  · rw [if_neg h, if_neg h]
    refine ⟨hn.1, ?_⟩
    rw [hn.2.2]
    unfold keepJ
    split <;> simp
theorem atom_sim {s : ByteArray} {p : PS} {q : Q} (h : SS p q q) (hi : p.i ≤ s.size) :
    match (if kd s p = 4 then registerS s p else placeS s p) with
    | .error e => SE e q (atomQ s q).2
    | .ok p' => SS p' q (atomQ s q).2 ∧ p'.opn = p.opn ∧ p'.thr = p.thr ∧ p'.jmp = keepJ p.jmp (jumpL p.thr (atomQ s q).1.jm) ∧ p.i ≤ p'.i ∧ p'.i ≤ s.size := by
  by_cases h4 : kd s p = 4
  · have ea : ∃ x y, atomQ s q = (TM.reg (nm s p) x y (pl s p), kindQ s (needQ s (kindQ s (needQ s (kindQ s q 4) 17) 3) 16) 4) := by
      refine ⟨valQ s (needQ s (kindQ s q 4) 17) 3, valQ s (needQ s (kindQ s (needQ s (kindQ s q 4) 17) 3) 16) 4, ?_⟩
      unfold atomQ
      rw [if_pos (h.k.trans h4), valQ_ok h.b (h.k.trans h4) (by omega), qn_eq h.2.1, qa_eq h.2.1]
    obtain ⟨x, y, ea⟩ := ea
    rw [if_pos h4, ea]
    show match registerS s p with | .error e => SE e q (kindQ s (needQ s (kindQ s (needQ s (kindQ s q 4) 17) 3) 16) 4) | .ok p' => SS p' q (kindQ s (needQ s (kindQ s (needQ s (kindQ s q 4) 17) 3) 16) 4) ∧ p'.opn = p.opn ∧ p'.thr = p.thr ∧ p'.jmp = keepJ p.jmp (jumpL p.thr [(nm s p, pl s p)]) ∧ p.i ≤ p'.i ∧ p'.i ≤ s.size
    unfold registerS
    have ht := thrS_o s p
    have hj := thrS_jmp s p
    have h0 := h.kind 4 4 h4 (by omega)
    have h1 : SS (thrS s p) q (kindQ s q 4) := ⟨h0.1, h0.2.1.trans ht.2.symm, h0.2.2.1, h0.2.2.2⟩
    have m0 := nxt_mono s p 4 hi
    rw [← ht.2] at m0
    generalize thrS s p = p1 at *
    by_cases h17 : kd s p1 = 17
    · rw [if_pos h17]
      have h2 := h1.need 17 17 h17 (by omega)
      by_cases h3 : kd s (nxt s p1 17) = 3
      · rw [if_pos h3]
        have m1 := nxt_mono s p1 17 m0.2
        have m2 := nxt_mono s (nxt s p1 17) 3 m1.2
        have k1 := kept_nxt s p1 17
        have k2 := k1.trans (kept_nxt s (nxt s p1 17) 3)
        exact unN_sim (h2.kind 3 3 h3 (by omega)) m2.2 (k2.2.1.trans ht.1) (k2.1.trans hj.1) (k2.2.2.trans hj.2) (by omega)
      · rw [if_neg h3]
        exact ((h2.kindE h3).need 16).kind 4
    · rw [if_neg h17]
      exact (((h1.needE h17).kind 3).need 16).kind 4
  · have ea : atomQ s q = (TM.plc (valQ s q 2) (valQ s (needQ s (kindQ s q 2) 16) 4), kindQ s (needQ s (kindQ s q 2) 16) 4) := by
      unfold atomQ
      rw [if_neg (by rw [h.k]; exact h4)]
    rw [if_neg h4, ea]
    show match placeS s p with | .error e => SE e q (kindQ s (needQ s (kindQ s q 2) 16) 4) | .ok p' => SS p' q (kindQ s (needQ s (kindQ s q 2) 16) 4) ∧ p'.opn = p.opn ∧ p'.thr = p.thr ∧ p'.jmp = keepJ p.jmp (jumpL p.thr []) ∧ p.i ≤ p'.i ∧ p'.i ≤ s.size
    unfold placeS
    by_cases h2 : kd s p = 2
    · rw [if_pos h2]
      have m1 := nxt_mono s p 2 hi
      have k1 := kept_nxt s p 2
      exact unN_sim (h.kind 2 2 h2 (by omega)) m1.2 k1.2.1 k1.1 (k1.2.2.trans (keepJ_nil _ _).symm) m1.1
    · rw [if_neg h2]
      exact ((h.kindE h2).need 16).kind 4

/-- What is nested. -/
theorem nest_sim {s : ByteArray} {n : Nat} {f : PS → Except Nat PS} {g : Q → TM × Q} (hg : Keeps g) (hs : 1 ≤ n → SubSim s n f g) {p : PS} {q : Q} (h1 : SS p q q) (h2 : q.opn = (p.opn : Int)) (h3 : p.opn + (n + 1) = 7) (h4 : p.i ≤ s.size) (hk : 2 ≤ kd s p) :
    match nestS s f p with
    | .error e => (∃ q1, q1.opn = q.opn + 1 ∧ SE e q1 (g (openQ s q)).2)
    | .ok p' => ∃ p2 q1, p' = { p2 with opn := p.opn } ∧ q1.opn = q.opn + 1 ∧ q1.bad = q.bad ∧ SS p2 q1 (g (openQ s q)).2 ∧ p'.thr = p.thr ∧ p'.jmp = keepJ p.jmp (jumpL p.thr (g (openQ s q)).1.jm) ∧ p.i ≤ p'.i ∧ p'.i ≤ s.size := by
  unfold nestS
  by_cases h6 : p.opn = 6
  · rw [if_pos h6]
    have ho := open_fail (s := s) h1 (by omega)
    refine ⟨openQ s q, ho.2, ?_⟩
    rw [hg (openQ s q) (by rw [ho.1]; omega)]
    exact ⟨ho.1, rfl⟩
  · rw [if_neg h6]
    obtain ⟨o1, o2, o3⟩ := open_ok (s := s) h1 (by omega) hk
    have b := tk_bounds s p.i h4
    have hh := hs (by omega)
    cases hf : f { p with i := (tk s p.i).end_, opn := p.opn + 1 } with
    | error e =>
      exact ⟨openQ s q, o2, hh.err o1 (by rw [o2, h2]; simp) (by show p.opn + 1 + n = 7; omega) b.2.2.2 hf⟩
    | ok p2 =>
      obtain ⟨a1, a2, a3, a4, a5, a6⟩ := hh.ok o1 (by rw [o2, h2]; simp) (by show p.opn + 1 + n = 7; omega) b.2.2.2 hf
      refine ⟨p2, openQ s q, ?_, o2, o3, a1, a3, a4, ?_, a6⟩
      · show { p2 with opn := p2.opn - 1 } = _
        rw [a2]; rfl
      · show p.i ≤ p2.i
        have : (tk s p.i).end_ ≤ p2.i := a5
        omega
theorem part_sim (s : ByteArray) : ∀ n, 1 ≤ n → SubSim s n (partS s n) (form2Q s (n + 1)) := by
  intro n
  induction n with
  | zero => intro h; omega
  | succ n ih =>
    intro _ p q h1 h2 h3 h4
    rw [partS]
    by_cases k14 : kd s p = 14
    · have e : form2Q s (n + 1 + 1) q = ((form2Q s (n + 1) (openQ s q)).1.no, shutQ (form2Q s (n + 1) (openQ s q)).2) := by rw [form2Q, h1.is, if_pos (by simpa using k14)]
      rw [if_pos k14, e]
      have hh := nest_sim (form2_keeps s (n + 1)) ih h1 h2 h3 h4 (by omega)
      cases hn : nestS s (partS s n) p with
      | error e => rw [hn] at hh; obtain ⟨q1, o, he⟩ := hh; exact shut_SE he o
      | ok p' =>
        rw [hn] at hh
        obtain ⟨p2, q1, rfl, o, ob, a1, a3, a4, a5, a6⟩ := hh
        exact ⟨shut_SS a1 o ob, rfl, a3, a4, a5, a6⟩
    · rw [if_neg k14]
      by_cases k19 : kd s p = 19
      · have e : form2Q s (n + 1 + 1) q = ((levQ s 13 (levQ s 12 (form2Q s (n + 1))) (openQ s q)).1, shutQ (needQ s (levQ s 13 (levQ s 12 (form2Q s (n + 1))) (openQ s q)).2 20)) := by rw [form2Q, h1.is, if_neg (by simpa using k14), h1.is, if_pos (by simpa using k19)]
        rw [if_pos k19, e]
        have hl : 1 ≤ n → SubSim s n (partsS s 13 (partsS s 12 (partS s n))) (levQ s 13 (levQ s 12 (form2Q s (n + 1)))) := fun hn => lev_sim (c := 13) rfl (by decide) (lev_sim (c := 12) rfl (by decide) (ih hn))
        have hh := nest_sim (lev_keeps s 13 (lev_keeps s 12 (form2_keeps s (n + 1)))) hl h1 h2 h3 h4 (by omega)
        cases hn : nestS s (partsS s 13 (partsS s 12 (partS s n))) p with
        | error e => rw [hn] at hh; obtain ⟨q1, o, he⟩ := hh; exact shut_SE (he.need 20) o
        | ok p' =>
          rw [hn] at hh
          obtain ⟨p2, q1, rfl, o, ob, a1, a3, a4, a5, a6⟩ := hh
          simp only
          have ek : kd s { p2 with opn := p.opn } = kd s p2 := rfl
          by_cases k20 : kd s p2 = 20
          · rw [if_pos (by rw [ek]; exact k20)]
            have a7 := a1.need 20 20 k20 (by omega)
            have hx := nxt_thr s { p2 with opn := p.opn } 20
            have hm := nxt_mono s { p2 with opn := p.opn } 20 a6
            have a8 : SS { nxt s p2 20 with opn := p.opn } q _ := shut_SS a7 o ob
            refine ⟨⟨a8.1, ?_, a8.2.2.1, a8.2.2.2⟩, hx.2.1, hx.1.trans a3, hx.2.2.trans a4, Nat.le_trans a5 hm.1, hm.2⟩
            rw [a8.2.1]
            show (nxt s p2 20).i = _
            rw [nxt_i, nxt_i]
          · rw [if_neg (by rw [ek]; exact k20)]
            exact shut_SE (a1.needE k20) o
      · have e : form2Q s (n + 1 + 1) q = atomQ s q := by rw [form2Q, h1.is, if_neg (by simpa using k14), h1.is, if_neg (by simpa using k19)]
        rw [if_neg k19, e]
        exact atom_sim h1 h4
theorem form_sim (s : ByteArray) : SubSim s 7 (formS s 7) (formQ s 8) := lev_sim (c := 13) rfl (by decide) (lev_sim (c := 12) rfl (by decide) (part_sim s 7 (by omega)))
end Go.Proofs.YtmpaeladhoomoaaGreatDoor

namespace Go.Proofs.YtmpaeladhoomoaaGreatDoor

/-- Where the document's parser begins. -/
def q0 : Q := ⟨0, 0, -1, 0⟩
def endQ (s : ByteArray) (q : Q) : Q := if qk s q = 1 then q else failQ s q
def thrQ (s : ByteArray) : List (List RSt) × Q := threadsQ s 5 [] q0
def fmQ (s : ByteArray) : TM × Q := formQ s 8 (askQ s (thrQ s).2)
/-- The error and the place that the document's Load tells. -/
def loadQ (s : ByteArray) : Nat × Nat :=
  if 400 < s.size then (1, 0) else
  if 0 ≤ (endQ s (fmQ s).2).bad then (2, (endQ s (fmQ s).2).bad.toNat) else
  if 0 ≤ skipT (thrQ s).1 then (3, (skipT (thrQ s).1).toNat) else
  if 0 ≤ jumpL (thrQ s).1.length (fmQ s).1.jm then (3, (jumpL (thrQ s).1.length (fmQ s).1.jm).toNat) else (0, 0)

def inn (s : ByteArray) (q : Q) : Prop := q.j ≤ s.size
theorem inn.need {s : ByteArray} {q : Q} (h : inn s q) (c : Nat) : inn s (needQ s q c) := (needQ_o s q c h).2.2
theorem inn.kind {s : ByteArray} {q : Q} (h : inn s q) (c : Nat) : inn s (kindQ s q c) := (kindQ_o s q c h).2.2
theorem inn.take {s : ByteArray} {q : Q} (h : inn s q) : inn s (takeQ s q) := (takeQ_o s q h).2.2
theorem inn.fail {s : ByteArray} {q : Q} (h : inn s q) : inn s (failQ s q) := by unfold inn; rw [(failQ_o s q).2]; exact h
theorem inn.step {s : ByteArray} {q : Q} (h : inn s q) : inn s (stepQ s q).2 := by
  unfold stepQ
  split
  · split
    · exact (((h.kind 2).need 15).kind 3).need 18
    · exact (((h.kind 2).need 15).kind 4).need 18
  · split
    · split
      · exact (((h.kind 3).need 15).kind 2).need 18
      · split
        · exact (((((h.kind 3).need 15).take).kind 2).kind 4).need 18
        · exact (((h.kind 3).need 15).kind 4).need 18
    · split
      · exact h.take.need 18
      · exact ((((((h.need 8).kind 3).need 16).kind 4).need 9).kind 4).need 18
theorem inn.steps {s : ByteArray} : ∀ (k : Nat) (l : List RSt) {q : Q}, inn s q → inn s (stepsQ s k l q).2
  | 0, _, _, h => h
  | k + 1, l, q, h => by
    have h1 : inn s (stepQ s (if l.length = 8 then failQ s q else q)).2 := by
      split
      · exact h.fail.step
      · exact h.step
    rw [stepsQ]
    generalize (if l.length = 8 then failQ s q else q) = qq at h1 ⊢
    split
    · exact inn.steps k _ h1
    · exact h1
theorem inn.threads {s : ByteArray} : ∀ (k : Nat) (l : List (List RSt)) {q : Q}, inn s q → inn s (threadsQ s k l q).2
  | 0, _, _, h => h
  | k + 1, t, q, h => by
    have h1 : inn s (stepsQ s 9 [] (needQ s (if t.length = 4 then failQ s q else q) 5)).2 := by
      apply inn.steps
      split
      · exact h.fail.need 5
      · exact h.need 5
    rw [threadsQ]
    generalize (if t.length = 4 then failQ s q else q) = qq at h1 ⊢
    split
    · exact inn.threads k _ h1
    · exact h1
theorem inn.ask {s : ByteArray} {q : Q} (h : inn s q) : inn s (askQ s q) := by
  unfold askQ
  split
  · exact h.take
  · exact h.need 10
theorem test_sim (s : ByteArray) :
    match testS s ps0 with
    | .error e => (endQ s (fmQ s).2).bad = (e : Int)
    | .ok p => (endQ s (fmQ s).2).bad < 0 ∧ p.jmp = keepJ (skipT (thrQ s).1) (jumpL (thrQ s).1.length (fmQ s).1.jm) := by
  have h0 : SS ps0 q0 q0 := ⟨rfl, rfl, rfl, by decide⟩
  have ht := threads_sim (s := s) 5 [] ps0 q0 h0 rfl rfl rfl (by decide) (Or.inr rfl)
  have keep : ∀ {e : Nat}, SE e q0 (askQ s (thrQ s).2) → (endQ s (fmQ s).2).bad = (e : Int) := by
    intro e he
    have h1 : (fmQ s).2 = askQ s (thrQ s).2 := lev_keeps s 13 (lev_keeps s 12 (form2_keeps s 8)) _ he.p
    unfold endQ
    rw [h1]
    split
    · exact he.1
    · exact he.fail.1
  unfold testS
  cases hth : threadsS s 6 ps0 with
  | error e =>
    rw [hth] at ht
    exact keep (ask_err ht)
  | ok p1 =>
    rw [hth] at ht
    obtain ⟨x, p2, e2, a1, a2, a3, a4⟩ := ask_ok ht
    simp only [e2]
    have a4 : p2.opn = 0 := a4
    have hi : p2.i ≤ s.size := by
      rw [← a1.2.1]
      exact inn.ask (inn.threads 5 [] (Nat.zero_le _))
    have hq : (askQ s (threadsQ s 5 [] q0).2).opn = (p2.opn : Int) := by rw [a1.2.2.1, a4]; rfl
    cases hf : formS s 7 p2 with
    | error e =>
      have he := (form_sim s).err a1.self hq (by omega) hi hf
      have he' : SE e q0 (fmQ s).2 := a1.transE he
      show (endQ s (fmQ s).2).bad = (e : Int)
      unfold endQ
      split
      · exact he'.1
      · exact he'.fail.1
    | ok p3 =>
      obtain ⟨b1, b2, b3, b4, b5, b6⟩ := (form_sim s).ok a1.self hq (by omega) hi hf
      have c1 : SS p3 q0 (fmQ s).2 := a1.trans b1
      simp only
      by_cases k1 : kd s p3 = 1
      · rw [if_pos k1]
        unfold endQ
        rw [if_pos (c1.k.trans k1)]
        refine ⟨c1.b, ?_⟩
        rw [b4, a3, a2]; rfl
      · rw [if_neg k1]
        unfold endQ
        rw [if_neg (by rw [c1.k]; exact k1)]
        exact c1.no.1
theorem read_eq (s : ByteArray) : readS s = loadQ s := by
  unfold readS loadQ
  by_cases h : 400 < s.size
  · rw [if_pos h, if_pos h]
  · rw [if_neg h, if_neg h]
    have ht := test_sim s
    cases hh : testS s ps0 with
    | error e =>
      rw [hh] at ht
      have ht : (endQ s (fmQ s).2).bad = (e : Int) := ht
      simp only
      rw [ht, if_pos (by omega)]
      rfl
    | ok p =>
      rw [hh] at ht
      obtain ⟨h1, h2⟩ := ht
      simp only
      rw [if_neg (by omega : ¬ 0 ≤ (endQ s (fmQ s).2).bad), h2]
      unfold keepJ
      by_cases hs : 0 ≤ skipT (thrQ s).1
      · rw [if_pos hs, if_pos hs, if_pos hs]
      · rw [if_neg hs, if_neg hs]
        by_cases hj : 0 ≤ jumpL (thrQ s).1.length (fmQ s).1.jm
        · rw [if_pos hj, if_pos hj]
        · rw [if_neg hj, if_neg hj, if_neg hs]
end Go.Proofs.YtmpaeladhoomoaaGreatDoor

namespace Go.Proofs.YtmpaeladhoomoaaGreatDoor
open Go.RowKit

/-- The document's letter of a kind of step. -/
def letter (k : Nat) : Nat := if k = 0 then 115 else if k = 1 then 83 else if k = 2 then 108 else if k = 3 then 107 else if k = 4 then 120 else if k = 5 then 102 else 106
def OneF (y : RSt) (x : St) : Prop := y.kind = letter x.kind ∧ y.reg = x.reg ∧ y.place = x.place ∧ y.n = x.digit ∧ y.skip = x.count
theorem SS.val {s : ByteArray} {p : PS} {q0 q : Q} (h : SS p q0 q) (c : Nat) (hk : kd s p = c) (hc : 2 ≤ c) : valQ s q c = nm s p := by
  have h1 := (h.kind 0 c hk hc).b
  unfold valQ
  rw [if_neg (by omega), qn_eq h.2.1]
theorem step_full {s : ByteArray} {p p1 : PS} {q : Q} {x : St} (h : SS p q q) (hs : stepS s p = .ok (x, p1)) : OneF (stepQ s q).1 x := by
  unfold stepS at hs
  split at hs
  · rename_i hk
    have h1 := h.kind 2 2 hk (by omega)
    have k2 : qk s q = 2 := h.k.trans hk
    unfold storeS at hs
    split at hs
    · rename_i h15
      have h2 := h1.need 15 15 h15 (by omega)
      split at hs
      · rename_i h3
        simp only [Except.ok.injEq, Prod.mk.injEq] at hs
        obtain ⟨rfl, rfl⟩ := hs
        rw [stepQ_A1 s q k2 (h2.k.trans h3)]
        exact ⟨rfl, h2.val 3 h3 (by omega), h.val 2 hk (by omega), rfl, rfl⟩
      · rename_i h3
        split at hs
        · rename_i h4
          simp only [Except.ok.injEq, Prod.mk.injEq] at hs
          obtain ⟨rfl, rfl⟩ := hs
          rw [stepQ_A2 s q k2 (by rw [h2.k]; exact h3)]
          exact ⟨rfl, rfl, h.val 2 hk (by omega), h2.val 4 h4 (by omega), rfl⟩
        · simp at hs
    · simp at hs
  · rename_i n2
    split at hs
    · rename_i hk
      have h1 := h.kind 3 3 hk (by omega)
      have k2 : ¬ qk s q = 2 := by rw [h.k]; exact n2
      have k3 : qk s q = 3 := h.k.trans hk
      unfold assignS at hs
      split at hs
      · rename_i h15
        have h2 := h1.need 15 15 h15 (by omega)
        split at hs
        · rename_i a2
          simp only [Except.ok.injEq, Prod.mk.injEq] at hs
          obtain ⟨rfl, rfl⟩ := hs
          rw [stepQ_B1 s q k2 k3 (h2.k.trans a2)]
          exact ⟨rfl, h.val 3 hk (by omega), h2.val 2 a2 (by omega), rfl, rfl⟩
        · rename_i a2
          have m2 : ¬ qk s (needQ s (kindQ s q 3) 15) = 2 := by rw [h2.k]; exact a2
          split at hs
          · rename_i a4
            simp only [Except.ok.injEq, Prod.mk.injEq] at hs
            obtain ⟨rfl, rfl⟩ := hs
            rw [stepQ_B3 s q k2 k3 m2 (by rw [h2.is]; simp; omega)]
            exact ⟨rfl, h.val 3 hk (by omega), rfl, h2.val 4 a4 (by omega), rfl⟩
          · unfold swapS at hs
            split at hs
            · rename_i a7
              have h3 := h2.take (s := s) 7 (by omega)
              split at hs
              · rename_i b2
                have h4 := h3.kind 2 2 b2 (by omega)
                split at hs
                · rename_i c4
                  simp only [Except.ok.injEq, Prod.mk.injEq] at hs
                  obtain ⟨rfl, rfl⟩ := hs
                  rw [stepQ_B2 s q k2 k3 m2 (by rw [h2.is]; simp; omega)]
                  exact ⟨rfl, h.val 3 hk (by omega), h3.val 2 b2 (by omega), h4.val 4 c4 (by omega), rfl⟩
                · simp at hs
              · simp at hs
            · simp at hs
      · simp at hs
    · rename_i n3
      split at hs
      · rename_i hk
        have eq := stepQ_C2 s q (by rw [h.k]; omega) (by rw [h.k]; omega) (by rw [h.is]; simp; omega)
        have h1 := h.need 8 8 hk (by omega)
        unfold branchS at hs
        split at hs
        · rename_i a3
          have h2 := h1.kind 3 3 a3 (by omega)
          cases he : eqdS s (nxt s (nxt s p 8) 3) with
          | error e => rw [he] at hs; simp at hs
          | ok r =>
            obtain ⟨d, p3⟩ := r
            rw [he] at hs
            simp only at hs
            unfold eqdS at he
            split at he
            · rename_i a16
              have h3 := h2.need 16 16 a16 (by omega)
              split at he
              · rename_i a4
                simp only [Except.ok.injEq, Prod.mk.injEq] at he
                obtain ⟨rfl, rfl⟩ := he
                have h4 := h3.kind 4 4 a4 (by omega)
                split at hs
                · rename_i a9
                  have h5 := h4.need 9 9 a9 (by omega)
                  split at hs
                  · rename_i b4
                    simp only [Except.ok.injEq, Prod.mk.injEq] at hs
                    obtain ⟨rfl, rfl⟩ := hs
                    rw [eq]
                    exact ⟨rfl, h1.val 3 a3 (by omega), rfl, h3.val 4 a4 (by omega), h5.val 4 b4 (by omega)⟩
                  · simp at hs
                · simp at hs
              · simp at he
            · simp at he
        · simp at hs
      · split at hs
        · rename_i hk
          simp only [Except.ok.injEq, Prod.mk.injEq] at hs
          obtain ⟨rfl, rfl⟩ := hs
          rw [stepQ_C1 s q (by rw [h.k]; exact n2) (by rw [h.k]; exact n3) (by rw [h.is]; simpa using hk)]
          exact ⟨rfl, rfl, rfl, rfl, rfl⟩
        · simp at hs
/-- Steps beside steps, threads beside threads. -/
def AllF : List RSt → List St → Prop
  | [], [] => True
  | y :: l, x :: r => OneF y x ∧ AllF l r
  | _, _ => False
theorem AllF.snoc : ∀ {l : List RSt} {r : List St} {y : RSt} {x : St}, AllF l r → OneF y x → AllF (l ++ [y]) (r ++ [x])
  | [], [], _, _, _, h => ⟨h, trivial⟩
  | _ :: _, _ :: _, _, _, h, k => ⟨h.1, AllF.snoc h.2 k⟩
  | [], _ :: _, _, _, h, _ => h.elim
  | _ :: _, [], _, _, h, _ => h.elim
theorem AllF.len : ∀ {l : List RSt} {r : List St}, AllF l r → l.length = r.length
  | [], [], _ => rfl
  | _ :: _, _ :: _, h => by simp [AllF.len h.2]
  | [], _ :: _, h => h.elim
  | _ :: _, [], h => h.elim
def AllT : List (List RSt) → List (List St) → Prop
  | [], [] => True
  | y :: l, x :: r => AllF y x ∧ AllT l r
  | _, _ => False
theorem AllT.snoc : ∀ {l : List (List RSt)} {r : List (List St)} {y : List RSt} {x : List St}, AllT l r → AllF y x → AllT (l ++ [y]) (r ++ [x])
  | [], [], _, _, _, h => ⟨h, trivial⟩
  | _ :: _, _ :: _, _, _, h, k => ⟨h.1, AllT.snoc h.2 k⟩
  | [], _ :: _, _, _, h, _ => h.elim
  | _ :: _, [], _, _, h, _ => h.elim
theorem steps_fullF {s : ByteArray} : ∀ (n : Nat) (l : List RSt) (acc : List (St × Nat)) (p : PS) (q : Q) (l' : List (St × Nat)) (p' : PS), SS p q q → AllF l (acc.map (·.1)) → acc.length + n = 9 → (acc.length = 0 ∨ endsB s p = false) → stepsS s n acc p = .ok (l', p') → AllF (stepsQ s n l q).1 (l'.map (·.1)) := by
  intro n
  induction n with
  | zero => intro l acc p q l' p' _ _ _ _ h; simp [stepsS] at h
  | succ n ih =>
    intro l acc p q l' p' h ha hn he hok
    have hl : l.length = acc.length := by have := ha.len; simpa using this
    rw [stepsQ, hl]
    by_cases h8 : acc.length = 8
    · rw [stepsS, if_pos he, if_pos h8] at hok; simp at hok
    · rw [if_neg h8]
      rw [stepsS_go he h8] at hok
      have hs := step_sim (s := s) h
      cases hst : st2 s p with
      | error e => rw [hst] at hok; simp at hok
      | ok y =>
        obtain ⟨x, p2⟩ := y
        rw [hst] at hs hok
        obtain ⟨hs1, _, _⟩ := hs
        simp only at hok
        have h1 : OneF (stepQ s q).1 x := by
          unfold st2 at hst
          cases hq : stepS s p with
          | error e => rw [hq] at hst; simp at hst
          | ok z =>
            obtain ⟨x1, p1⟩ := z
            rw [hq] at hst
            simp only at hst
            split at hst
            · simp only [Except.ok.injEq, Prod.mk.injEq] at hst
              obtain ⟨rfl, _⟩ := hst
              exact step_full h hq
            · simp at hst
        have ha' : AllF (l ++ [(stepQ s q).1]) ((acc ++ [(x, p2.dig)]).map (·.1)) := by rw [List.map_append]; exact ha.snoc h1
        have hl' : (acc ++ [(x, p2.dig)]).length = acc.length + 1 := by simp
        rw [hs1.begins]
        by_cases hb : kd s p2 = 2 ∨ kd s p2 = 3 ∨ kd s p2 = 6 ∨ kd s p2 = 8
        · rw [if_pos (by simpa [or_assoc] using hb)]
          exact ih _ _ p2 _ _ _ hs1.self ha' (by omega) (Or.inr (ends_no (by omega))) hok
        · rw [if_neg (by simpa [or_assoc] using hb)]
          obtain ⟨m, rfl⟩ : ∃ m, n = m + 1 := ⟨n - 1, by omega⟩
          by_cases hee : endsB s p2 = true
          · rw [stepsS_ends (by omega) hee] at hok
            simp only [Except.ok.injEq, Prod.mk.injEq] at hok
            obtain ⟨rfl, _⟩ := hok
            exact ha'
          · have hee' : endsB s p2 = false := by simpa using hee
            rw [stepsS_none hee' (by omega) (by omega) (by omega) (by omega)] at hok
            simp at hok
/-- The threads that the program's reader reads. -/
def threadsL (s : ByteArray) : Nat → List (List St) → PS → Except Nat (List (List St) × PS)
  | 0, _, p => .error (pl s p)
  | n + 1, ls, p => if kd s p = 5 ∨ p.thr = 0 then (match threadS s p with | .error q => .error q | .ok (l, p1) => threadsL s n (ls ++ [l]) p1) else .ok (ls, p)
theorem threadsL_of {s : ByteArray} : ∀ (n : Nat) (ls : List (List St)) (p p' : PS), threadsS s n p = .ok p' → ∃ ls', threadsL s n ls p = .ok (ls', p') := by
  intro n
  induction n with
  | zero => intro ls p p' h; simp [threadsS] at h
  | succ n ih =>
    intro ls p p' h
    rw [threadsL]
    by_cases hc : kd s p = 5 ∨ p.thr = 0
    · rw [threadsS_one _ hc] at h
      rw [if_pos hc]
      cases ht : threadS s p with
      | error e => rw [ht] at h; simp at h
      | ok r =>
        obtain ⟨l, p1⟩ := r
        rw [ht] at h
        exact ih _ _ _ h
    · rw [threadsS, if_neg hc] at h
      rw [if_neg hc]
      simp only [Except.ok.injEq] at h
      subst h
      exact ⟨ls, rfl⟩
theorem threads_full {s : ByteArray} : ∀ (n : Nat) (t : List (List RSt)) (ls : List (List St)) (p : PS) (q : Q) (ls' : List (List St)) (p' : PS), SS p q q → p.thr = t.length → AllT t ls → t.length + n = 5 → (kd s p = 5 ∨ p.thr = 0) → threadsL s (n + 1) ls p = .ok (ls', p') → AllT (threadsQ s n t q).1 ls' := by
  intro n
  induction n with
  | zero =>
    intro t ls p q ls' p' h ht ha hn hc hok
    rw [threadsL, if_pos hc] at hok
    have e1 : threadS s p = .error (pl s p) ∨ p.thr ≠ 4 := by
      by_cases h4 : p.thr = 4
      · left; unfold threadS; rw [if_pos h4]
      · exact Or.inr h4
    cases hth : threadS s p with
    | error e => rw [hth] at hok; simp at hok
    | ok r => obtain ⟨l, p1⟩ := r; rw [hth] at hok; simp [threadsL] at hok
  | succ n ih =>
    intro t ls p q ls' p' h ht ha hn hc hok
    rw [threadsL, if_pos hc] at hok
    rw [threadsQ]
    cases hth : threadS s p with
    | error e => rw [hth] at hok; simp at hok
    | ok r =>
      obtain ⟨l, p1⟩ := r
      rw [hth] at hok
      simp only at hok
      have h4 : ¬ t.length = 4 := by rw [← ht]; exact (threadS_kept hth).2.2
      have hkp := threadS_kept hth
      rw [if_neg h4]
      unfold threadS at hth
      rw [if_neg (by omega)] at hth
      split at hth
      · rename_i h5
        cases hst : stepsS s 9 [] (nxt s p 5) with
        | error e => rw [hst] at hth; simp at hth
        | ok y =>
          obtain ⟨l1, p2⟩ := y
          rw [hst] at hth
          simp only [Except.ok.injEq, Prod.mk.injEq] at hth
          obtain ⟨rfl, hp1⟩ := hth
          have h1 : SS (nxt s p 5) q (needQ s q 5) := h.need 5 5 h5 (by omega)
          have hs := (steps_sim (s := s) 9 [] [] (nxt s p 5) (needQ s q 5) h1.self trivial rfl (by omega) (Or.inl rfl)).trans h1
          have hf := steps_fullF 9 [] [] (nxt s p 5) (needQ s q 5) l1 p2 h1.self trivial rfl (Or.inl rfl) hst
          rw [hst] at hs
          obtain ⟨hs1, hs2, hs3, hs4⟩ := hs
          have hk4 : p1.i = p2.i := by rw [← hp1]; exact skipsS_i l1 { p2 with thr := p2.thr + 1 }
          generalize stepsQ s 9 [] (needQ s q 5) = r at hs1 hf ⊢
          obtain ⟨b1, b2⟩ := r
          simp only at hs1 hf ⊢
          have h2 : SS p1 q b2 := ⟨hs1.1, by rw [hk4]; exact hs1.2.1, hs1.2.2.1, hs1.2.2.2⟩
          have t1 : p1.thr = (t ++ [b1]).length := by rw [hkp.2.1, ht]; simp
          have ha' : AllT (t ++ [b1]) (ls ++ [l1.map (·.1)]) := ha.snoc hf
          rw [h2.is]
          by_cases k5 : kd s p1 = 5
          · rw [if_pos (by simpa using k5)]
            exact ih _ _ p1 b2 _ _ h2.self t1 ha' (by simp; omega) (Or.inl k5) hok
          · rw [if_neg (by simpa using k5)]
            rw [threadsL, if_neg (by rw [t1]; simp; exact k5)] at hok
            simp only [Except.ok.injEq, Prod.mk.injEq] at hok
            obtain ⟨rfl, _⟩ := hok
            exact ha'
      · simp at hth
/-- The document's threads are the program's, field by field. -/
theorem thr_full {s : ByteArray} {ls : List (List St)} {p1 : PS} (h : threadsL s 6 [] ps0 = .ok (ls, p1)) : AllT (thrQ s).1 ls :=
  threads_full 5 [] [] ps0 q0 ls p1 ⟨rfl, rfl, rfl, by decide⟩ rfl trivial rfl (Or.inr rfl) h
end Go.Proofs.YtmpaeladhoomoaaGreatDoor

namespace Go.Proofs.YtmpaeladhoomoaaGreatDoor
open Go.RowKit

theorem jumpL_flat (t : Nat) (ks : List (List Value × TM)) (h : ∀ x ∈ ks, jumpL t x.2.jm < 0) : jumpL t (ks.flatMap (·.2.jm)) = -1 := by
  induction ks with
  | nil => rfl
  | cons y r ih =>
    rw [List.flatMap_cons, jumpL_append, if_neg (by have := h y (by simp); omega)]
    exact ih (fun x hx => h x (by simp [hx]))
theorem jumpL_at (t : Nat) (ks : List (List Value × TM)) (i : Nat) (x : List Value × TM) (hx : ks[i]? = some x) (h : ∀ y ∈ ks.take i, jumpL t y.2.jm < 0) (h0 : 0 ≤ jumpL t x.2.jm) : jumpL t (ks.flatMap (·.2.jm)) = jumpL t x.2.jm := by
  induction ks generalizing i with
  | nil => simp at hx
  | cons y r ih =>
    cases i with
    | zero => simp at hx; subst hx; rw [List.flatMap_cons, jumpL_append, if_pos h0]
    | succ i =>
      simp at hx
      rw [List.flatMap_cons, jumpL_append, if_neg (by have := h y (by simp); omega)]
      exact ih i hx (fun z hz => h z (by simp [hz]))

set_option maxRecDepth 100000 in
set_option maxHeartbeats 4000000 in
theorem jump_any : ∀ (d : Nat) (w : World) (ok : Nat → Prop) (cs : List Value) (l : TM) (t : Nat), t ≤ 1000 → TRep d w ok cs l →
    Calls Tryz.prog 109 #[.agg cs.toArray, .int .i64 (t : Nat)] w fun e w' => e = .returned (.int .i64 (jumpL t l.jm)) ∧ w.grownBy w' none := by
  intro d
  induction d with
  | zero => intro w ok cs l t ht h; exact h.elim
  | succ d ih =>
    intro w ok cs l t ht h
    obtain ⟨op, a, b, n, at_, sa, k, c, ks, rfl, rfl, hk2, hcase, _, hkids⟩ := h.kids
    have IH : Hid (∀ (w : World) (ok : Nat → Prop) (cs : List Value) (l : TM) (t : Nat), t ≤ 1000 → TRep d w ok cs l → Calls Tryz.prog 109 #[.agg cs.toArray, .int .i64 (t : Nat)] w fun e w' => e = .returned (.int .i64 (jumpL t l.jm)) ∧ w.grownBy w' none) := ih
    clear ih h
    have HKI : Hid (∀ i x, ks[i]? = some x → TRep d w ok x.1 x.2 ∧ ∃ g, sa = some ⟨g, 0, none⟩ ∧ ∀ o v, x.1[o]? = some v → w.cell? ⟨g, i * 6 + o, none⟩ = some v) := hkids
    clear hkids
    unfold trC
    rcases hcase with ⟨hop, rfl, a', at', rfl, rfl, hjm⟩ | ⟨hop, hjm⟩
    all_goals have HJM : Hid (l.jm = _) := hjm
    all_goals clear hjm
    · have hop2 : (op.toList == [114]) = true := by rw [beq_iff_eq]; exact hop
      clear hop
      by_cases hta : (t : Int) ≤ (a' : Int)
      · have HJ : Hid (jumpL t l.jm = (at' : Int)) := by show _ = _; rw [HJM.out]; simp only [jumpL]; rw [if_pos (by omega)]
        go_enter Tryz.func109, Tryz.ntmps109
        go_wp2_with fail
        go_ret
        exact ⟨ret_int HJ.out.symm, gb_alloc (gb_refl _ _) _⟩
      · have HJ : Hid (jumpL t l.jm = -1) := by show _ = _; rw [HJM.out]; simp only [jumpL]; rw [if_neg (by omega)]
        go_enter Tryz.func109, Tryz.ntmps109
        go_wp2_with fail
        go_loop [5] (fun v => v = .int .i64 0) (fun _ => 0)
        case atStart => rfl
        case round =>
          subst hrel
          go_wp2_with fail
          go_ret
          exact ⟨ret_int HJ.out.symm, gb_alloc (gb_refl _ _) _⟩
    · have hop2 : (op.toList == [114]) = false := by rw [beq_eq_false_iff_ne]; exact hop
      clear hop
      go_enter Tryz.func109, Tryz.ntmps109
      go_wp2_with fail
      go_loopw [5] (fun v wr => ∃ i : Nat, i ≤ ks.length ∧ v = .int .i64 i ∧ (w.alloc (.cells #[.string op, .int .i64 a, .int .i64 b, .int .i64 n, .int .i64 at_, .slice sa ks.length c] 146)).grownBy wr none ∧ Hid (∀ y ∈ ks.take i, jumpL t y.2.jm < 0)) (fun v _ => ks.length - (intOf v).toNat)
      case atStart => exact ⟨0, Nat.zero_le _, rfl, gb_refl _ _, fun y hy => by simp at hy⟩
      case round =>
        obtain ⟨i, hi, rfl, hG, HN⟩ := hrel
        have hbx := heap_gb hG (heap_alloc_new w _) (by simp)
        obtain ⟨a0, a1, a2, a3, a4, a5, af⟩ := loc6 hbx
        by_cases hlt : i < ks.length
        · obtain ⟨x, hx⟩ : ∃ y, ks[i]? = some y := ⟨ks[i], List.getElem?_eq_getElem hlt⟩
          obtain ⟨hT, g, rfl, hcell⟩ := HKI.out i x hx
          obtain ⟨x1, l1⟩ := x
          simp only at hT hcell
          obtain ⟨op3, a3', bb3, nn3, at3, sa3, k3, c3, rfl⟩ := hT.form
          have hgr := gb_trans (gb_alloc (gb_refl w none) (.cells #[.string op, .int .i64 a, .int .i64 b, .int .i64 n, .int .i64 at_, .slice (some ⟨g, 0, none⟩) ks.length c] 146)) hG
          have e0 := gb_cell hgr (hcell 0 _ rfl) (by simp)
          have e1 := gb_cell hgr (hcell 1 _ rfl) (by simp)
          have e2 := gb_cell hgr (hcell 2 _ rfl) (by simp)
          have e3 := gb_cell hgr (hcell 3 _ rfl) (by simp)
          have e4 := gb_cell hgr (hcell 4 _ rfl) (by simp)
          have e5 := gb_cell hgr (hcell 5 _ rfl) (by simp)
          rw [Nat.add_zero] at e0
          have hT2 := hT.mono (ok' := fun _ => True) (fun _ _ => trivial) (fun g' o' _ hh => heap_gb hgr hh (by simp))
          have HT2 : Hid (TRep _ _ _ _ _) := hT2
          have HX : Hid (ks[i]? = some _) := hx
          clear hT hcell hT2 hx hgr
          go_wp2_with fail
          refine (IH.out wr _ _ l1 t ht HT2.out).mono ?_
          rintro e w3 ⟨rfl, hg3⟩
          have hjl := jumpL_lo t l1.jm
          by_cases hj : 0 ≤ jumpL t l1.jm
          · have HJ : Hid (jumpL t l.jm = jumpL t l1.jm) := HJM.out ▸ jumpL_at t ks i _ HX.out HN.out hj
            go_wp2_with fail
            go_ret
            exact ⟨ret_int HJ.out.symm, gb_trans (gb_trans (gb_alloc (gb_refl w none) _) hG) hg3⟩
          · go_wp2_with fail
            refine ⟨⟨i + 1, by omega, by go_num, gb_trans hG hg3, ?_⟩, by simp [intOf]; omega⟩
            intro y hy
            have hlt2 : i < ks.length := hlt
            rw [List.take_succ_eq_append_getElem hlt2, List.mem_append, List.mem_singleton] at hy
            rcases hy with hy | rfl
            · exact HN.out y hy
            · have : ks[i]? = some ks[i] := List.getElem?_eq_getElem hlt2
              rw [this] at HX
              have hxx := HX.out
              simp at hxx
              rw [hxx]
              show jumpL t l1.jm < 0
              omega
        · have HJ : Hid (jumpL t l.jm = -1) := HJM.out ▸ jumpL_flat t ks (fun y hy => HN.out y (by rw [List.take_of_length_le (by omega)]; exact hy))
          go_wp2_with fail
          go_ret
          exact ⟨ret_int HJ.out.symm, gb_trans (gb_alloc (gb_refl w none) _) hG⟩
end Go.Proofs.YtmpaeladhoomoaaGreatDoor

namespace Go.Proofs.YtmpaeladhoomoaaGreatDoor
open Go.RowKit

theorem infoRStep : (Tryz.prog.info? 209).map (fun i => (i.zero, i.size, i.bytes)) = some (some (.agg #[.int .u8 0, .int .i64 0, .int .i64 0, .int .i64 0, .int .i64 0, .int .i64 0]), 6, 48) := by kernel_rfl
theorem infoRow : (Tryz.prog.info? 207).map (fun i => (i.zero, i.size, i.bytes)) = some (some (.slice none 0 0), 1, 24) := by kernel_rfl

def rsC (x : RSt) : List Value := [.int .u8 (x.kind : Nat), .int .i64 (x.reg : Nat), .int .i64 (x.place : Nat), .int .i64 (x.n : Nat), .int .i64 (x.skip : Nat), .int .i64 (x.at_ : Nat)]
def rsF (l : List RSt) : List Value := l.flatMap rsC
theorem rsF_snoc (l : List RSt) (x : RSt) : rsF l ++ rsC x = rsF (l ++ [x]) := by simp [rsF]
theorem rsF_get : ∀ (l : List RSt) (i o : Nat) (x : RSt), l[i]? = some x → o < 6 → (rsF l)[i * 6 + o]? = (rsC x)[o]? := by
  intro l
  induction l with
  | nil => intro i o x h; simp at h
  | cons y r ih =>
    intro i o x h ho
    have hl : (rsC y).length = 6 := rfl
    cases i with
    | zero =>
      simp at h
      subst h
      show (rsC y ++ rsF r)[0 * 6 + o]? = _
      rw [List.getElem?_append_left (by rw [hl]; omega)]
      simp
    | succ i =>
      simp at h
      show (rsC y ++ rsF r)[(i + 1) * 6 + o]? = _
      rw [List.getElem?_append_right (by rw [hl]; omega), hl, show (i + 1) * 6 + o - 6 = i * 6 + o from by omega]
      exact ih i o x h ho

/-- A row that is neither the parser's nor the tokens' stays through a call. -/
theorem own_fr {w w' : World} {B e size n b : Nat} {tv tv' u : Value} {xs : List Value} (h : w.ownsRow B e size u n xs) (hb : b < B) (ha : Apart tv u) (hf : FR b tv w tv' w') : w'.ownsRow B e size u n xs := by
  refine ⟨h.1, ?_⟩
  rcases h.2 with hn | ⟨g, cap, cur, rfl, hB, hg, rest⟩
  · exact .inl hn
  · exact .inr ⟨g, cap, cur, rfl, hB, hf.heap hg (by omega) (fun e => ha g e rfl), rest⟩
theorem apart_fr {w w' : World} {B e size n b : Nat} {tv tv' u : Value} {xs : List Value} (h : w.ownsRow B e size u n xs) (ha : Apart tv u) (hf : FR b tv w tv' w') : Apart tv' u := by
  intro k h1 h2
  have hlt := (h.lt k h2).2
  exact hf.apart hlt (fun e => ha k e h2) h1
/-- What turned a new row alone. -/
theorem FR.row_new {b : Nat} {tv tv' : Value} {w w' w'' : World} {row : Option Nat} (h : FR b tv w tv' w') (hg : w'.grownBy w'' row) (hr : ∀ g, row = some g → w.heap.size ≤ g) : FR b tv w tv' w'' :=
  ⟨hg.os.trans h.os, hg.tape.trans h.tape, hg.output.trans h.output, Nat.le_trans h.size hg.size,
   fun k hk hb ht => (hg.block k (Nat.lt_of_lt_of_le hk h.size) (fun e => by have := hr k e.symm; omega)).trans (h.block k hk hb ht), h.row⟩
theorem QAt.row {w w' : World} {b : Nat} {s : ByteArray} {q : Q} {tv : Value} {row : Option Nat} (h : QAt w b s q tv) (hg : w.grownBy w' row) (hb : some b ≠ row) (ht : ∀ g, row = some g → tv.ownBlock ≠ some g) : QAt w' b s q tv := by
  refine ⟨heap_gb hg h.blk hb, h.toks.kept hg ?_, h.ssz, h.jsz, h.nsz, h.blo, h.bhi, h.olo, h.ohi, h.tks⟩
  cases hv : tv.ownBlock with
  | none => exact Or.inl rfl
  | some k => right; intro e; exact ht k e.symm hv

/-- The threads as they lie: each in its row. -/
def ThR (w : World) (ok : Nat → Prop) (t : List (List RSt)) (xs : List Value) : Prop :=
  xs.length = t.length ∧ ∀ (i : Nat) (l : List RSt), t[i]? = some l → ∃ g cap, xs[i]? = some (Value.slice (some ⟨g, 0, none⟩) l.length cap) ∧ ok g ∧ l.length ≤ 9 ∧ ∀ (o : Nat) (v : Value), (rsF l)[o]? = some v → w.cell? ⟨g, o, none⟩ = some v
theorem ThR.nil (w : World) (ok : Nat → Prop) : ThR w ok [] [] := ⟨rfl, fun i l h => by simp at h⟩
theorem ThR.mono {w w' : World} {ok ok' : Nat → Prop} {t : List (List RSt)} {xs : List Value} (h : ThR w ok t xs) (h1 : ∀ g, ok g → ok' g ∧ w'.heap[g]? = w.heap[g]?) : ThR w' ok' t xs := by
  refine ⟨h.1, fun i l hl => ?_⟩
  obtain ⟨g, cap, a1, a2, a3, a4⟩ := h.2 i l hl
  refine ⟨g, cap, a1, (h1 g a2).1, a3, fun o v ho => ?_⟩
  have := a4 o v ho
  unfold World.cell? at this ⊢
  rw [(h1 g a2).2]
  exact this
theorem ThR.snoc {w : World} {ok : Nat → Prop} {t : List (List RSt)} {xs : List Value} {l : List RSt} {g cap : Nat} (h : ThR w ok t xs) (hg : ok g) (hc : l.length ≤ 9) (hx : ∀ (o : Nat) (v : Value), (rsF l)[o]? = some v → w.cell? ⟨g, o, none⟩ = some v) : ThR w ok (t ++ [l]) (xs ++ [Value.slice (some ⟨g, 0, none⟩) l.length cap]) := by
  refine ⟨by simp [h.1], fun i l' hl => ?_⟩
  by_cases hi : i < t.length
  · rw [List.getElem?_append_left hi] at hl
    obtain ⟨g', cap', a1, a2, a3, a4⟩ := h.2 i l' hl
    exact ⟨g', cap', by rw [List.getElem?_append_left (by rw [h.1]; exact hi)]; exact a1, a2, a3, a4⟩
  · rw [List.getElem?_append_right (by omega)] at hl
    have hi2 : i - t.length = 0 := by
      by_cases h0 : i - t.length = 0
      · exact h0
      · rw [List.getElem?_eq_none (by simp; omega)] at hl; simp at hl
    rw [hi2] at hl
    simp at hl
    subst hl
    exact ⟨g, cap, by rw [List.getElem?_append_right (by rw [h.1]; omega), h.1, hi2]; rfl, hg, hc, hx⟩
end Go.Proofs.YtmpaeladhoomoaaGreatDoor

namespace Go.Proofs.YtmpaeladhoomoaaGreatDoor
open Go.RowKit

theorem loc10 {w : World} {T : Nat} {a0 a1 a2 a3 a4 a5 a6 a7 a8 a9 : Value} {t : TypeId} (h : w.heap[T]? = some (.cells #[a0, a1, a2, a3, a4, a5, a6, a7, a8, a9] t (0, 0))) :
    w.cell? ⟨T, 0, none⟩ = some a0 ∧ w.cell? ⟨T, 1, none⟩ = some a1 ∧ w.cell? ⟨T, 2, none⟩ = some a2 ∧ w.cell? ⟨T, 3, none⟩ = some a3 ∧ w.cell? ⟨T, 4, none⟩ = some a4 ∧ w.cell? ⟨T, 5, none⟩ = some a5 ∧ w.cell? ⟨T, 6, none⟩ = some a6 ∧ w.cell? ⟨T, 7, none⟩ = some a7 ∧ w.cell? ⟨T, 8, none⟩ = some a8 ∧ w.cell? ⟨T, 9, none⟩ = some a9 ∧ ∀ o, w.frozen? ⟨T, o, none⟩ = false :=
  ⟨cell_of h 0 _ rfl, cell_of h 1 _ rfl, cell_of h 2 _ rfl, cell_of h 3 _ rfl, cell_of h 4 _ rfl, cell_of h 5 _ rfl, cell_of h 6 _ rfl, cell_of h 7 _ rfl, cell_of h 8 _ rfl, cell_of h 9 _ rfl, frozen_of h⟩
def tC (tsv : Value) : Array Value := #[tsv, .bool false, .string ⟨#[]⟩, .int .i64 0, .int .i64 0, .int .i64 0, .int .i64 0, .slice none 0 0, .slice none 0 0, .int .i64 0]
/-- A block of Load's own that stays. -/
def okR (w : World) (b T : Nat) (tv tsv : Value) (g : Nat) : Prop := g < w.heap.size ∧ g ≠ b ∧ T < g ∧ tv.ownBlock ≠ some g ∧ tsv.ownBlock ≠ some g
/-- Load in mid-call: the threads that were read. -/
structure LdAt (w4 w : World) (b : Nat) (s : ByteArray) (q : Q) (tv : Value) (t : List (List RSt)) (tsv : Value) (xs : List Value) : Prop where
  n1 : N1 w4 (.slice none 0 0) w b s q tv w4.heap.size 149 (tC tsv)
  own : w.ownsRow (w4.heap.size + 1) 207 1 tsv t.length xs
  ap : Apart tv tsv
  th : ThR w (okR w b w4.heap.size tv tsv) t xs
theorem LdAt.call {w4 w w' : World} {b : Nat} {s : ByteArray} {q q' : Q} {tv tv' : Value} {t : List (List RSt)} {tsv : Value} {xs : List Value} (l : LdAt w4 w b s q tv t tsv xs) (hf : FR b tv w tv' w') (hq : QAt w' b s q' tv') : LdAt w4 w' b s q' tv' t tsv xs :=
  ⟨l.n1.call hf hq, own_fr l.own (by have := l.n1.hb; omega) l.ap hf, apart_fr l.own l.ap hf, l.th.mono (fun g hg => ⟨⟨Nat.lt_of_lt_of_le hg.1 hf.size, hg.2.1, hg.2.2.1, hf.apart hg.1 hg.2.2.2.1, hg.2.2.2.2⟩, hf.block g hg.1 hg.2.1 hg.2.2.2.1⟩)⟩
theorem LdAt.start {w4 : World} {b : Nat} {s : ByteArray} (h : QAt w4 b s q0 (.slice none 0 0)) : LdAt w4 (w4.alloc (.cells (tC (.slice none 0 0)) 149 (0, 0))) b s q0 (.slice none 0 0) [] (.slice none 0 0) [] :=
  ⟨N1.start h _ _, World.ownsRow_nil _ _ _ _, fun k hk => by simp [Value.ownBlock] at hk, ThR.nil _ _⟩
theorem LdAt.push {w4 w w12 : World} {o : Obj} {b : Nat} {s : ByteArray} {q : Q} {tv : Value} {t : List (List RSt)} {tsv : Value} {xs : List Value} {lr : List RSt} {g lcap g2 cap2 B : Nat} (l : LdAt w4 w b s q tv t tsv xs)
    (hl : w.ownsRow B 209 6 (.slice (some ⟨g, 0, none⟩) lr.length lcap) lr.length (rsF lr)) (hl9 : lr.length ≤ 9) (hB : w4.heap.size < B) (hts : ∀ k, tsv.ownBlock = some k → k < B) (hap : Apart tv (.slice (some ⟨g, 0, none⟩) lr.length lcap))
    (hgrow : (w.alloc o).grownBy w12 tsv.ownBlock) (hown : w12.ownsRow (w4.heap.size + 1) 207 1 (.slice (some ⟨g2, 0, none⟩) (t.length + 1) cap2) (t.length + 1) (xs ++ [.slice (some ⟨g, 0, none⟩) lr.length lcap])) (hat : tsv.ownBlock = some g2 ∨ g2 = w.heap.size + 1) :
    LdAt w4 (w12.setCell ⟨w4.heap.size, 0, none⟩ (.slice (some ⟨g2, 0, none⟩) (t.length + 1) cap2)) b s q tv (t ++ [lr]) (.slice (some ⟨g2, 0, none⟩) (t.length + 1) cap2) (xs ++ [.slice (some ⟨g, 0, none⟩) lr.length lcap]) := by
  have hgl := hl.lt g rfl
  have hb := l.n1.hb
  have hg2 := hown.lt g2 rfl
  have hTl := heap_lt l.n1.res
  have hs12 := hgrow.size
  rw [World.size_alloc] at hs12
  have hgn : g ≠ g2 := by
    rcases hat with e | e
    · have := hts g2 e; omega
    · omega
  have htv : ∀ k, tsv.ownBlock = some k → tv.ownBlock ≠ some k := fun k h1 h2 => l.ap k h2 h1
  have hput : ∀ k, k ≠ w4.heap.size → (w12.setCell ⟨w4.heap.size, 0, none⟩ (.slice (some ⟨g2, 0, none⟩) (t.length + 1) cap2)).heap[k]? = w12.heap[k]? := fun k hk => Below.heap_setCell _ _ _ _ (by simpa using hk)
  have hkeep : ∀ k, k < w.heap.size → k ≠ w4.heap.size → tsv.ownBlock ≠ some k → (w12.setCell ⟨w4.heap.size, 0, none⟩ (.slice (some ⟨g2, 0, none⟩) (t.length + 1) cap2)).heap[k]? = w.heap[k]? := fun k hk hT ht => (hput k hT).trans ((hgrow.block k (by simp; omega) (fun e => ht e.symm)).trans (Below.heap_alloc _ _ _ hk))
  have tvg2 : tv.ownBlock ≠ some g2 := by
    rcases hat with e | e
    · exact htv g2 e
    · rw [e]; exact l.n1.at_.rowlt _ (by omega)
  have A12 : QAt w12 b s q tv := (l.n1.at_.alloc o).row hgrow (par_own l.own (by omega)) htv
  have hT12 : w12.heap[w4.heap.size]? = some (.cells (tC tsv) 149 (0, 0)) := heap_gb hgrow (heap_alloc_at l.n1.res o) (par_own l.own (by omega))
  refine ⟨⟨?_, A12.other _ _ (by simp; omega) l.n1.nR, heap_set' hT12 0 _ _ rfl, l.n1.hR, hb, l.n1.nR⟩, ?_, ?_, ?_⟩
  · exact ((l.n1.fr.alloc o).row_new hgrow (fun k e => by have := (l.own.lt k e).1; omega)).row_new (row := some w4.heap.size) ⟨rfl, rfl, rfl, by simp [World.setCell], fun k hk hne => hput k (by simpa using hne)⟩ (fun k e => by simp at e; omega)
  · rw [List.length_append]; exact ownsRow_setCell_below hown (by simp) _
  · intro k h1 h2
    simp [Value.ownBlock] at h2
    subst h2
    exact tvg2 h1
  · refine ThR.snoc (l.th.mono (fun k hk => ⟨⟨?_, hk.2.1, hk.2.2.1, hk.2.2.2.1, ?_⟩, hkeep k hk.1 (Nat.ne_of_gt hk.2.2.1) hk.2.2.2.2⟩)) ⟨?_, by omega, by omega, fun e => hap g e rfl, ?_⟩ ?_ ?_
    · rw [size_set]; have := hk.1; omega
    · simp [Value.ownBlock]
      rcases hat with e | e
      · intro e2; exact hk.2.2.2.2 (by rw [e, e2])
      · have := hk.1; omega
    · rw [size_set]; omega
    · simp [Value.ownBlock]; omega
    · exact hl9
    · intro o' v hv
      have hc := hl.cells rfl o' v hv
      rw [addr_add] at hc
      unfold World.cell? at hc ⊢
      rw [hkeep g hgl.2 (by omega) (fun e => by have := hts g e; omega)]
      exact hc
/-- Load behind the threads: its result's cells as they come. -/
structure LdT (w4 w : World) (b : Nat) (s : ByteArray) (q : Q) (tv : Value) (t : List (List RSt)) (tsv : Value) (xs : List Value) (rs : Array Value) : Prop where
  n1 : N1 w4 (.slice none 0 0) w b s q tv w4.heap.size 149 rs
  own : w.ownsRow (w4.heap.size + 1) 207 1 tsv t.length xs
  ap : Apart tv tsv
  th : ThR w (okR w b w4.heap.size tv tsv) t xs
theorem LdAt.tail {w4 w : World} {b : Nat} {s : ByteArray} {q : Q} {tv : Value} {t : List (List RSt)} {tsv : Value} {xs : List Value} (l : LdAt w4 w b s q tv t tsv xs) : LdT w4 w b s q tv t tsv xs #[tsv, .bool false, .string ⟨#[]⟩, .int .i64 0, .int .i64 0, .int .i64 0, .int .i64 0, .slice none 0 0, .slice none 0 0, .int .i64 0] := ⟨l.n1, l.own, l.ap, l.th⟩
theorem LdT.call {w4 w w' : World} {b : Nat} {s : ByteArray} {q q' : Q} {tv tv' : Value} {t : List (List RSt)} {tsv : Value} {xs : List Value} {rs : Array Value} (l : LdT w4 w b s q tv t tsv xs rs) (hf : FR b tv w tv' w') (hq : QAt w' b s q' tv') : LdT w4 w' b s q' tv' t tsv xs rs :=
  ⟨l.n1.call hf hq, own_fr l.own (by have := l.n1.hb; omega) l.ap hf, apart_fr l.own l.ap hf, l.th.mono (fun g hg => ⟨⟨Nat.lt_of_lt_of_le hg.1 hf.size, hg.2.1, hg.2.2.1, hf.apart hg.1 hg.2.2.2.1, hg.2.2.2.2⟩, hf.block g hg.1 hg.2.1 hg.2.2.2.1⟩)⟩
theorem LdT.put {w4 w : World} {b : Nat} {s : ByteArray} {q : Q} {tv : Value} {t : List (List RSt)} {tsv : Value} {xs : List Value} {rs : Array Value} (l : LdT w4 w b s q tv t tsv xs rs) (i : Nat) (v : Value) (rs' : Array Value) (h : rs.set! i v = rs') : LdT w4 (w.setCell ⟨w4.heap.size, i, none⟩ v) b s q tv t tsv xs rs' := by
  have hb := l.n1.hb
  have hput : ∀ k, k ≠ w4.heap.size → (w.setCell ⟨w4.heap.size, i, none⟩ v).heap[k]? = w.heap[k]? := fun k hk => Below.heap_setCell _ _ _ _ (by simpa using hk)
  refine ⟨⟨?_, l.n1.at_.other _ _ (by simp; omega) l.n1.nR, heap_set' l.n1.res i v _ h, l.n1.hR, hb, l.n1.nR⟩, ownsRow_setCell_below l.own (by simp) _, l.ap, l.th.mono (fun k hk => ⟨⟨by rw [size_set]; exact hk.1, hk.2⟩, hput k (Nat.ne_of_gt hk.2.2.1)⟩)⟩
  exact l.n1.fr.row_new (row := some w4.heap.size) ⟨rfl, rfl, rfl, by simp [World.setCell], fun k hk hne => hput k (by simpa using hne)⟩ (fun k e => by simp at e; omega)
theorem LdT.alloc {w4 w : World} {b : Nat} {s : ByteArray} {q : Q} {tv : Value} {t : List (List RSt)} {tsv : Value} {xs : List Value} {rs : Array Value} (l : LdT w4 w b s q tv t tsv xs rs) (o : Obj) : LdT w4 (w.alloc o) b s q tv t tsv xs rs := l.call (FR.of_new (gb_alloc (gb_refl _ _) o)) (l.n1.at_.alloc o)
theorem stepsQ_go (s : ByteArray) (l : List RSt) (q q5 : Q) (h8 : l.length ≤ 8) (hq : q5 = if l.length = 8 then failQ s q else q) : stepsQ s (9 - l.length) l q =
    if beginsQ s (stepQ s q5).2 = true then stepsQ s (9 - (l ++ [(stepQ s q5).1]).length) (l ++ [(stepQ s q5).1]) (stepQ s q5).2 else (l ++ [(stepQ s q5).1], (stepQ s q5).2) := by
  obtain ⟨m, hm⟩ : ∃ m, 9 - l.length = m + 1 := ⟨8 - l.length, by omega⟩
  have hm2 : 9 - (l ++ [(stepQ s q5).1]).length = m := by simp; omega
  rw [hm2, hm, stepsQ, ← hq]
theorem stepsQ_last (s : ByteArray) (q5 : Q) (hq : 0 ≤ q5.bad) : beginsQ s (stepQ s q5).2 = false := beginsQ_keep (by rw [stepQ_keep hq]; exact hq)
theorem threadsQ_go (s : ByteArray) (t : List (List RSt)) (q q5 : Q) (l : List RSt) (ql : Q) (h4 : t.length ≤ 4) (hq : q5 = if t.length = 4 then failQ s q else q) (hl : (l, ql) = stepsQ s 9 [] (needQ s q5 5)) : threadsQ s (5 - t.length) t q =
    if isQ s ql 5 = true then threadsQ s (5 - (t ++ [l]).length) (t ++ [l]) ql else (t ++ [l], ql) := by
  obtain ⟨m, hm⟩ : ∃ m, 5 - t.length = m + 1 := ⟨4 - t.length, by omega⟩
  have hm2 : 5 - (t ++ [l]).length = m := by simp; omega
  rw [hm2, hm, threadsQ, ← hq, ← hl]
theorem threads_last {s : ByteArray} {t : List (List RSt)} {q q5 : Q} {l : List RSt} {ql : Q} (h4 : t.length = 4) (hq : q5 = if t.length = 4 then failQ s q else q) (hl : (l, ql) = stepsQ s 9 [] (needQ s q5 5)) : isQ s ql 5 = false := by
  rw [if_pos h4] at hq
  have hb : 0 ≤ q5.bad := by rw [hq]; exact failQ_bad s q
  have hse : SE q5.bad.toNat q5 q5 := ⟨by omega, rfl⟩
  have h1 := stepsQ_bad (s := s) (hse.need (s := s) 5) 9 []
  rw [← hl] at h1
  exact h1.is 5
theorem q0_at {w1 : World} {s : ByteArray} (hs : s.size ≤ 400) (b : Nat) (hb : w1.heap[b]? = some (.cells #[.string s, .int .u8 (rkind (tk s 0).kind : Nat), .string (canonB (tk s 0).kind (tk s 0).num), .int .i64 ((tk s 0).at_ : Nat), .int .i64 ((tk s 0).end_ : Nat), .slice none 0 0, .int .i64 (-1), .int .i64 0] 203 (0, 0))) : QAt w1 b s q0 (.slice none 0 0) :=
  ⟨hb, World.ownsRow_nil _ _ _ _, hs, Nat.zero_le _, Nat.le_refl _, by decide, by decide, by decide, by decide, rfl, fun y hy => by simp [toks, q0] at hy⟩
end Go.Proofs.YtmpaeladhoomoaaGreatDoor
