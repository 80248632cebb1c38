/-
  The two readers beside one another, plainly: tokens and steps.
-/
import Derived.Test.YtmpaeladhoomoaaGreatDoorRfL
namespace Go.Proofs.YtmpaeladhoomoaaGreatDoor

def adv (s : ByteArray) (q : Q) : Q := { q with j := (tk s q.j).end_, n := q.n + 1 }
theorem takeQ_ok {s : ByteArray} {q : Q} (hb : q.bad < 0) (hk : ¬ qk s q ≤ 1) : takeQ s q = adv s q := by
  unfold takeQ; rw [if_neg hk, if_neg (by omega)]; rfl
theorem takeQ_keep {s : ByteArray} {q : Q} (hb : 0 ≤ q.bad) : takeQ s q = q := by
  unfold takeQ failQ
  split
  · rw [if_neg (by omega)]
  · rfl
theorem failQ_keep {s : ByteArray} {q : Q} (hb : 0 ≤ q.bad) : failQ s q = q := by unfold failQ; rw [if_neg (by omega)]
theorem failQ_new {s : ByteArray} {q : Q} (hb : q.bad < 0) : (failQ s q).bad = (qa s q : Int) ∧ (failQ s q).opn = q.opn := by unfold failQ; rw [if_pos hb]; exact ⟨rfl, rfl⟩
theorem needQ_ok {s : ByteArray} {q : Q} {c : Nat} (hb : q.bad < 0) (hk : qk s q = c) (hc : 2 ≤ c) : needQ s q c = adv s q := by
  unfold needQ
  rw [if_pos (by unfold isQ; simp [hb, hk])]
  exact takeQ_ok hb (by omega)
theorem needQ_err {s : ByteArray} {q : Q} {c : Nat} (hk : ¬ qk s q = c) : needQ s q c = failQ s q := by
  unfold needQ
  rw [if_neg (by unfold isQ; simp [hk])]
  exact takeQ_keep (failQ_bad s q)
theorem needQ_keep {s : ByteArray} {q : Q} {c : Nat} (hb : 0 ≤ q.bad) : needQ s q c = q := by
  unfold needQ
  rw [if_neg (by unfold isQ; simp; omega), failQ_keep hb]
  exact takeQ_keep hb
theorem kindQ_ok {s : ByteArray} {q : Q} {c : Nat} (hb : q.bad < 0) (hk : qk s q = c) (hc : 2 ≤ c) : kindQ s q c = adv s q := by
  unfold kindQ
  rw [if_pos hk]
  exact takeQ_ok hb (by omega)
theorem kindQ_err {s : ByteArray} {q : Q} {c : Nat} (hk : ¬ qk s q = c) : kindQ s q c = failQ s q := by
  unfold kindQ
  rw [if_neg hk]
  exact takeQ_keep (failQ_bad s q)
theorem kindQ_keep {s : ByteArray} {q : Q} {c : Nat} (hb : 0 ≤ q.bad) : kindQ s q c = q := by
  unfold kindQ
  split
  · exact takeQ_keep hb
  · rw [failQ_keep hb]; exact takeQ_keep hb
theorem valQ_ok {s : ByteArray} {q : Q} {c : Nat} (hb : q.bad < 0) (hk : qk s q = c) (hc : 2 ≤ c) : valQ s q c = qn s q := by
  unfold valQ
  rw [kindQ_ok hb hk hc, if_neg (by show ¬ 0 ≤ q.bad; omega)]
theorem stepQ_keep {s : ByteArray} {q : Q} (hb : 0 ≤ q.bad) : (stepQ s q).2 = q := by
  have i1 : ∀ c, isQ s q c = false := by intro c; unfold isQ; simp; omega
  have k1 : ∀ c, kindQ s q c = q := fun c => kindQ_keep hb
  have n1 : ∀ c, needQ s q c = q := fun c => needQ_keep hb
  unfold stepQ
  simp only [k1, n1, i1]
  repeat' split
  all_goals first
    | rfl
    | (exfalso; simp_all; done)

/-- A step and its ';'. -/
def st2 (s : ByteArray) (p : PS) : Except Nat (St × PS) :=
  match stepS s p with
  | .error e => .error e
  | .ok (x, p1) => if kd s p1 = 18 then .ok (x, nxt s p1 18) else .error (pl s p1)
/-- The document's step beside the program's. -/
def StepSim (s : ByteArray) (q : Q) (r : Except Nat (St × PS)) : Prop :=
  match r with
  | .error e => (stepQ s q).2.bad = (e : Int) ∧ (stepQ s q).2.opn = q.opn
  | .ok (x, p') => (stepQ s q).2.bad = q.bad ∧ (stepQ s q).2.j = p'.i ∧ (stepQ s q).2.opn = q.opn ∧ ((stepQ s q).1.kind = 106 ↔ x.kind = 6) ∧ (x.kind = 6 → (stepQ s q).1.skip = x.count ∧ (stepQ s q).1.at_ = p'.dig)
theorem adv_bad (s : ByteArray) (q : Q) : (adv s q).bad = q.bad ∧ (adv s q).opn = q.opn ∧ (adv s q).j = (tk s q.j).end_ := ⟨rfl, rfl, rfl⟩
theorem kd_nxt (s : ByteArray) (p : PS) (q : Q) (k : Int) (h : q.j = p.i) : (adv s q).j = (nxt s p k).i := by rw [nxt_i, ← h]; rfl
theorem qk_eq {s : ByteArray} {p : PS} {q : Q} (h : q.j = p.i) : qk s q = kd s p := by unfold qk kd; rw [h]
theorem qn_eq {s : ByteArray} {p : PS} {q : Q} (h : q.j = p.i) : qn s q = nm s p := by unfold qn nm; rw [h]
theorem qa_eq {s : ByteArray} {p : PS} {q : Q} (h : q.j = p.i) : qa s q = pl s p := by unfold qa pl; rw [h]
theorem nxt_dig4 (s : ByteArray) (p : PS) : (nxt s p 4).dig = pl s p := rfl
theorem nxt_dig18 (s : ByteArray) (p : PS) : (nxt s p 18).dig = p.dig := by unfold nxt; rw [if_neg (by omega)]

/-- A ';' behind what came out well. -/
theorem semi_sim {s : ByteArray} {p1 : PS} {q1 : Q} (hb : q1.bad < 0) (h : q1.j = p1.i) :
    (kd s p1 = 18 → (needQ s q1 18).bad = q1.bad ∧ (needQ s q1 18).j = (nxt s p1 18).i ∧ (needQ s q1 18).opn = q1.opn) ∧ (¬ kd s p1 = 18 → (needQ s q1 18).bad = (pl s p1 : Int) ∧ (needQ s q1 18).opn = q1.opn) := by
  refine ⟨fun hk => ?_, fun hk => ?_⟩
  · rw [needQ_ok hb (by rw [qk_eq h]; exact hk) (by omega)]
    exact ⟨rfl, kd_nxt s p1 q1 18 h, rfl⟩
  · rw [needQ_err (by rw [qk_eq h]; exact hk)]
    have := failQ_new (s := s) hb
    rw [qa_eq h] at this
    exact this
/-- What went wrong stays so. -/
theorem semi_bad {s : ByteArray} {q1 : Q} (hb : 0 ≤ q1.bad) : needQ s q1 18 = q1 := needQ_keep hb
end Go.Proofs.YtmpaeladhoomoaaGreatDoor
