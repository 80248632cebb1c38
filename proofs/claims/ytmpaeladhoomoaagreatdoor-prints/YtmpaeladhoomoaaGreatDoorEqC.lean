/-
  The two readers beside one another, plainly: threads.
-/
import Derived.Test.YtmpaeladhoomoaaGreatDoorEqB
namespace Go.Proofs.YtmpaeladhoomoaaGreatDoor

/-- The document's steps of a thread. -/
def stepsQ (s : ByteArray) : Nat → List RSt → Q → List RSt × Q
  | 0, l, q => (l, q)
  | k + 1, l, q =>
    if beginsQ s (stepQ s (if l.length = 8 then failQ s q else q)).2 = true then stepsQ s k (l ++ [(stepQ s (if l.length = 8 then failQ s q else q)).1]) (stepQ s (if l.length = 8 then failQ s q else q)).2
    else (l ++ [(stepQ s (if l.length = 8 then failQ s q else q)).1], (stepQ s (if l.length = 8 then failQ s q else q)).2)
/-- The document's threads. -/
def threadsQ (s : ByteArray) : Nat → List (List RSt) → Q → List (List RSt) × Q
  | 0, t, q => (t, q)
  | k + 1, t, q =>
    if isQ s (stepsQ s 9 [] (needQ s (if t.length = 4 then failQ s q else q) 5)).2 5 = true then threadsQ s k (t ++ [(stepsQ s 9 [] (needQ s (if t.length = 4 then failQ s q else q) 5)).1]) (stepsQ s 9 [] (needQ s (if t.length = 4 then failQ s q else q) 5)).2
    else (t ++ [(stepsQ s 9 [] (needQ s (if t.length = 4 then failQ s q else q) 5)).1], (stepsQ s 9 [] (needQ s (if t.length = 4 then failQ s q else q) 5)).2)
def askQ (s : ByteArray) (q : Q) : Q := if isQ s q 11 = true then takeQ s q else needQ s q 10
/-- The first skip that goes too far. -/
def skipL : List RSt → Int
  | [] => -1
  | x :: r => if x.kind = 106 ∧ r.length < x.skip then (x.at_ : Int) else skipL r
def skipT : List (List RSt) → Int
  | [] => -1
  | l :: r => if 0 ≤ skipL l then skipL l else skipT r

theorem beginsQ_keep {s : ByteArray} {q : Q} (hb : 0 ≤ q.bad) : beginsQ s q = false := by unfold beginsQ; rw [decide_eq_false (by omega)]; rfl
theorem SS.begins {s : ByteArray} {p : PS} {q0 q : Q} (h : SS p q0 q) : beginsQ s q = (decide (kd s p = 2) || decide (kd s p = 3) || decide (kd s p = 6) || decide (kd s p = 8)) := by
  unfold beginsQ; rw [h.k, decide_eq_true h.b]; rfl
theorem SE.step {s : ByteArray} {e : Nat} {q0 q : Q} (h : SE e q0 q) : SE e q0 (stepQ s q).2 := by rw [stepQ_keep h.p]; exact h
theorem SE.fail {s : ByteArray} {e : Nat} {q0 q : Q} (h : SE e q0 q) : SE e q0 (failQ s q) := by rw [failQ_keep h.p]; exact h
theorem stepsQ_bad {s : ByteArray} {e : Nat} {q0 q : Q} (h : SE e q0 q) (k : Nat) (l : List RSt) : SE e q0 (stepsQ s k l q).2 := by
  cases k with
  | zero => exact h
  | succ k =>
    have h1 : SE e q0 (stepQ s (if l.length = 8 then failQ s q else q)).2 := by
      split
      · exact h.fail.step
      · exact h.step
    rw [stepsQ, beginsQ_keep h1.p]
    exact h1
theorem threadsQ_bad {s : ByteArray} {e : Nat} {q0 q : Q} (h : SE e q0 q) (k : Nat) (t : List (List RSt)) : SE e q0 (threadsQ s k t q).2 := by
  cases k with
  | zero => exact h
  | succ k =>
    have h1 : SE e q0 (stepsQ s 9 [] (needQ s (if t.length = 4 then failQ s q else q) 5)).2 := by
      apply stepsQ_bad
      split
      · exact h.fail.need 5
      · exact h.need 5
    rw [threadsQ, h1.is]
    exact h1
theorem SE.ask {s : ByteArray} {e : Nat} {q0 q : Q} (h : SE e q0 q) : SE e q0 (askQ s q) := by unfold askQ; rw [h.is]; exact h.need 10
theorem SS.trans {p p1 : PS} {q0 q1 q2 : Q} (h : SS p q0 q1) (h2 : SS p1 q1 q2) : SS p1 q0 q2 := ⟨h2.1.trans h.1, h2.2.1, h2.2.2.1.trans h.2.2.1, h.2.2.2⟩
theorem SS.transE {p : PS} {e : Nat} {q0 q1 q2 : Q} (h : SS p q0 q1) (h2 : SE e q1 q2) : SE e q0 q2 := ⟨h2.1, h2.2.trans h.2.2.1⟩
theorem SS.self {p : PS} {q0 q : Q} (h : SS p q0 q) : SS p q q := ⟨rfl, h.2.1, rfl, h.b⟩

/-- A step beside the other's. -/
def OneS (y : RSt) (x : St × Nat) : Prop := (y.kind = 106 ↔ x.1.kind = 6) ∧ (x.1.kind = 6 → y.skip = x.1.count ∧ y.at_ = x.2)
def AllS : List RSt → List (St × Nat) → Prop
  | [], [] => True
  | y :: l, x :: r => OneS y x ∧ AllS l r
  | _, _ => False
theorem AllS.len : ∀ {l : List RSt} {r : List (St × Nat)}, AllS l r → l.length = r.length
  | [], [], _ => rfl
  | _ :: _, _ :: _, h => by simp [AllS.len h.2]
  | [], _ :: _, h => h.elim
  | _ :: _, [], h => h.elim
theorem AllS.snoc : ∀ {l : List RSt} {r : List (St × Nat)} {y : RSt} {x : St × Nat}, AllS l r → OneS y x → AllS (l ++ [y]) (r ++ [x])
  | [], [], _, _, _, h => ⟨h, trivial⟩
  | _ :: _, _ :: _, _, _, h, k => ⟨h.1, AllS.snoc h.2 k⟩
  | [], _ :: _, _, _, h, _ => h.elim
  | _ :: _, [], _, _, h, _ => h.elim

/-- The steps that the two readers read; where the program's says no, the document's has failed there, or stands there, at what is no thread and no question. -/
def StepsSim (s : ByteArray) (q : Q) (b : List RSt × Q) (r : Except Nat (List (St × Nat) × PS)) : Prop :=
  match r with
  | .error e => SE e q b.2 ∨ ∃ p', SS p' q b.2 ∧ pl s p' = e ∧ endsB s p' = false
  | .ok (l, p') => SS p' q b.2 ∧ AllS b.1 l ∧ endsB s p' = true ∧ l.length ≠ 0
theorem StepsSim.trans {s : ByteArray} {p : PS} {q0 q1 : Q} {b : List RSt × Q} {r : Except Nat (List (St × Nat) × PS)} (h : SS p q0 q1) (k : StepsSim s q1 b r) : StepsSim s q0 b r := by
  unfold StepsSim at *
  split <;> simp only at k
  · rcases k with k | ⟨p', k1, k2⟩
    · exact Or.inl (h.transE k)
    · exact Or.inr ⟨p', h.trans k1, k2⟩
  · exact ⟨h.trans k.1, k.2⟩
theorem stepsS_go {s : ByteArray} {p : PS} {n : Nat} {acc : List (St × Nat)} (he : acc.length = 0 ∨ endsB s p = false) (h8 : ¬ acc.length = 8) : stepsS s (n + 1) acc p = (match st2 s p with | .error e => .error e | .ok (x, p') => stepsS s n (acc ++ [(x, p'.dig)]) p') := by
  rw [stepsS, if_pos he, if_neg h8]
  unfold st2
  cases stepS s p with
  | error e => rfl
  | ok y =>
    obtain ⟨x, p1⟩ := y
    by_cases hk : kd s p1 = 18
    · simp only [hk, if_true]
    · simp only [hk, if_false]
theorem begins_ends {s : ByteArray} {p : PS} (h : endsB s p = true) : kd s p = 5 ∨ kd s p = 10 ∨ kd s p = 11 := by unfold endsB at h; simpa [or_assoc] using h
theorem ends_no {s : ByteArray} {p : PS} (h : ¬ (kd s p = 5 ∨ kd s p = 10 ∨ kd s p = 11)) : endsB s p = false := by unfold endsB; simp; omega
theorem stepS_none {s : ByteArray} {p : PS} (h2 : ¬ kd s p = 2) (h3 : ¬ kd s p = 3) (h6 : ¬ kd s p = 6) (h8 : ¬ kd s p = 8) : stepS s p = .error (pl s p) := by unfold stepS; rw [if_neg h2, if_neg h3, if_neg h8, if_neg h6]
theorem stepsS_ends {s : ByteArray} {p : PS} {n : Nat} {l : List (St × Nat)} (hl : l.length ≠ 0) (h : endsB s p = true) : stepsS s (n + 1) l p = .ok (l, p) := by
  rw [stepsS, if_neg (by rw [h]; simp; intro hh; exact hl (by rw [hh]; rfl))]
theorem stepsS_none {s : ByteArray} {p : PS} {n : Nat} {l : List (St × Nat)} (h : endsB s p = false) (h2 : ¬ kd s p = 2) (h3 : ¬ kd s p = 3) (h6 : ¬ kd s p = 6) (h8 : ¬ kd s p = 8) : stepsS s (n + 1) l p = .error (pl s p) := by
  rw [stepsS, if_pos (Or.inr h)]
  split
  · rfl
  · rw [stepS_none h2 h3 h6 h8]

theorem steps_sim {s : ByteArray} : ∀ (n : Nat) (l : List RSt) (acc : List (St × Nat)) (p : PS) (q : Q), SS p q q → AllS l acc → acc.length + n = 9 → n ≠ 0 → (acc.length = 0 ∨ endsB s p = false) → StepsSim s q (stepsQ s n l q) (stepsS s n acc p) := by
  intro n
  induction n with
  | zero => intro l acc p q _ _ _ h; exact (h rfl).elim
  | succ n ih =>
    intro l acc p q h ha hn _ he
    rw [stepsQ, ha.len]
    by_cases h8 : acc.length = 8
    · rw [if_pos h8, stepsS, if_pos he, if_pos h8]
      have h1 : SE (pl s p) q (stepQ s (failQ s q)).2 := h.no.step
      rw [beginsQ_keep h1.p]
      exact Or.inl h1
    · rw [if_neg h8, stepsS_go he h8]
      have hs := step_sim (s := s) h
      cases hst : st2 s p with
      | error e =>
        rw [hst] at hs
        have hs : SE e q (stepQ s q).2 := hs
        rw [beginsQ_keep hs.p]
        exact Or.inl hs
      | ok y =>
        obtain ⟨x, p'⟩ := y
        rw [hst] at hs
        obtain ⟨hs1, hs2, hs3⟩ := hs
        simp only
        have ha' : AllS (l ++ [(stepQ s q).1]) (acc ++ [(x, p'.dig)]) := ha.snoc ⟨hs2, hs3⟩
        have hl' : (acc ++ [(x, p'.dig)]).length = acc.length + 1 := by simp
        obtain ⟨m, rfl⟩ : ∃ m, n = m + 1 := ⟨n - 1, by omega⟩
        rw [hs1.begins]
        by_cases hb : kd s p' = 2 ∨ kd s p' = 3 ∨ kd s p' = 6 ∨ kd s p' = 8
        · rw [if_pos (by simpa [or_assoc] using hb)]
          exact (ih _ _ p' _ hs1.self ha' (by omega) (by omega) (Or.inr (ends_no (by omega)))).trans hs1
        · rw [if_neg (by simpa [or_assoc] using hb)]
          by_cases hee : endsB s p' = true
          · rw [stepsS_ends (by omega) hee]
            exact ⟨hs1, ha', hee, by omega⟩
          · have hee' : endsB s p' = false := by simpa using hee
            rw [stepsS_none hee' (by omega) (by omega) (by omega) (by omega)]
            exact Or.inr ⟨p', hs1, rfl, hee'⟩
end Go.Proofs.YtmpaeladhoomoaaGreatDoor
