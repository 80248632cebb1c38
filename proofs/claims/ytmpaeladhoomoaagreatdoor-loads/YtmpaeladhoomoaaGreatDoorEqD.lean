/-
  The two readers beside one another, plainly: all threads.
-/
import Derived.Test.YtmpaeladhoomoaaGreatDoorEqC
import Derived.Test.YtmpaeladhoomoaaGreatDoorRdN
namespace Go.Proofs.YtmpaeladhoomoaaGreatDoor

theorem stepsS_jmp (s : ByteArray) : ∀ (n : Nat) (acc : List (St × Nat)) (p : PS) (l : List (St × Nat)) (p' : PS), stepsS s n acc p = .ok (l, p') → Kept p p' := by
  intro n
  induction n with
  | zero => intro acc p l p' h; simp [stepsS] at h
  | succ n ih =>
    intro acc p l p' h
    rw [stepsS] at h
    split at h
    · split at h
      · simp at h
      · cases hs : stepS s p with
        | error q => rw [hs] at h; simp at h
        | ok r =>
          obtain ⟨x, p1⟩ := r
          rw [hs] at h
          simp only at h
          have hk := (stepS_kept hs).1
          split at h
          · exact (hk.trans (kept_nxt s p1 18)).trans (ih _ _ _ _ h)
          · simp at h
    · simp only [Except.ok.injEq, Prod.mk.injEq] at h; obtain ⟨_, rfl⟩ := h; exact Kept.refl _

theorem skipL_lo : ∀ l : List RSt, -1 ≤ skipL l
  | [] => by simp [skipL]
  | x :: r => by have := skipL_lo r; simp only [skipL]; split <;> omega
theorem skipT_lo : ∀ l : List (List RSt), -1 ≤ skipT l
  | [] => by simp [skipT]
  | x :: r => by have := skipT_lo r; have := skipL_lo x; simp only [skipT]; split <;> omega
theorem skipT_snoc : ∀ (t : List (List RSt)) (l : List RSt), skipT (t ++ [l]) = if 0 ≤ skipT t then skipT t else skipL l
  | [], l => by have := skipL_lo l; simp only [List.nil_append, skipT]; split <;> simp <;> omega
  | x :: r, l => by
    have ih := skipT_snoc r l
    simp only [List.cons_append, skipT]
    split
    · rfl
    · exact ih
/-- A place that is kept if there was none. -/
def keepJ (a b : Int) : Int := if 0 ≤ a then a else if 0 ≤ b then b else a
theorem keepJ_keep (a b : Int) (d : Nat) : keepJ (keepJ a d) b = keepJ a d := by
  unfold keepJ
  repeat' split
  all_goals omega
theorem jumped_jmp (p : PS) (d : Nat) : (jumped p d).jmp = keepJ p.jmp d := by
  unfold jumped keepJ
  by_cases hj : p.jmp < 0
  · rw [if_pos hj, if_neg (by omega), if_pos (by omega)]
  · rw [if_neg hj, if_pos (by omega)]
theorem skipsS_jmp : ∀ {l : List RSt} {r : List (St × Nat)}, AllS l r → ∀ p : PS, (skipsS r p).jmp = keepJ p.jmp (skipL l) ∧ (skipsS r p).i = p.i
  | [], [], _, p => by simp only [skipsS, skipL, keepJ]; refine ⟨?_, trivial⟩; split <;> simp
  | y :: l, (x, d) :: r, h, p => by
    have ih := fun p => skipsS_jmp h.2 p
    have hl := AllS.len h.2
    obtain ⟨⟨h1, h2⟩, _⟩ := h
    simp only at h1 h2
    simp only [skipsS, skipL]
    by_cases hk : x.kind = 6 ∧ r.length < x.count
    · have h3 := h2 hk.1
      rw [if_pos hk, if_pos ⟨h1.2 hk.1, by rw [h3.1, hl]; exact hk.2⟩, (ih _).1, (ih _).2, h3.2]
      exact ⟨by rw [jumped_jmp, keepJ_keep], (jumped_o p d).2⟩
    · rw [if_neg hk, if_neg (fun hh => hk ⟨h1.1 hh.1, by have := (h2 (h1.1 hh.1)).1; omega⟩)]
      exact ih p
  | [], _ :: _, h, _ => h.elim
  | _ :: _, [], h, _ => h.elim

/-- The threads that the two readers read. -/
def ThreadsSim (s : ByteArray) (q : Q) (o : Nat) (b : List (List RSt) × Q) (r : Except Nat PS) : Prop :=
  match r with
  | .error e => SE e q b.2 ∨ ∃ p', SS p' q b.2 ∧ pl s p' = e ∧ endsB s p' = false
  | .ok p' => SS p' q b.2 ∧ (kd s p' = 10 ∨ kd s p' = 11) ∧ p'.thr = b.1.length ∧ p'.jmp = skipT b.1 ∧ p'.opn = o
theorem ThreadsSim.trans {s : ByteArray} {p : PS} {q0 q1 : Q} {o : Nat} {b : List (List RSt) × Q} {r : Except Nat PS} (h : SS p q0 q1) (k : ThreadsSim s q1 o b r) : ThreadsSim s q0 o b r := by
  unfold ThreadsSim at *
  split <;> simp only at k
  · rcases k with k | ⟨p', k1, k2⟩
    · exact Or.inl (h.transE k)
    · exact Or.inr ⟨p', h.trans k1, k2⟩
  · exact ⟨h.trans k.1, k.2⟩
theorem threadsS_one {s : ByteArray} {p : PS} (n : Nat) (h : kd s p = 5 ∨ p.thr = 0) : threadsS s (n + 1) p = (match threadS s p with | .error q => .error q | .ok (_, p1) => threadsS s n p1) := by
  rw [threadsS, if_pos h]
  cases threadS s p <;> rfl
theorem threadsS_end {s : ByteArray} {p : PS} (n : Nat) (h : ¬ (kd s p = 5 ∨ p.thr = 0)) : threadsS s (n + 1) p = .ok p := by rw [threadsS, if_neg h]

theorem threads_sim {s : ByteArray} : ∀ (n : Nat) (t : List (List RSt)) (p : PS) (q : Q), SS p q q → p.thr = t.length → p.jmp = skipT t → t.length + n = 5 → n ≠ 0 → (kd s p = 5 ∨ p.thr = 0) → ThreadsSim s q p.opn (threadsQ s n t q) (threadsS s (n + 1) p) := by
  intro n
  induction n with
  | zero => intro t p q _ _ _ _ h; exact (h rfl).elim
  | succ n ih =>
    intro t p q h ht hj hn _ hc
    rw [threadsQ, threadsS_one _ hc]
    by_cases h4 : t.length = 4
    · rw [if_pos h4]
      have e1 : threadS s p = .error (pl s p) := by unfold threadS; rw [if_pos (by omega)]
      have h1 : SE (pl s p) q (stepsQ s 9 [] (needQ s (failQ s q) 5)).2 := stepsQ_bad (h.no.need 5) _ _
      rw [e1, h1.is]
      exact Or.inl h1
    · rw [if_neg h4]
      by_cases h5 : kd s p = 5
      · have h1 : SS (nxt s p 5) q (needQ s q 5) := h.need 5 5 h5 (by omega)
        have hs := (steps_sim (s := s) 9 [] [] (nxt s p 5) (needQ s q 5) h1.self trivial rfl (by omega) (Or.inl rfl)).trans h1
        cases hst : stepsS s 9 [] (nxt s p 5) with
        | error e =>
          have e1 : threadS s p = .error e := by unfold threadS; rw [if_neg (by omega), if_pos h5, hst]
          rw [hst] at hs
          rw [e1]
          rcases hs with hs | ⟨p', hs1, hs2, hs3⟩
          · rw [hs.is]
            exact Or.inl hs
          · rw [hs1.is]
            have hk : ¬ kd s p' = 5 := by unfold endsB at hs3; simp at hs3; omega
            rw [if_neg (by simpa using hk)]
            exact Or.inr ⟨p', hs1, hs2, hs3⟩
        | ok y =>
          obtain ⟨l, p1⟩ := y
          have e1 : threadS s p = .ok (l.map (·.1), skipsS l { p1 with thr := p1.thr + 1 }) := by unfold threadS; rw [if_neg (by omega), if_pos h5, hst]
          have hk := stepsS_jmp s _ _ _ _ _ hst
          have hk2 := (kept_nxt s p 5).trans hk
          have hk3 := skipsS_kept l { p1 with thr := p1.thr + 1 }
          rw [hst] at hs
          obtain ⟨hs1, hs2, hs3, hs4⟩ := hs
          have hk4 := skipsS_jmp hs2 { p1 with thr := p1.thr + 1 }
          rw [e1]
          simp only
          generalize skipsS l { p1 with thr := p1.thr + 1 } = p2 at hk3 hk4 ⊢
          simp only at hk3 hk4
          generalize stepsQ s 9 [] (needQ s q 5) = r at hs1 hs2 hk4 ⊢
          obtain ⟨b1, b2⟩ := r
          simp only at hs1 hs2 hk4 ⊢
          have h2 : SS p2 q b2 := ⟨hs1.1, by rw [hk4.2]; exact hs1.2.1, hs1.2.2.1, hs1.2.2.2⟩
          have ek : kd s p2 = kd s p1 := by unfold kd; rw [hk4.2]
          have ee : endsB s p2 = true := by unfold endsB; rw [ek]; exact hs3
          have t1 : p2.thr = (t ++ [b1]).length := by rw [hk3.2, hk2.1, ht]; simp
          have t0 : p2.opn = p.opn := hk3.1.trans hk2.2.1
          have tj : p2.jmp = skipT (t ++ [b1]) := by
            rw [hk4.1, skipT_snoc, hk2.2.2, hj]
            have := skipT_lo t
            have := skipL_lo b1
            unfold keepJ
            split
            · rfl
            · split
              · rfl
              · omega
          rw [h2.is]
          by_cases k5 : kd s p2 = 5
          · rw [if_pos (by simpa using k5), ← t0]
            obtain ⟨m, rfl⟩ : ∃ m, n = m + 1 := ⟨n - 1, by omega⟩
            exact (ih _ p2 b2 h2.self t1 tj (by simp; omega) (by omega) (Or.inl k5)).trans h2
          · rw [if_neg (by simpa using k5)]
            rw [threadsS_end _ (by rw [t1]; simp; exact k5)]
            exact ⟨h2, by have := begins_ends ee; omega, t1, tj, t0⟩
      · have e1 : threadS s p = .error (pl s p) := by unfold threadS; rw [if_neg (by omega), if_neg h5]
        have h1 : SE (pl s p) q (stepsQ s 9 [] (needQ s q 5)).2 := stepsQ_bad (h.needE h5) _ _
        rw [e1, h1.is]
        exact Or.inl h1

/-- The question behind the threads. -/
theorem ask_err {s : ByteArray} {q : Q} {o e : Nat} {b : List (List RSt) × Q} (h : ThreadsSim s q o b (.error e)) : SE e q (askQ s b.2) := by
  rcases h with h | ⟨p', h1, h2, h3⟩
  · exact h.ask
  · have hk : ¬ (kd s p' = 5 ∨ kd s p' = 10 ∨ kd s p' = 11) := by unfold endsB at h3; simp at h3; omega
    unfold askQ
    rw [h1.is, if_neg (by simp; omega), ← h2]
    exact h1.needE (by omega)
theorem ask_ok {s : ByteArray} {q : Q} {o : Nat} {p' : PS} {b : List (List RSt) × Q} (h : ThreadsSim s q o b (.ok p')) : ∃ x p2, questionS s p' = .ok (x, p2) ∧ SS p2 q (askQ s b.2) ∧ p2.thr = b.1.length ∧ p2.jmp = skipT b.1 ∧ p2.opn = o := by
  obtain ⟨h1, h2, h3, h4, h5⟩ := h
  unfold questionS askQ
  rw [h1.is]
  by_cases k11 : kd s p' = 11
  · rw [if_pos k11, if_pos (by simpa using k11)]
    have hk := nxt_thr s p' 11
    exact ⟨true, nxt s p' 11, rfl, h1.take 11 (by omega), hk.1.trans h3, hk.2.2.trans h4, hk.2.1.trans h5⟩
  · have k10 : kd s p' = 10 := by omega
    rw [if_neg k11, if_pos k10, if_neg (by simpa using k11)]
    have hk := nxt_thr s p' 10
    exact ⟨false, nxt s p' 10, rfl, h1.need 10 10 k10 (by omega), hk.1.trans h3, hk.2.2.trans h4, hk.2.1.trans h5⟩
end Go.Proofs.YtmpaeladhoomoaaGreatDoor
