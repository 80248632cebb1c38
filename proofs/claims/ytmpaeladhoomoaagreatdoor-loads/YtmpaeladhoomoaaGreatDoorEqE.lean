/-
  The two readers beside one another, plainly: formulas.
-/
import Derived.Test.YtmpaeladhoomoaaGreatDoorEqD
namespace Go.Proofs.YtmpaeladhoomoaaGreatDoor

/-- What has failed is left so. -/
def Keeps (sub : Q → TM × Q) : Prop := ∀ q, 0 ≤ q.bad → (sub q).2 = q
theorem lev_keeps (s : ByteArray) (c : Nat) {sub : Q → TM × Q} (h : Keeps sub) : Keeps (levQ s c sub) := by
  intro q hb
  unfold levQ
  rw [loopQ, h q hb, isQ_keep hb]
  rfl
theorem atom_keeps (s : ByteArray) : Keeps (atomQ s) := by
  intro q hb
  unfold atomQ
  have k1 : ∀ c, kindQ s q c = q := fun c => kindQ_keep hb
  have n1 : ∀ c, needQ s q c = q := fun c => needQ_keep hb
  split <;> simp only [k1, n1]
theorem form2_keeps (s : ByteArray) (n : Nat) : Keeps (form2Q s n) := by
  cases n with
  | zero => intro q _; rfl
  | succ n => intro q hb; rw [form2Q, isQ_keep hb, isQ_keep hb]; exact atom_keeps s q hb

/-- A reader of formulas beside the other. -/
def SubSim (s : ByteArray) (n : Nat) (f : PS → Except Nat PS) (g : Q → TM × Q) : Prop :=
  ∀ p q, SS p q q → q.opn = (p.opn : Int) → p.opn + n = 7 → p.i ≤ s.size →
    match f p with
    | .error e => SE e q (g q).2
    | .ok p' => SS p' q (g q).2 ∧ p'.opn = p.opn ∧ p'.thr = p.thr ∧ p'.jmp = keepJ p.jmp (jumpL p.thr (g q).1.jm) ∧ p.i ≤ p'.i ∧ p'.i ≤ s.size
theorem SubSim.err {s : ByteArray} {n : Nat} {f : PS → Except Nat PS} {g : Q → TM × Q} (h : SubSim s n f g) {p : PS} {q : Q} {e : Nat} (h1 : SS p q q) (h2 : q.opn = (p.opn : Int)) (h3 : p.opn + n = 7) (h4 : p.i ≤ s.size) (he : f p = .error e) : SE e q (g q).2 := by
  have := h p q h1 h2 h3 h4; rw [he] at this; exact this
theorem SubSim.ok {s : ByteArray} {n : Nat} {f : PS → Except Nat PS} {g : Q → TM × Q} (h : SubSim s n f g) {p p' : PS} {q : Q} (h1 : SS p q q) (h2 : q.opn = (p.opn : Int)) (h3 : p.opn + n = 7) (h4 : p.i ≤ s.size) (he : f p = .ok p') : SS p' q (g q).2 ∧ p'.opn = p.opn ∧ p'.thr = p.thr ∧ p'.jmp = keepJ p.jmp (jumpL p.thr (g q).1.jm) ∧ p.i ≤ p'.i ∧ p'.i ≤ s.size := by
  have := h p q h1 h2 h3 h4; rw [he] at this; exact this
theorem keepJ_app (a : Int) (t : Nat) (l r : List (Nat × Nat)) : keepJ (keepJ a (jumpL t l)) (jumpL t r) = keepJ a (jumpL t (l ++ r)) := by
  rw [jumpL_append]
  have := jumpL_lo t l
  have := jumpL_lo t r
  unfold keepJ
  repeat' split
  all_goals omega
theorem keepJ_nil (a : Int) (t : Nat) : keepJ a (jumpL t []) = a := by unfold keepJ jumpL; split <;> simp

theorem loop_sim {s : ByteArray} {m c : Nat} {ci : Int} (hci : ci = (c : Int)) (hc : 2 ≤ c) {f : PS → Except Nat PS} {g : Q → TM × Q} (h : SubSim s m f g) : ∀ (n : Nat) (l : TM) (p : PS) (q : Q), SS p q q → q.opn = (p.opn : Int) → p.opn + m = 7 → p.i ≤ s.size → s.size - p.i < n →
    match loopS s ci f n p with
    | .error e => SE e q (loopQ s c g n l q).2
    | .ok p' => ∃ r, (loopQ s c g n l q).1.jm = l.jm ++ r ∧ SS p' q (loopQ s c g n l q).2 ∧ p'.opn = p.opn ∧ p'.thr = p.thr ∧ p'.jmp = keepJ p.jmp (jumpL p.thr r) ∧ p.i ≤ p'.i ∧ p'.i ≤ s.size := by
  intro n
  induction n with
  | zero => intro l p q _ _ _ _ h; omega
  | succ n ih =>
    intro l p q h1 h2 h3 h4 h5
    rw [loopS, loopQ, h1.is]
    by_cases hk : kd s p = c
    · rw [if_pos (by omega), if_pos (by simpa using hk)]
      have t1 : SS (nxt s p ci) q (takeQ s q) := h1.take ci (by omega)
      have hn := nxt_thr s p ci
      have hm := nxt_mono s p ci h4
      have hl := nxt_lt s p ci h4 (by show kd s p ≠ 1; omega)
      have t2 : (takeQ s q).opn = ((nxt s p ci).opn : Int) := by rw [t1.2.2.1, hn.2.1]; exact h2
      cases hf : f (nxt s p ci) with
      | error e =>
        have he := h.err t1.self t2 (by rw [hn.2.1]; exact h3) hm.2 hf
        have he' := t1.transE he
        simp only
        cases n with
        | zero => exact he'
        | succ n => rw [loopQ, he'.is]; exact he'
      | ok p2 =>
        obtain ⟨o1, o2, o3, o4, o5, o6⟩ := h.ok t1.self t2 (by rw [hn.2.1]; exact h3) hm.2 hf
        simp only
        have u1 := t1.trans o1
        have hh := ih (TM.two c l (g (takeQ s q)).1) p2 (g (takeQ s q)).2 u1.self (by rw [u1.2.2.1, o2, hn.2.1]; exact h2) (by rw [o2, hn.2.1]; exact h3) o6 (by omega)
        cases hl2 : loopS s ci f n p2 with
        | error e => rw [hl2] at hh; exact u1.transE hh
        | ok p3 =>
          rw [hl2] at hh
          obtain ⟨r, r0, r1, r2, r3, r4, r5, r6⟩ := hh
          refine ⟨(g (takeQ s q)).1.jm ++ r, by rw [r0]; exact List.append_assoc _ _ _, u1.trans r1, by rw [r2, o2, hn.2.1], by rw [r3, o3, hn.1], ?_, by omega, r6⟩
          rw [r4, o4, o3, hn.1, hn.2.2, keepJ_app]
    · rw [if_neg (by omega), if_neg (by simpa using hk)]
      exact ⟨[], by simp, h1, rfl, rfl, (keepJ_nil _ _).symm, Nat.le_refl _, h4⟩
theorem lev_sim {s : ByteArray} {m c : Nat} {ci : Int} (hci : ci = (c : Int)) (hc : 2 ≤ c) {f : PS → Except Nat PS} {g : Q → TM × Q} (h : SubSim s m f g) : SubSim s m (partsS s ci f) (levQ s c g) := by
  intro p q h1 h2 h3 h4
  unfold partsS levQ
  cases hf : f p with
  | error e =>
    have he := h.err h1 h2 h3 h4 hf
    simp only
    rw [loopQ, he.is]
    exact he
  | ok p1 =>
    obtain ⟨o1, o2, o3, o4, o5, o6⟩ := h.ok h1 h2 h3 h4 hf
    simp only
    have hh := loop_sim hci hc h (s.size + 1) (g q).1 p1 (g q).2 o1.self (by rw [o1.2.2.1, o2]; exact h2) (by rw [o2]; exact h3) o6 (by omega)
    cases hl2 : loopS s ci f (s.size + 1) p1 with
    | error e => rw [hl2] at hh; exact o1.transE hh
    | ok p3 =>
      rw [hl2] at hh
      obtain ⟨r, r0, r1, r2, r3, r4, r5, r6⟩ := hh
      refine ⟨o1.trans r1, r2.trans o2, r3.trans o3, ?_, by omega, r6⟩
      rw [r4, r0, o4, o3, keepJ_app]
end Go.Proofs.YtmpaeladhoomoaaGreatDoor
