/-
  The two readers beside one another, plainly: the parts of a formula, and the whole.
-/
import Derived.Test.YtmpaeladhoomoaaGreatDoorEqE
namespace Go.Proofs.YtmpaeladhoomoaaGreatDoor

theorem open_fail {s : ByteArray} {p : PS} {q : Q} (h : SS p q q) (ho : q.opn = 6) : (openQ s q).bad = (pl s p : Int) ∧ (openQ s q).opn = q.opn + 1 := by
  unfold openQ
  rw [if_pos ho, takeQ_keep (by show 0 ≤ (failQ s q).bad; exact h.no.p)]
  exact ⟨h.no.1, rfl⟩
theorem open_ok {s : ByteArray} {p : PS} {q : Q} (h : SS p q q) (ho : ¬ q.opn = 6) (hk : 2 ≤ kd s p) : SS { p with i := (tk s p.i).end_, opn := p.opn + 1 } (openQ s q) (openQ s q) ∧ (openQ s q).opn = q.opn + 1 ∧ (openQ s q).bad = q.bad := by
  have e : openQ s q = adv s { q with opn := q.opn + 1 } := by
    unfold openQ
    rw [if_neg ho]
    refine takeQ_ok h.b ?_
    show ¬ qk s q ≤ 1
    rw [h.k]; omega
  rw [e]
  refine ⟨⟨rfl, ?_, rfl, h.b⟩, rfl, rfl⟩
  show (tk s q.j).end_ = (tk s p.i).end_
  rw [h.2.1]
theorem shut_SE {e : Nat} {q q1 r : Q} (h : SE e q1 r) (ho : q1.opn = q.opn + 1) : SE e q (shutQ r) := ⟨h.1, by show r.opn - 1 = q.opn; rw [h.2, ho]; omega⟩
theorem shut_SS {p2 : PS} {o : Nat} {q q1 r : Q} (h : SS p2 q1 r) (ho : q1.opn = q.opn + 1) (hb : q1.bad = q.bad) : SS { p2 with opn := o } q (shutQ r) := ⟨h.1.trans hb, h.2.1, by show r.opn - 1 = q.opn; rw [h.2.2.1, ho]; omega, by rw [← hb]; exact h.2.2.2⟩

theorem eqd_sim {s : ByteArray} {p : PS} {q0 q : Q} (h : SS p q0 q) (hi : p.i ≤ s.size) :
    match eqdS s p with
    | .error e => SE e q0 (kindQ s (needQ s q 16) 4)
    | .ok (_, p') => SS p' q0 (kindQ s (needQ s q 16) 4) ∧ Kept p p' ∧ p.i ≤ p'.i ∧ p'.i ≤ s.size := by
  unfold eqdS
  by_cases h16 : kd s p = 16
  · rw [if_pos h16]
    have h1 := h.need 16 16 h16 (by omega)
    by_cases h4 : kd s (nxt s p 16) = 4
    · rw [if_pos h4]
      have m1 := nxt_mono s p 16 hi
      have m2 := nxt_mono s (nxt s p 16) 4 m1.2
      exact ⟨h1.kind 4 4 h4 (by omega), (kept_nxt s p 16).trans (kept_nxt s _ 4), by omega, m2.2⟩
    · rw [if_neg h4]
      exact h1.kindE h4
  · rw [if_neg h16]
    exact (h.needE h16).kind 4

theorem unN_sim {s : ByteArray} {p p0 : PS} {q0 q : Q} {l : List (Nat × Nat)} (h : SS p q0 q) (hi : p.i ≤ s.size) (h1 : p.opn = p0.opn) (h2 : p.thr = p0.thr) (h3 : p.jmp = keepJ p0.jmp (jumpL p0.thr l)) (h4 : p0.i ≤ p.i) :
    match unN (eqdS s p) with
    | .error e => SE e q0 (kindQ s (needQ s q 16) 4)
    | .ok p' => SS p' q0 (kindQ s (needQ s q 16) 4) ∧ p'.opn = p0.opn ∧ p'.thr = p0.thr ∧ p'.jmp = keepJ p0.jmp (jumpL p0.thr l) ∧ p0.i ≤ p'.i ∧ p'.i ≤ s.size := by
  have he := eqd_sim (s := s) h hi
  cases hh : eqdS s p with
  | error e => rw [hh] at he; exact he
  | ok y =>
    obtain ⟨d, p'⟩ := y
    rw [hh] at he
    obtain ⟨a, ⟨k1, k2, k3⟩, b, c⟩ := he
    exact ⟨a, k2.trans h1, k1.trans h2, k3.trans h3, by omega, c⟩

theorem thrS_jmp (s : ByteArray) (p : PS) : (thrS s p).thr = p.thr ∧ (thrS s p).jmp = keepJ p.jmp (jumpL p.thr [(nm s p, pl s p)]) := by
  have hn := nxt_thr s p 4
  unfold thrS
  rw [hn.1]
  simp only [jumpL]
  by_cases h : p.thr ≤ nm s p
  · rw [if_pos h, if_pos h, jumped_jmp, hn.2.2]
    refine ⟨?_, rfl⟩
    unfold jumped
    split
    · exact hn.1
    · exact hn.1
  · rw [if_neg h, if_neg h]
    refine ⟨hn.1, ?_⟩
    rw [hn.2.2]
    unfold keepJ
    split <;> simp
theorem atom_sim {s : ByteArray} {p : PS} {q : Q} (h : SS p q q) (hi : p.i ≤ s.size) :
    match (if kd s p = 4 then registerS s p else placeS s p) with
    | .error e => SE e q (atomQ s q).2
    | .ok p' => SS p' q (atomQ s q).2 ∧ p'.opn = p.opn ∧ p'.thr = p.thr ∧ p'.jmp = keepJ p.jmp (jumpL p.thr (atomQ s q).1.jm) ∧ p.i ≤ p'.i ∧ p'.i ≤ s.size := by
  by_cases h4 : kd s p = 4
  · have ea : ∃ x y, atomQ s q = (TM.reg (nm s p) x y (pl s p), kindQ s (needQ s (kindQ s (needQ s (kindQ s q 4) 17) 3) 16) 4) := by
      refine ⟨valQ s (needQ s (kindQ s q 4) 17) 3, valQ s (needQ s (kindQ s (needQ s (kindQ s q 4) 17) 3) 16) 4, ?_⟩
      unfold atomQ
      rw [if_pos (h.k.trans h4), valQ_ok h.b (h.k.trans h4) (by omega), qn_eq h.2.1, qa_eq h.2.1]
    obtain ⟨x, y, ea⟩ := ea
    rw [if_pos h4, ea]
    show match registerS s p with | .error e => SE e q (kindQ s (needQ s (kindQ s (needQ s (kindQ s q 4) 17) 3) 16) 4) | .ok p' => SS p' q (kindQ s (needQ s (kindQ s (needQ s (kindQ s q 4) 17) 3) 16) 4) ∧ p'.opn = p.opn ∧ p'.thr = p.thr ∧ p'.jmp = keepJ p.jmp (jumpL p.thr [(nm s p, pl s p)]) ∧ p.i ≤ p'.i ∧ p'.i ≤ s.size
    unfold registerS
    have ht := thrS_o s p
    have hj := thrS_jmp s p
    have h0 := h.kind 4 4 h4 (by omega)
    have h1 : SS (thrS s p) q (kindQ s q 4) := ⟨h0.1, h0.2.1.trans ht.2.symm, h0.2.2.1, h0.2.2.2⟩
    have m0 := nxt_mono s p 4 hi
    rw [← ht.2] at m0
    generalize thrS s p = p1 at *
    by_cases h17 : kd s p1 = 17
    · rw [if_pos h17]
      have h2 := h1.need 17 17 h17 (by omega)
      by_cases h3 : kd s (nxt s p1 17) = 3
      · rw [if_pos h3]
        have m1 := nxt_mono s p1 17 m0.2
        have m2 := nxt_mono s (nxt s p1 17) 3 m1.2
        have k1 := kept_nxt s p1 17
        have k2 := k1.trans (kept_nxt s (nxt s p1 17) 3)
        exact unN_sim (h2.kind 3 3 h3 (by omega)) m2.2 (k2.2.1.trans ht.1) (k2.1.trans hj.1) (k2.2.2.trans hj.2) (by omega)
      · rw [if_neg h3]
        exact ((h2.kindE h3).need 16).kind 4
    · rw [if_neg h17]
      exact (((h1.needE h17).kind 3).need 16).kind 4
  · have ea : atomQ s q = (TM.plc (valQ s q 2) (valQ s (needQ s (kindQ s q 2) 16) 4), kindQ s (needQ s (kindQ s q 2) 16) 4) := by
      unfold atomQ
      rw [if_neg (by rw [h.k]; exact h4)]
    rw [if_neg h4, ea]
    show match placeS s p with | .error e => SE e q (kindQ s (needQ s (kindQ s q 2) 16) 4) | .ok p' => SS p' q (kindQ s (needQ s (kindQ s q 2) 16) 4) ∧ p'.opn = p.opn ∧ p'.thr = p.thr ∧ p'.jmp = keepJ p.jmp (jumpL p.thr []) ∧ p.i ≤ p'.i ∧ p'.i ≤ s.size
    unfold placeS
    by_cases h2 : kd s p = 2
    · rw [if_pos h2]
      have m1 := nxt_mono s p 2 hi
      have k1 := kept_nxt s p 2
      exact unN_sim (h.kind 2 2 h2 (by omega)) m1.2 k1.2.1 k1.1 (k1.2.2.trans (keepJ_nil _ _).symm) m1.1
    · rw [if_neg h2]
      exact ((h.kindE h2).need 16).kind 4

/-- What is nested. -/
theorem nest_sim {s : ByteArray} {n : Nat} {f : PS → Except Nat PS} {g : Q → TM × Q} (hg : Keeps g) (hs : 1 ≤ n → SubSim s n f g) {p : PS} {q : Q} (h1 : SS p q q) (h2 : q.opn = (p.opn : Int)) (h3 : p.opn + (n + 1) = 7) (h4 : p.i ≤ s.size) (hk : 2 ≤ kd s p) :
    match nestS s f p with
    | .error e => (∃ q1, q1.opn = q.opn + 1 ∧ SE e q1 (g (openQ s q)).2)
    | .ok p' => ∃ p2 q1, p' = { p2 with opn := p.opn } ∧ q1.opn = q.opn + 1 ∧ q1.bad = q.bad ∧ SS p2 q1 (g (openQ s q)).2 ∧ p'.thr = p.thr ∧ p'.jmp = keepJ p.jmp (jumpL p.thr (g (openQ s q)).1.jm) ∧ p.i ≤ p'.i ∧ p'.i ≤ s.size := by
  unfold nestS
  by_cases h6 : p.opn = 6
  · rw [if_pos h6]
    have ho := open_fail (s := s) h1 (by omega)
    refine ⟨openQ s q, ho.2, ?_⟩
    rw [hg (openQ s q) (by rw [ho.1]; omega)]
    exact ⟨ho.1, rfl⟩
  · rw [if_neg h6]
    obtain ⟨o1, o2, o3⟩ := open_ok (s := s) h1 (by omega) hk
    have b := tk_bounds s p.i h4
    have hh := hs (by omega)
    cases hf : f { p with i := (tk s p.i).end_, opn := p.opn + 1 } with
    | error e =>
      exact ⟨openQ s q, o2, hh.err o1 (by rw [o2, h2]; simp) (by show p.opn + 1 + n = 7; omega) b.2.2.2 hf⟩
    | ok p2 =>
      obtain ⟨a1, a2, a3, a4, a5, a6⟩ := hh.ok o1 (by rw [o2, h2]; simp) (by show p.opn + 1 + n = 7; omega) b.2.2.2 hf
      refine ⟨p2, openQ s q, ?_, o2, o3, a1, a3, a4, ?_, a6⟩
      · show { p2 with opn := p2.opn - 1 } = _
        rw [a2]; rfl
      · show p.i ≤ p2.i
        have : (tk s p.i).end_ ≤ p2.i := a5
        omega
theorem part_sim (s : ByteArray) : ∀ n, 1 ≤ n → SubSim s n (partS s n) (form2Q s (n + 1)) := by
  intro n
  induction n with
  | zero => intro h; omega
  | succ n ih =>
    intro _ p q h1 h2 h3 h4
    rw [partS]
    by_cases k14 : kd s p = 14
    · have e : form2Q s (n + 1 + 1) q = ((form2Q s (n + 1) (openQ s q)).1.no, shutQ (form2Q s (n + 1) (openQ s q)).2) := by rw [form2Q, h1.is, if_pos (by simpa using k14)]
      rw [if_pos k14, e]
      have hh := nest_sim (form2_keeps s (n + 1)) ih h1 h2 h3 h4 (by omega)
      cases hn : nestS s (partS s n) p with
      | error e => rw [hn] at hh; obtain ⟨q1, o, he⟩ := hh; exact shut_SE he o
      | ok p' =>
        rw [hn] at hh
        obtain ⟨p2, q1, rfl, o, ob, a1, a3, a4, a5, a6⟩ := hh
        exact ⟨shut_SS a1 o ob, rfl, a3, a4, a5, a6⟩
    · rw [if_neg k14]
      by_cases k19 : kd s p = 19
      · have e : form2Q s (n + 1 + 1) q = ((levQ s 13 (levQ s 12 (form2Q s (n + 1))) (openQ s q)).1, shutQ (needQ s (levQ s 13 (levQ s 12 (form2Q s (n + 1))) (openQ s q)).2 20)) := by rw [form2Q, h1.is, if_neg (by simpa using k14), h1.is, if_pos (by simpa using k19)]
        rw [if_pos k19, e]
        have hl : 1 ≤ n → SubSim s n (partsS s 13 (partsS s 12 (partS s n))) (levQ s 13 (levQ s 12 (form2Q s (n + 1)))) := fun hn => lev_sim (c := 13) rfl (by decide) (lev_sim (c := 12) rfl (by decide) (ih hn))
        have hh := nest_sim (lev_keeps s 13 (lev_keeps s 12 (form2_keeps s (n + 1)))) hl h1 h2 h3 h4 (by omega)
        cases hn : nestS s (partsS s 13 (partsS s 12 (partS s n))) p with
        | error e => rw [hn] at hh; obtain ⟨q1, o, he⟩ := hh; exact shut_SE (he.need 20) o
        | ok p' =>
          rw [hn] at hh
          obtain ⟨p2, q1, rfl, o, ob, a1, a3, a4, a5, a6⟩ := hh
          simp only
          have ek : kd s { p2 with opn := p.opn } = kd s p2 := rfl
          by_cases k20 : kd s p2 = 20
          · rw [if_pos (by rw [ek]; exact k20)]
            have a7 := a1.need 20 20 k20 (by omega)
            have hx := nxt_thr s { p2 with opn := p.opn } 20
            have hm := nxt_mono s { p2 with opn := p.opn } 20 a6
            have a8 : SS { nxt s p2 20 with opn := p.opn } q _ := shut_SS a7 o ob
            refine ⟨⟨a8.1, ?_, a8.2.2.1, a8.2.2.2⟩, hx.2.1, hx.1.trans a3, hx.2.2.trans a4, Nat.le_trans a5 hm.1, hm.2⟩
            rw [a8.2.1]
            show (nxt s p2 20).i = _
            rw [nxt_i, nxt_i]
          · rw [if_neg (by rw [ek]; exact k20)]
            exact shut_SE (a1.needE k20) o
      · have e : form2Q s (n + 1 + 1) q = atomQ s q := by rw [form2Q, h1.is, if_neg (by simpa using k14), h1.is, if_neg (by simpa using k19)]
        rw [if_neg k19, e]
        exact atom_sim h1 h4
theorem form_sim (s : ByteArray) : SubSim s 7 (formS s 7) (formQ s 8) := lev_sim (c := 13) rfl (by decide) (lev_sim (c := 12) rfl (by decide) (part_sim s 7 (by omega)))
end Go.Proofs.YtmpaeladhoomoaaGreatDoor
