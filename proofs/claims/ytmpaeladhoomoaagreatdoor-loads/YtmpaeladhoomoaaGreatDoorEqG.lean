/-
  The two readers answer alike.
-/
import Derived.Test.YtmpaeladhoomoaaGreatDoorEqF
namespace Go.Proofs.YtmpaeladhoomoaaGreatDoor

/-- Where the document's parser begins. -/
def q0 : Q := ⟨0, 0, -1, 0⟩
def endQ (s : ByteArray) (q : Q) : Q := if qk s q = 1 then q else failQ s q
def thrQ (s : ByteArray) : List (List RSt) × Q := threadsQ s 5 [] q0
def fmQ (s : ByteArray) : TM × Q := formQ s 8 (askQ s (thrQ s).2)
/-- The error and the place that the document's Load tells. -/
def loadQ (s : ByteArray) : Nat × Nat :=
  if 400 < s.size then (1, 0) else
  if 0 ≤ (endQ s (fmQ s).2).bad then (2, (endQ s (fmQ s).2).bad.toNat) else
  if 0 ≤ skipT (thrQ s).1 then (3, (skipT (thrQ s).1).toNat) else
  if 0 ≤ jumpL (thrQ s).1.length (fmQ s).1.jm then (3, (jumpL (thrQ s).1.length (fmQ s).1.jm).toNat) else (0, 0)

def inn (s : ByteArray) (q : Q) : Prop := q.j ≤ s.size
theorem inn.need {s : ByteArray} {q : Q} (h : inn s q) (c : Nat) : inn s (needQ s q c) := (needQ_o s q c h).2.2
theorem inn.kind {s : ByteArray} {q : Q} (h : inn s q) (c : Nat) : inn s (kindQ s q c) := (kindQ_o s q c h).2.2
theorem inn.take {s : ByteArray} {q : Q} (h : inn s q) : inn s (takeQ s q) := (takeQ_o s q h).2.2
theorem inn.fail {s : ByteArray} {q : Q} (h : inn s q) : inn s (failQ s q) := by unfold inn; rw [(failQ_o s q).2]; exact h
theorem inn.step {s : ByteArray} {q : Q} (h : inn s q) : inn s (stepQ s q).2 := by
  unfold stepQ
  split
  · split
    · exact (((h.kind 2).need 15).kind 3).need 18
    · exact (((h.kind 2).need 15).kind 4).need 18
  · split
    · split
      · exact (((h.kind 3).need 15).kind 2).need 18
      · split
        · exact (((((h.kind 3).need 15).take).kind 2).kind 4).need 18
        · exact (((h.kind 3).need 15).kind 4).need 18
    · split
      · exact h.take.need 18
      · exact ((((((h.need 8).kind 3).need 16).kind 4).need 9).kind 4).need 18
theorem inn.steps {s : ByteArray} : ∀ (k : Nat) (l : List RSt) {q : Q}, inn s q → inn s (stepsQ s k l q).2
  | 0, _, _, h => h
  | k + 1, l, q, h => by
    have h1 : inn s (stepQ s (if l.length = 8 then failQ s q else q)).2 := by
      split
      · exact h.fail.step
      · exact h.step
    rw [stepsQ]
    generalize (if l.length = 8 then failQ s q else q) = qq at h1 ⊢
    split
    · exact inn.steps k _ h1
    · exact h1
theorem inn.threads {s : ByteArray} : ∀ (k : Nat) (l : List (List RSt)) {q : Q}, inn s q → inn s (threadsQ s k l q).2
  | 0, _, _, h => h
  | k + 1, t, q, h => by
    have h1 : inn s (stepsQ s 9 [] (needQ s (if t.length = 4 then failQ s q else q) 5)).2 := by
      apply inn.steps
      split
      · exact h.fail.need 5
      · exact h.need 5
    rw [threadsQ]
    generalize (if t.length = 4 then failQ s q else q) = qq at h1 ⊢
    split
    · exact inn.threads k _ h1
    · exact h1
theorem inn.ask {s : ByteArray} {q : Q} (h : inn s q) : inn s (askQ s q) := by
  unfold askQ
  split
  · exact h.take
  · exact h.need 10
theorem test_sim (s : ByteArray) :
    match testS s ps0 with
    | .error e => (endQ s (fmQ s).2).bad = (e : Int)
    | .ok p => (endQ s (fmQ s).2).bad < 0 ∧ p.jmp = keepJ (skipT (thrQ s).1) (jumpL (thrQ s).1.length (fmQ s).1.jm) := by
  have h0 : SS ps0 q0 q0 := ⟨rfl, rfl, rfl, by decide⟩
  have ht := threads_sim (s := s) 5 [] ps0 q0 h0 rfl rfl rfl (by decide) (Or.inr rfl)
  have keep : ∀ {e : Nat}, SE e q0 (askQ s (thrQ s).2) → (endQ s (fmQ s).2).bad = (e : Int) := by
    intro e he
    have h1 : (fmQ s).2 = askQ s (thrQ s).2 := lev_keeps s 13 (lev_keeps s 12 (form2_keeps s 8)) _ he.p
    unfold endQ
    rw [h1]
    split
    · exact he.1
    · exact he.fail.1
  unfold testS
  cases hth : threadsS s 6 ps0 with
  | error e =>
    rw [hth] at ht
    exact keep (ask_err ht)
  | ok p1 =>
    rw [hth] at ht
    obtain ⟨x, p2, e2, a1, a2, a3, a4⟩ := ask_ok ht
    simp only [e2]
    have a4 : p2.opn = 0 := a4
    have hi : p2.i ≤ s.size := by
      rw [← a1.2.1]
      exact inn.ask (inn.threads 5 [] (Nat.zero_le _))
    have hq : (askQ s (threadsQ s 5 [] q0).2).opn = (p2.opn : Int) := by rw [a1.2.2.1, a4]; rfl
    cases hf : formS s 7 p2 with
    | error e =>
      have he := (form_sim s).err a1.self hq (by omega) hi hf
      have he' : SE e q0 (fmQ s).2 := a1.transE he
      show (endQ s (fmQ s).2).bad = (e : Int)
      unfold endQ
      split
      · exact he'.1
      · exact he'.fail.1
    | ok p3 =>
      obtain ⟨b1, b2, b3, b4, b5, b6⟩ := (form_sim s).ok a1.self hq (by omega) hi hf
      have c1 : SS p3 q0 (fmQ s).2 := a1.trans b1
      simp only
      by_cases k1 : kd s p3 = 1
      · rw [if_pos k1]
        unfold endQ
        rw [if_pos (c1.k.trans k1)]
        refine ⟨c1.b, ?_⟩
        rw [b4, a3, a2]; rfl
      · rw [if_neg k1]
        unfold endQ
        rw [if_neg (by rw [c1.k]; exact k1)]
        exact c1.no.1
theorem read_eq (s : ByteArray) : readS s = loadQ s := by
  unfold readS loadQ
  by_cases h : 400 < s.size
  · rw [if_pos h, if_pos h]
  · rw [if_neg h, if_neg h]
    have ht := test_sim s
    cases hh : testS s ps0 with
    | error e =>
      rw [hh] at ht
      have ht : (endQ s (fmQ s).2).bad = (e : Int) := ht
      simp only
      rw [ht, if_pos (by omega)]
      rfl
    | ok p =>
      rw [hh] at ht
      obtain ⟨h1, h2⟩ := ht
      simp only
      rw [if_neg (by omega : ¬ 0 ≤ (endQ s (fmQ s).2).bad), h2]
      unfold keepJ
      by_cases hs : 0 ≤ skipT (thrQ s).1
      · rw [if_pos hs, if_pos hs, if_pos hs]
      · rw [if_neg hs, if_neg hs]
        by_cases hj : 0 ≤ jumpL (thrQ s).1.length (fmQ s).1.jm
        · rw [if_pos hj, if_pos hj]
        · rw [if_neg hj, if_neg hj, if_neg hs]
end Go.Proofs.YtmpaeladhoomoaaGreatDoor
