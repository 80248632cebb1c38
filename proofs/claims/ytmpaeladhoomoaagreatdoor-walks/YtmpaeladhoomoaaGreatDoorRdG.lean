/-
  The program's reader: a thread.
-/
import Derived.Test.YtmpaeladhoomoaaGreatDoorRdF
import Derived.OwnWalk
namespace Go.Proofs.YtmpaeladhoomoaaGreatDoor
open Go.RowKit

/-- The steps of a thread, from a loop's head on: those that were read, each with the place of its last digit. -/
def stepsS (s : ByteArray) : Nat → List (St × Nat) → PS → Except Nat (List (St × Nat) × PS)
  | 0, _, p => .error (pl s p)
  | n + 1, acc, p =>
    if acc.length = 0 ∨ endsB s p = false then
      if acc.length = 8 then .error (pl s p)
      else match stepS s p with
        | .error q => .error q
        | .ok (x, p1) => if kd s p1 = 18 then stepsS s n (acc ++ [(x, (nxt s p1 18).dig)]) (nxt s p1 18) else .error (pl s p1)
    else .ok (acc, p)
def threadS (s : ByteArray) (p : PS) : Except Nat (List St × PS) :=
  if p.thr = 4 then .error (pl s p) else
  if kd s p = 5 then
    match stepsS s 9 [] (nxt s p 5) with
    | .error q => .error q
    | .ok (l, p1) => .ok (l.map (·.1), skipsS l { p1 with thr := p1.thr + 1 })
  else .error (pl s p)

theorem nm_le (s : ByteArray) (p : PS) : nm s p ≤ 9 := (tk_le s p.i).2
/-- What reading a step leaves as it was. -/
def Kept (p p' : PS) : Prop := p'.thr = p.thr ∧ p'.opn = p.opn ∧ p'.jmp = p.jmp
theorem Kept.refl (p : PS) : Kept p p := ⟨rfl, rfl, rfl⟩
theorem Kept.trans {a b c : PS} (h : Kept a b) (k : Kept b c) : Kept a c := ⟨k.1.trans h.1, k.2.1.trans h.2.1, k.2.2.trans h.2.2⟩
theorem kept_nxt (s : ByteArray) (p : PS) (k : Int) : Kept p (nxt s p k) := nxt_thr s p k
theorem storeS_kept {s : ByteArray} {p p' : PS} {x : St} (h : storeS s p = .ok (x, p')) : Kept p p' ∧ x.count ≤ 9 := by
  unfold storeS at h
  repeat' split at h
  all_goals first
    | (simp at h; done)
    | (simp only [Except.ok.injEq, Prod.mk.injEq] at h; obtain ⟨rfl, rfl⟩ := h; exact ⟨((kept_nxt _ _ _).trans (kept_nxt _ _ _)).trans (kept_nxt _ _ _), by simp⟩)
theorem swapS_kept {s : ByteArray} {p p' : PS} {x : St} {r : Nat} (h : swapS s p r = .ok (x, p')) : Kept p p' ∧ x.count ≤ 9 := by
  unfold swapS at h
  repeat' split at h
  all_goals first
    | (simp at h; done)
    | (simp only [Except.ok.injEq, Prod.mk.injEq] at h; obtain ⟨rfl, rfl⟩ := h; exact ⟨((kept_nxt _ _ _).trans (kept_nxt _ _ _)).trans (kept_nxt _ _ _), by simp⟩)
theorem assignS_kept {s : ByteArray} {p p' : PS} {x : St} (h : assignS s p = .ok (x, p')) : Kept p p' ∧ x.count ≤ 9 := by
  unfold assignS at h
  repeat' split at h
  all_goals first
    | (simp at h; done)
    | (simp only [Except.ok.injEq, Prod.mk.injEq] at h; obtain ⟨rfl, rfl⟩ := h; exact ⟨((kept_nxt _ _ _).trans (kept_nxt _ _ _)).trans (kept_nxt _ _ _), by simp⟩)
    | (have := swapS_kept h; exact ⟨((kept_nxt _ _ _).trans (kept_nxt _ _ _)).trans this.1, this.2⟩)
theorem eqdS_kept {s : ByteArray} {p p' : PS} {d : Nat} (h : eqdS s p = .ok (d, p')) : Kept p p' := by
  unfold eqdS at h
  repeat' split at h
  all_goals first
    | (simp at h; done)
    | (simp only [Except.ok.injEq, Prod.mk.injEq] at h; obtain ⟨rfl, rfl⟩ := h; exact (kept_nxt _ _ _).trans (kept_nxt _ _ _))
theorem branchS_kept {s : ByteArray} {p p' : PS} {x : St} (h : branchS s p = .ok (x, p')) : Kept p p' ∧ x.count ≤ 9 := by
  unfold branchS at h
  split at h
  · cases he : eqdS s (nxt s (nxt s p 8) 3) with
    | error q => rw [he] at h; simp at h
    | ok r =>
      obtain ⟨d, p3⟩ := r
      rw [he] at h
      have hk := eqdS_kept he
      simp only at h
      split at h
      · split at h
        · simp only [Except.ok.injEq, Prod.mk.injEq] at h; obtain ⟨rfl, rfl⟩ := h
          exact ⟨((((kept_nxt _ _ _).trans (kept_nxt _ _ _)).trans hk).trans (kept_nxt _ _ _)).trans (kept_nxt _ _ _), nm_le _ _⟩
        · simp at h
      · simp at h
  · simp at h
theorem stepS_kept {s : ByteArray} {p p' : PS} {x : St} (h : stepS s p = .ok (x, p')) : Kept p p' ∧ x.count ≤ 9 := by
  unfold stepS at h
  split at h
  · exact storeS_kept h
  · split at h
    · exact assignS_kept h
    · split at h
      · exact branchS_kept h
      · split at h
        · simp only [Except.ok.injEq, Prod.mk.injEq] at h; obtain ⟨rfl, rfl⟩ := h; exact ⟨kept_nxt _ _ _, by simp⟩
        · simp at h

def stFlat (l : List (St × Nat)) : List Value := l.flatMap (fun x => stCells x.1)
def digs (l : List (St × Nat)) : List Value := l.map (fun x => .int .i64 (x.2 : Nat))

/-- Two rows of the call's own that do not share a block. -/
def Apart (v u : Value) : Prop := ∀ k, v.ownBlock = some k → u.ownBlock ≠ some k
theorem own_other {w w' : World} {B e size n : Nat} {v u : Value} {xs : List Value} (h : w.ownsRow B e size u n xs) (hg : w.grownBy w' v.ownBlock) (ha : Apart v u) : w'.ownsRow B e size u n xs := by
  refine h.kept hg ?_
  cases hu : u.ownBlock with
  | none => exact Or.inl rfl
  | some k => right; intro e; exact ha k e.symm hu
theorem own_par {w w' : World} {B e size n b : Nat} {u : Value} {xs : List Value} (h : w.ownsRow B e size u n xs) (hg : w.grownBy w' (some b)) (hb : b < B) : w'.ownsRow B e size u n xs := by
  refine h.kept hg ?_
  cases hu : u.ownBlock with
  | none => exact Or.inl rfl
  | some k => right; intro e; have := (h.lt k hu).1; simp at e; omega
theorem par_own {w : World} {B e size n b : Nat} {u : Value} {xs : List Value} (h : w.ownsRow B e size u n xs) (hb : b < B) : some b ≠ u.ownBlock := by
  intro e; have := (h.lt b e.symm).1; omega
/-- The new value of the one row is apart from the other. -/
theorem apart_step {w : World} {B e size n g H m cap : Nat} {v u : Value} {xs : List Value} (h : w.ownsRow B e size u n xs) (ha : Apart v u) (hat : v.ownBlock = some g ∨ g = H) (hH : w.heap.size ≤ H) : Apart (.slice (some ⟨g, 0, none⟩) m cap) u := by
  intro k hk hu
  simp [Value.ownBlock] at hk
  subst hk
  rcases hat with h1 | h1
  · exact ha _ h1 hu
  · have := (h.lt _ hu).2; omega
theorem apart_symm {v u : Value} (h : Apart v u) : Apart u v := fun k h1 h2 => h k h2 h1
theorem own_slice {w : World} {B e size n : Nat} {v : Value} {xs : List Value} (h : w.ownsRow B e size v n xs) : ∃ a cap, v = .slice a n cap := by
  rcases h.2 with ⟨rfl, rfl⟩ | ⟨g, cap, cur, rfl, _⟩
  · exact ⟨_, _, rfl⟩
  · exact ⟨_, _, rfl⟩
theorem stFlat_get : ∀ (l : List (St × Nat)) (i o : Nat) (x : St) (d : Nat), l[i]? = some (x, d) → o < 5 → (stFlat l)[i * 5 + o]? = (stCells x)[o]? := by
  intro l
  induction l with
  | nil => intro i o x d h; simp at h
  | cons y r ih =>
    intro i o x d h ho
    have hl : (stCells y.1).length = 5 := rfl
    cases i with
    | zero =>
      simp at h
      subst h
      show (stCells x ++ stFlat r)[0 * 5 + o]? = _
      rw [List.getElem?_append_left (by rw [show (stCells x).length = 5 from rfl]; omega)]
      simp
    | succ i =>
      simp at h
      show (stCells y.1 ++ stFlat r)[(i + 1) * 5 + o]? = _
      rw [List.getElem?_append_right (by rw [hl]; omega), hl, show (i + 1) * 5 + o - 5 = i * 5 + o from by omega]
      exact ih i o x d h ho
theorem digs_get (l : List (St × Nat)) (i : Nat) (x : St) (d : Nat) (h : l[i]? = some (x, d)) : (digs l)[i]? = some (.int .i64 (d : Nat)) := by
  simp [digs, h]
theorem addr_add (g j : Nat) : (⟨g, 0, none⟩ : Addr).add j = ⟨g, j, none⟩ := by unfold Addr.add; split <;> simp_all
theorem rows_of_own {w : World} {B n c1 c2 g1 g2 : Nat} {l : List (St × Nat)} {e1 e2 : TypeId} (h1 : w.ownsRow B e1 5 (.slice (some ⟨g1, 0, none⟩) n c1) n (stFlat l)) (h2 : w.ownsRow B e2 1 (.slice (some ⟨g2, 0, none⟩) n c2) n (digs l)) : rowsAt w g1 g2 l := by
  intro i x d hi
  have k1 := h1.cells (g := g1) rfl
  have k2 := h2.cells (g := g2) rfl
  simp only [addr_add] at k1 k2
  have q := fun o ho => stFlat_get l i o x d hi ho
  exact ⟨k1 (i * 5) _ ((q 0 (by omega)).trans rfl), k1 _ _ ((q 1 (by omega)).trans rfl), k1 _ _ ((q 2 (by omega)).trans rfl), k1 _ _ ((q 3 (by omega)).trans rfl), k1 _ _ ((q 4 (by omega)).trans rfl), k2 _ _ (digs_get l i x d hi)⟩
theorem flat_map (l : List (St × Nat)) : (l.map (·.1)).flatMap stCells = stFlat l := by
  induction l with
  | nil => rfl
  | cons y r ih => simp only [List.map_cons, List.flatMap_cons, ih]; rfl
end Go.Proofs.YtmpaeladhoomoaaGreatDoor
