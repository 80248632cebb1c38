/-
  The document's answer: Load, walked.
-/
import Derived.Test.YtmpaeladhoomoaaGreatDoorRfN
namespace Go.Proofs.YtmpaeladhoomoaaGreatDoor
open Go.RowKit

theorem loc10 {w : World} {T : Nat} {a0 a1 a2 a3 a4 a5 a6 a7 a8 a9 : Value} {t : TypeId} (h : w.heap[T]? = some (.cells #[a0, a1, a2, a3, a4, a5, a6, a7, a8, a9] t (0, 0))) :
    w.cell? ⟨T, 0, none⟩ = some a0 ∧ w.cell? ⟨T, 1, none⟩ = some a1 ∧ w.cell? ⟨T, 2, none⟩ = some a2 ∧ w.cell? ⟨T, 3, none⟩ = some a3 ∧ w.cell? ⟨T, 4, none⟩ = some a4 ∧ w.cell? ⟨T, 5, none⟩ = some a5 ∧ w.cell? ⟨T, 6, none⟩ = some a6 ∧ w.cell? ⟨T, 7, none⟩ = some a7 ∧ w.cell? ⟨T, 8, none⟩ = some a8 ∧ w.cell? ⟨T, 9, none⟩ = some a9 ∧ ∀ o, w.frozen? ⟨T, o, none⟩ = false :=
  ⟨cell_of h 0 _ rfl, cell_of h 1 _ rfl, cell_of h 2 _ rfl, cell_of h 3 _ rfl, cell_of h 4 _ rfl, cell_of h 5 _ rfl, cell_of h 6 _ rfl, cell_of h 7 _ rfl, cell_of h 8 _ rfl, cell_of h 9 _ rfl, frozen_of h⟩
def tC (tsv : Value) : Array Value := #[tsv, .bool false, .string ⟨#[]⟩, .int .i64 0, .int .i64 0, .int .i64 0, .int .i64 0, .slice none 0 0, .slice none 0 0, .int .i64 0]
/-- A block of Load's own that stays. -/
def okR (w : World) (b T : Nat) (tv tsv : Value) (g : Nat) : Prop := g < w.heap.size ∧ g ≠ b ∧ T < g ∧ tv.ownBlock ≠ some g ∧ tsv.ownBlock ≠ some g
/-- Load in mid-call: the threads that were read. -/
structure LdAt (w4 w : World) (b : Nat) (s : ByteArray) (q : Q) (tv : Value) (t : List (List RSt)) (tsv : Value) (xs : List Value) : Prop where
  n1 : N1 w4 (.slice none 0 0) w b s q tv w4.heap.size 149 (tC tsv)
  own : w.ownsRow (w4.heap.size + 1) 207 1 tsv t.length xs
  ap : Apart tv tsv
  th : ThR w (okR w b w4.heap.size tv tsv) t xs
theorem LdAt.call {w4 w w' : World} {b : Nat} {s : ByteArray} {q q' : Q} {tv tv' : Value} {t : List (List RSt)} {tsv : Value} {xs : List Value} (l : LdAt w4 w b s q tv t tsv xs) (hf : FR b tv w tv' w') (hq : QAt w' b s q' tv') : LdAt w4 w' b s q' tv' t tsv xs :=
  ⟨l.n1.call hf hq, own_fr l.own (by have := l.n1.hb; omega) l.ap hf, apart_fr l.own l.ap hf, l.th.mono (fun g hg => ⟨⟨Nat.lt_of_lt_of_le hg.1 hf.size, hg.2.1, hg.2.2.1, hf.apart hg.1 hg.2.2.2.1, hg.2.2.2.2⟩, hf.block g hg.1 hg.2.1 hg.2.2.2.1⟩)⟩
theorem LdAt.start {w4 : World} {b : Nat} {s : ByteArray} (h : QAt w4 b s q0 (.slice none 0 0)) : LdAt w4 (w4.alloc (.cells (tC (.slice none 0 0)) 149 (0, 0))) b s q0 (.slice none 0 0) [] (.slice none 0 0) [] :=
  ⟨N1.start h _ _, World.ownsRow_nil _ _ _ _, fun k hk => by simp [Value.ownBlock] at hk, ThR.nil _ _⟩
theorem LdAt.push {w4 w w12 : World} {o : Obj} {b : Nat} {s : ByteArray} {q : Q} {tv : Value} {t : List (List RSt)} {tsv : Value} {xs : List Value} {lr : List RSt} {g lcap g2 cap2 B : Nat} (l : LdAt w4 w b s q tv t tsv xs)
    (hl : w.ownsRow B 209 6 (.slice (some ⟨g, 0, none⟩) lr.length lcap) lr.length (rsF lr)) (hl9 : lr.length ≤ 9) (hB : w4.heap.size < B) (hts : ∀ k, tsv.ownBlock = some k → k < B) (hap : Apart tv (.slice (some ⟨g, 0, none⟩) lr.length lcap))
    (hgrow : (w.alloc o).grownBy w12 tsv.ownBlock) (hown : w12.ownsRow (w4.heap.size + 1) 207 1 (.slice (some ⟨g2, 0, none⟩) (t.length + 1) cap2) (t.length + 1) (xs ++ [.slice (some ⟨g, 0, none⟩) lr.length lcap])) (hat : tsv.ownBlock = some g2 ∨ g2 = w.heap.size + 1) :
    LdAt w4 (w12.setCell ⟨w4.heap.size, 0, none⟩ (.slice (some ⟨g2, 0, none⟩) (t.length + 1) cap2)) b s q tv (t ++ [lr]) (.slice (some ⟨g2, 0, none⟩) (t.length + 1) cap2) (xs ++ [.slice (some ⟨g, 0, none⟩) lr.length lcap]) := by
  have hgl := hl.lt g rfl
  have hb := l.n1.hb
  have hg2 := hown.lt g2 rfl
  have hTl := heap_lt l.n1.res
  have hs12 := hgrow.size
  rw [World.size_alloc] at hs12
  have hgn : g ≠ g2 := by
    rcases hat with e | e
    · have := hts g2 e; omega
    · omega
  have htv : ∀ k, tsv.ownBlock = some k → tv.ownBlock ≠ some k := fun k h1 h2 => l.ap k h2 h1
  have hput : ∀ k, k ≠ w4.heap.size → (w12.setCell ⟨w4.heap.size, 0, none⟩ (.slice (some ⟨g2, 0, none⟩) (t.length + 1) cap2)).heap[k]? = w12.heap[k]? := fun k hk => Below.heap_setCell _ _ _ _ (by simpa using hk)
  have hkeep : ∀ k, k < w.heap.size → k ≠ w4.heap.size → tsv.ownBlock ≠ some k → (w12.setCell ⟨w4.heap.size, 0, none⟩ (.slice (some ⟨g2, 0, none⟩) (t.length + 1) cap2)).heap[k]? = w.heap[k]? := fun k hk hT ht => (hput k hT).trans ((hgrow.block k (by simp; omega) (fun e => ht e.symm)).trans (Below.heap_alloc _ _ _ hk))
  have tvg2 : tv.ownBlock ≠ some g2 := by
    rcases hat with e | e
    · exact htv g2 e
    · rw [e]; exact l.n1.at_.rowlt _ (by omega)
  have A12 : QAt w12 b s q tv := (l.n1.at_.alloc o).row hgrow (par_own l.own (by omega)) htv
  have hT12 : w12.heap[w4.heap.size]? = some (.cells (tC tsv) 149 (0, 0)) := heap_gb hgrow (heap_alloc_at l.n1.res o) (par_own l.own (by omega))
  refine ⟨⟨?_, A12.other _ _ (by simp; omega) l.n1.nR, heap_set' hT12 0 _ _ rfl, l.n1.hR, hb, l.n1.nR⟩, ?_, ?_, ?_⟩
  · exact ((l.n1.fr.alloc o).row_new hgrow (fun k e => by have := (l.own.lt k e).1; omega)).row_new (row := some w4.heap.size) ⟨rfl, rfl, rfl, by simp [World.setCell], fun k hk hne => hput k (by simpa using hne)⟩ (fun k e => by simp at e; omega)
  · rw [List.length_append]; exact ownsRow_setCell_below hown (by simp) _
  · intro k h1 h2
    simp [Value.ownBlock] at h2
    subst h2
    exact tvg2 h1
  · refine ThR.snoc (l.th.mono (fun k hk => ⟨⟨?_, hk.2.1, hk.2.2.1, hk.2.2.2.1, ?_⟩, hkeep k hk.1 (Nat.ne_of_gt hk.2.2.1) hk.2.2.2.2⟩)) ⟨?_, by omega, by omega, fun e => hap g e rfl, ?_⟩ ?_ ?_
    · rw [size_set]; have := hk.1; omega
    · simp [Value.ownBlock]
      rcases hat with e | e
      · intro e2; exact hk.2.2.2.2 (by rw [e, e2])
      · have := hk.1; omega
    · rw [size_set]; omega
    · simp [Value.ownBlock]; omega
    · exact hl9
    · intro o' v hv
      have hc := hl.cells rfl o' v hv
      rw [addr_add] at hc
      unfold World.cell? at hc ⊢
      rw [hkeep g hgl.2 (by omega) (fun e => by have := hts g e; omega)]
      exact hc
/-- Load behind the threads: its result's cells as they come. -/
structure LdT (w4 w : World) (b : Nat) (s : ByteArray) (q : Q) (tv : Value) (t : List (List RSt)) (tsv : Value) (xs : List Value) (rs : Array Value) : Prop where
  n1 : N1 w4 (.slice none 0 0) w b s q tv w4.heap.size 149 rs
  own : w.ownsRow (w4.heap.size + 1) 207 1 tsv t.length xs
  ap : Apart tv tsv
  th : ThR w (okR w b w4.heap.size tv tsv) t xs
theorem LdAt.tail {w4 w : World} {b : Nat} {s : ByteArray} {q : Q} {tv : Value} {t : List (List RSt)} {tsv : Value} {xs : List Value} (l : LdAt w4 w b s q tv t tsv xs) : LdT w4 w b s q tv t tsv xs #[tsv, .bool false, .string ⟨#[]⟩, .int .i64 0, .int .i64 0, .int .i64 0, .int .i64 0, .slice none 0 0, .slice none 0 0, .int .i64 0] := ⟨l.n1, l.own, l.ap, l.th⟩
theorem LdT.call {w4 w w' : World} {b : Nat} {s : ByteArray} {q q' : Q} {tv tv' : Value} {t : List (List RSt)} {tsv : Value} {xs : List Value} {rs : Array Value} (l : LdT w4 w b s q tv t tsv xs rs) (hf : FR b tv w tv' w') (hq : QAt w' b s q' tv') : LdT w4 w' b s q' tv' t tsv xs rs :=
  ⟨l.n1.call hf hq, own_fr l.own (by have := l.n1.hb; omega) l.ap hf, apart_fr l.own l.ap hf, l.th.mono (fun g hg => ⟨⟨Nat.lt_of_lt_of_le hg.1 hf.size, hg.2.1, hg.2.2.1, hf.apart hg.1 hg.2.2.2.1, hg.2.2.2.2⟩, hf.block g hg.1 hg.2.1 hg.2.2.2.1⟩)⟩
theorem LdT.put {w4 w : World} {b : Nat} {s : ByteArray} {q : Q} {tv : Value} {t : List (List RSt)} {tsv : Value} {xs : List Value} {rs : Array Value} (l : LdT w4 w b s q tv t tsv xs rs) (i : Nat) (v : Value) (rs' : Array Value) (h : rs.set! i v = rs') : LdT w4 (w.setCell ⟨w4.heap.size, i, none⟩ v) b s q tv t tsv xs rs' := by
  have hb := l.n1.hb
  have hput : ∀ k, k ≠ w4.heap.size → (w.setCell ⟨w4.heap.size, i, none⟩ v).heap[k]? = w.heap[k]? := fun k hk => Below.heap_setCell _ _ _ _ (by simpa using hk)
  refine ⟨⟨?_, l.n1.at_.other _ _ (by simp; omega) l.n1.nR, heap_set' l.n1.res i v _ h, l.n1.hR, hb, l.n1.nR⟩, ownsRow_setCell_below l.own (by simp) _, l.ap, l.th.mono (fun k hk => ⟨⟨by rw [size_set]; exact hk.1, hk.2⟩, hput k (Nat.ne_of_gt hk.2.2.1)⟩)⟩
  exact l.n1.fr.row_new (row := some w4.heap.size) ⟨rfl, rfl, rfl, by simp [World.setCell], fun k hk hne => hput k (by simpa using hne)⟩ (fun k e => by simp at e; omega)
theorem LdT.alloc {w4 w : World} {b : Nat} {s : ByteArray} {q : Q} {tv : Value} {t : List (List RSt)} {tsv : Value} {xs : List Value} {rs : Array Value} (l : LdT w4 w b s q tv t tsv xs rs) (o : Obj) : LdT w4 (w.alloc o) b s q tv t tsv xs rs := l.call (FR.of_new (gb_alloc (gb_refl _ _) o)) (l.n1.at_.alloc o)
theorem stepsQ_go (s : ByteArray) (l : List RSt) (q q5 : Q) (h8 : l.length ≤ 8) (hq : q5 = if l.length = 8 then failQ s q else q) : stepsQ s (9 - l.length) l q =
    if beginsQ s (stepQ s q5).2 = true then stepsQ s (9 - (l ++ [(stepQ s q5).1]).length) (l ++ [(stepQ s q5).1]) (stepQ s q5).2 else (l ++ [(stepQ s q5).1], (stepQ s q5).2) := by
  obtain ⟨m, hm⟩ : ∃ m, 9 - l.length = m + 1 := ⟨8 - l.length, by omega⟩
  have hm2 : 9 - (l ++ [(stepQ s q5).1]).length = m := by simp; omega
  rw [hm2, hm, stepsQ, ← hq]
theorem stepsQ_last (s : ByteArray) (q5 : Q) (hq : 0 ≤ q5.bad) : beginsQ s (stepQ s q5).2 = false := beginsQ_keep (by rw [stepQ_keep hq]; exact hq)
theorem threadsQ_go (s : ByteArray) (t : List (List RSt)) (q q5 : Q) (l : List RSt) (ql : Q) (h4 : t.length ≤ 4) (hq : q5 = if t.length = 4 then failQ s q else q) (hl : (l, ql) = stepsQ s 9 [] (needQ s q5 5)) : threadsQ s (5 - t.length) t q =
    if isQ s ql 5 = true then threadsQ s (5 - (t ++ [l]).length) (t ++ [l]) ql else (t ++ [l], ql) := by
  obtain ⟨m, hm⟩ : ∃ m, 5 - t.length = m + 1 := ⟨4 - t.length, by omega⟩
  have hm2 : 5 - (t ++ [l]).length = m := by simp; omega
  rw [hm2, hm, threadsQ, ← hq, ← hl]
theorem threads_last {s : ByteArray} {t : List (List RSt)} {q q5 : Q} {l : List RSt} {ql : Q} (h4 : t.length = 4) (hq : q5 = if t.length = 4 then failQ s q else q) (hl : (l, ql) = stepsQ s 9 [] (needQ s q5 5)) : isQ s ql 5 = false := by
  rw [if_pos h4] at hq
  have hb : 0 ≤ q5.bad := by rw [hq]; exact failQ_bad s q
  have hse : SE q5.bad.toNat q5 q5 := ⟨by omega, rfl⟩
  have h1 := stepsQ_bad (s := s) (hse.need (s := s) 5) 9 []
  rw [← hl] at h1
  exact h1.is 5
theorem q0_at {w1 : World} {s : ByteArray} (hs : s.size ≤ 400) (b : Nat) (hb : w1.heap[b]? = some (.cells #[.string s, .int .u8 (rkind (tk s 0).kind : Nat), .string (canonB (tk s 0).kind (tk s 0).num), .int .i64 ((tk s 0).at_ : Nat), .int .i64 ((tk s 0).end_ : Nat), .slice none 0 0, .int .i64 (-1), .int .i64 0] 203 (0, 0))) : QAt w1 b s q0 (.slice none 0 0) :=
  ⟨hb, World.ownsRow_nil _ _ _ _, hs, Nat.zero_le _, Nat.le_refl _, by decide, by decide, by decide, by decide, rfl, fun y hy => by simp [toks, q0] at hy⟩
end Go.Proofs.YtmpaeladhoomoaaGreatDoor
