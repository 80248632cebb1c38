/-
  A test as the program lays it: its threads, and what it prints as.
-/
import Derived.Test.YtmpaeladhoomoaaGreatDoorPrC
namespace Go.Proofs.YtmpaeladhoomoaaGreatDoor
open Go.RowKit

/-- The rows of the threads: a slice each, of steps of five cells. -/
def ThP (w : World) (ok : Nat → Prop) (ls : List (List St)) (xs : List Value) : Prop :=
  xs.length = ls.length ∧ ∀ (i : Nat) (l : List St), ls[i]? = some l → ∃ (sa : Option Addr) (cap : Nat), xs[i]? = some (Value.slice sa l.length cap) ∧ l.length ≤ 8 ∧
    ∀ (j : Nat) (x : St), l[j]? = some x → ∃ g, sa = some ⟨g, 0, none⟩ ∧ ok g ∧ ∀ (o : Nat) (v : Value), (stCells x)[o]? = some v → w.cell? ⟨g, j * 5 + o, none⟩ = some v
theorem ThP.mono {w w' : World} {ok ok' : Nat → Prop} {ls : List (List St)} {xs : List Value} (h : ThP w ok ls xs) (h1 : ∀ g, ok g → ok' g) (h2 : ∀ g, ok g → w'.heap[g]? = w.heap[g]?) : ThP w' ok' ls xs := by
  refine ⟨h.1, fun i l hl => ?_⟩
  obtain ⟨sa, cap, a1, a2, a3⟩ := h.2 i l hl
  refine ⟨sa, cap, a1, a2, fun j x hx => ?_⟩
  obtain ⟨g, b1, b2, b3⟩ := a3 j x hx
  exact ⟨g, b1, h1 g b2, fun o v hv => (cell_same (h2 g b2) _).trans (b3 o v hv)⟩
theorem flat5 : ∀ (l : List St) (j o : Nat) (x : St), l[j]? = some x → o < 5 → (l.flatMap stCells)[j * 5 + o]? = (stCells x)[o]? := by
  intro l
  induction l with
  | nil => intro j o x h; simp at h
  | cons y r ih =>
    intro j o x h ho
    cases j with
    | zero =>
      simp at h
      subst h
      rw [List.flatMap_cons, Nat.zero_mul, Nat.zero_add, List.getElem?_append_left (by simp [stCells]; omega)]
    | succ j =>
      rw [List.flatMap_cons, List.getElem?_append_right (by simp [stCells]; omega), show (j + 1) * 5 + o - (stCells y).length = j * 5 + o from by simp [stCells]; omega]
      exact ih j o x (by simpa using h) ho
theorem ThP.snoc {w : World} {ok : Nat → Prop} {ls : List (List St)} {xs : List Value} {l : List St} {B scap : Nat} {sa : Option Addr} (h : ThP w ok ls xs) (hl : w.ownsRow B 107 5 (.slice sa l.length scap) l.length (l.flatMap stCells)) (h8 : l.length ≤ 8) (hok : ∀ g, sa = some ⟨g, 0, none⟩ → ok g) : ThP w ok (ls ++ [l]) (xs ++ [.slice sa l.length scap]) := by
  refine ⟨by simp [h.1], fun i l' hl' => ?_⟩
  by_cases hi : i < ls.length
  · rw [List.getElem?_append_left hi] at hl'
    rw [List.getElem?_append_left (by rw [h.1]; exact hi)]
    exact h.2 i l' hl'
  · have hi2 : i = ls.length := by
      have := (List.getElem?_eq_some_iff.1 hl').1
      simp at this
      omega
    subst hi2
    simp at hl'
    subst hl'
    refine ⟨sa, scap, by rw [← h.1]; simp, h8, fun j x hx => ?_⟩
    have hj := (List.getElem?_eq_some_iff.1 hx).1
    rcases hl.2 with ⟨_, h1⟩ | ⟨g, cap', cur, h1, _⟩
    · omega
    · simp at h1
      obtain ⟨rfl, _⟩ := h1
      refine ⟨g, rfl, hok g rfl, fun o v hv => ?_⟩
      have ho : o < 5 := (List.getElem?_eq_some_iff.1 hv).1
      rw [← addr_add]
      exact hl.cells rfl _ v ((flat5 l j o x hx ho).trans hv)

/-- Where the threads' rows may lie while they are read. -/
def okM (w wr : World) (v : Value) (x : Nat) : Prop := w.heap.size < x ∧ x < wr.heap.size ∧ v.ownBlock ≠ some x
structure TP (w wr : World) (v : Value) (xs : List Value) (s : ByteArray) (i j n : Nat) : Prop where
  ex : ∃ (ls : List (List St)) (k : Nat), ThP wr (okM w wr v) ls xs ∧ ls.length = n ∧ pos s i k = j ∧ ThreadsTok ls (toks s i k)
theorem TP.start (w wr : World) (v : Value) (s : ByteArray) (i : Nat) : TP w wr v [] s i i 0 := ⟨[], 0, ⟨rfl, fun i l h => by simp at h⟩, rfl, rfl, rfl⟩
theorem TP.grow {w wr w' : World} {v : Value} {xs : List Value} {s : ByteArray} {i j n : Nat} {row : Option Nat} (h : TP w wr v xs s i j n) (hg : wr.grownBy w' row) (hr : ∀ x, row = some x → ¬ okM w wr v x) : TP w w' v xs s i j n := by
  obtain ⟨ls, k, h1, h2, h3, h4⟩ := h.ex
  exact ⟨ls, k, h1.mono (fun x hx => ⟨hx.1, Nat.lt_of_lt_of_le hx.2.1 hg.size, hx.2.2⟩) (fun x hx => hg.block x hx.2.1 (fun e => hr x e.symm hx)), h2, h3, h4⟩
theorem TP.round {w wr w1 w4 : World} {b n g4 cap4 H scap : Nat} {v : Value} {xs ys : List Value} {s : ByteArray} {i : Nat} {q p1 : PS} {l : List St} {sa : Option Addr} {o : Obj} (h : TP w wr v xs s i q.i n) (hb : b < w.heap.size) (hw : w.heap.size < wr.heap.size) (hv : ∀ g, v.ownBlock = some g → g < wr.heap.size) (hg1 : wr.grownBy w1 (some b)) (hs : threadS s q = .ok (l, p1)) (h8 : l.length ≤ 8)
    (own1 : w1.ownsRow wr.heap.size 107 5 (.slice sa l.length scap) l.length (l.flatMap stCells)) (hgrow : (w1.alloc o).grownBy w4 v.ownBlock) (hat : v.ownBlock = some g4 ∨ g4 = H) (hH : H = w1.heap.size + 1) (u : Value) (hys : ys = xs ++ [.slice sa l.length scap]) :
    TP w (w4.setCell ⟨w.heap.size, 0, none⟩ u) (.slice (some ⟨g4, 0, none⟩) (n + 1) cap4) ys s i p1.i (n + 1) := by
  subst hys
  obtain ⟨ls, k, h1, h2, h3, h4⟩ := (h.grow hg1 (fun x e hx => by simp at e; have := hx.1; omega)).ex
  obtain ⟨m, k5, T, e1, e2, e3⟩ := thread_tok hs
  have s1 := hg1.size
  have s4 := hgrow.size
  simp only [World.size_alloc] at s4
  have h1' : ThP w1 (okM w w1 v) (ls ++ [l]) (xs ++ [.slice sa l.length scap]) := h1.snoc own1 h8 (fun g e => by
    subst e
    have hl := own1.lt g rfl
    refine ⟨by omega, hl.2, fun e => ?_⟩
    have := hv g e
    omega)
  refine ⟨ls ++ [l], k + m, h1'.mono (fun x hx => ?_) (fun x hx => ?_), by simp [h2], by rw [pos_add, h3, e2], by rw [toks_add, h3, e1]; exact ThreadsTok.snoc e3 h4⟩
  · refine ⟨hx.1, by rw [size_set]; have := hx.2.1; omega, ?_⟩
    rcases hat with e | e
    · show some g4 ≠ some x
      rw [← e]; exact hx.2.2
    · have := hx.2.1
      intro e'
      simp [Value.ownBlock] at e'
      omega
  · rw [Below.heap_setCell _ _ _ _ (by have := hx.1; simp; omega), hgrow.block x (by simp; have := hx.2.1; omega) (fun e => hx.2.2 e.symm), Below.heap_alloc _ _ _ hx.2.1]

/-- The text is a test: its threads, what is asked. -/
def Said (s : ByteArray) (i : Nat) (ls : List (List St)) (fa : Bool) (ft : Txt) (e : Nat) : Prop :=
  ∃ n1, ThreadsTok ls (toks s i n1) ∧ ls ≠ [] ∧ (tk s (pos s i n1)).kind = (if fa = true then 11 else 10) ∧ Ren s (tk s (pos s i n1)).end_ e ft ∧ (tk s e).kind = 1
/-- A test in memory. -/
structure ProgRep (w : World) (ok : Nat → Prop) (g : Nat) (ls : List (List St)) (fa : Bool) (ft : Txt) : Prop where
  ex : ∃ (ta : Option Addr) (cap : Nat) (xs : List Value) (n0 : Int) (a : Option Addr) (k c : Nat) (n2 n3 n4 n5 : Int) (d : Nat),
    w.heap[g]? = some (.cells #[.slice ta ls.length cap, .bool fa, .int .i64 n0, .slice a k c, .int .i64 n2, .int .i64 n3, .int .i64 n4, .int .i64 n5] 99 (0, 0)) ∧ ok g ∧
    (∀ (i : Nat) (v : Value), xs[i]? = some v → ∃ tg, ta = some ⟨tg, 0, none⟩ ∧ ok tg ∧ w.cell? ⟨tg, i, none⟩ = some v) ∧ ThP w ok ls xs ∧ FRep d w ok [.int .i64 n0, .slice a k c, .int .i64 n2, .int .i64 n3, .int .i64 n4, .int .i64 n5] ft
theorem ProgRep.mono {w w' : World} {ok ok' : Nat → Prop} {g : Nat} {ls : List (List St)} {fa : Bool} {ft : Txt} (h : ProgRep w ok g ls fa ft) (h1 : ∀ g, ok g → ok' g) (h2 : ∀ g, ok g → w'.heap[g]? = w.heap[g]?) : ProgRep w' ok' g ls fa ft := by
  obtain ⟨ta, cap, xs, n0, a, k, c, n2, n3, n4, n5, d, a1, a2, a3, a4, a5⟩ := h.ex
  refine ⟨ta, cap, xs, n0, a, k, c, n2, n3, n4, n5, d, (h2 g a2).trans a1, h1 g a2, fun i v hv => ?_, a4.mono h1 h2, a5.mono h1 h2⟩
  obtain ⟨tg, b1, b2, b3⟩ := a3 i v hv
  exact ⟨tg, b1, h1 tg b2, (cell_same (h2 tg b2) _).trans b3⟩
/-- From the loop's end to the test. -/
theorem TP.done {w wr w' : World} {v : Value} {xs : List Value} {s : ByteArray} {i j n : Nat} {e : Nat} {fa : Bool} {ft : Txt} {n0 : Int} {a : Option Addr} {k c cap : Nat} {ta : Option Addr} {n2 n3 n4 n5 : Int} {d : Nat} (h : TP w wr v xs s i j n) (hv : v = .slice ta n cap) (hn : n ≠ 0) (own : wr.ownsRow (w.heap.size + 1) 100 1 v n xs)
    (hsz : wr.heap.size ≤ w'.heap.size) (hb : ∀ x, w.heap.size < x → x < wr.heap.size → w'.heap[x]? = wr.heap[x]?) (hblk : w'.heap[w.heap.size]? = some (.cells #[.slice ta n cap, .bool fa, .int .i64 n0, .slice a k c, .int .i64 n2, .int .i64 n3, .int .i64 n4, .int .i64 n5] 99 (0, 0)))
    (hF : FRep d w' (newB w w') [.int .i64 n0, .slice a k c, .int .i64 n2, .int .i64 n3, .int .i64 n4, .int .i64 n5] ft) (hq : (tk s j).kind = (if fa = true then 11 else 10)) (hR : Ren s (tk s j).end_ e ft) (h1 : (tk s e).kind = 1) :
    ∃ ls, ProgRep w' (newB w w') w.heap.size ls fa ft ∧ Said s i ls fa ft e := by
  obtain ⟨ls, k1, g1, g2, g3, g4⟩ := h.ex
  subst hv g2 g3
  refine ⟨ls, ⟨ta, cap, xs, n0, a, k, c, n2, n3, n4, n5, d, hblk, ⟨Nat.le_refl _, heap_lt hblk⟩, fun i u hu => ?_, ?_, hF⟩, k1, g4, fun e => hn (by rw [e]; rfl), hq, hR, h1⟩
  · rcases own.2 with ⟨_, h3⟩ | ⟨g, cap', cur, h3, _⟩
    · exact (hn h3).elim
    · simp at h3
      obtain ⟨rfl, _⟩ := h3
      have hl := own.lt g rfl
      refine ⟨g, rfl, ⟨by omega, by omega⟩, ?_⟩
      rw [cell_same (hb g (by omega) hl.2), ← addr_add]
      exact own.cells rfl i u hu
  · exact g1.mono (fun x hx => ⟨by have := hx.1; omega, by have := hx.2.1; omega⟩) (fun x hx => hb x hx.1 hx.2.1)
theorem stepsS_len (s : ByteArray) : ∀ (n : Nat) (acc : List (St × Nat)) (p : PS) (l : List (St × Nat)) (p' : PS), acc.length ≤ 8 → stepsS s n acc p = .ok (l, p') → l.length ≤ 8 := by
  intro n
  induction n with
  | zero => intro acc p l p' _ h; simp [stepsS] at h
  | succ n ih =>
    intro acc p l p' ha h
    rw [stepsS] at h
    split at h
    · split at h
      · simp at h
      · rename_i h8
        cases hs : stepS s p with
        | error q => rw [hs] at h; simp at h
        | ok r =>
          obtain ⟨x, p1⟩ := r
          rw [hs] at h
          simp only at h
          split at h
          · exact ih _ _ _ _ (by simp; omega) h
          · simp at h
    · simp only [Except.ok.injEq, Prod.mk.injEq] at h
      obtain ⟨rfl, rfl⟩ := h
      exact ha
theorem threadS_len {s : ByteArray} {p p' : PS} {l : List St} (h : threadS s p = .ok (l, p')) : l.length ≤ 8 := by
  unfold threadS at h
  split at h
  · simp at h
  · split at h
    · cases hs : stepsS s 9 [] (nxt s p 5) with
      | error q => rw [hs] at h; simp at h
      | ok r =>
        obtain ⟨l1, p1⟩ := r
        rw [hs] at h
        simp only [Except.ok.injEq, Prod.mk.injEq] at h
        obtain ⟨rfl, rfl⟩ := h
        simpa using stepsS_len s _ _ _ _ _ (by simp) hs
    · simp at h
theorem question_tok {s : ByteArray} {p p' : PS} {fa : Bool} (h : questionS s p = .ok (fa, p')) : (tk s p.i).kind = (if fa = true then 11 else 10) ∧ p'.i = (tk s p.i).end_ := by
  unfold questionS at h
  split at h
  · rename_i h1
    simp only [Except.ok.injEq, Prod.mk.injEq] at h
    obtain ⟨rfl, rfl⟩ := h
    exact ⟨h1, nxt_i s p 11⟩
  · split at h
    · rename_i h1
      simp only [Except.ok.injEq, Prod.mk.injEq] at h
      obtain ⟨rfl, rfl⟩ := h
      exact ⟨h1, nxt_i s p 10⟩
    · simp at h
theorem six_heap (w2 : World) (R : Nat) (r0 r1 r2 r3 r4 r5 : Value) (x : Nat) (hxR : x ≠ R) :
    ((((((w2.setCell ⟨R, 2, none⟩ r0).setCell ⟨R, 3, none⟩ r1).setCell ⟨R, 4, none⟩ r2).setCell ⟨R, 5, none⟩ r3).setCell ⟨R, 6, none⟩ r4).setCell ⟨R, 7, none⟩ r5).heap[x]? = w2.heap[x]? := by
  rw [Below.heap_setCell _ _ _ _ (by simpa using hxR), Below.heap_setCell _ _ _ _ (by simpa using hxR), Below.heap_setCell _ _ _ _ (by simpa using hxR), Below.heap_setCell _ _ _ _ (by simpa using hxR), Below.heap_setCell _ _ _ _ (by simpa using hxR), Below.heap_setCell _ _ _ _ (by simpa using hxR)]
theorem six_size (w2 : World) (R : Nat) (r0 r1 r2 r3 r4 r5 : Value) : ((((((w2.setCell ⟨R, 2, none⟩ r0).setCell ⟨R, 3, none⟩ r1).setCell ⟨R, 4, none⟩ r2).setCell ⟨R, 5, none⟩ r3).setCell ⟨R, 6, none⟩ r4).setCell ⟨R, 7, none⟩ r5).heap.size = w2.heap.size := by simp only [size_set]
/-- All that follows the threads. -/
theorem TP.finish {w wr w1 w2 w' : World} {b n cap : Nat} {ta : Option Addr} {xs : List Value} {s : ByteArray} {i : Nat} {q p1 p2 : PS} {fa : Bool} {u r0 r1 r2 r3 r4 r5 : Value} {n0 : Int} {a : Option Addr} {k c : Nat} {n2 n3 n4 n5 : Int} (h : TP w wr (.slice ta n cap) xs s i q.i n) (hn : n ≠ 0) (own : wr.ownsRow (w.heap.size + 1) 100 1 (.slice ta n cap) n xs) (hb : b < w.heap.size) (hw : w.heap.size < wr.heap.size)
    (hg1 : wr.grownBy w1 (some b)) (hg2 : (w1.setCell ⟨w.heap.size, 1, none⟩ u).grownBy w2 (some b)) (hq : questionS s q = .ok (fa, p1))
    (hF : ∃ d t, FRep d w2 (newB (w1.setCell ⟨w.heap.size, 1, none⟩ u) w2) [.int .i64 n0, .slice a k c, .int .i64 n2, .int .i64 n3, .int .i64 n4, .int .i64 n5] t ∧ Ren s p1.i p2.i t) (h1 : kd s p2 = 1)
    (hblk : w'.heap[w.heap.size]? = some (.cells #[.slice ta n cap, .bool fa, .int .i64 n0, .slice a k c, .int .i64 n2, .int .i64 n3, .int .i64 n4, .int .i64 n5] 99 (0, 0)))
    (hw' : w'.heap = ((((((w2.setCell ⟨w.heap.size, 2, none⟩ r0).setCell ⟨w.heap.size, 3, none⟩ r1).setCell ⟨w.heap.size, 4, none⟩ r2).setCell ⟨w.heap.size, 5, none⟩ r3).setCell ⟨w.heap.size, 6, none⟩ r4).setCell ⟨w.heap.size, 7, none⟩ r5).heap) :
    ∃ ls fa ft, ProgRep w' (newB w w') w.heap.size ls fa ft ∧ Said s i ls fa ft p2.i := by
  obtain ⟨d, t, hF, hR⟩ := hF
  obtain ⟨e1, e2⟩ := question_tok hq
  have s1 := hg1.size
  have s2 := hg2.size
  rw [size_set] at s2
  have sz : w'.heap.size = w2.heap.size := by rw [hw', six_size]
  have hF' : FRep d w' (newB w w') [.int .i64 n0, .slice a k c, .int .i64 n2, .int .i64 n3, .int .i64 n4, .int .i64 n5] t := hF.mono (fun x hx => by
    have a1 := hx.1
    have a2 := hx.2
    rw [size_set] at a1
    exact ⟨by omega, by omega⟩) (fun x hx => by
    have a1 := hx.1
    rw [size_set] at a1
    rw [hw', six_heap _ _ _ _ _ _ _ _ x (by omega)])
  obtain ⟨ls, g1, g2⟩ := h.done rfl hn own (by omega) (fun x x1 x2 => by
    rw [hw', six_heap _ _ _ _ _ _ _ _ x (by omega), hg2.block x (by rw [size_set]; omega) (by simp; omega), Below.heap_setCell _ _ _ _ (by simp; omega), hg1.block x x2 (by simp; omega)]) hblk hF' e1 (by rw [← e2]; exact hR) h1
  exact ⟨ls, fa, t, g1, g2⟩
end Go.Proofs.YtmpaeladhoomoaaGreatDoor
