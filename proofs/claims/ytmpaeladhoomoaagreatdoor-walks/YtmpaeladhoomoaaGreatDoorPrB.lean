/-
  A formula as the program lays it: its cells, and the text that it prints as.
-/
import Derived.Test.YtmpaeladhoomoaaGreatDoorPrA
import Derived.Test.YtmpaeladhoomoaaGreatDoorRdH
namespace Go.Proofs.YtmpaeladhoomoaaGreatDoor
open Go.RowKit

def joinT (sep : Txt) : List Txt → Txt
  | [] => []
  | [x] => x
  | x :: y :: r => x ++ sep ++ joinT sep (y :: r)
theorem joinT_snoc (sep : Txt) : ∀ (l : List Txt) (u : Txt), l ≠ [] → joinT sep (l ++ [u]) = joinT sep l ++ sep ++ u := by
  intro l
  induction l with
  | nil => intro u h; exact (h rfl).elim
  | cons x r ih =>
    intro u _
    cases r with
    | nil => rfl
    | cons y r2 =>
      show x ++ sep ++ joinT sep ((y :: r2) ++ [u]) = x ++ sep ++ joinT sep (y :: r2) ++ sep ++ u
      rw [ih u (by simp)]; simp
/-- The word between parts. -/
def wT (bt : Int) : Txt := if bt = 12 then [32, 97, 110, 100, 32] else [32, 111, 114, 32]
/-- What a shape makes of its parts' texts. -/
def shapeT (n0 : Int) (ts : List Txt) : Txt :=
  if n0 = 0 then joinT [32, 111, 114, 32] ts else if n0 = 1 then joinT [32, 97, 110, 100, 32] ts else if n0 = 2 then [110, 111, 116, 32] ++ joinT [] ts else [40] ++ joinT [] ts ++ [41]
theorem shape_word {sh bt : Int} (h : bt = 12 ∧ sh = 1 ∨ bt = 13 ∧ sh = 0) (ts : List Txt) : shapeT sh ts = joinT (wT bt) ts := by
  rcases h with ⟨rfl, rfl⟩ | ⟨rfl, rfl⟩ <;> rfl
theorem Ren.more {s : ByteArray} {i j k : Nat} {t u : Txt} {bt : Int} (h : Ren s i j t) (hb : bt = 12 ∨ bt = 13) (hk : ((tk s j).kind : Int) = bt) (h2 : Ren s (tk s j).end_ k u) : Ren s i k (t ++ wT bt ++ u) := by
  have hk2 : (tk s j).kind = 12 ∨ (tk s j).kind = 13 := by omega
  have e : [32] ++ canon (tk s j).kind 0 ++ [32] = wT bt := by
    rcases hb with rfl | rfl
    · have : (tk s j).kind = 12 := by omega
      rw [this]; rfl
    · have : (tk s j).kind = 13 := by omega
      rw [this]; rfl
  have := h.word hk2 h2
  rwa [e] at this

/-- Parts: six cells each. -/
def Kids (P : List Value → Txt → Prop) : List Value → List Txt → Prop
  | xs, [] => xs = []
  | xs, u :: r => ∃ c rest, xs = c ++ rest ∧ c.length = 6 ∧ P c u ∧ Kids P rest r
theorem Kids.mono {P Q : List Value → Txt → Prop} (hPQ : ∀ c u, P c u → Q c u) : ∀ {ts : List Txt} {xs : List Value}, Kids P xs ts → Kids Q xs ts := by
  intro ts
  induction ts with
  | nil => intro xs h; exact h
  | cons u r ih => intro xs h; obtain ⟨c, rest, h1, h2, h3, h4⟩ := h; exact ⟨c, rest, h1, h2, hPQ c u h3, ih h4⟩
theorem Kids.snoc {P : List Value → Txt → Prop} {c : List Value} {u : Txt} (hc : c.length = 6) (hP : P c u) : ∀ {ts : List Txt} {xs : List Value}, Kids P xs ts → Kids P (xs ++ c) (ts ++ [u]) := by
  intro ts
  induction ts with
  | nil => intro xs h; have h : xs = [] := h; subst h; exact ⟨c, [], by simp, hc, hP, rfl⟩
  | cons v r ih => intro xs h; obtain ⟨c1, rest, h1, h2, h3, h4⟩ := h; exact ⟨c1, rest ++ c, by rw [h1]; simp, h2, h3, ih h4⟩
theorem Kids.get {P : List Value → Txt → Prop} : ∀ {ts : List Txt} {xs : List Value} (i : Nat) (u : Txt), Kids P xs ts → ts[i]? = some u → ∃ c, c.length = 6 ∧ P c u ∧ ∀ j v, c[j]? = some v → xs[i * 6 + j]? = some v := by
  intro ts
  induction ts with
  | nil => intro xs i u _ h; simp at h
  | cons v r ih =>
    intro xs i u h hi
    obtain ⟨c, rest, rfl, h2, h3, h4⟩ := h
    cases i with
    | zero =>
      simp at hi
      subst hi
      refine ⟨c, h2, h3, fun j v hj => ?_⟩
      have hl := (List.getElem?_eq_some_iff.1 hj).1
      rw [Nat.zero_mul, Nat.zero_add, List.getElem?_append_left hl]; exact hj
    | succ i =>
      obtain ⟨c', h5, h6, h7⟩ := ih i u h4 (by simpa using hi)
      refine ⟨c', h5, h6, fun j v hj => ?_⟩
      rw [List.getElem?_append_right (by omega), show (i + 1) * 6 + j - c.length = i * 6 + j from by omega]
      exact h7 j v hj
theorem Kids.len {P : List Value → Txt → Prop} : ∀ {ts : List Txt} {xs : List Value}, Kids P xs ts → xs.length = ts.length * 6 := by
  intro ts
  induction ts with
  | nil => intro xs h; have h : xs = [] := h; subst h; rfl
  | cons u r ih => intro xs h; obtain ⟨c, rest, rfl, h2, h3, h4⟩ := h; have := ih h4; simp; omega

/-- The formula at cells cs, of a depth, in blocks that are well, prints as t. -/
def FRep : Nat → World → (Nat → Prop) → List Value → Txt → Prop
  | 0, _, _, _, _ => False
  | d + 1, w, ok, cs, t =>
    (∃ x y z : Nat, x ≤ 9 ∧ y ≤ 3 ∧ z ≤ 9 ∧ cs = [.int .i64 4, .slice none 0 0, .int .i64 (x : Nat), .int .i64 (y : Nat), .int .i64 0, .int .i64 (z : Nat)] ∧ t = regT x y z) ∨
    (∃ y z : Nat, y ≤ 3 ∧ z ≤ 9 ∧ cs = [.int .i64 5, .slice none 0 0, .int .i64 0, .int .i64 0, .int .i64 (y : Nat), .int .i64 (z : Nat)] ∧ t = plcT y z) ∨
    (∃ (n0 : Int) (g c : Nat) (ts : List Txt) (xs : List Value), 0 ≤ n0 ∧ n0 ≤ 3 ∧ ts ≠ [] ∧ ts.length ≤ 401 ∧ cs = [.int .i64 n0, .slice (some ⟨g, 0, none⟩) ts.length c, .int .i64 0, .int .i64 0, .int .i64 0, .int .i64 0] ∧ t = shapeT n0 ts ∧ ok g ∧
      (∀ (o : Nat) (v : Value), xs[o]? = some v → w.cell? ⟨g, o, none⟩ = some v) ∧ Kids (fun c u => FRep d w ok c u) xs ts)
theorem cell_same {w w' : World} {g : Nat} (h : w'.heap[g]? = w.heap[g]?) (o : Nat) : w'.cell? ⟨g, o, none⟩ = w.cell? ⟨g, o, none⟩ := by simp [World.cell?, h]
theorem FRep.mono : ∀ {d : Nat} {w w' : World} {ok ok' : Nat → Prop} {cs : List Value} {t : Txt}, FRep d w ok cs t → (∀ g, ok g → ok' g) → (∀ g, ok g → w'.heap[g]? = w.heap[g]?) → FRep d w' ok' cs t := by
  intro d
  induction d with
  | zero => intro w w' ok ok' cs t h; exact h.elim
  | succ d ih =>
    intro w w' ok ok' cs t h h1 h2
    rcases h with h | h | ⟨n0, g, c, ts, xs, a1, a2, a3, a4, a5, a6, hg, hc, hk⟩
    · exact Or.inl h
    · exact Or.inr (Or.inl h)
    · exact Or.inr (Or.inr ⟨n0, g, c, ts, xs, a1, a2, a3, a4, a5, a6, h1 g hg, fun o v ho => (cell_same (h2 g hg) o).trans (hc o v ho), Kids.mono (fun c u hu => ih hu h1 h2) hk⟩)
theorem FRep.up : ∀ {d e : Nat} {w : World} {ok : Nat → Prop} {cs : List Value} {t : Txt}, FRep d w ok cs t → d ≤ e → FRep e w ok cs t := by
  intro d
  induction d with
  | zero => intro e w ok cs t h; exact h.elim
  | succ d ih =>
    intro e w ok cs t h he
    obtain ⟨m, rfl⟩ : ∃ m, e = m + 1 := ⟨e - 1, by omega⟩
    rcases h with h | h | ⟨n0, g, c, ts, xs, a1, a2, a3, a4, a5, a6, hg, hc, hk⟩
    · exact Or.inl h
    · exact Or.inr (Or.inl h)
    · exact Or.inr (Or.inr ⟨n0, g, c, ts, xs, a1, a2, a3, a4, a5, a6, hg, hc, Kids.mono (fun c u hu => ih hu (by omega)) hk⟩)
/-- Blocks that a call has made. -/
def newB (w w' : World) (g : Nat) : Prop := w.heap.size ≤ g ∧ g < w'.heap.size
theorem FRep.reg {w : World} {ok : Nat → Prop} (x y z : Nat) (hx : x ≤ 9) (hy : y ≤ 3) (hz : z ≤ 9) : FRep 1 w ok [.int .i64 4, .slice none 0 0, .int .i64 (x : Nat), .int .i64 (y : Nat), .int .i64 0, .int .i64 (z : Nat)] (regT x y z) := Or.inl ⟨x, y, z, hx, hy, hz, rfl, rfl⟩
theorem FRep.plc {w : World} {ok : Nat → Prop} (y z : Nat) (hy : y ≤ 3) (hz : z ≤ 9) : FRep 1 w ok [.int .i64 5, .slice none 0 0, .int .i64 0, .int .i64 0, .int .i64 (y : Nat), .int .i64 (z : Nat)] (plcT y z) := Or.inr (Or.inl ⟨y, z, hy, hz, rfl, rfl⟩)
/-- Behind a call that wrote into an older block alone. -/
theorem FRep.later {d : Nat} {w0 w w' : World} {row : Option Nat} {cs : List Value} {t : Txt} (h : FRep d w (newB w0 w) cs t) (hg : w.grownBy w' row) (hr : ∀ g, row = some g → g < w0.heap.size) : FRep d w' (newB w0 w') cs t :=
  h.mono (fun g hk => ⟨hk.1, Nat.lt_of_lt_of_le hk.2 hg.size⟩) (fun g hk => hg.block g hk.2 (fun e => by have := hr g e.symm; have := hk.1; omega))

/-- Where the parts of a formula that is being read may lie: behind the call's own result, not in the row, not in the formula's own block. -/
def okK (w wr : World) (g C x : Nat) : Prop := w.heap.size < x ∧ x < wr.heap.size ∧ x ≠ g ∧ x ≠ C
structure KP (w wr : World) (g C n : Nat) (xs : List Value) (s : ByteArray) (i j : Nat) (bt : Int) : Prop where
  ex : ∃ (d : Nat) (ts : List Txt), Kids (fun c u => FRep d wr (okK w wr g C) c u) xs ts ∧ ts.length = n ∧ ts ≠ [] ∧ Ren s i j (joinT (wT bt) ts)
theorem KP.grow {w wr w' : World} {g C n : Nat} {xs : List Value} {s : ByteArray} {i j : Nat} {bt : Int} {row : Option Nat} (h : KP w wr g C n xs s i j bt) (hg : wr.grownBy w' row) (hr : ∀ x, row = some x → ¬ okK w wr g C x) : KP w w' g C n xs s i j bt := by
  obtain ⟨d, ts, h1, h2, h3, h4⟩ := h.ex
  exact ⟨d, ts, Kids.mono (fun c u hu => hu.mono (fun x hx => ⟨hx.1, Nat.lt_of_lt_of_le hx.2.1 hg.size, hx.2.2⟩) (fun x hx => hg.block x hx.2.1 (fun e => hr x e.symm hx))) h1, h2, h3, h4⟩
/-- A part more: the row is g' now. -/
theorem KP.push {w w3 w4 : World} {g g' C n d2 : Nat} {xs c : List Value} {s : ByteArray} {i j k : Nat} {bt : Int} {u : Txt} {ok2 : Nat → Prop} (h : KP w w3 g C n xs s i j bt) (hbt : bt = 12 ∨ bt = 13) (hk : ((tk s j).kind : Int) = bt) (hc : c.length = 6) (h2 : FRep d2 w3 ok2 c u) (hR : Ren s (tk s j).end_ k u)
    (ho : ∀ x, ok2 x → okK w w3 g C x) (hsz : w3.heap.size ≤ w4.heap.size) (hb : ∀ x, okK w w3 g C x → w4.heap[x]? = w3.heap[x]?) (hg' : g' = g ∨ w3.heap.size ≤ g') : KP w w4 g' C (n + 1) (xs ++ c) s i k bt := by
  obtain ⟨d, ts, h1, h3, h4, h5⟩ := h.ex
  have hok : ∀ x, okK w w3 g C x → okK w w4 g' C x := by
    intro x hx
    have h6 := hx.2.1
    refine ⟨hx.1, by omega, ?_, hx.2.2.2⟩
    rcases hg' with rfl | e
    · exact hx.2.2.1
    · omega
  refine ⟨max d d2, ts ++ [u], ?_, by simp [h3], by simp, ?_⟩
  · exact Kids.snoc hc ((h2.mono (fun x hx => hok x (ho x hx)) (fun x hx => hb x (ho x hx))).up (Nat.le_max_right _ _)) (Kids.mono (fun c u hu => (hu.mono hok hb).up (Nat.le_max_left _ _)) h1)
  · rw [joinT_snoc _ _ _ h4]; exact h5.more hbt hk hR
theorem KP.done {w wr w' : World} {g C n cap : Nat} {xs : List Value} {s : ByteArray} {i j : Nat} {bt sh : Int} (h : KP w wr g C n xs s i j bt) (hs : bt = 12 ∧ sh = 1 ∨ bt = 13 ∧ sh = 0) (hn : n ≤ 401) (hg : w.heap.size ≤ g ∧ g < w'.heap.size) (hsz : wr.heap.size ≤ w'.heap.size) (hcell : ∀ (o : Nat) (v : Value), xs[o]? = some v → w'.cell? ⟨g, o, none⟩ = some v) (hb : ∀ x, okK w wr g C x → w'.heap[x]? = wr.heap[x]?) :
    ∃ d t, FRep d w' (newB w w') [.int .i64 sh, .slice (some ⟨g, 0, none⟩) n cap, .int .i64 0, .int .i64 0, .int .i64 0, .int .i64 0] t ∧ Ren s i j t := by
  obtain ⟨d, ts, h1, h3, h4, h5⟩ := h.ex
  subst h3
  refine ⟨d + 1, shapeT sh ts, Or.inr (Or.inr ⟨sh, g, cap, ts, xs, ?_, ?_, h4, hn, rfl, rfl, hg, hcell, ?_⟩), by rw [shape_word hs]; exact h5⟩
  · omega
  · omega
  · exact Kids.mono (fun c u hu => hu.mono (fun x hx => ⟨by have := hx.1; omega, by have := hx.2.1; omega⟩) hb) h1
end Go.Proofs.YtmpaeladhoomoaaGreatDoor
