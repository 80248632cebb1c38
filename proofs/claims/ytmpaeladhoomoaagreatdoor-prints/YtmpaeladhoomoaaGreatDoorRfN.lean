/-
  The document's answer: the frame of Load's walk.
-/
import Derived.Test.YtmpaeladhoomoaaGreatDoorRfM
import Derived.Test.YtmpaeladhoomoaaGreatDoorEqG
namespace Go.Proofs.YtmpaeladhoomoaaGreatDoor
open Go.RowKit

theorem infoRStep : (Tryz.prog.info? 209).map (fun i => (i.zero, i.size, i.bytes)) = some (some (.agg #[.int .u8 0, .int .i64 0, .int .i64 0, .int .i64 0, .int .i64 0, .int .i64 0]), 6, 48) := by kernel_rfl
theorem infoRow : (Tryz.prog.info? 207).map (fun i => (i.zero, i.size, i.bytes)) = some (some (.slice none 0 0), 1, 24) := by kernel_rfl

def rsC (x : RSt) : List Value := [.int .u8 (x.kind : Nat), .int .i64 (x.reg : Nat), .int .i64 (x.place : Nat), .int .i64 (x.n : Nat), .int .i64 (x.skip : Nat), .int .i64 (x.at_ : Nat)]
def rsF (l : List RSt) : List Value := l.flatMap rsC
theorem rsF_snoc (l : List RSt) (x : RSt) : rsF l ++ rsC x = rsF (l ++ [x]) := by simp [rsF]
theorem rsF_get : ∀ (l : List RSt) (i o : Nat) (x : RSt), l[i]? = some x → o < 6 → (rsF l)[i * 6 + o]? = (rsC x)[o]? := by
  intro l
  induction l with
  | nil => intro i o x h; simp at h
  | cons y r ih =>
    intro i o x h ho
    have hl : (rsC y).length = 6 := rfl
    cases i with
    | zero =>
      simp at h
      subst h
      show (rsC y ++ rsF r)[0 * 6 + o]? = _
      rw [List.getElem?_append_left (by rw [hl]; omega)]
      simp
    | succ i =>
      simp at h
      show (rsC y ++ rsF r)[(i + 1) * 6 + o]? = _
      rw [List.getElem?_append_right (by rw [hl]; omega), hl, show (i + 1) * 6 + o - 6 = i * 6 + o from by omega]
      exact ih i o x h ho

/-- A row that is neither the parser's nor the tokens' stays through a call. -/
theorem own_fr {w w' : World} {B e size n b : Nat} {tv tv' u : Value} {xs : List Value} (h : w.ownsRow B e size u n xs) (hb : b < B) (ha : Apart tv u) (hf : FR b tv w tv' w') : w'.ownsRow B e size u n xs := by
  refine ⟨h.1, ?_⟩
  rcases h.2 with hn | ⟨g, cap, cur, rfl, hB, hg, rest⟩
  · exact .inl hn
  · exact .inr ⟨g, cap, cur, rfl, hB, hf.heap hg (by omega) (fun e => ha g e rfl), rest⟩
theorem apart_fr {w w' : World} {B e size n b : Nat} {tv tv' u : Value} {xs : List Value} (h : w.ownsRow B e size u n xs) (ha : Apart tv u) (hf : FR b tv w tv' w') : Apart tv' u := by
  intro k h1 h2
  have hlt := (h.lt k h2).2
  exact hf.apart hlt (fun e => ha k e h2) h1
/-- What turned a new row alone. -/
theorem FR.row_new {b : Nat} {tv tv' : Value} {w w' w'' : World} {row : Option Nat} (h : FR b tv w tv' w') (hg : w'.grownBy w'' row) (hr : ∀ g, row = some g → w.heap.size ≤ g) : FR b tv w tv' w'' :=
  ⟨hg.os.trans h.os, hg.tape.trans h.tape, hg.output.trans h.output, Nat.le_trans h.size hg.size,
   fun k hk hb ht => (hg.block k (Nat.lt_of_lt_of_le hk h.size) (fun e => by have := hr k e.symm; omega)).trans (h.block k hk hb ht), h.row⟩
theorem QAt.row {w w' : World} {b : Nat} {s : ByteArray} {q : Q} {tv : Value} {row : Option Nat} (h : QAt w b s q tv) (hg : w.grownBy w' row) (hb : some b ≠ row) (ht : ∀ g, row = some g → tv.ownBlock ≠ some g) : QAt w' b s q tv := by
  refine ⟨heap_gb hg h.blk hb, h.toks.kept hg ?_, h.ssz, h.jsz, h.nsz, h.blo, h.bhi, h.olo, h.ohi, h.tks⟩
  cases hv : tv.ownBlock with
  | none => exact Or.inl rfl
  | some k => right; intro e; exact ht k e.symm hv

/-- The threads as they lie: each in its row. -/
def ThR (w : World) (ok : Nat → Prop) (t : List (List RSt)) (xs : List Value) : Prop :=
  xs.length = t.length ∧ ∀ (i : Nat) (l : List RSt), t[i]? = some l → ∃ g cap, xs[i]? = some (Value.slice (some ⟨g, 0, none⟩) l.length cap) ∧ ok g ∧ l.length ≤ 9 ∧ ∀ (o : Nat) (v : Value), (rsF l)[o]? = some v → w.cell? ⟨g, o, none⟩ = some v
theorem ThR.nil (w : World) (ok : Nat → Prop) : ThR w ok [] [] := ⟨rfl, fun i l h => by simp at h⟩
theorem ThR.mono {w w' : World} {ok ok' : Nat → Prop} {t : List (List RSt)} {xs : List Value} (h : ThR w ok t xs) (h1 : ∀ g, ok g → ok' g ∧ w'.heap[g]? = w.heap[g]?) : ThR w' ok' t xs := by
  refine ⟨h.1, fun i l hl => ?_⟩
  obtain ⟨g, cap, a1, a2, a3, a4⟩ := h.2 i l hl
  refine ⟨g, cap, a1, (h1 g a2).1, a3, fun o v ho => ?_⟩
  have := a4 o v ho
  unfold World.cell? at this ⊢
  rw [(h1 g a2).2]
  exact this
theorem ThR.snoc {w : World} {ok : Nat → Prop} {t : List (List RSt)} {xs : List Value} {l : List RSt} {g cap : Nat} (h : ThR w ok t xs) (hg : ok g) (hc : l.length ≤ 9) (hx : ∀ (o : Nat) (v : Value), (rsF l)[o]? = some v → w.cell? ⟨g, o, none⟩ = some v) : ThR w ok (t ++ [l]) (xs ++ [Value.slice (some ⟨g, 0, none⟩) l.length cap]) := by
  refine ⟨by simp [h.1], fun i l' hl => ?_⟩
  by_cases hi : i < t.length
  · rw [List.getElem?_append_left hi] at hl
    obtain ⟨g', cap', a1, a2, a3, a4⟩ := h.2 i l' hl
    exact ⟨g', cap', by rw [List.getElem?_append_left (by rw [h.1]; exact hi)]; exact a1, a2, a3, a4⟩
  · rw [List.getElem?_append_right (by omega)] at hl
    have hi2 : i - t.length = 0 := by
      by_cases h0 : i - t.length = 0
      · exact h0
      · rw [List.getElem?_eq_none (by simp; omega)] at hl; simp at hl
    rw [hi2] at hl
    simp at hl
    subst hl
    exact ⟨g, cap, by rw [List.getElem?_append_right (by rw [h.1]; omega), h.1, hi2]; rfl, hg, hc, hx⟩
end Go.Proofs.YtmpaeladhoomoaaGreatDoor
