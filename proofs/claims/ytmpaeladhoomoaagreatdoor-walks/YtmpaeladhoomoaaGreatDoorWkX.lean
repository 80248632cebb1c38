/-
  The document's machine: the states behind all moves, plainly and in memory.
  Plain: the document's moves and outcomes beside the program's.
  Plain: which places a formula names, by both readers.
  The document's machine: an outcome's text, walked.
-/
import Derived.Test.YtmpaeladhoomoaaGreatDoorPmX
import Derived.Test.YtmpaeladhoomoaaGreatDoorWkW
import Derived.Test.YtmpaeladhoomoaaGreatDoorEqX
import Derived.Test.YtmpaeladhoomoaaGreatDoorPwX
import Derived.Test.YtmpaeladhoomoaaGreatDoorPmW
import Derived.Test.YtmpaeladhoomoaaGreatDoorPmV
namespace Go.Proofs.YtmpaeladhoomoaaGreatDoor
open Go.RowKit

theorem infoStateR : (Tryz.prog.info? 153).map (fun i => (i.zero, i.size, i.bytes)) = some (some (.agg #[.slice none 0 0, .int .i64 0, .int .i64 0, .int .i64 0, .int .i64 0]), 5, 56) := by kernel_rfl

/-- The states that come of a thread's stores that wait, by their places. -/
def psoS (s : WSt) (i : Nat) (t : WTh) (n : Nat) : List WSt := (List.range n).flatMap fun p => match oldW p 0 t.wait with
  | none => []
  | some k => [flushP s i k t (t.wait.getD k (0, 0))]
def doneS (model : Nat) (s : WSt) (i : Nat) (l : List RSt) (t : WTh) : List WSt := match canP l t with
  | none => []
  | some x => [stepP model s i t x]
def tsoS (model : Nat) (s : WSt) (i : Nat) (t : WTh) : List WSt := if model = 2 ∧ 0 < t.wait.length then [flushP s i 0 t (t.wait.getD 0 (0, 0))] else []
def mvS (model : Nat) (s : WSt) (i : Nat) (l : List RSt) (t : WTh) : List WSt := doneS model s i l t ++ tsoS model s i t ++ (if model = 3 then psoS s i t 4 else [])
def movesS (model : Nat) (tt : List (List RSt)) (s : WSt) (n : Nat) : List WSt := (List.range n).flatMap fun i => mvS model s i (tt.getD i []) (thW s i)
theorem movesS_succ (model : Nat) (tt : List (List RSt)) (s : WSt) (n : Nat) (l : List RSt) (t : WTh) (hl : tt[n]? = some l) (ht : s.ths[n]? = some t) : movesS model tt s (n + 1) = movesS model tt s n ++ mvS model s n l t := by
  unfold movesS
  rw [List.range_succ, List.flatMap_append]
  simp [thW, List.getD_eq_getElem?_getD, hl, ht]
theorem psoS_succ (s : WSt) (i : Nat) (t : WTh) (n : Nat) : psoS s i t (n + 1) = psoS s i t n ++ (match oldW n 0 t.wait with | none => [] | some k => [flushP s i k t (t.wait.getD k (0, 0))]) := by
  unfold psoS
  rw [List.range_succ, List.flatMap_append]
  simp
theorem oldP_eq (p : Nat) : ∀ (l : List (Nat × Nat)) (k : Nat), oldP p k l = match oldW p k l with | none => -1 | some j => (j : Int) := by
  intro l
  induction l with
  | nil => intro k; rfl
  | cons x r ih =>
    intro k
    unfold oldP oldW
    split
    · rfl
    · exact ih (k + 1)
theorem oldW_get (p : Nat) : ∀ (l : List (Nat × Nat)) (k j : Nat), oldW p k l = some j → k ≤ j ∧ ∃ x, l[j - k]? = some x := by
  intro l
  induction l with
  | nil => intro k j h; simp [oldW] at h
  | cons x r ih =>
    intro k j h
    unfold oldW at h
    split at h
    · simp at h
      subst h
      exact ⟨Nat.le_refl _, x, by simp⟩
    · obtain ⟨h1, y, h2⟩ := ih (k + 1) j h
      refine ⟨by omega, y, ?_⟩
      rw [show j - k = (j - (k + 1)) + 1 by omega]
      simpa using h2

def ssF (ss : List WSt) (vs : List Value) : List Value := (ss.zip vs).flatMap fun p => (memC p.2 p.1).toList
theorem ssF_snoc (ss : List WSt) (vs : List Value) (s : WSt) (u : Value) (h : vs.length = ss.length) : ssF (ss ++ [s]) (vs ++ [u]) = ssF ss vs ++ (memC u s).toList := by
  unfold ssF
  rw [List.zip_append h.symm]
  simp
theorem ssF_get : ∀ (ss : List WSt) (vs : List Value) (i o : Nat) (s : WSt) (u : Value), ss[i]? = some s → vs[i]? = some u → o < 5 → (ssF ss vs)[i * 5 + o]? = (memC u s)[o]? := by
  intro ss
  induction ss with
  | nil => intro vs i o s u h; simp at h
  | cons y r ih =>
    intro vs i o s u h hu ho
    cases vs with
    | nil => simp at hu
    | cons z vs =>
      have hl : (memC z y).toList.length = 5 := rfl
      cases i with
      | zero =>
        simp at h hu
        subst h hu
        show ((memC z y).toList ++ ssF r vs)[0 * 5 + o]? = _
        rw [List.getElem?_append_left (by rw [hl]; omega)]
        simp
      | succ i =>
        simp at h hu
        show ((memC z y).toList ++ ssF r vs)[(i + 1) * 5 + o]? = _
        rw [List.getElem?_append_right (by rw [hl]; omega), hl, show (i + 1) * 5 + o - 5 = i * 5 + o from by omega]
        exact ih vs i o s u h hu ho
theorem ThsAt.growX {w w' : World} {ok : Nat → Prop} {v : Value} {ts : List WTh} (h : ThsAt w ok v ts) (hk : ∀ g, g < w.heap.size → ok g → w'.heap[g]? = w.heap[g]?) : ThsAt w' (fun g => ok g ∧ g < w.heap.size) v ts := by
  obtain ⟨ta, c, e, h⟩ := h
  refine ⟨ta, c, e, fun i t ht => ?_⟩
  obtain ⟨h0, g, wv, a1, a2, a3, a4, a5, wa, wc, a6, a7, a8⟩ := h i t ht
  have hg := World.block_lt_of_cell? w ⟨g, i * 6, none⟩ a3
  refine ⟨h0, g, wv, a1, ⟨a2, hg⟩, (cell_same (hk g hg a2) _).trans a3, fun k n hn => (cell_same (hk g hg a2) _).trans (a4 k n hn), (cell_same (hk g hg a2) _).trans a5, wa, wc, a6, a7, fun j x hx => ?_⟩
  obtain ⟨g2, b1, b2, b3, b4⟩ := a8 j x hx
  have hg2 := World.block_lt_of_cell? w ⟨g2, j * 2, none⟩ b3
  exact ⟨g2, b1, ⟨b2, hg2⟩, (cell_same (hk g2 hg2 b2) _).trans b3, (cell_same (hk g2 hg2 b2) _).trans b4⟩
theorem ThsAt.weak {w : World} {ok ok' : Nat → Prop} {v : Value} {ts : List WTh} (h : ThsAt w ok v ts) (hk : ∀ g, ok g → ok' g) : ThsAt w ok' v ts := by
  obtain ⟨ta, c, e, h⟩ := h
  refine ⟨ta, c, e, fun i t ht => ?_⟩
  obtain ⟨h0, g, wv, a1, a2, a3, a4, a5, wa, wc, a6, a7, a8⟩ := h i t ht
  refine ⟨h0, g, wv, a1, hk g a2, a3, a4, a5, wa, wc, a6, a7, fun j x hx => ?_⟩
  obtain ⟨g2, b1, b2, b3, b4⟩ := a8 j x hx
  exact ⟨g2, b1, hk g2 b2, b3, b4⟩

/-- States in a row of one's own, each with its threads. -/
structure MvS (W : World) (B : Nat) (v : Value) (ss : List WSt) (vs : List Value) : Prop where
  len : vs.length = ss.length
  row : W.ownsRow B 153 5 v ss.length (ssF ss vs)
  ths : ∀ (i : Nat) (s : WSt) (u : Value), ss[i]? = some s → vs[i]? = some u → ThsAt W (fun g => B ≤ g ∧ v.ownBlock ≠ some g) u s.ths
theorem MvS.nil (W : World) (B : Nat) : MvS W B (.slice none 0 0) [] [] := ⟨rfl, World.ownsRow_nil _ _ _ _, fun i s u h => by simp at h⟩
theorem MvS.grow {W W' : World} {B : Nat} {v : Value} {ss : List WSt} {vs : List Value} (h : MvS W B v ss vs) (hg : W.grownBy W' none) : MvS W' B v ss vs :=
  ⟨h.len, own_at h.row (fun k hk => hg.block k (h.row.lt k hk).2 (by simp)), fun i s u hs hu => ((h.ths i s u hs hu).growX (fun g hg2 _ => hg.block g hg2 (by simp))).weak (fun _ h => h.1)⟩
theorem MvS.push {W W1 W2 W3 : World} {B : Nat} {v v3 u : Value} {ss : List WSt} {vs : List Value} {s : WSt} (h : MvS W B v ss vs) (hB : B ≤ W.heap.size) (g1 : W.grownBy W1 none) (hs : ThsAt W1 (newB W W1) u s.ths) (g2 : W1.grownBy W2 none) (g3 : W2.grownBy W3 v.ownBlock)
    (own3 : W3.ownsRow B 153 5 v3 (ss.length + 1) (ssF ss vs ++ (memC u s).toList)) (hat : v3.ownBlock = v.ownBlock ∨ v3.ownBlock = some W2.heap.size) : MvS W3 B v3 (ss ++ [s]) (vs ++ [u]) := by
  have hs2 := g2.size
  have hs1 := g1.size
  have hnew : ∀ g, g < W2.heap.size → v.ownBlock ≠ some g → v3.ownBlock ≠ some g := fun g hg hn e => by
    rcases hat with a | a
    · exact hn (by rw [← a]; exact e)
    · rw [a] at e; simp at e; omega
  have hthr : ∀ (u : Value) (ts : List WTh), ThsAt W1 (fun g => B ≤ g ∧ v.ownBlock ≠ some g) u ts → ThsAt W3 (fun g => B ≤ g ∧ v3.ownBlock ≠ some g) u ts := fun u ts hu => by
    have a1 := hu.growX (w' := W2) (fun g hg _ => g2.block g hg (by simp))
    have a2 := a1.growX (w' := W3) (fun g hg hh => g3.block g hg (fun e => hh.1.2 e.symm))
    exact a2.weak (fun g hh => ⟨hh.1.1.1, hnew g hh.2 hh.1.1.2⟩)
  have h1 := h.grow g1
  refine ⟨by simp [h.len], ?_, fun i s' u' hs' hu' => ?_⟩
  · rw [ssF_snoc _ _ _ _ h.len, List.length_append]
    exact own3
  · by_cases hi : i < ss.length
    · rw [List.getElem?_append_left hi] at hs'
      rw [List.getElem?_append_left (by rw [h.len]; exact hi)] at hu'
      exact hthr u' _ (h1.ths i s' u' hs' hu')
    · have hi2 := (List.getElem?_eq_some_iff.1 hs').1
      simp at hi2
      obtain rfl : i = ss.length := by omega
      rw [List.getElem?_append_right (Nat.le_refl _)] at hs'
      rw [List.getElem?_append_right (by rw [h.len]; exact Nat.le_refl _), h.len] at hu'
      simp at hs' hu'
      subst hs' hu'
      refine hthr _ _ (hs.weak (fun g hh => ⟨Nat.le_trans hB hh.1, fun e => ?_⟩))
      have := (h.row.lt g e).2
      have := hh.1
      omega
theorem RThs.grow {w w' : World} {T : Nat} {tt : List (List RSt)} (h : RThs w T tt) (hg : w.grownBy w' none) : RThs w' T tt := by
  obtain ⟨ta, cap, xs, c0, hxs, h1, h2⟩ := h
  refine ⟨ta, cap, xs, gb_cell hg c0 (by simp), fun i v hv => ?_, h1, fun i l hl => ?_⟩
  · obtain ⟨g, e, hc⟩ := hxs i v hv
    exact ⟨g, e, gb_cell hg hc (by simp)⟩
  · obtain ⟨g, cap, a1, a2, a3, a4⟩ := h2 i l hl
    exact ⟨g, cap, a1, a2, a3, fun o v ho => gb_cell hg (a4 o v ho) (by simp)⟩
theorem memC_one (v : Value) (hv : v.oneCell' = true) (s : WSt) : ∀ u ∈ (memC v s).toList, u.oneCell' = true := by
  intro u hu
  simp [memC] at hu
  rcases hu with rfl | rfl | rfl | rfl | rfl
  · exact hv
  all_goals rfl
theorem ThsAt.one {w : World} {ok : Nat → Prop} {v : Value} {ts : List WTh} (h : ThsAt w ok v ts) : v.oneCell' = true := by
  obtain ⟨ta, c, rfl, _⟩ := h
  rfl
end Go.Proofs.YtmpaeladhoomoaaGreatDoor

namespace Go.Proofs.YtmpaeladhoomoaaGreatDoor
open Go.RowKit

theorem AllF.get : ∀ {l : List RSt} {r : List St}, AllF l r → ∀ (i : Nat) (x : St), r[i]? = some x → ∃ y, l[i]? = some y ∧ OneF y x
  | [], [], _, i, x, h => by simp at h
  | y :: l, x :: r, ha, 0, z, h => by
    simp at h
    subst h
    exact ⟨y, rfl, ha.1⟩
  | y :: l, x :: r, ha, i + 1, z, h => by
    simp at h
    obtain ⟨u, h1, h2⟩ := AllF.get ha.2 i z h
    exact ⟨u, by simpa using h1, h2⟩
  | [], _ :: _, h, _, _, _ => h.elim
  | _ :: _, [], h, _, _, _ => h.elim
theorem AllT.len : ∀ {l : List (List RSt)} {r : List (List St)}, AllT l r → l.length = r.length
  | [], [], _ => rfl
  | _ :: _, _ :: _, h => by simp [AllT.len h.2]
  | [], _ :: _, h => h.elim
  | _ :: _, [], h => h.elim
theorem AllT.get : ∀ {l : List (List RSt)} {r : List (List St)}, AllT l r → ∀ (i : Nat) (x : List St), r[i]? = some x → ∃ y, l[i]? = some y ∧ AllF y x
  | [], [], _, i, x, h => by simp at h
  | y :: l, x :: r, ha, 0, z, h => by
    simp at h
    subst h
    exact ⟨y, rfl, ha.1⟩
  | y :: l, x :: r, ha, i + 1, z, h => by
    simp at h
    obtain ⟨u, h1, h2⟩ := AllT.get ha.2 i z h
    exact ⟨u, by simpa using h1, h2⟩
  | [], _ :: _, h, _, _, _ => h.elim
  | _ :: _, [], h, _, _, _ => h.elim
theorem kinds {y : RSt} {x : St} (h : OneF y x) (hk : x.kind ≤ 6) : (y.kind = 115 ↔ x.kind = 0) ∧ (y.kind = 83 ↔ x.kind = 1) ∧ (y.kind = 108 ↔ x.kind = 2) ∧ (y.kind = 107 ↔ x.kind = 3) ∧ (y.kind = 120 ↔ x.kind = 4) ∧ (y.kind = 102 ↔ x.kind = 5) ∧ (y.kind = 106 ↔ x.kind = 6) := by
  have h1 := h.1
  have : x.kind = 0 ∨ x.kind = 1 ∨ x.kind = 2 ∨ x.kind = 3 ∨ x.kind = 4 ∨ x.kind = 5 ∨ x.kind = 6 := by omega
  rcases this with e | e | e | e | e | e | e <;> rw [e] at h1 <;> simp [letter] at h1 <;> omega
theorem step_same {y : RSt} {x : St} (h : OneF y x) (hk : x.kind ≤ 6) (model : Nat) (s : WSt) (i : Nat) (t : WTh) : stepP model s i t y = stepW model s i t x := by
  obtain ⟨k1, k2, k3, k4, k5, k6, k7⟩ := kinds h hk
  obtain ⟨_, e1, e2, e3, e4⟩ := h
  unfold stepP stepW
  simp only [k1, k2, k3, k4, k5, k7, e1, e2, e3, e4]
theorem can_same {l : List RSt} {r : List St} (h : AllF l r) (hk : ∀ x ∈ r, x.kind ≤ 6) (model : Nat) (s : WSt) (i : Nat) (t : WTh) : doneS model s i l t = if canW r t = true then [stepW model s i t (r.getD t.next ⟨0, 0, 0, 0, 0⟩)] else [] := by
  cases hx : r[t.next]? with
  | none =>
    have hl : l[t.next]? = none := by
      rw [List.getElem?_eq_none_iff] at hx ⊢
      rw [h.len]; exact hx
    simp [doneS, canP, canW, hl, hx]
  | some x =>
    obtain ⟨y, hy, hf⟩ := h.get t.next x hx
    obtain ⟨k1, k2, k3, k4, k5, k6, k7⟩ := kinds hf (hk x (List.mem_of_getElem? hx))
    have e1 := step_same hf (hk x (List.mem_of_getElem? hx)) model s i t
    have e2 : r.getD t.next ⟨0, 0, 0, 0, 0⟩ = x := by simp [List.getD_eq_getElem?_getD, hx]
    rw [e2, ← e1]
    by_cases h1 : (x.kind = 5 ∨ x.kind = 4) ∧ 0 < t.wait.length
    · have c1 : canP l t = none := by
        unfold canP
        rw [hy]
        simp only
        rw [if_pos (by rw [k5, k6]; exact h1)]
      have c2 : canW r t = false := by
        unfold canW
        rw [hx]
        simp only
        rw [if_pos (h1.1.symm)]
        exact decide_eq_false (by have := h1.2; omega)
      unfold doneS
      rw [c1, c2]
      rfl
    · have c1 : canP l t = some y := by
        unfold canP
        rw [hy]
        simp only
        rw [if_neg (by rw [k5, k6]; exact h1)]
      have c2 : canW r t = true := by
        unfold canW
        rw [hx]
        simp only
        by_cases h2 : x.kind = 4 ∨ x.kind = 5
        · rw [if_pos h2]
          refine decide_eq_true ?_
          by_cases h3 : 0 < t.wait.length
          · exact (h1 ⟨h2.symm, h3⟩).elim
          · omega
        · rw [if_neg h2]
      unfold doneS
      rw [c1, c2]
      rfl
theorem mv_same {l : List RSt} {r : List St} (h : AllF l r) (hk : ∀ x ∈ r, x.kind ≤ 6) (model : Nat) (hm : model = 1 ∨ model = 2 ∨ model = 3) (ls : List (List St)) (s : WSt) (i : Nat) (t : WTh) (hr : ls.getD i [] = r) (ht : thW s i = t) (hw : model = 1 → t.wait = []) : mvS model s i l t = (mvW model i r t).map (afterW model ls s) := by
  unfold mvS mvW
  rw [List.map_append, can_same h hk, List.append_assoc]
  congr 1
  · split
    · rw [List.map_cons, List.map_nil]
      show _ = [stepW model s i (thW s i) ((ls.getD i []).getD (thW s i).next ⟨0, 0, 0, 0, 0⟩)]
      rw [ht, hr]
    · rfl
  · have hz : ∀ k, afterW model ls s (i, some k) = flushP s i k t (t.wait.getD k (0, 0)) := fun k => by simp only [afterW, ht]
    rw [List.map_map]
    have hz2 : (afterW model ls s ∘ fun a => (i, some a)) = fun k => flushP s i k t (t.wait.getD k (0, 0)) := by funext k; exact hz k
    rw [hz2]
    unfold ripeW tsoS
    rcases hm with rfl | rfl | rfl
    · rw [hw rfl]; simp
    · by_cases h0 : t.wait.length = 0
      · rw [if_pos h0, if_neg (by omega)]; rfl
      · rw [if_neg h0, if_pos (by omega)]; simp
    · rw [if_neg (by omega), if_pos rfl, List.nil_append]
      by_cases h0 : t.wait.length = 0
      · rw [if_pos h0]
        have : t.wait = [] := List.eq_nil_of_length_eq_zero h0
        simp [psoS, this, oldW]
      · rw [if_neg h0, if_pos rfl]
        unfold psoS
        generalize List.range 4 = ps
        induction ps with
        | nil => rfl
        | cons p ps ih =>
          rw [List.flatMap_cons, ih, List.filterMap_cons]
          cases oldW p 0 t.wait <;> rfl
theorem flatMap_map {α β γ : Type} (f : α → List β) (g : β → γ) : ∀ l : List α, (l.flatMap f).map g = l.flatMap fun a => (f a).map g
  | [] => rfl
  | a :: r => by rw [List.flatMap_cons, List.map_append, flatMap_map f g r, List.flatMap_cons]
/-- The document's states behind all moves are the program's. -/
theorem moves_same {model : Nat} (hm : model = 1 ∨ model = 2 ∨ model = 3) {tt : List (List RSt)} {ls : List (List St)} (ha : AllT tt ls) (ho : LsOk ls) {s : WSt} (hs : WOk model ls s) : movesS model tt s tt.length = (movesW model ls s).map (afterW model ls s) := by
  unfold movesS movesW
  rw [flatMap_map, ha.len]
  apply flat_congr
  intro i hi
  have hi' : i < ls.length := by simpa using hi
  obtain ⟨r, hr⟩ : ∃ r, ls[i]? = some r := ⟨ls[i], List.getElem?_eq_getElem hi'⟩
  obtain ⟨l, hl, hf⟩ := ha.get i r hr
  have e1 : tt.getD i [] = l := by simp [List.getD_eq_getElem?_getD, hl]
  have e2 : ls.getD i [] = r := by simp [List.getD_eq_getElem?_getD, hr]
  obtain ⟨t, ht⟩ : ∃ t, s.ths[i]? = some t := ⟨s.ths[i]'(by rw [hs.len]; exact hi'), List.getElem?_eq_getElem (by rw [hs.len]; exact hi')⟩
  have e3 : thW s i = t := by simp [thW, List.getD_eq_getElem?_getD, ht]
  rw [e1, e2, e3]
  exact mv_same hf (fun x hx => (ho.st r (List.mem_of_getElem? hr) x hx).1) model hm ls s i t e2 e3 (hs.th i t ht).2.2.2.1

/-- Which registers are set, which places are named. -/
theorem sets_same : ∀ {l : List RSt} {r : List St}, AllF l r → (∀ x ∈ r, x.kind ≤ 6) → ∀ q, setsP q l = r.any fun x => setsS x q
  | [], [], _, _, _ => rfl
  | y :: l, x :: r, h, hk, q => by
    obtain ⟨k1, k2, k3, k4, k5, k6, k7⟩ := kinds h.1 (hk x (by simp))
    have ih := sets_same h.2 (fun z hz => hk z (by simp [hz])) q
    unfold setsP at ih ⊢
    rw [List.any_cons, List.any_cons, ih]
    congr 1
    unfold setB setsS
    rw [h.1.2.1, Bool.eq_iff_iff]
    simp only [Bool.and_eq_true, Bool.or_eq_true, beq_iff_eq, decide_eq_true_eq, k3, k4, k5]
    omega
  | [], _ :: _, h, _, _ => h.elim
  | _ :: _, [], h, _, _ => h.elim
theorem nam1_same : ∀ {l : List RSt} {r : List St}, AllF l r → (∀ x ∈ r, x.kind ≤ 6) → ∀ q, namS q l = namesL q r
  | [], [], _, _, _ => rfl
  | y :: l, x :: r, h, hk, q => by
    obtain ⟨k1, k2, k3, k4, k5, k6, k7⟩ := kinds h.1 (hk x (by simp))
    have ih := nam1_same h.2 (fun z hz => hk z (by simp [hz])) q
    unfold namS namesL at ih ⊢
    rw [List.any_cons, List.any_cons, ih]
    congr 1
    unfold namB namesS
    rw [h.1.2.2.1, Bool.eq_iff_iff]
    simp only [Bool.and_eq_true, Bool.or_eq_true, beq_iff_eq, decide_eq_true_eq, k1, k2, k3, k5]
    omega
  | [], _ :: _, h, _, _ => h.elim
  | _ :: _, [], h, _, _ => h.elim
theorem nam_same : ∀ {tt : List (List RSt)} {ls : List (List St)}, AllT tt ls → (∀ r ∈ ls, ∀ x ∈ r, x.kind ≤ 6) → ∀ q, namT q tt = ls.any (namesL q)
  | [], [], _, _, _ => rfl
  | l :: tt, r :: ls, h, hk, q => by
    have ih := nam_same h.2 (fun z hz => hk z (by simp [hz])) q
    unfold namT at ih ⊢
    rw [List.any_cons, List.any_cons, ih, nam1_same h.1 (hk r (by simp)) q]
  | [], _ :: _, h, _, _ => h.elim
  | _ :: _, [], h, _, _ => h.elim
end Go.Proofs.YtmpaeladhoomoaaGreatDoor

namespace Go.Proofs.YtmpaeladhoomoaaGreatDoor
open Go.RowKit

/-- Kinds of tokens that a formula may hold. -/
def inF (k : Nat) : Bool := k == 2 || k == 3 || k == 4 || k == 12 || k == 13 || k == 14 || k == 16 || k == 17 || k == 19 || k == 20
def plk (p : Nat) (y : Nat × Nat) : Bool := y.1 == 2 && y.2 == p
theorem tok_nm : ∀ k < 21, ∀ m < 10, ∀ p < 4, inF k = true → nmT p (canon k m) = plk p (k, m) := by decide +kernel
theorem run_nm (p : Nat) (hp : p < 4) : ∀ (l : List (Nat × Nat)) (a : Nat × Nat), (∀ y ∈ l, inF y.1 = true ∧ y.1 ≤ 20 ∧ y.2 ≤ 9) → nmT p (runT a l) = l.any (plk p) := by
  intro l
  induction l with
  | nil => intro a _; rfl
  | cons y r ih =>
    intro a h
    obtain ⟨h1, h2, h3⟩ := h y (by simp)
    rw [runT, nmT_app, nmT_app, ih y (fun z hz => h z (by simp [hz])), List.any_cons]
    have e1 : nmT p (sepT a y) = false := by
      unfold sepT
      have : p = 0 ∨ p = 1 ∨ p = 2 ∨ p = 3 := by omega
      split
      · rfl
      · rcases this with rfl | rfl | rfl | rfl <;> decide
    have e2 : nmT p (tokT y) = plk p y := tok_nm y.1 (by omega) y.2 (by omega) p hp h1
    rw [e1, e2, Bool.false_or]

/-- From one place to another the tokens are a formula's, and name what f says. -/
def NmR (s : ByteArray) (q q' : Q) (f : Nat → Bool) : Prop := ∃ n, pos s q.j n = q'.j ∧ (∀ y ∈ toks s q.j n, inF y.1 = true) ∧ ∀ p, f p = (toks s q.j n).any (plk p)
theorem NmR.none {s : ByteArray} {q q' : Q} (h : q.j = q'.j) : NmR s q q' (fun _ => false) := ⟨0, h, fun y hy => by simp [toks] at hy, fun p => rfl⟩
theorem NmR.congr {s : ByteArray} {q q' : Q} {f g : Nat → Bool} (h : NmR s q q' f) (e : ∀ p, g p = f p) : NmR s q q' g := by
  obtain ⟨n, a, b, c⟩ := h
  exact ⟨n, a, b, fun p => (e p).trans (c p)⟩
theorem NmR.ends {s : ByteArray} {q q' q2 : Q} {f : Nat → Bool} (h : NmR s q q' f) (e : q2.j = q'.j) : NmR s q q2 f := by
  obtain ⟨n, a, b, c⟩ := h
  exact ⟨n, a.trans e.symm, b, c⟩
theorem NmR.trans {s : ByteArray} {q q1 q2 : Q} {f g : Nat → Bool} (h : NmR s q q1 f) (k : NmR s q1 q2 g) : NmR s q q2 (fun p => f p || g p) := by
  obtain ⟨n, a, b, c⟩ := h
  obtain ⟨m, d, e, i⟩ := k
  refine ⟨n + m, by rw [pos_add, a, d], fun y hy => ?_, fun p => ?_⟩
  · rw [toks_add, a] at hy
    rcases List.mem_append.1 hy with hy | hy
    · exact b y hy
    · exact e y hy
  · rw [toks_add, a, List.any_append, ← c p, ← i p]
theorem NmR.one {s : ByteArray} {q q' : Q} (h : inF (qk s q) = true) (e : q'.j = (tk s q.j).end_) : NmR s q q' (fun p => plk p (qk s q, qn s q)) := by
  refine ⟨1, e.symm, fun y hy => ?_, fun p => ?_⟩
  · simp [toks] at hy
    subst hy
    exact h
  · simp [toks]; rfl
theorem take_inv {s : ByteArray} {q : Q} (h : (takeQ s q).bad < 0) : q.bad < 0 ∧ 2 ≤ qk s q ∧ (takeQ s q).j = (tk s q.j).end_ := by
  by_cases hb : 0 ≤ q.bad
  · rw [takeQ_keep hb] at h; omega
  · by_cases hk : qk s q ≤ 1
    · unfold takeQ at h
      rw [if_pos hk] at h
      have := failQ_bad s q
      omega
    · rw [takeQ_ok (by omega) hk]
      exact ⟨by omega, by omega, rfl⟩
theorem need_inv {s : ByteArray} {q : Q} {c : Nat} (h : (needQ s q c).bad < 0) (hc : 2 ≤ c) : q.bad < 0 ∧ qk s q = c ∧ (needQ s q c).j = (tk s q.j).end_ := by
  by_cases hb : 0 ≤ q.bad
  · rw [needQ_keep hb] at h; omega
  · by_cases hk : qk s q = c
    · rw [needQ_ok (by omega) hk hc]
      exact ⟨by omega, hk, rfl⟩
    · rw [needQ_err hk] at h
      have := failQ_bad s q
      omega
theorem kind_inv {s : ByteArray} {q : Q} {c : Nat} (h : (kindQ s q c).bad < 0) (hc : 2 ≤ c) : q.bad < 0 ∧ qk s q = c ∧ (kindQ s q c).j = (tk s q.j).end_ := by
  by_cases hb : 0 ≤ q.bad
  · rw [kindQ_keep hb] at h; omega
  · by_cases hk : qk s q = c
    · rw [kindQ_ok (by omega) hk hc]
      exact ⟨by omega, hk, rfl⟩
    · rw [kindQ_err hk] at h
      have := failQ_bad s q
      omega
/-- A token that names nothing. -/
theorem NmR.word {s : ByteArray} {q q' : Q} {c : Nat} (hk : qk s q = c) (hc : inF c = true) (h2 : c ≠ 2) (e : q'.j = (tk s q.j).end_) : NmR s q q' (fun _ => false) :=
  (NmR.one (by rw [hk]; exact hc) e).congr (fun p => by unfold plk; rw [hk]; simp [h2])
theorem NmR.and {s : ByteArray} {q q1 q2 : Q} {f : Nat → Bool} (h : NmR s q q1 f) (k : NmR s q1 q2 (fun _ => false)) : NmR s q q2 f := (h.trans k).congr (fun p => by simp)
theorem NmR.behind {s : ByteArray} {q q1 q2 : Q} {f : Nat → Bool} (k : NmR s q q1 (fun _ => false)) (h : NmR s q1 q2 f) : NmR s q q2 f := (k.trans h).congr (fun p => by simp)

def Nmd (s : ByteArray) (sub : Q → TM × Q) : Prop := ∀ q, (sub q).2.bad < 0 → q.bad < 0 ∧ NmR s q (sub q).2 (sub q).1.nm
theorem atom_nmd (s : ByteArray) : Nmd s (atomQ s) := by
  intro q h
  unfold atomQ at h ⊢
  by_cases h4 : qk s q = 4
  · rw [if_pos h4] at h ⊢
    simp only at h ⊢
    obtain ⟨a1, a2, a3⟩ := kind_inv h (by omega)
    obtain ⟨b1, b2, b3⟩ := need_inv a1 (by omega)
    obtain ⟨c1, c2, c3⟩ := kind_inv b1 (by omega)
    obtain ⟨d1, d2, d3⟩ := need_inv c1 (by omega)
    obtain ⟨e1, e2, e3⟩ := kind_inv d1 (by omega)
    exact ⟨e1, ((((NmR.word e2 rfl (by decide) e3).and (NmR.word d2 rfl (by decide) d3)).and (NmR.word c2 rfl (by decide) c3)).and (NmR.word b2 rfl (by decide) b3)).and (NmR.word a2 rfl (by decide) a3)⟩
  · rw [if_neg h4] at h ⊢
    simp only at h ⊢
    obtain ⟨a1, a2, a3⟩ := kind_inv h (by omega)
    obtain ⟨b1, b2, b3⟩ := need_inv a1 (by omega)
    obtain ⟨c1, c2, c3⟩ := kind_inv b1 (by omega)
    refine ⟨c1, (((NmR.one (by rw [c2]; rfl) c3).and (NmR.word b2 rfl (by decide) b3)).and (NmR.word a2 rfl (by decide) a3)).congr (fun p => ?_)⟩
    show (valQ s q 2 == p) = plk p (qk s q, qn s q)
    unfold plk valQ
    rw [if_neg (by omega), c2]
    simp
theorem loop_nmd {s : ByteArray} {c : Nat} (hc : inF c = true) (h2 : c ≠ 2) {sub : Q → TM × Q} (hs : Nmd s sub) : ∀ (n : Nat) (l : TM) (q : Q), (loopQ s c sub n l q).2.bad < 0 → q.bad < 0 ∧ ∃ g, (∀ p, (loopQ s c sub n l q).1.nm p = (l.nm p || g p)) ∧ NmR s q (loopQ s c sub n l q).2 g := by
  intro n
  induction n with
  | zero => intro l q h; exact ⟨h, fun _ => false, fun p => by simp [loopQ], NmR.none rfl⟩
  | succ n ih =>
    intro l q h
    rw [loopQ] at h ⊢
    by_cases hi : isQ s q c = true
    · rw [if_pos hi] at h ⊢
      obtain ⟨a1, g, a2, a3⟩ := ih _ _ h
      obtain ⟨b1, b2⟩ := hs _ a1
      obtain ⟨c1, c2, c3⟩ := take_inv b1
      have hk : qk s q = c := by unfold isQ at hi; simp at hi; exact hi.2
      refine ⟨c1, fun p => (sub (takeQ s q)).1.nm p || g p, fun p => ?_, (NmR.word hk hc h2 c3).behind (b2.trans a3)⟩
      rw [a2 p]
      show ((l.nm p || (sub (takeQ s q)).1.nm p) || g p) = _
      rw [Bool.or_assoc]
    · rw [if_neg hi] at h ⊢
      exact ⟨h, fun _ => false, fun p => by simp, NmR.none rfl⟩
theorem lev_nmd {s : ByteArray} {c : Nat} (hc : inF c = true) (h2 : c ≠ 2) {sub : Q → TM × Q} (hs : Nmd s sub) : Nmd s (levQ s c sub) := by
  intro q h
  unfold levQ at h ⊢
  obtain ⟨a1, g, a2, a3⟩ := loop_nmd hc h2 hs _ _ _ h
  obtain ⟨b1, b2⟩ := hs q a1
  exact ⟨b1, (b2.trans a3).congr a2⟩
theorem open_inv {s : ByteArray} {q : Q} (h : (openQ s q).bad < 0) : q.bad < 0 ∧ (openQ s q).j = (tk s q.j).end_ := by
  unfold openQ at h ⊢
  obtain ⟨a1, a2, a3⟩ := take_inv h
  by_cases h6 : q.opn = 6
  · simp only [h6, if_true] at a1
    have := failQ_bad s q
    omega
  · simp only [h6, if_false] at a1 a3 ⊢
    exact ⟨a1, a3⟩
theorem form2_nmd (s : ByteArray) : ∀ n, Nmd s (form2Q s n) := by
  intro n
  induction n with
  | zero => intro q h; exact ⟨h, NmR.none rfl⟩
  | succ n ih =>
    intro q h
    rw [form2Q] at h ⊢
    by_cases h14 : isQ s q 14 = true
    · rw [if_pos h14] at h ⊢
      have hk : qk s q = 14 := by unfold isQ at h14; simp at h14; exact h14.2
      obtain ⟨a1, a2⟩ := ih (openQ s q) h
      obtain ⟨b1, b2⟩ := open_inv a1
      exact ⟨b1, ((NmR.word hk rfl (by decide) b2).behind a2).ends rfl⟩
    · rw [if_neg h14] at h ⊢
      by_cases h19 : isQ s q 19 = true
      · rw [if_pos h19] at h ⊢
        have hk : qk s q = 19 := by unfold isQ at h19; simp at h19; exact h19.2
        have h' : (needQ s (levQ s 13 (levQ s 12 (form2Q s n)) (openQ s q)).2 20).bad < 0 := h
        obtain ⟨d1, d2, d3⟩ := need_inv h' (by omega)
        obtain ⟨a1, a2⟩ := lev_nmd (c := 13) rfl (by decide) (lev_nmd (c := 12) rfl (by decide) ih) (openQ s q) d1
        obtain ⟨b1, b2⟩ := open_inv a1
        exact ⟨b1, (((NmR.word hk rfl (by decide) b2).behind a2).and (NmR.word d2 rfl (by decide) d3)).ends rfl⟩
      · rw [if_neg h19] at h ⊢
        exact atom_nmd s q h
theorem form_nmd (s : ByteArray) (n : Nat) : Nmd s (formQ s n) := lev_nmd (c := 13) rfl (by decide) (lev_nmd (c := 12) rfl (by decide) (form2_nmd s n))
theorem ask_inv {s : ByteArray} {q : Q} (h : (askQ s q).bad < 0) : (askQ s q).j = (tk s q.j).end_ := by
  unfold askQ at h ⊢
  split at h
  · rename_i hh
    rw [if_pos hh]
    exact (take_inv h).2.2
  · rename_i hh
    rw [if_neg hh]
    exact (need_inv h (by omega)).2.2
/-- Both formulas name the same places. -/
theorem names_fm {s : ByteArray} {ls : List (List St)} {fa : Bool} {ft : Txt} {p' : PS} (ht : testS s ps0 = .ok p') (h : Said2 s ps0 ls fa ft p'.i) (p : Nat) (hp : p < 4) : (fmQ s).1.nm p = nmT p ft := by
  obtain ⟨n1, p1, e1, e2, e3, e4, _, e5, ⟨n2, f, F, r⟩, _⟩ := h
  have e2 : pos s 0 n1 = p1.i := e2
  have e3 : ThreadsTok ls (toks s 0 n1) := e3
  have e5 : (tk s (pos s 0 n1)).kind = (if fa = true then 11 else 10) := e5
  have r : RenN s (tk s (pos s 0 n1)).end_ p'.i n2 ft f F := r
  obtain ⟨j1, j2⟩ := test_pos ht e1
  have hsim := test_sim s
  rw [ht] at hsim
  have hb : (fmQ s).2.bad < 0 := by
    have h1 : (endQ s (fmQ s).2).bad < 0 := hsim.1
    unfold endQ at h1
    split at h1
    · exact h1
    · have := failQ_bad s (fmQ s).2; omega
  obtain ⟨a1, n, a2, a3, a4⟩ := form_nmd s 8 (askQ s (thrQ s).2) hb
  have hj : (askQ s (thrQ s).2).j = (tk s (pos s 0 n1)).end_ := by rw [ask_inv a1, j2, ← e2]
  rw [hj] at a2 a3 a4
  have a2 : pos s (tk s (pos s 0 n1)).end_ n = p'.i := a2.trans j1
  have hq : toks s (pos s 0 n1) 1 = [(if fa = true then 11 else 10, (tk s (pos s 0 n1)).num)] := by rw [← e5]; rfl
  have g : ∀ m, (∀ y ∈ toks s (tk s (pos s 0 n1)).end_ m, 2 ≤ y.1) → (∀ y ∈ toks s 0 (n1 + (1 + m)), 2 ≤ y.1) ∧ pos s 0 (n1 + (1 + m)) = pos s (tk s (pos s 0 n1)).end_ m := by
    intro m hm
    refine ⟨fun y hy => ?_, by rw [pos_add, pos_add]; rfl⟩
    rw [toks_add, toks_add, hq, show Go.Proofs.YtmpaeladhoomoaaGreatDoor.pos s (pos s 0 n1) 1 = (tk s (pos s 0 n1)).end_ from rfl] at hy
    rcases List.mem_append.1 hy with hy | hy
    · exact e3.ge y hy
    · rcases List.mem_append.1 hy with hy | hy
      · simp at hy
        subst hy
        cases fa <;> simp
      · exact hm y hy
  have g1 := g n (fun y hy => by
    have := a3 y hy
    have h2 : ∀ k, k < 2 → inF k = false := by decide
    by_cases hk : y.1 < 2
    · rw [h2 _ hk] at this; simp at this
    · omega)
  have g2 := g n2 (fun y hy => (r.inner y (by rw [← r.toks]; exact hy)).1)
  have hn : n1 + (1 + n) = n1 + (1 + n2) := pos_inj g1.1 g2.1 (by rw [g1.2, g2.2, a2, r.pos])
  obtain rfl : n = n2 := by omega
  rw [r.toks] at a3
  have hle := toks_le s n (tk s (pos s 0 n1)).end_
  rw [r.toks] at hle
  have h4 := a4 p
  rw [r.toks] at h4
  show (formQ s 8 (askQ s (thrQ s).2)).1.nm p = _
  rw [h4, r.txt, nmT_app, run_nm p hp F f (fun y hy => ⟨a3 y (by simp [hy]), hle y (by simp [hy])⟩), List.any_cons]
  congr 1
  exact (tok_nm f.1 (by have := (hle f (by simp)).1; omega) f.2 (by have := (hle f (by simp)).2; omega) p hp (a3 f (by simp))).symm
end Go.Proofs.YtmpaeladhoomoaaGreatDoor

namespace Go.Proofs.YtmpaeladhoomoaaGreatDoor
open Go.RowKit

/-- Words, a blank behind each. -/
def blT (ws : List Txt) : Txt := ws.flatMap fun t => t ++ [32]
theorem blT_snoc (ws : List Txt) (t : Txt) : blT (ws ++ [t]) = blT ws ++ (t ++ [32]) := by simp [blT]
theorem blT_join : ∀ ws : List Txt, ws ≠ [] → blT ws = joinT [32] ws ++ [32]
  | [], h => (h rfl).elim
  | [x], _ => by simp [blT, joinT]
  | x :: y :: r, _ => by
    have ih := blT_join (y :: r) (by simp)
    show (x ++ [32]) ++ blT (y :: r) = _
    rw [ih, joinT]
    simp
theorem blT_len (B : Nat) : ∀ ws : List Txt, (∀ t ∈ ws, t.length ≤ B) → (blT ws).length ≤ ws.length * (B + 1)
  | [], _ => Nat.zero_le _
  | x :: r, h => by
    have ih := blT_len B r (fun t ht => h t (by simp [ht]))
    have h1 := h x (by simp)
    show ((x ++ [32]) ++ blT r).length ≤ (r.length + 1) * (B + 1)
    rw [Nat.succ_mul]
    simp
    omega
theorem regWs_len (c : Nat → Nat) (ls : List (List St)) : ∀ k, k ≤ ls.length → (regWs c ls k).length ≤ k * 4 := by
  intro k
  induction k with
  | zero => intro _; exact Nat.le_refl _
  | succ k ih =>
    intro hk
    obtain ⟨l, hl⟩ : ∃ l, ls[k]? = some l := ⟨ls[k]'(by omega), List.getElem?_eq_getElem (by omega)⟩
    rw [regWs_succ c ls k l hl, List.length_append]
    have := ih (by omega)
    have := regW_len c k l 4
    omega
theorem regW_t (c : Nat → Nat) (i : Nat) (l : List St) (k : Nat) : ∀ t ∈ regW c i l k, t.length ≤ 10 := by
  intro t h
  simp only [regW, List.mem_filterMap] at h
  obtain ⟨r, _, h⟩ := h
  split at h
  · simp at h; subst h; simp [rwT, hasT, canon]
  · simp at h
theorem regWs_t (c : Nat → Nat) (ls : List (List St)) (k : Nat) : ∀ t ∈ regWs c ls k, t.length ≤ 10 := by
  intro t h
  simp only [regWs, List.mem_flatMap] at h
  obtain ⟨i, _, h⟩ := h
  exact regW_t c i _ 4 t h
theorem plcWs_t (c : Nat → Nat) (ls : List (List St)) (ft : Txt) (k : Nat) : ∀ t ∈ plcWs c ls ft k, t.length ≤ 10 := by
  intro t h
  simp only [plcWs, List.mem_filterMap] at h
  obtain ⟨p, _, h⟩ := h
  split at h
  · simp at h; subst h; simp [pwT, hasT, canon]
  · simp at h
theorem plcWs_len (c : Nat → Nat) (ls : List (List St)) (ft : Txt) (k : Nat) : (plcWs c ls ft k).length ≤ k := by
  unfold plcWs
  exact Nat.le_trans (List.length_filterMap_le _ _) (by simp)
/-- The text of the registers' words up to a register. -/
def regX (c : Nat → Nat) (ls : List (List St)) (i : Nat) (l : List St) (r : Nat) : Txt := blT (regWs c ls i ++ regW c i l r)
def plcX (c : Nat → Nat) (ls : List (List St)) (ft : Txt) (p : Nat) : Txt := blT (regWs c ls ls.length ++ plcWs c ls ft p)
theorem regX_len (c : Nat → Nat) (ls : List (List St)) (i : Nat) (l : List St) (r : Nat) (hi : i ≤ ls.length) (h4 : ls.length ≤ 4) (hr : r ≤ 4) : (regX c ls i l r).length ≤ 1000 := by
  have h1 := blT_len 10 (regWs c ls i ++ regW c i l r) (fun t ht => by
    rw [List.mem_append] at ht
    rcases ht with h | h
    · exact regWs_t c ls i t h
    · exact regW_t c i l r t h)
  have h2 := regWs_len c ls i hi
  have h3 := regW_len c i l r
  rw [List.length_append] at h1
  have h4 : ((regWs c ls i).length + (regW c i l r).length) * (10 + 1) ≤ 20 * 11 := Nat.mul_le_mul (by omega) (by decide)
  unfold regX
  omega
theorem plcX_len (c : Nat → Nat) (ls : List (List St)) (ft : Txt) (p : Nat) (h4 : ls.length ≤ 4) (hp : p ≤ 4) : (plcX c ls ft p).length ≤ 1000 := by
  have h1 := blT_len 10 (regWs c ls ls.length ++ plcWs c ls ft p) (fun t ht => by
    rw [List.mem_append] at ht
    rcases ht with h | h
    · exact regWs_t c ls _ t h
    · exact plcWs_t c ls ft p t h)
  have h2 := regWs_len c ls ls.length (Nat.le_refl _)
  have h3 := plcWs_len c ls ft p
  rw [List.length_append] at h1
  have h4 : ((regWs c ls ls.length).length + (plcWs c ls ft p).length) * (10 + 1) ≤ 20 * 11 := Nat.mul_le_mul (by omega) (by decide)
  unfold plcX
  omega
theorem regX_yes (c : Nat → Nat) (ls : List (List St)) (i : Nat) (l : List St) (r : Nat) (h : (l.any fun x => setsS x r) = true) : regX c ls i l (r + 1) = regX c ls i l r ++ (rwT i r (c (i * 22 + 1 + r)) ++ [32]) := by
  unfold regX
  rw [regW_succ, if_pos h, ← List.append_assoc, blT_snoc]
theorem regX_no (c : Nat → Nat) (ls : List (List St)) (i : Nat) (l : List St) (r : Nat) (h : (l.any fun x => setsS x r) = false) : regX c ls i l (r + 1) = regX c ls i l r := by
  unfold regX
  rw [regW_succ, h, if_neg (by simp), List.append_nil]
theorem regX_zero (c : Nat → Nat) (ls : List (List St)) (i : Nat) (l : List St) : regX c ls i l 0 = blT (regWs c ls i) := by simp [regX, regW]
theorem regX_four (c : Nat → Nat) (ls : List (List St)) (i : Nat) (l : List St) (h : ls[i]? = some l) : regX c ls i l 4 = blT (regWs c ls (i + 1)) := by
  unfold regX
  rw [regWs_succ c ls i l h]
theorem plcX_yes (c : Nat → Nat) (ls : List (List St)) (ft : Txt) (p : Nat) (h : namesP p ls ft = true) : plcX c ls ft (p + 1) = plcX c ls ft p ++ (pwT p (c (88 + p)) ++ [32]) := by
  unfold plcX
  rw [plcWs_succ, if_pos h, ← List.append_assoc, blT_snoc]
theorem plcX_no (c : Nat → Nat) (ls : List (List St)) (ft : Txt) (p : Nat) (h : namesP p ls ft = false) : plcX c ls ft (p + 1) = plcX c ls ft p := by
  unfold plcX
  rw [plcWs_succ, h, if_neg (by simp), List.append_nil]
theorem plcX_zero (c : Nat → Nat) (ls : List (List St)) (ft : Txt) : plcX c ls ft 0 = blT (regWs c ls ls.length) := by simp [plcX, plcWs]
theorem add_reg (X : Txt) (i r v : Nat) : bT X ++ canonB 4 i ++ ⟨#[58, 114]⟩ ++ canonB 4 r ++ ⟨#[61]⟩ ++ canonB 4 v ++ ⟨#[32]⟩ = bT (X ++ (rwT i r v ++ [32])) := by
  show bT X ++ bT (canon 4 i) ++ bT [58, 114] ++ bT (canon 4 r) ++ bT [61] ++ bT (canon 4 v) ++ bT [32] = _
  rw [bT_app, bT_app, bT_app, bT_app, bT_app, bT_app]
  congr 1
  simp [rwT, hasT, canon]
theorem add_plc (X : Txt) (p v : Nat) : bT X ++ canonB 2 p ++ ⟨#[61]⟩ ++ canonB 4 v ++ ⟨#[32]⟩ = bT (X ++ (pwT p v ++ [32])) := by
  show bT X ++ bT (canon 2 p) ++ bT [61] ++ bT (canon 4 v) ++ bT [32] = _
  rw [bT_app, bT_app, bT_app, bT_app]
  congr 1
  simp [pwT, hasT]
theorem out_is (ls : List (List St)) (ft : Txt) (s : WSt) (h : plcX (cellsW s) ls ft 4 ≠ []) : plcX (cellsW s) ls ft 4 = outW ls ft s ++ [32] := by
  unfold plcX at h ⊢
  rw [blT_join _ (fun e => h (by rw [e]; rfl))]
  rfl
theorem out_no (ls : List (List St)) (ft : Txt) (s : WSt) (h : plcX (cellsW s) ls ft 4 = []) : outW ls ft s = [] := by
  unfold outW outT
  unfold plcX at h
  cases hw : regWs (cellsW s) ls ls.length ++ plcWs (cellsW s) ls ft 4 with
  | nil => rfl
  | cons x r => rw [hw] at h; simp [blT] at h
theorem toL_ne (Y : Txt) : ((bT (Y ++ [32])).toList == []) = false := by
  rw [beq_eq_false_iff_ne]
  intro e
  have h1 := congrArg List.length e
  simp [bT] at h1
theorem cut_last (Y : Txt) : (bT (Y ++ [32])).extract 0 (List.length Y) = bT Y := by
  apply bytes_ext
  rw [ByteArray.data_extract]
  simp [bT]
theorem cellsW_reg (s : WSt) (i r : Nat) (t : WTh) (ht : s.ths[i]? = some t) (h4 : i < 4) (hr : r < 4) : cellsW s (i * 22 + 1 + r) = t.regs.getD r 0 := by
  unfold cellsW
  rw [if_neg (by omega), show (i * 22 + 1 + r) / 22 = i by omega, show (i * 22 + 1 + r) % 22 - 1 = r by omega]
  simp [thW, List.getD_eq_getElem?_getD, ht]
theorem cellsW_mem (s : WSt) (p : Nat) : cellsW s (88 + p) = s.mem p := by
  unfold cellsW
  rw [if_pos (by omega), show 88 + p - 88 = p by omega]

theorem back_at (W : World) (b p : Nat) (hp : p < 4) (hb : W.heap[b]? = some (.cells #[.int .u8 (119 + (p : Int))] 5 (0, 0))) :
    (convert 81 9 (.slice (some ⟨b, 0, none⟩) 1 1)).run Tryz.prog W = .ok (.string (canonB 2 p)) W := by
  have h := fun (x : UInt8) (hx : W.heap[b]? = some (.cells #[.int .u8 (x.toNat : Nat)] 5 (0, 0))) => run_convert_bytes_back (P := Tryz.prog) W 81 9 5 ⟨b, 0, none⟩ 1 [x] Tryz.underlying81 Tryz.underlying5 Tryz.underlying9 (fun j hj => by
    obtain rfl : j = 0 := by simpa using hj
    exact cell_of hx 0 _ rfl)
  have : p = 0 ∨ p = 1 ∨ p = 2 ∨ p = 3 := by omega
  rcases this with rfl | rfl | rfl | rfl
  · exact h 119 hb
  · exact h 120 hb
  · exact h 121 hb
  · exact h 122 hb

set_option maxRecDepth 100000 in
set_option maxHeartbeats 8000000 in
theorem outcome_any (w : World) (T : Nat) (tt : List (List RSt)) (h : RThs w T tt) (ls : List (List St)) (ft : Txt) (hA : AllT tt ls) (ho : LsOk ls) (op : ByteArray) (n1 n2 n3 n4 : Int) (kv : Value) (nb : Nat → Bool)
    (c2 : w.cell? ⟨T, 2, none⟩ = some (.string op)) (c3 : w.cell? ⟨T, 3, none⟩ = some (.int .i64 n1)) (c4 : w.cell? ⟨T, 4, none⟩ = some (.int .i64 n2)) (c5 : w.cell? ⟨T, 5, none⟩ = some (.int .i64 n3)) (c6 : w.cell? ⟨T, 6, none⟩ = some (.int .i64 n4)) (c7 : w.cell? ⟨T, 7, none⟩ = some kv)
    (hn : ∀ p w1, w.grownBy w1 none → Calls Tryz.prog 167 #[.agg #[.string op, .int .i64 n1, .int .i64 n2, .int .i64 n3, .int .i64 n4, kv], .int .i64 (p : Nat)] w1 fun e w2 => e = .returned (.bool (nb p)) ∧ w1.grownBy w2 none)
    (hnb : ∀ p, p < 4 → nb p = nmT p ft) (model : Nat) (s : WSt) (ok : Nat → Prop) (v : Value) (hs : ThsAt w ok v s.ths) (hW : WOk model ls s) :
    Calls Tryz.prog 69 #[.pointer (some ⟨T, 0, none⟩), .agg #[v, .int .i64 (s.m0 : Nat), .int .i64 (s.m1 : Nat), .int .i64 (s.m2 : Nat), .int .i64 (s.m3 : Nat)]] w fun e w' => e = .returned (.string (bT (outW ls ft s))) ∧ w.grownBy w' none := by
  have hk6 : ∀ l ∈ ls, ∀ x ∈ l, x.kind ≤ 6 := fun l hl x hx => (ho.st l hl x hx).1
  have HSE : Hid (∀ (W' : World) (i r : Nat) (l : List St), w.grownBy W' none → ls[i]? = some l → Calls Tryz.prog 113 #[.pointer (some ⟨T, 0, none⟩), .int .i64 (i : Nat), .int .i64 (r : Nat)] W' fun e w' => e = .returned (.bool (l.any fun x => setsS x r)) ∧ W'.grownBy w' none) := fun W' i r l hg hl => by
    obtain ⟨l', hl', hf⟩ := hA.get i l hl
    rw [← sets_same hf (hk6 l (List.mem_of_getElem? hl)) r]
    exact sets_any W' T tt (h.grow hg) i l' hl' r
  have HNA : Hid (∀ (W' : World) (p : Nat), w.grownBy W' none → p < 4 → Calls Tryz.prog 115 #[.pointer (some ⟨T, 0, none⟩), .int .i64 (p : Nat)] W' fun e w' => e = .returned (.bool (namesP p ls ft)) ∧ W'.grownBy w' none) := fun W' p hg hp => by
    unfold namesP
    rw [← nam_same hA hk6 p, ← hnb p hp]
    refine names_any W' T tt (h.grow hg) (by rw [hA.len]; have := ho.four; omega) (fun l hl => ?_) p op n1 n2 n3 n4 kv (nb p) (gb_cell hg c2 (by simp)) (gb_cell hg c3 (by simp)) (gb_cell hg c4 (by simp)) (gb_cell hg c5 (by simp)) (gb_cell hg c6 (by simp)) (gb_cell hg c7 (by simp)) (fun w1 hg1 => hn p w1 (gb_trans hg hg1))
    obtain ⟨ta, cap, xs, _, _, _, hh⟩ := h
    obtain ⟨i, hi⟩ := List.mem_iff_getElem?.1 hl
    obtain ⟨_, _, _, _, h9, _⟩ := hh i l hi
    omega
  obtain ⟨ta, tcap, xs, c0, _, _⟩ := id h
  obtain ⟨sa, sc, rfl, hh⟩ := hs
  have HRG : Hid (∀ (i r : Nat) (t : WTh), s.ths[i]? = some t → r < 4 → ∃ g, sa = some ⟨g, 0, none⟩ ∧ w.cell? ⟨g, i * 6 + (1 + r), none⟩ = some (.int .i64 (t.regs.getD r 0 : Nat))) := fun i r t ht hr => by
    obtain ⟨h4, g, wv, a1, _, _, a4, _⟩ := hh i t ht
    refine ⟨g, a1, a4 r _ ?_⟩
    rw [List.getD_eq_getElem?_getD, List.getElem?_eq_getElem (by omega)]
    rfl
  have HC0 : Hid (w.cell? ⟨T, 0, none⟩ = some (.slice ta tt.length tcap)) := c0
  have HLE : Hid (tt.length = ls.length) := hA.len
  have HOK : Hid (LsOk ls) := ho
  have HWO : Hid (WOk model ls s) := hW
  have h4 := ho.four
  have htt : tt.length ≤ 4 := by rw [hA.len]; exact ho.four
  have HST : Hid (s.ths.length = ls.length) := hW.len
  clear hh hn h c0 c2 c3 c4 c5 c6 c7 hA ho hnb hW hk6
  obtain ⟨c, hc⟩ : ∃ c, c = cellsW s := ⟨_, rfl⟩
  have HCC : Hid (c = cellsW s) := hc
  clear hc
  obtain ⟨w0, hw0⟩ : ∃ w0, w0 = w.alloc (.cells #[.slice sa s.ths.length sc, .int .i64 (s.m0 : Nat), .int .i64 (s.m1 : Nat), .int .i64 (s.m2 : Nat), .int .i64 (s.m3 : Nat)] 153) := ⟨_, rfl⟩
  have HB0 : Hid (w0.heap[w.heap.size]? = some (.cells #[.slice sa s.ths.length sc, .int .i64 (s.m0 : Nat), .int .i64 (s.m1 : Nat), .int .i64 (s.m2 : Nat), .int .i64 (s.m3 : Nat)] 153 (0, 0))) := by show _ = _; rw [hw0]; exact heap_alloc_new w _
  have HG0 : Hid (w.grownBy w0 none) := by show World.grownBy _ _ _; rw [hw0]; exact gb_alloc (gb_refl _ _) _
  go_enter Tryz.func69, Tryz.ntmps69
  go_wp2_with fail
  rw [← hw0]
  clear hw0
  go_loopw [5, 6] (fun v5 v6 wr => ∃ i : Nat, v6 = .int .i64 (i : Nat) ∧ i ≤ tt.length ∧ v5 = .string (bT (blT (regWs c ls i))) ∧ Hid (w0.grownBy wr none)) (fun _ v6 _ => tt.length - (intOf v6).toNat)
  case atStart => exact ⟨0, rfl, Nat.zero_le _, rfl, gb_refl _ _⟩
  case round =>
    obtain ⟨i, rfl, hi, rfl, HG⟩ := hrel
    have t0 := gb_cell HG.out (gb_cell HG0.out HC0.out (by simp)) (by simp)
    have hTl := World.block_lt_of_cell? wr ⟨T, 0, none⟩ t0
    by_cases hil : i < tt.length
    · have hi' : decide ((i : Int) < (tt.length : Int)) = true := by simp; omega
      obtain ⟨l, hl⟩ : ∃ l, ls[i]? = some l := ⟨ls[i]'(by rw [← HLE.out]; exact hil), List.getElem?_eq_getElem _⟩
      obtain ⟨t, ht⟩ : ∃ t, s.ths[i]? = some t := ⟨s.ths[i]'(by rw [HST.out, ← HLE.out]; exact hil), List.getElem?_eq_getElem _⟩
      have HLI : Hid (ls[i]? = some l) := hl
      have HTI : Hid (s.ths[i]? = some t) := ht
      have HX0 : Hid (_ = _) := regX_zero c ls i l
      have HX4 : Hid (_ = _) := regX_four c ls i l hl
      clear hl ht
      rw [← HX0.out]
      go_wp2_with fail
      go_loopw [5, 7] (fun v5 v7 wr2 => ∃ r : Nat, v7 = .int .i64 (r : Nat) ∧ r ≤ 4 ∧ v5 = .string (bT (regX c ls i l r)) ∧ Hid (w0.grownBy wr2 none)) (fun _ v7 _ => 4 - (intOf v7).toNat)
      case atStart => exact ⟨0, rfl, by omega, rfl, HG⟩
      case round =>
        clear t0 hTl HG
        obtain ⟨r, rfl, hr, rfl, HG⟩ := hrel
        by_cases hr4 : r < 4
        · have hr' : decide ((r : Int) < 4) = true := by simp; omega
          go_wp2_with fail
          refine (HSE.out wr i r l (gb_trans HG0.out HG.out) HLI.out).mono ?_
          rintro e w2 ⟨rfl, hg2⟩
          have HG2 : Hid (w0.grownBy w2 none) := gb_trans HG.out hg2
          clear hg2
          cases hb : (l.any fun x => setsS x r) with
          | false =>
            have HX : Hid (_ = _) := regX_no c ls i l r hb
            clear hb
            as_aux_lemma =>
            go_wp2_with fail
            refine ⟨⟨r + 1, by go_num, by omega, ?_, HG2⟩, by simp [intOf]; omega⟩
            rw [HX.out]
          | true =>
            have HX : Hid (_ = _) := regX_yes c ls i l r hb
            clear hb
            obtain ⟨g, rfl, hgc⟩ := HRG.out i r t HTI.out hr4
            obtain ⟨rv, hrv⟩ : ∃ rv, rv = t.regs.getD r 0 := ⟨_, rfl⟩
            rw [← hrv] at hgc
            have HV : Hid (c (i * 22 + 1 + r) = rv) := by show _ = _; rw [HCC.out, cellsW_reg s i r t HTI.out (by have := HLE.out; omega) hr4, hrv]
            have hrv9 : rv ≤ 9 := by rw [hrv]; exact (HWO.out.th i t HTI.out).2.2.2.2.1 r hr4
            have hsz := regX_len c ls i l r (by have := HLE.out; omega) h4 hr
            obtain ⟨X, hXX⟩ : ∃ X, X = regX c ls i l r := ⟨_, rfl⟩
            rw [← hXX] at HX hsz ⊢
            clear hXX hrv
            have zX := bT_size X
            have zi := size4 i
            have zr := size4 r
            have zv := size4 rv
            have hSat : ∀ W', w0.grownBy W' none → (fun w' : World => w'.cell? ⟨w.heap.size, 0, none⟩ = some (.slice (some ⟨g, 0, none⟩) s.ths.length sc) ∧ w'.cell? ⟨g, i * 6 + (1 + r), none⟩ = some (.int .i64 (rv : Nat))) W' := fun W' hg => ⟨gb_cell hg (cell_of HB0.out 0 _ rfl) (by simp), gb_cell hg (gb_cell HG0.out hgc (by simp)) (by simp)⟩
            have m1 : (i : Int) < (s.ths.length : Int) := by have := HLE.out; have := HST.out; omega
            have hi9 : i ≤ 9 := by have := HLE.out; omega
            have m2 : (r : Int) < 4 := by omega
            clear hgc
            as_aux_lemma =>
            go_wp2_with fail
            have hS := hSat w2.drew (gb_drew HG2.out)
            refine wp_region_held (S := fun w' => w'.cell? ⟨w.heap.size, 0, none⟩ = some (.slice (some ⟨g, 0, none⟩) s.ths.length sc) ∧ w'.cell? ⟨g, i * 6 + (1 + r), none⟩ = some (.int .i64 (rv : Nat))) (by kernel_rfl) ?_
            change wpAnyH _ _ _ _ _ _ _ _ (World.drew _)
            refine wpAnyH_take (i := 0) (v := .string (bT X)) rfl (by kernel_rfl) (by kernel_rfl) (by kernel_rfl) (fun _ _ _ h => h) (Or.inl ⟨by rfl, fun w' hSw => by go_simp <;> omega⟩) hS ?_
            simp only [Act.put, List.getElem_toArray, List.getElem_cons_zero, List.setIfInBounds_toArray, List.set_cons_zero, List.set_cons_succ]
            refine wpAnyH_take (i := 1) (v := .int .i64 (i : Nat)) rfl (by kernel_rfl) (by kernel_rfl) (by kernel_rfl) (fun _ _ _ h => h) (Or.inl ⟨by rfl, fun w' hSw => by go_simp <;> omega⟩) hS ?_
            simp only [Act.put, List.getElem_toArray, List.getElem_cons_zero, List.getElem_cons_succ, List.setIfInBounds_toArray, List.set_cons_zero, List.set_cons_succ]
            refine wpAnyH_take (i := 5) (v := .int .i64 (r : Nat)) rfl (by kernel_rfl) (by kernel_rfl) (by kernel_rfl) (fun _ _ _ h => h) (Or.inl ⟨by rfl, fun w' hSw => by go_simp <;> omega⟩) hS ?_
            simp only [Act.put, List.getElem_toArray, List.getElem_cons_zero, List.getElem_cons_succ, List.setIfInBounds_toArray, List.set_cons_zero, List.set_cons_succ]
            refine wpAnyH_take (i := 9) (v := .pointer (some ⟨w.heap.size, 0, none⟩)) rfl (by kernel_rfl) (by kernel_rfl) (by kernel_rfl) (fun _ _ _ h => h) (Or.inl ⟨by rfl, fun w' hSw => by go_simp <;> omega⟩) hS ?_
            simp only [Act.put, List.getElem_toArray, List.getElem_cons_zero, List.getElem_cons_succ, List.setIfInBounds_toArray, List.set_cons_zero, List.set_cons_succ]
            refine wpAnyH_take (i := 10) (v := .slice (some ⟨g, 0, none⟩) s.ths.length sc) rfl (by kernel_rfl) (by kernel_rfl) (by kernel_rfl) (fun _ _ _ h => h) (Or.inl ⟨by rfl, fun w' hSw => by go_simp <;> omega⟩) hS ?_
            simp only [Act.put, List.getElem_toArray, List.getElem_cons_zero, List.getElem_cons_succ, List.setIfInBounds_toArray, List.set_cons_zero, List.set_cons_succ]
            refine wpAnyH_take (i := 11) (v := .int .i64 (i : Nat)) rfl (by kernel_rfl) (by kernel_rfl) (by kernel_rfl) (fun _ _ _ h => h) (Or.inl ⟨by rfl, fun w' hSw => by go_simp <;> omega⟩) hS ?_
            simp only [Act.put, List.getElem_toArray, List.getElem_cons_zero, List.getElem_cons_succ, List.setIfInBounds_toArray, List.set_cons_zero, List.set_cons_succ]
            refine wpAnyH_take (i := 12) (v := .int .i64 (r : Nat)) rfl (by kernel_rfl) (by kernel_rfl) (by kernel_rfl) (fun _ _ _ h => h) (Or.inl ⟨by rfl, fun w' hSw => by go_simp <;> omega⟩) hS ?_
            simp only [Act.put, List.getElem_toArray, List.getElem_cons_zero, List.getElem_cons_succ, List.setIfInBounds_toArray, List.set_cons_zero, List.set_cons_succ]
            refine wpAnyH_take (i := 13) (v := .pointer (some ⟨g, i * 6, none⟩)) rfl (by kernel_rfl) (by kernel_rfl) (by kernel_rfl) (fun _ _ _ h => h) (Or.inl ⟨by rfl, fun w' hSw => by go_simp <;> omega⟩) hS ?_
            simp only [Act.put, List.getElem_toArray, List.getElem_cons_zero, List.getElem_cons_succ, List.setIfInBounds_toArray, List.set_cons_zero, List.set_cons_succ]
            refine wpAnyH_take (i := 14) (v := .pointer (some ⟨g, i * 6 + 1, none⟩)) rfl (by kernel_rfl) (by kernel_rfl) (by kernel_rfl) (fun _ _ _ h => h) (Or.inl ⟨by rfl, fun w' hSw => by go_simp <;> omega⟩) hS ?_
            simp only [Act.put, List.getElem_toArray, List.getElem_cons_zero, List.getElem_cons_succ, List.setIfInBounds_toArray, List.set_cons_zero, List.set_cons_succ]
            refine wpAnyH_take (i := 15) (v := .pointer (some ⟨g, i * 6 + (1 + r), none⟩)) rfl (by kernel_rfl) (by kernel_rfl) (by kernel_rfl) (fun _ _ _ h => h) (Or.inl ⟨by rfl, fun w' hSw => by go_simp <;> omega⟩) hS ?_
            simp only [Act.put, List.getElem_toArray, List.getElem_cons_zero, List.getElem_cons_succ, List.setIfInBounds_toArray, List.set_cons_zero, List.set_cons_succ]
            refine wpAnyH_take (i := 16) (v := .int .i64 (rv : Nat)) rfl (by kernel_rfl) (by kernel_rfl) (by kernel_rfl) (fun _ _ _ h => h) (Or.inl ⟨by rfl, fun w' hSw => by go_simp <;> omega⟩) hS ?_
            simp only [Act.put, List.getElem_toArray, List.getElem_cons_zero, List.getElem_cons_succ, List.setIfInBounds_toArray, List.set_cons_zero, List.set_cons_succ]
            refine wpAnyH_ready (rs := [2]) (by kernel_rfl) (by simp) ?_
            refine AllReadyH.cons rfl (fun K hK => ?_) AllReadyH.nil
            rw [if_pos (by rfl)]
            go_wp2_with fail
            refine (digit_any _ i hi9).mono ?_
            rintro e w3 ⟨rfl, hg3⟩
            have HG3 : Hid (w0.grownBy w3 none) := gb_trans (gb_drew HG2.out) hg3
            have hSw3 := hSat w3 HG3.out
            clear hg3
            go_wp2_with fail
            refine hK.out _ _ hSw3 (fun _ => ?_)
            clear hK
            try simp only [Act.put, List.getElem_toArray, List.getElem_cons_zero, List.getElem_cons_succ, List.setIfInBounds_toArray, List.set_cons_zero, List.set_cons_succ]
            refine wpAnyH_take (i := 3) (v := .string (bT X ++ canonB 4 i)) rfl (by kernel_rfl) (by kernel_rfl) (by kernel_rfl) (fun _ _ _ h => h) (Or.inl ⟨by rfl, fun w' hSw => by go_simp <;> omega⟩) hSw3 ?_
            simp only [Act.put, List.getElem_toArray, List.getElem_cons_zero, List.getElem_cons_succ, List.setIfInBounds_toArray, List.set_cons_zero, List.set_cons_succ]
            refine wpAnyH_take (i := 4) (v := .string (bT X ++ canonB 4 i ++ ⟨#[58, 114]⟩)) rfl (by kernel_rfl) (by kernel_rfl) (by kernel_rfl) (fun _ _ _ h => h) (Or.inl ⟨by rfl, fun w' hSw => by go_simp <;> omega⟩) hSw3 ?_
            simp only [Act.put, List.getElem_toArray, List.getElem_cons_zero, List.getElem_cons_succ, List.setIfInBounds_toArray, List.set_cons_zero, List.set_cons_succ]
            refine wpAnyH_ready (rs := [6]) (by kernel_rfl) (by simp) ?_
            refine AllReadyH.cons rfl (fun K hK => ?_) AllReadyH.nil
            rw [if_pos (by rfl)]
            go_wp2_with fail
            refine (digit_any _ r (by omega)).mono ?_
            rintro e w4 ⟨rfl, hg4⟩
            have HG4 : Hid (w0.grownBy w4 none) := gb_trans HG3.out hg4
            have hSw4 := hSat w4 HG4.out
            clear hg4
            go_wp2_with fail
            refine hK.out _ _ hSw4 (fun _ => ?_)
            clear hK
            try simp only [Act.put, List.getElem_toArray, List.getElem_cons_zero, List.getElem_cons_succ, List.setIfInBounds_toArray, List.set_cons_zero, List.set_cons_succ]
            refine wpAnyH_take (i := 7) (v := .string (bT X ++ canonB 4 i ++ ⟨#[58, 114]⟩ ++ canonB 4 r)) rfl (by kernel_rfl) (by kernel_rfl) (by kernel_rfl) (fun _ _ _ h => h) (Or.inl ⟨by rfl, fun w' hSw => by go_simp <;> omega⟩) hSw4 ?_
            simp only [Act.put, List.getElem_toArray, List.getElem_cons_zero, List.getElem_cons_succ, List.setIfInBounds_toArray, List.set_cons_zero, List.set_cons_succ]
            refine wpAnyH_take (i := 8) (v := .string (bT X ++ canonB 4 i ++ ⟨#[58, 114]⟩ ++ canonB 4 r ++ ⟨#[61]⟩)) rfl (by kernel_rfl) (by kernel_rfl) (by kernel_rfl) (fun _ _ _ h => h) (Or.inl ⟨by rfl, fun w' hSw => by go_simp <;> omega⟩) hSw4 ?_
            simp only [Act.put, List.getElem_toArray, List.getElem_cons_zero, List.getElem_cons_succ, List.setIfInBounds_toArray, List.set_cons_zero, List.set_cons_succ]
            refine wpAnyH_ready (rs := [17]) (by kernel_rfl) (by simp) ?_
            refine AllReadyH.cons rfl (fun K hK => ?_) AllReadyH.nil
            rw [if_pos (by rfl)]
            go_wp2_with fail
            refine (digit_any _ rv hrv9).mono ?_
            rintro e w5 ⟨rfl, hg5⟩
            have HG5 : Hid (w0.grownBy w5 none) := gb_trans HG4.out hg5
            have hSw5 := hSat w5 HG5.out
            clear hg5
            go_wp2_with fail
            refine hK.out _ _ hSw5 (fun _ => ?_)
            clear hK
            try simp only [Act.put, List.getElem_toArray, List.getElem_cons_zero, List.getElem_cons_succ, List.setIfInBounds_toArray, List.set_cons_zero, List.set_cons_succ]
            refine wpAnyH_take (i := 18) (v := .string (bT X ++ canonB 4 i ++ ⟨#[58, 114]⟩ ++ canonB 4 r ++ ⟨#[61]⟩ ++ canonB 4 rv)) rfl (by kernel_rfl) (by kernel_rfl) (by kernel_rfl) (fun _ _ _ h => h) (Or.inl ⟨by rfl, fun w' hSw => by go_simp <;> omega⟩) hSw5 ?_
            simp only [Act.put, List.getElem_toArray, List.getElem_cons_zero, List.getElem_cons_succ, List.setIfInBounds_toArray, List.set_cons_zero, List.set_cons_succ]
            refine wpAnyH_take (i := 19) (v := .string (bT X ++ canonB 4 i ++ ⟨#[58, 114]⟩ ++ canonB 4 r ++ ⟨#[61]⟩ ++ canonB 4 rv ++ ⟨#[32]⟩)) rfl (by kernel_rfl) (by kernel_rfl) (by kernel_rfl) (fun _ _ _ h => h) (Or.inl ⟨by rfl, fun w' hSw => by go_simp <;> omega⟩) hSw5 ?_
            simp only [Act.put, List.getElem_toArray, List.getElem_cons_zero, List.getElem_cons_succ, List.setIfInBounds_toArray, List.set_cons_zero, List.set_cons_succ]
            refine wpAnyH_take (i := 20) (v := .string (bT X ++ canonB 4 i ++ ⟨#[58, 114]⟩ ++ canonB 4 r ++ ⟨#[61]⟩ ++ canonB 4 rv ++ ⟨#[32]⟩)) rfl (by kernel_rfl) (by kernel_rfl) (by kernel_rfl) (fun _ _ _ h => h) (Or.inl ⟨by rfl, fun w' hSw => by go_simp <;> omega⟩) hSw5 ?_
            simp only [Act.put, List.getElem_toArray, List.getElem_cons_zero, List.getElem_cons_succ, List.setIfInBounds_toArray, List.set_cons_zero, List.set_cons_succ]
            refine wpAnyH_done (by kernel_rfl) ?_ _
            rw [add_reg]
            clear hSat hS hSw3 hSw4 hSw5
            go_wp2_with fail
            refine ⟨⟨r + 1, by go_num, by omega, ?_, HG5⟩, by simp [intOf]; omega⟩
            rw [HX.out, HV.out]
        · have hr' : decide ((r : Int) < 4) = false := by simp; omega
          obtain rfl : r = 4 := by omega
          go_wp2_with fail
          refine ⟨⟨i + 1, by go_num, by omega, ?_, HG⟩, by simp [intOf]; omega⟩
          rw [HX4.out]
    · have hi' : decide ((i : Int) < (tt.length : Int)) = false := by simp; omega
      obtain rfl : i = tt.length := by omega
      have HX0 : Hid (plcX c ls ft 0 = blT (regWs c ls tt.length)) := by show _ = _; rw [plcX_zero, HLE.out]
      rw [← HX0.out]
      go_wp2_with fail
      go_loopw [5, 9] (fun v5 v9 wr2 => ∃ p : Nat, v9 = .int .i64 (p : Nat) ∧ p ≤ 4 ∧ v5 = .string (bT (plcX c ls ft p)) ∧ Hid (w0.grownBy wr2 none)) (fun _ v9 _ => 4 - (intOf v9).toNat)
      case atStart => exact ⟨0, rfl, by omega, rfl, HG⟩
      case round =>
        clear t0 hTl HG
        obtain ⟨p, rfl, hp, rfl, HG⟩ := hrel
        by_cases hp4 : p < 4
        · have hp' : decide ((p : Int) < 4) = true := by simp; omega
          go_wp2_with fail
          refine (HNA.out wr p (gb_trans HG0.out HG.out) hp4).mono ?_
          rintro e w2 ⟨rfl, hg2⟩
          have HG2 : Hid (w0.grownBy w2 none) := gb_trans HG.out hg2
          clear hg2
          cases hb : namesP p ls ft with
          | false =>
            have HX : Hid (_ = _) := plcX_no c ls ft p hb
            clear hb
            as_aux_lemma =>
            go_wp2_with fail
            refine ⟨⟨p + 1, by go_num, by omega, ?_, HG2⟩, by simp [intOf]; omega⟩
            rw [HX.out]
          | true =>
            have HX : Hid (_ = _) := plcX_yes c ls ft p hb
            clear hb
            obtain ⟨rv, hrv⟩ : ∃ rv, rv = s.mem p := ⟨_, rfl⟩
            have HV : Hid (c (88 + p) = rv) := by show _ = _; rw [HCC.out, cellsW_mem, hrv]
            have hrv9 : rv ≤ 9 := by rw [hrv]; exact HWO.out.mem p hp4
            have hmc : w0.cell? ⟨w.heap.size, 1 + p, none⟩ = some (.int .i64 (rv : Nat)) := by
              rw [hrv]
              refine cell_of HB0.out (1 + p) _ ?_
              have : p = 0 ∨ p = 1 ∨ p = 2 ∨ p = 3 := by omega
              rcases this with rfl | rfl | rfl | rfl <;> rfl
            have hsz := plcX_len c ls ft p h4 hp
            obtain ⟨X, hXX⟩ : ∃ X, X = plcX c ls ft p := ⟨_, rfl⟩
            rw [← hXX] at HX hsz ⊢
            clear hXX hrv
            have zX := bT_size X
            have zp := size2 p
            have zv := size4 rv
            have hSat : ∀ W', w0.grownBy W' none → (fun w' : World => w'.cell? ⟨w.heap.size, 1 + p, none⟩ = some (.int .i64 (rv : Nat))) W' := fun W' hg => gb_cell hg hmc (by simp)
            have m2 : (p : Int) < 4 := by omega
            have hwr : IntKind.u8.wrap (119 + (p : Int)) = (119 + (p : Int)) := by
              have : p = 0 ∨ p = 1 ∨ p = 2 ∨ p = 3 := by omega
              rcases this with rfl | rfl | rfl | rfl <;> rfl
            have hwr2 : IntKind.i64.wrap (119 + (p : Int)) = 119 + (p : Int) := by
              have : p = 0 ∨ p = 1 ∨ p = 2 ∨ p = 3 := by omega
              rcases this with rfl | rfl | rfl | rfl <;> rfl
            clear hmc
            as_aux_lemma =>
            go_wp2_with fail
            have hS := hSat w2.drew (gb_drew HG2.out)
            refine wp_region_held (S := fun w' => w'.cell? ⟨w.heap.size, 1 + p, none⟩ = some (.int .i64 (rv : Nat))) (by kernel_rfl) ?_
            change wpAnyH _ _ _ _ _ _ _ _ (World.drew _)
            refine wpAnyH_take (i := 0) (v := .string (bT X)) rfl (by kernel_rfl) (by kernel_rfl) (by kernel_rfl) (fun _ _ _ h => h) (Or.inl ⟨by rfl, fun w' hSw => by go_simp <;> omega⟩) hS ?_
            simp only [Act.put, List.getElem_toArray, List.getElem_cons_zero, List.setIfInBounds_toArray, List.set_cons_zero, List.set_cons_succ]
            refine wpAnyH_take (i := 1) (v := .int .i64 (p : Nat)) rfl (by kernel_rfl) (by kernel_rfl) (by kernel_rfl) (fun _ _ _ h => h) (Or.inl ⟨by rfl, fun w' hSw => by go_simp <;> omega⟩) hS ?_
            simp only [Act.put, List.getElem_toArray, List.getElem_cons_zero, List.getElem_cons_succ, List.setIfInBounds_toArray, List.set_cons_zero, List.set_cons_succ]
            refine wpAnyH_take (i := 2) (v := .int .i64 (119 + (p : Int))) rfl (by kernel_rfl) (by kernel_rfl) (by kernel_rfl) (fun _ _ _ h => h) (Or.inl ⟨by rfl, fun w' hSw => by go_simp <;> omega⟩) hS ?_
            simp only [Act.put, List.getElem_toArray, List.getElem_cons_zero, List.getElem_cons_succ, List.setIfInBounds_toArray, List.set_cons_zero, List.set_cons_succ]
            refine wpAnyH_take (i := 3) (v := .int .u8 (119 + (p : Int))) rfl (by kernel_rfl) (by kernel_rfl) (by kernel_rfl) (fun _ _ _ h => h) (Or.inl ⟨by rfl, fun w' hSw => by go_simp <;> omega⟩) hS ?_
            simp only [Act.put, List.getElem_toArray, List.getElem_cons_zero, List.getElem_cons_succ, List.setIfInBounds_toArray, List.set_cons_zero, List.set_cons_succ]
            refine wpAnyH_take (i := 8) (v := .int .i64 (p : Nat)) rfl (by kernel_rfl) (by kernel_rfl) (by kernel_rfl) (fun _ _ _ h => h) (Or.inl ⟨by rfl, fun w' hSw => by go_simp <;> omega⟩) hS ?_
            simp only [Act.put, List.getElem_toArray, List.getElem_cons_zero, List.getElem_cons_succ, List.setIfInBounds_toArray, List.set_cons_zero, List.set_cons_succ]
            refine wpAnyH_take (i := 9) (v := .pointer (some ⟨w.heap.size, 1, none⟩)) rfl (by kernel_rfl) (by kernel_rfl) (by kernel_rfl) (fun _ _ _ h => h) (Or.inl ⟨by rfl, fun w' hSw => by go_simp <;> omega⟩) hS ?_
            simp only [Act.put, List.getElem_toArray, List.getElem_cons_zero, List.getElem_cons_succ, List.setIfInBounds_toArray, List.set_cons_zero, List.set_cons_succ]
            refine wpAnyH_take (i := 10) (v := .pointer (some ⟨w.heap.size, 1 + p, none⟩)) rfl (by kernel_rfl) (by kernel_rfl) (by kernel_rfl) (fun _ _ _ h => h) (Or.inl ⟨by rfl, fun w' hSw => by go_simp <;> omega⟩) hS ?_
            simp only [Act.put, List.getElem_toArray, List.getElem_cons_zero, List.getElem_cons_succ, List.setIfInBounds_toArray, List.set_cons_zero, List.set_cons_succ]
            refine wpAnyH_take (i := 11) (v := .int .i64 (rv : Nat)) rfl (by kernel_rfl) (by kernel_rfl) (by kernel_rfl) (fun _ _ _ h => h) (Or.inl ⟨by rfl, fun w' hSw => by go_simp <;> omega⟩) hS ?_
            simp only [Act.put, List.getElem_toArray, List.getElem_cons_zero, List.getElem_cons_succ, List.setIfInBounds_toArray, List.set_cons_zero, List.set_cons_succ]
            refine wpAnyH_ready (rs := [4, 12]) (by kernel_rfl) (by simp) ?_
            refine AllReadyH.cons rfl (fun K hK => ?_) (AllReadyH.cons rfl (fun K hK => ?_) AllReadyH.nil)
            · rw [if_pos (by rfl)]
              go_wp2_with fail
              obtain ⟨wa, hwa⟩ : ∃ W1, W1 = ((w2).alloc (.cells #[.int .u8 (119 + (p : Int))] 5)).drew := ⟨_, rfl⟩
              have HBwa : Hid (wa.heap[(w2).heap.size]? = some (.cells #[.int .u8 (119 + (p : Int))] 5 (0, 0))) := by show _ = _; rw [hwa]; exact heap_alloc_new _ _
              have HGwa : Hid (w0.grownBy wa none) := by show World.grownBy _ _ _; rw [hwa]; exact gb_drew (gb_alloc (HG2.out) _)
              have hSwa := hSat wa HGwa.out
              rw [← hwa]
              clear hwa
              refine hK.out _ _ hSwa (fun _ => ?_)
              clear hK
              try simp only [Act.put, List.getElem_toArray, List.getElem_cons_zero, List.getElem_cons_succ, List.setIfInBounds_toArray, List.set_cons_zero, List.set_cons_succ]
              refine wpAnyH_ready (rs := [5, 12]) (by kernel_rfl) (by simp) ?_
              refine AllReadyH.cons rfl (fun K hK => ?_) (AllReadyH.cons rfl (fun K hK => ?_) AllReadyH.nil)
              · rw [if_pos (by rfl)]
                have hcv := back_at wa _ p hp4 HBwa.out
                go_wp2_with fail
                refine hK.out _ _ hSwa (fun _ => ?_)
                clear hK hcv
                try simp only [Act.put, List.getElem_toArray, List.getElem_cons_zero, List.getElem_cons_succ, List.setIfInBounds_toArray, List.set_cons_zero, List.set_cons_succ]
                refine wpAnyH_take (i := 6) (v := .string (bT X ++ canonB 2 p)) rfl (by kernel_rfl) (by kernel_rfl) (by kernel_rfl) (fun _ _ _ h => h) (Or.inl ⟨by rfl, fun w' hSw => by go_simp <;> omega⟩) hSwa ?_
                simp only [Act.put, List.getElem_toArray, List.getElem_cons_zero, List.getElem_cons_succ, List.setIfInBounds_toArray, List.set_cons_zero, List.set_cons_succ]
                refine wpAnyH_take (i := 7) (v := .string (bT X ++ canonB 2 p ++ ⟨#[61]⟩)) rfl (by kernel_rfl) (by kernel_rfl) (by kernel_rfl) (fun _ _ _ h => h) (Or.inl ⟨by rfl, fun w' hSw => by go_simp <;> omega⟩) hSwa ?_
                simp only [Act.put, List.getElem_toArray, List.getElem_cons_zero, List.getElem_cons_succ, List.setIfInBounds_toArray, List.set_cons_zero, List.set_cons_succ]
                refine wpAnyH_ready (rs := [12]) (by kernel_rfl) (by simp) ?_
                refine AllReadyH.cons rfl (fun K hK => ?_) AllReadyH.nil
                rw [if_pos (by rfl)]
                go_wp2_with fail
                refine (digit_any _ rv hrv9).mono ?_
                rintro e wb ⟨rfl, hgwb⟩
                have HGwb : Hid (w0.grownBy wb none) := gb_trans (HGwa.out) hgwb
                have hSwb := hSat wb HGwb.out
                clear hgwb
                go_wp2_with fail
                refine hK.out _ _ hSwb (fun _ => ?_)
                clear hK
                try simp only [Act.put, List.getElem_toArray, List.getElem_cons_zero, List.getElem_cons_succ, List.setIfInBounds_toArray, List.set_cons_zero, List.set_cons_succ]
                refine wpAnyH_take (i := 13) (v := .string (bT X ++ canonB 2 p ++ ⟨#[61]⟩ ++ canonB 4 rv)) rfl (by kernel_rfl) (by kernel_rfl) (by kernel_rfl) (fun _ _ _ h => h) (Or.inl ⟨by rfl, fun w' hSw => by go_simp <;> omega⟩) hSwb ?_
                simp only [Act.put, List.getElem_toArray, List.getElem_cons_zero, List.getElem_cons_succ, List.setIfInBounds_toArray, List.set_cons_zero, List.set_cons_succ]
                refine wpAnyH_take (i := 14) (v := .string (bT X ++ canonB 2 p ++ ⟨#[61]⟩ ++ canonB 4 rv ++ ⟨#[32]⟩)) rfl (by kernel_rfl) (by kernel_rfl) (by kernel_rfl) (fun _ _ _ h => h) (Or.inl ⟨by rfl, fun w' hSw => by go_simp <;> omega⟩) hSwb ?_
                simp only [Act.put, List.getElem_toArray, List.getElem_cons_zero, List.getElem_cons_succ, List.setIfInBounds_toArray, List.set_cons_zero, List.set_cons_succ]
                refine wpAnyH_take (i := 15) (v := .string (bT X ++ canonB 2 p ++ ⟨#[61]⟩ ++ canonB 4 rv ++ ⟨#[32]⟩)) rfl (by kernel_rfl) (by kernel_rfl) (by kernel_rfl) (fun _ _ _ h => h) (Or.inl ⟨by rfl, fun w' hSw => by go_simp <;> omega⟩) hSwb ?_
                simp only [Act.put, List.getElem_toArray, List.getElem_cons_zero, List.getElem_cons_succ, List.setIfInBounds_toArray, List.set_cons_zero, List.set_cons_succ]
                refine wpAnyH_done (by kernel_rfl) ?_ _
                rw [add_plc]
                go_wp2_with fail
                refine ⟨⟨p + 1, by go_num, by omega, ?_, HGwb⟩, by simp [intOf]; omega⟩
                rw [HX.out, HV.out]
              · rw [if_pos (by rfl)]
                go_wp2_with fail
                refine (digit_any _ rv hrv9).mono ?_
                rintro e wb ⟨rfl, hgwb⟩
                have HGwb : Hid (w0.grownBy wb none) := gb_trans (HGwa.out) hgwb
                have hSwb := hSat wb HGwb.out
                have HBwb : Hid _ := heap_gb hgwb HBwa.out (by simp)
                clear hgwb
                go_wp2_with fail
                refine hK.out _ _ hSwb (fun _ => ?_)
                clear hK
                try simp only [Act.put, List.getElem_toArray, List.getElem_cons_zero, List.getElem_cons_succ, List.setIfInBounds_toArray, List.set_cons_zero, List.set_cons_succ]
                refine wpAnyH_ready (rs := [5]) (by kernel_rfl) (by simp) ?_
                refine AllReadyH.cons rfl (fun K hK => ?_) AllReadyH.nil
                rw [if_pos (by rfl)]
                have hcv := back_at wb _ p hp4 HBwb.out
                go_wp2_with fail
                refine hK.out _ _ hSwb (fun _ => ?_)
                clear hK hcv
                try simp only [Act.put, List.getElem_toArray, List.getElem_cons_zero, List.getElem_cons_succ, List.setIfInBounds_toArray, List.set_cons_zero, List.set_cons_succ]
                refine wpAnyH_take (i := 6) (v := .string (bT X ++ canonB 2 p)) rfl (by kernel_rfl) (by kernel_rfl) (by kernel_rfl) (fun _ _ _ h => h) (Or.inl ⟨by rfl, fun w' hSw => by go_simp <;> omega⟩) hSwb ?_
                simp only [Act.put, List.getElem_toArray, List.getElem_cons_zero, List.getElem_cons_succ, List.setIfInBounds_toArray, List.set_cons_zero, List.set_cons_succ]
                refine wpAnyH_take (i := 7) (v := .string (bT X ++ canonB 2 p ++ ⟨#[61]⟩)) rfl (by kernel_rfl) (by kernel_rfl) (by kernel_rfl) (fun _ _ _ h => h) (Or.inl ⟨by rfl, fun w' hSw => by go_simp <;> omega⟩) hSwb ?_
                simp only [Act.put, List.getElem_toArray, List.getElem_cons_zero, List.getElem_cons_succ, List.setIfInBounds_toArray, List.set_cons_zero, List.set_cons_succ]
                refine wpAnyH_take (i := 13) (v := .string (bT X ++ canonB 2 p ++ ⟨#[61]⟩ ++ canonB 4 rv)) rfl (by kernel_rfl) (by kernel_rfl) (by kernel_rfl) (fun _ _ _ h => h) (Or.inl ⟨by rfl, fun w' hSw => by go_simp <;> omega⟩) hSwb ?_
                simp only [Act.put, List.getElem_toArray, List.getElem_cons_zero, List.getElem_cons_succ, List.setIfInBounds_toArray, List.set_cons_zero, List.set_cons_succ]
                refine wpAnyH_take (i := 14) (v := .string (bT X ++ canonB 2 p ++ ⟨#[61]⟩ ++ canonB 4 rv ++ ⟨#[32]⟩)) rfl (by kernel_rfl) (by kernel_rfl) (by kernel_rfl) (fun _ _ _ h => h) (Or.inl ⟨by rfl, fun w' hSw => by go_simp <;> omega⟩) hSwb ?_
                simp only [Act.put, List.getElem_toArray, List.getElem_cons_zero, List.getElem_cons_succ, List.setIfInBounds_toArray, List.set_cons_zero, List.set_cons_succ]
                refine wpAnyH_take (i := 15) (v := .string (bT X ++ canonB 2 p ++ ⟨#[61]⟩ ++ canonB 4 rv ++ ⟨#[32]⟩)) rfl (by kernel_rfl) (by kernel_rfl) (by kernel_rfl) (fun _ _ _ h => h) (Or.inl ⟨by rfl, fun w' hSw => by go_simp <;> omega⟩) hSwb ?_
                simp only [Act.put, List.getElem_toArray, List.getElem_cons_zero, List.getElem_cons_succ, List.setIfInBounds_toArray, List.set_cons_zero, List.set_cons_succ]
                refine wpAnyH_done (by kernel_rfl) ?_ _
                rw [add_plc]
                go_wp2_with fail
                refine ⟨⟨p + 1, by go_num, by omega, ?_, HGwb⟩, by simp [intOf]; omega⟩
                rw [HX.out, HV.out]
            · rw [if_pos (by rfl)]
              go_wp2_with fail
              refine (digit_any _ rv hrv9).mono ?_
              rintro e wa ⟨rfl, hgwa⟩
              have HGwa : Hid (w0.grownBy wa none) := gb_trans (gb_drew HG2.out) hgwa
              have hSwa := hSat wa HGwa.out
              clear hgwa
              go_wp2_with fail
              refine hK.out _ _ hSwa (fun _ => ?_)
              clear hK
              try simp only [Act.put, List.getElem_toArray, List.getElem_cons_zero, List.getElem_cons_succ, List.setIfInBounds_toArray, List.set_cons_zero, List.set_cons_succ]
              refine wpAnyH_ready (rs := [4]) (by kernel_rfl) (by simp) ?_
              refine AllReadyH.cons rfl (fun K hK => ?_) AllReadyH.nil
              rw [if_pos (by rfl)]
              go_wp2_with fail
              obtain ⟨wb, hwb⟩ : ∃ W1, W1 = ((wa).alloc (.cells #[.int .u8 (119 + (p : Int))] 5)) := ⟨_, rfl⟩
              have HBwb : Hid (wb.heap[(wa).heap.size]? = some (.cells #[.int .u8 (119 + (p : Int))] 5 (0, 0))) := by show _ = _; rw [hwb]; exact heap_alloc_new _ _
              have HGwb : Hid (w0.grownBy wb none) := by show World.grownBy _ _ _; rw [hwb]; exact (gb_alloc (HGwa.out) _)
              have hSwb := hSat wb HGwb.out
              rw [← hwb]
              clear hwb
              refine hK.out _ _ hSwb (fun _ => ?_)
              clear hK
              try simp only [Act.put, List.getElem_toArray, List.getElem_cons_zero, List.getElem_cons_succ, List.setIfInBounds_toArray, List.set_cons_zero, List.set_cons_succ]
              refine wpAnyH_ready (rs := [5]) (by kernel_rfl) (by simp) ?_
              refine AllReadyH.cons rfl (fun K hK => ?_) AllReadyH.nil
              rw [if_pos (by rfl)]
              have hcv := back_at wb _ p hp4 HBwb.out
              go_wp2_with fail
              refine hK.out _ _ hSwb (fun _ => ?_)
              clear hK hcv
              try simp only [Act.put, List.getElem_toArray, List.getElem_cons_zero, List.getElem_cons_succ, List.setIfInBounds_toArray, List.set_cons_zero, List.set_cons_succ]
              refine wpAnyH_take (i := 6) (v := .string (bT X ++ canonB 2 p)) rfl (by kernel_rfl) (by kernel_rfl) (by kernel_rfl) (fun _ _ _ h => h) (Or.inl ⟨by rfl, fun w' hSw => by go_simp <;> omega⟩) hSwb ?_
              simp only [Act.put, List.getElem_toArray, List.getElem_cons_zero, List.getElem_cons_succ, List.setIfInBounds_toArray, List.set_cons_zero, List.set_cons_succ]
              refine wpAnyH_take (i := 7) (v := .string (bT X ++ canonB 2 p ++ ⟨#[61]⟩)) rfl (by kernel_rfl) (by kernel_rfl) (by kernel_rfl) (fun _ _ _ h => h) (Or.inl ⟨by rfl, fun w' hSw => by go_simp <;> omega⟩) hSwb ?_
              simp only [Act.put, List.getElem_toArray, List.getElem_cons_zero, List.getElem_cons_succ, List.setIfInBounds_toArray, List.set_cons_zero, List.set_cons_succ]
              refine wpAnyH_take (i := 13) (v := .string (bT X ++ canonB 2 p ++ ⟨#[61]⟩ ++ canonB 4 rv)) rfl (by kernel_rfl) (by kernel_rfl) (by kernel_rfl) (fun _ _ _ h => h) (Or.inl ⟨by rfl, fun w' hSw => by go_simp <;> omega⟩) hSwb ?_
              simp only [Act.put, List.getElem_toArray, List.getElem_cons_zero, List.getElem_cons_succ, List.setIfInBounds_toArray, List.set_cons_zero, List.set_cons_succ]
              refine wpAnyH_take (i := 14) (v := .string (bT X ++ canonB 2 p ++ ⟨#[61]⟩ ++ canonB 4 rv ++ ⟨#[32]⟩)) rfl (by kernel_rfl) (by kernel_rfl) (by kernel_rfl) (fun _ _ _ h => h) (Or.inl ⟨by rfl, fun w' hSw => by go_simp <;> omega⟩) hSwb ?_
              simp only [Act.put, List.getElem_toArray, List.getElem_cons_zero, List.getElem_cons_succ, List.setIfInBounds_toArray, List.set_cons_zero, List.set_cons_succ]
              refine wpAnyH_take (i := 15) (v := .string (bT X ++ canonB 2 p ++ ⟨#[61]⟩ ++ canonB 4 rv ++ ⟨#[32]⟩)) rfl (by kernel_rfl) (by kernel_rfl) (by kernel_rfl) (fun _ _ _ h => h) (Or.inl ⟨by rfl, fun w' hSw => by go_simp <;> omega⟩) hSwb ?_
              simp only [Act.put, List.getElem_toArray, List.getElem_cons_zero, List.getElem_cons_succ, List.setIfInBounds_toArray, List.set_cons_zero, List.set_cons_succ]
              refine wpAnyH_done (by kernel_rfl) ?_ _
              rw [add_plc]
              go_wp2_with fail
              refine ⟨⟨p + 1, by go_num, by omega, ?_, HGwb⟩, by simp [intOf]; omega⟩
              rw [HX.out, HV.out]
        · have hp' : decide ((p : Int) < 4) = false := by simp; omega
          obtain rfl : p = 4 := by omega
          have hsz := plcX_len c ls ft 4 h4 hp
          by_cases hX0 : plcX c ls ft 4 = []
          · have HO : Hid (outW ls ft s = []) := out_no ls ft s (by rw [← HCC.out]; exact hX0)
            rw [hX0, show bT [] = (⟨#[]⟩ : ByteArray) from rfl]
            go_wp2_with fail
            go_ret
            refine ⟨?_, gb_trans HG0.out HG.out⟩
            rw [HO.out]
            rfl
          · have hO := out_is ls ft s (by rw [← HCC.out]; exact hX0)
            rw [← HCC.out] at hO
            have HO : Hid (plcX c ls ft 4 = outW ls ft s ++ [32]) := hO
            obtain ⟨Y, hY⟩ : ∃ Y, Y = outW ls ft s := ⟨_, rfl⟩
            have HY : Hid (Y = outW ls ft s) := hY
            rw [← hY] at hO HO
            rw [hO] at hsz ⊢
            have zX := bT_size (Y ++ [32])
            have zl : (Y ++ [32]).length = Y.length + 1 := by simp
            have hE : ((bT (Y ++ [32])).toList == []) = false := toL_ne Y
            clear hO hX0 hY
            go_wp2_with fail
            go_ret
            refine ⟨?_, gb_trans HG0.out HG.out⟩
            show Ending.returned (.string ((bT (Y ++ [32])).extract 0 (List.length Y))) = _
            rw [cut_last, ← HY.out]
end Go.Proofs.YtmpaeladhoomoaaGreatDoor
