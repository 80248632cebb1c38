/-
  Plain: the text that tokens make, one behind the other, as the document's answer prints them.
-/
import Derived.Test.YtmpaeladhoomoaaGreatDoorRfA
import Derived.Test.YtmpaeladhoomoaaGreatDoorRdD
namespace Go.Proofs.YtmpaeladhoomoaaGreatDoor
open Go.RowKit

abbrev Txt := List UInt8
/-- So many tokens from a place on; the place behind them. -/
def toks (s : ByteArray) : Nat → Nat → List (Nat × Nat)
  | _, 0 => []
  | i, n + 1 => ((tk s i).kind, (tk s i).num) :: toks s (tk s i).end_ n
def pos (s : ByteArray) : Nat → Nat → Nat
  | i, 0 => i
  | i, n + 1 => pos s (tk s i).end_ n
theorem pos_add (s : ByteArray) : ∀ (n m i : Nat), pos s i (n + m) = pos s (pos s i n) m := by
  intro n
  induction n with
  | zero => intro m i; simp [pos]
  | succ n ih => intro m i; rw [show n + 1 + m = (n + m) + 1 from by omega, pos, pos, ih]
theorem toks_add (s : ByteArray) : ∀ (n m i : Nat), toks s i (n + m) = toks s i n ++ toks s (pos s i n) m := by
  intro n
  induction n with
  | zero => intro m i; simp [pos, toks]
  | succ n ih => intro m i; rw [show n + 1 + m = (n + m) + 1 from by omega, toks, toks, pos, ih]; rfl
theorem toks_len (s : ByteArray) : ∀ (n i : Nat), (toks s i n).length = n := by
  intro n
  induction n with
  | zero => intro i; rfl
  | succ n ih => intro i; simp [toks, ih]

def tokT (x : Nat × Nat) : Txt := canon x.1 x.2
/-- It sticks to what is ahead; what is behind sticks to it. -/
def gl (k : Nat) : Bool := k == 18 || k == 20 || k == 17
def gr (k : Nat) : Bool := k == 19 || k == 17
def sepT (a b : Nat × Nat) : Txt := if (gl b.1 || gr a.1) = true then [] else [32]
def runT : Nat × Nat → List (Nat × Nat) → Txt
  | _, [] => []
  | a, y :: r => sepT a y ++ tokT y ++ runT y r
def lastK : Nat × Nat → List (Nat × Nat) → Nat × Nat
  | a, [] => a
  | _, y :: r => lastK y r
theorem runT_app : ∀ (l : List (Nat × Nat)) (a : Nat × Nat) (m : List (Nat × Nat)), runT a (l ++ m) = runT a l ++ runT (lastK a l) m := by
  intro l
  induction l with
  | nil => intro a m; rfl
  | cons y r ih => intro a m; simp [runT, lastK, ih]
theorem lastK_app : ∀ (l : List (Nat × Nat)) (a : Nat × Nat) (m : List (Nat × Nat)), lastK a (l ++ m) = lastK (lastK a l) m := by
  intro l
  induction l with
  | nil => intro a m; rfl
  | cons y r ih => intro a m; simp [lastK, ih]
theorem lastK_mem : ∀ (l : List (Nat × Nat)) (a : Nat × Nat), lastK a l ∈ a :: l := by
  intro l
  induction l with
  | nil => intro a; simp [lastK]
  | cons y r ih => intro a; rw [lastK]; exact List.mem_cons_of_mem _ (ih y)

/-- Words of a step or a formula: none of them a thread's. -/
def Inner (l : List (Nat × Nat)) : Prop := ∀ y ∈ l, 2 ≤ y.1 ∧ y.1 ≠ 5
theorem Inner.app {l m : List (Nat × Nat)} (h : Inner l) (k : Inner m) : Inner (l ++ m) := fun y hy => (List.mem_append.1 hy).elim (h y) (k y)
/-- From i to j the text prints as t; nothing at its ends sticks to what is beside it. -/
structure RenN (s : ByteArray) (i j n : Nat) (t : Txt) (x : Nat × Nat) (l : List (Nat × Nat)) : Prop where
  toks : toks s i n = x :: l
  pos : pos s i n = j
  txt : t = tokT x ++ runT x l
  hd : gl x.1 = false
  ls : gr (lastK x l).1 = false
  inner : Inner (x :: l)
def Ren (s : ByteArray) (i j : Nat) (t : Txt) : Prop := ∃ n x l, RenN s i j n t x l

theorem sep_blank {a b : Nat × Nat} (h : gl b.1 = false) (k : gr a.1 = false) : sepT a b = [32] := by unfold sepT; rw [h, k]; rfl
theorem run_snoc (x : Nat × Nat) (l : List (Nat × Nat)) (y : Nat × Nat) (m : List (Nat × Nat)) (hy : gl y.1 = false) (hl : gr (lastK x l).1 = false) : tokT x ++ runT x (l ++ y :: m) = (tokT x ++ runT x l) ++ [32] ++ (tokT y ++ runT y m) := by
  rw [runT_app, runT, sep_blank hy hl]; simp
/-- One text, a word, and another. -/
theorem Ren.word {s : ByteArray} {i j k : Nat} {t u : Txt} (h : Ren s i j t) (hk : (tk s j).kind = 12 ∨ (tk s j).kind = 13) (h2 : Ren s (tk s j).end_ k u) : Ren s i k (t ++ ([32] ++ canon (tk s j).kind 0 ++ [32]) ++ u) := by
  obtain ⟨n, x, l, r⟩ := h
  obtain ⟨n2, y, m, r2⟩ := h2
  have hw : gl (tk s j).kind = false ∧ gr (tk s j).kind = false ∧ 2 ≤ (tk s j).kind ∧ (tk s j).kind ≠ 5 ∧ canon (tk s j).kind (tk s j).num = canon (tk s j).kind 0 := by
    rcases hk with e | e <;> rw [e] <;> exact ⟨rfl, rfl, by decide, by decide, rfl⟩
  refine ⟨n + (1 + n2), x, l ++ (((tk s j).kind, (tk s j).num) :: y :: m), ?_, ?_, ?_, r.hd, ?_, ?_⟩
  · rw [toks_add, r.toks, r.pos, toks_add, show toks s j 1 = [((tk s j).kind, (tk s j).num)] from rfl, show Go.Proofs.YtmpaeladhoomoaaGreatDoor.pos s j 1 = (tk s j).end_ from rfl, r2.toks]; rfl
  · rw [pos_add, r.pos, pos_add, show Go.Proofs.YtmpaeladhoomoaaGreatDoor.pos s j 1 = (tk s j).end_ from rfl, r2.pos]
  · rw [run_snoc x l _ _ hw.1 r.ls, ← r.txt, runT, sep_blank r2.hd hw.2.1, show [32] ++ tokT y ++ runT y m = [32] ++ u from by rw [r2.txt, List.append_assoc]]
    show _ = t ++ [32] ++ (canon (tk s j).kind (tk s j).num ++ _)
    rw [hw.2.2.2.2]; simp
  · rw [lastK_app]; exact r2.ls
  · have h1 : Inner (((tk s j).kind, (tk s j).num) :: y :: m) := fun z hz => by
      rcases List.mem_cons.1 hz with rfl | hz
      · exact ⟨hw.2.2.1, hw.2.2.2.1⟩
      · exact r2.inner z hz
    exact Inner.app r.inner h1
/-- A word, and a text. -/
theorem Ren.not {s : ByteArray} {i j : Nat} {u : Txt} (hk : (tk s i).kind = 14) (h : Ren s (tk s i).end_ j u) : Ren s i j ([110, 111, 116, 32] ++ u) := by
  obtain ⟨n, x, l, r⟩ := h
  refine ⟨n + 1, ((tk s i).kind, (tk s i).num), x :: l, ?_, ?_, ?_, by rw [hk]; rfl, r.ls, ?_⟩
  · rw [Go.Proofs.YtmpaeladhoomoaaGreatDoor.toks, r.toks]
  · rw [Go.Proofs.YtmpaeladhoomoaaGreatDoor.pos, r.pos]
  · rw [runT, sep_blank r.hd (by rw [hk]; rfl), List.append_assoc, ← r.txt, hk]; rfl
  · intro z hz
    rcases List.mem_cons.1 hz with rfl | hz
    · simp [hk]
    · exact r.inner z hz
/-- A text in brackets. -/
theorem Ren.group {s : ByteArray} {i j : Nat} {u : Txt} (hk : (tk s i).kind = 19) (h : Ren s (tk s i).end_ j u) (hj : (tk s j).kind = 20) : Ren s i (tk s j).end_ ([40] ++ u ++ [41]) := by
  obtain ⟨n, x, l, r⟩ := h
  refine ⟨n + 1 + 1, ((tk s i).kind, (tk s i).num), x :: (l ++ [((tk s j).kind, (tk s j).num)]), ?_, ?_, ?_, by rw [hk]; rfl, ?_, ?_⟩
  · rw [Go.Proofs.YtmpaeladhoomoaaGreatDoor.toks, toks_add, r.toks, r.pos]; rfl
  · rw [Go.Proofs.YtmpaeladhoomoaaGreatDoor.pos, pos_add, r.pos]; rfl
  · rw [runT, runT_app, show sepT ((tk s i).kind, (tk s i).num) x = [] from by unfold sepT; rw [hk]; simp [gr], runT, runT, show sepT (lastK x l) ((tk s j).kind, (tk s j).num) = [] from by unfold sepT; rw [hj]; simp [gl], r.txt]
    show _ = canon (tk s i).kind (tk s i).num ++ ([] ++ tokT x ++ (runT x l ++ ([] ++ canon (tk s j).kind (tk s j).num ++ [])))
    rw [hk, hj]; simp [canon]
  · rw [lastK, lastK_app]; show gr (tk s j).kind = false; rw [hj]; rfl
  · intro z hz
    rcases List.mem_cons.1 hz with rfl | hz
    · simp [hk]
    · rw [show x :: (l ++ [((tk s j).kind, (tk s j).num)]) = (x :: l) ++ [((tk s j).kind, (tk s j).num)] from rfl] at hz
      rcases List.mem_append.1 hz with hz | hz
      · exact r.inner z hz
      · simp at hz; subst hz; simp [hj]

/-- How great a number is. -/
theorem rowC_num (l : List UInt8) (h : (rowC l).1 = 2 ∨ (rowC l).1 = 3) : (rowC l).2 ≤ 3 := by
  have hw := wordC_le l
  unfold rowC at h ⊢
  split
  · rename_i h1; rw [if_pos h1] at h; simp at h
  · rename_i h1
    rw [if_neg h1] at h
    split
    · simp; omega
    · rename_i h2
      rw [if_neg h2] at h
      split
      · simp; omega
      · simp
theorem tk_numPR (s : ByteArray) (i : Nat) (h : (tk s i).kind = 2 ∨ (tk s i).kind = 3) : (tk s i).num ≤ 3 := by
  unfold tk at h ⊢
  split
  · simp
  · rename_i h1
    rw [if_neg h1] at h
    split
    · rename_i h2
      rw [if_pos h2] at h
      exact rowC_num _ h
    · simp

/-- A step's text, as the program prints it. -/
def stT (x : St) : Txt :=
  if x.kind = 0 then canon 2 x.place ++ [32, 58, 61, 32] ++ canon 4 x.digit else if x.kind = 1 then canon 2 x.place ++ [32, 58, 61, 32] ++ canon 3 x.reg else
  if x.kind = 2 then canon 3 x.reg ++ [32, 58, 61, 32] ++ canon 2 x.place else if x.kind = 3 then canon 3 x.reg ++ [32, 58, 61, 32] ++ canon 4 x.digit else
  if x.kind = 4 then canon 3 x.reg ++ [32, 58, 61, 32, 115, 119, 97, 112, 32] ++ canon 2 x.place ++ [32] ++ canon 4 x.digit else
  if x.kind = 6 then [105, 102, 32] ++ canon 3 x.reg ++ [32, 61, 32] ++ canon 4 x.digit ++ [32, 115, 107, 105, 112, 32] ++ canon 4 x.count else [102, 101, 110, 99, 101]
structure StOk (x : St) : Prop where
  kind : x.kind ≤ 6
  place : x.place ≤ 3
  reg : x.reg ≤ 3
  digit : x.digit ≤ 9
  count : x.count ≤ 9
/-- An atom's text. -/
def regT (x y z : Nat) : Txt := canon 4 x ++ [58] ++ canon 3 y ++ [32, 61, 32] ++ canon 4 z
def plcT (y z : Nat) : Txt := canon 2 y ++ [32, 61, 32] ++ canon 4 z

theorem tok1 (s : ByteArray) (p : PS) : toks s p.i 1 = [(kd s p, nm s p)] ∧ ∀ k, pos s p.i 1 = (nxt s p k).i := ⟨rfl, fun k => by rw [nxt_i]; rfl⟩
theorem tokS (s : ByteArray) (p : PS) (k : Int) (n : Nat) : toks s p.i (n + 1) = (kd s p, nm s p) :: toks s (nxt s p k).i n ∧ pos s p.i (n + 1) = pos s (nxt s p k).i n := by rw [nxt_i]; exact ⟨rfl, rfl⟩
theorem eqd_toks {s : ByteArray} {p p' : PS} {d : Nat} (h : eqdS s p = .ok (d, p')) : toks s p.i 2 = [(16, nm s p), (4, d)] ∧ pos s p.i 2 = p'.i ∧ d ≤ 9 := by
  unfold eqdS at h
  split at h
  · rename_i h1
    split at h
    · rename_i h2
      simp only [Except.ok.injEq, Prod.mk.injEq] at h
      obtain ⟨rfl, rfl⟩ := h
      refine ⟨?_, ?_, (tk_le s _).2⟩
      · rw [(tokS s p 16 1).1, (tok1 s _).1, h1, h2]
      · rw [(tokS s p 16 1).2, (tok1 s _).2 4]
    · simp at h
  · simp at h
theorem Ren.of {s : ByteArray} {i j n : Nat} {t : Txt} {x : Nat × Nat} {l : List (Nat × Nat)} (h : toks s i n = x :: l) (hp : pos s i n = j) (ht : t = tokT x ++ runT x l) (h1 : gl x.1 = false) (h2 : gr (lastK x l).1 = false) (h3 : Inner (x :: l)) : Ren s i j t := ⟨n, x, l, h, hp, ht, h1, h2, h3⟩
theorem place_ren {s : ByteArray} {p p' : PS} {d : Nat} (hk : kd s p = 2) (h : eqdS s (nxt s p 2) = .ok (d, p')) : Ren s p.i p'.i (plcT (nm s p) d) ∧ nm s p ≤ 3 ∧ d ≤ 9 := by
  obtain ⟨h1, h2, h3⟩ := eqd_toks h
  have e := tokS s p 2 2
  rw [h1, h2, hk] at e
  refine ⟨Ren.of e.1 e.2 (by simp [runT, sepT, gl, gr, tokT, plcT, canon]) rfl rfl (by simp [Inner]), tk_numPR s _ (Or.inl hk), h3⟩
theorem reg_ren {s : ByteArray} {p q p' : PS} {d : Nat} (hk : kd s p = 4) (hq : q.i = (nxt s p 4).i) (h17 : kd s q = 17) (h3 : kd s (nxt s q 17) = 3) (h : eqdS s (nxt s (nxt s q 17) 3) = .ok (d, p')) : Ren s p.i p'.i (regT (nm s p) (nm s (nxt s q 17)) d) ∧ nm s p ≤ 9 ∧ nm s (nxt s q 17) ≤ 3 ∧ d ≤ 9 := by
  obtain ⟨h1, h2, h9⟩ := eqd_toks h
  have e1 := tokS s (nxt s q 17) 3 2
  rw [h1, h2, h3] at e1
  have e2 := tokS s q 17 3
  rw [e1.1, e1.2, h17] at e2
  have e3 := tokS s p 4 4
  rw [← hq, e2.1, e2.2, hk] at e3
  refine ⟨Ren.of e3.1 e3.2 (by simp [runT, sepT, gl, gr, tokT, regT, canon]) rfl rfl (by simp [Inner]), (tk_le s _).2, tk_numPR s _ (Or.inr h3), h9⟩
theorem step_ren {s : ByteArray} {p p' : PS} {x : St} (h : stepS s p = .ok (x, p')) : Ren s p.i p'.i (stT x) ∧ StOk x := by
  unfold stepS at h
  split at h
  · rename_i h2
    unfold storeS at h
    have n1 := tk_numPR s p.i (Or.inl h2)
    split at h
    · rename_i h15
      split at h
      · rename_i h3
        simp only [Except.ok.injEq, Prod.mk.injEq] at h
        obtain ⟨rfl, rfl⟩ := h
        have e1 := tok1 s (nxt s (nxt s p 2) 15)
        have e2 := tokS s (nxt s p 2) 15 1
        rw [e1.1, e1.2 3, h3, h15] at e2
        have e3 := tokS s p 2 2
        rw [e2.1, e2.2, h2] at e3
        exact ⟨Ren.of e3.1 e3.2 (by simp [runT, sepT, gl, gr, tokT, stT, canon]) rfl rfl (by simp [Inner]), by simp, n1, tk_numPR s _ (Or.inr h3), by simp, by simp⟩
      · split at h
        · rename_i h4
          simp only [Except.ok.injEq, Prod.mk.injEq] at h
          obtain ⟨rfl, rfl⟩ := h
          have e1 := tok1 s (nxt s (nxt s p 2) 15)
          have e2 := tokS s (nxt s p 2) 15 1
          rw [e1.1, e1.2 4, h4, h15] at e2
          have e3 := tokS s p 2 2
          rw [e2.1, e2.2, h2] at e3
          exact ⟨Ren.of e3.1 e3.2 (by simp [runT, sepT, gl, gr, tokT, stT, canon]) rfl rfl (by simp [Inner]), by simp, n1, by simp, (tk_le s _).2, by simp⟩
        · simp at h
    · simp at h
  · split at h
    · rename_i h3
      have n1 := tk_numPR s p.i (Or.inr h3)
      unfold assignS at h
      split at h
      · rename_i h15
        split at h
        · rename_i h2
          simp only [Except.ok.injEq, Prod.mk.injEq] at h
          obtain ⟨rfl, rfl⟩ := h
          have e1 := tok1 s (nxt s (nxt s p 3) 15)
          have e2 := tokS s (nxt s p 3) 15 1
          rw [e1.1, e1.2 2, h2, h15] at e2
          have e3 := tokS s p 3 2
          rw [e2.1, e2.2, h3] at e3
          exact ⟨Ren.of e3.1 e3.2 (by simp [runT, sepT, gl, gr, tokT, stT, canon]) rfl rfl (by simp [Inner]), by simp, tk_numPR s _ (Or.inl h2), n1, by simp, by simp⟩
        · split at h
          · rename_i h4
            simp only [Except.ok.injEq, Prod.mk.injEq] at h
            obtain ⟨rfl, rfl⟩ := h
            have e1 := tok1 s (nxt s (nxt s p 3) 15)
            have e2 := tokS s (nxt s p 3) 15 1
            rw [e1.1, e1.2 4, h4, h15] at e2
            have e3 := tokS s p 3 2
            rw [e2.1, e2.2, h3] at e3
            exact ⟨Ren.of e3.1 e3.2 (by simp [runT, sepT, gl, gr, tokT, stT, canon]) rfl rfl (by simp [Inner]), by simp, by simp, n1, (tk_le s _).2, by simp⟩
          · unfold swapS at h
            split at h
            · rename_i h7
              split at h
              · rename_i h2
                split at h
                · rename_i h4
                  simp only [Except.ok.injEq, Prod.mk.injEq] at h
                  obtain ⟨rfl, rfl⟩ := h
                  have e1 := tok1 s (nxt s (nxt s (nxt s (nxt s p 3) 15) 7) 2)
                  have e2 := tokS s (nxt s (nxt s (nxt s p 3) 15) 7) 2 1
                  rw [e1.1, e1.2 4, h4, h2] at e2
                  have e3 := tokS s (nxt s (nxt s p 3) 15) 7 2
                  rw [e2.1, e2.2, h7] at e3
                  have e4 := tokS s (nxt s p 3) 15 3
                  rw [e3.1, e3.2, h15] at e4
                  have e5 := tokS s p 3 4
                  rw [e4.1, e4.2, h3] at e5
                  exact ⟨Ren.of e5.1 e5.2 (by simp [runT, sepT, gl, gr, tokT, stT, canon]) rfl rfl (by simp [Inner]), by simp, tk_numPR s _ (Or.inl h2), n1, (tk_le s _).2, by simp⟩
                · simp at h
              · simp at h
            · simp at h
      · simp at h
    · split at h
      · rename_i h8
        unfold branchS at h
        split at h
        · rename_i h3
          cases hq : eqdS s (nxt s (nxt s p 8) 3) with
          | error q => rw [hq] at h; simp at h
          | ok r =>
            obtain ⟨d, p3⟩ := r
            rw [hq] at h
            simp only at h
            obtain ⟨g1, g2, g3⟩ := eqd_toks hq
            split at h
            · rename_i h9
              split at h
              · rename_i h4
                simp only [Except.ok.injEq, Prod.mk.injEq] at h
                obtain ⟨rfl, rfl⟩ := h
                have e1 := tok1 s (nxt s p3 9)
                have e2 := tokS s p3 9 1
                rw [e1.1, e1.2 4, h4, h9] at e2
                have e3 : toks s (nxt s (nxt s p 8) 3).i 4 = [(16, nm s (nxt s (nxt s p 8) 3)), (4, d), (9, nm s p3), (4, nm s (nxt s p3 9))] ∧ pos s (nxt s (nxt s p 8) 3).i 4 = (nxt s (nxt s p3 9) 4).i := by
                  rw [show (4 : Nat) = 2 + 2 from rfl, toks_add, pos_add, g1, g2, e2.1, e2.2]; exact ⟨rfl, rfl⟩
                have e4 := tokS s (nxt s p 8) 3 4
                rw [e3.1, e3.2, h3] at e4
                have e5 := tokS s p 8 5
                rw [e4.1, e4.2, h8] at e5
                exact ⟨Ren.of e5.1 e5.2 (by simp [runT, sepT, gl, gr, tokT, stT, canon]) rfl rfl (by simp [Inner]), by simp, by simp, tk_numPR s _ (Or.inr h3), g3, (tk_le s _).2⟩
              · simp at h
            · simp at h
        · simp at h
      · split at h
        · rename_i h6
          simp only [Except.ok.injEq, Prod.mk.injEq] at h
          obtain ⟨rfl, rfl⟩ := h
          have e1 := tok1 s p
          rw [h6] at e1
          exact ⟨Ren.of e1.1 (e1.2 6) (by simp [runT, tokT, stT, canon]) rfl rfl (by simp [Inner]), by simp, by simp, by simp, by simp, by simp⟩
        · simp at h
end Go.Proofs.YtmpaeladhoomoaaGreatDoor
