/-
  Plain: the tokens of threads, and the text that the document's answer makes of them; it is the text that the program makes of the steps.
-/
import Derived.Test.YtmpaeladhoomoaaGreatDoorPrB
namespace Go.Proofs.YtmpaeladhoomoaaGreatDoor
open Go.RowKit

/-- The tokens of steps, each with a semicolon behind it. -/
def StepsTok : List St → List (Nat × Nat) → Prop
  | [], T => T = []
  | x :: r, T => ∃ (a : Nat × Nat) (m : List (Nat × Nat)) (k : Nat) (rest : List (Nat × Nat)), T = (a :: m) ++ (18, k) :: rest ∧ stT x = tokT a ++ runT a m ∧ gl a.1 = false ∧ Inner (a :: m) ∧ StOk x ∧ StepsTok r rest
theorem StepsTok.inner : ∀ {l : List St} {T : List (Nat × Nat)}, StepsTok l T → Inner T := by
  intro l
  induction l with
  | nil => intro T h; have h : T = [] := h; subst h; intro y hy; simp at hy
  | cons x r ih =>
    intro T h
    obtain ⟨a, m, k, rest, rfl, _, _, h4, _, h6⟩ := h
    refine Inner.app h4 (fun y hy => ?_)
    rcases List.mem_cons.1 hy with rfl | hy
    · simp
    · exact ih h6 y hy
theorem StepsTok.ok : ∀ {l : List St} {T : List (Nat × Nat)}, StepsTok l T → ∀ x ∈ l, StOk x := by
  intro l
  induction l with
  | nil => intro T _ x hx; simp at hx
  | cons y r ih =>
    intro T h x hx
    obtain ⟨a, m, k, rest, rfl, _, _, _, h5, h6⟩ := h
    rcases List.mem_cons.1 hx with rfl | hx
    · exact h5
    · exact ih h6 x hx
theorem steps_tok (s : ByteArray) : ∀ (n : Nat) (acc : List (St × Nat)) (p : PS) (l : List (St × Nat)) (p' : PS), stepsS s n acc p = .ok (l, p') → ∃ l2 k, l = acc ++ l2 ∧ pos s p.i k = p'.i ∧ StepsTok (l2.map (·.1)) (toks s p.i k) := by
  intro n
  induction n with
  | zero => intro acc p l p' h; simp [stepsS] at h
  | succ n ih =>
    intro acc p l p' h
    rw [stepsS] at h
    split at h
    · split at h
      · simp at h
      · cases hs : stepS s p with
        | error q => rw [hs] at h; simp at h
        | ok r =>
          obtain ⟨x, p1⟩ := r
          rw [hs] at h
          simp only at h
          split at h
          · rename_i h18
            obtain ⟨l2, k, rfl, h2, h3⟩ := ih _ _ _ _ h
            obtain ⟨⟨m, a, t, r⟩, ok⟩ := step_ren hs
            refine ⟨(x, (nxt s p1 18).dig) :: l2, m + (k + 1), by simp, ?_, ?_⟩
            · rw [pos_add, r.pos, (tokS s p1 18 k).2, h2]
            · rw [toks_add, r.toks, r.pos, (tokS s p1 18 k).1, h18]
              exact ⟨a, t, _, _, rfl, r.txt, r.hd, r.inner, ok, h3⟩
          · simp at h
    · simp only [Except.ok.injEq, Prod.mk.injEq] at h
      obtain ⟨rfl, rfl⟩ := h
      exact ⟨[], 0, by simp, rfl, rfl⟩
theorem skipsS_i : ∀ (l : List (St × Nat)) (p : PS), (skipsS l p).i = p.i := by
  intro l
  induction l with
  | nil => intro p; rfl
  | cons y r ih =>
    intro p
    obtain ⟨x, d⟩ := y
    rw [skipsS]
    split
    · rw [ih]; unfold jumped; split <;> rfl
    · exact ih p
theorem thread_tok {s : ByteArray} {p p' : PS} {l : List St} (h : threadS s p = .ok (l, p')) : ∃ n k T, toks s p.i n = (5, k) :: T ∧ pos s p.i n = p'.i ∧ StepsTok l T := by
  unfold threadS at h
  split at h
  · simp at h
  · split at h
    · rename_i h5
      cases hs : stepsS s 9 [] (nxt s p 5) with
      | error q => rw [hs] at h; simp at h
      | ok r =>
        obtain ⟨l1, p1⟩ := r
        rw [hs] at h
        simp only [Except.ok.injEq, Prod.mk.injEq] at h
        obtain ⟨rfl, rfl⟩ := h
        obtain ⟨l2, k, rfl, h2, h3⟩ := steps_tok s _ _ _ _ _ hs
        refine ⟨k + 1, nm s p, _, by rw [(tokS s p 5 k).1, h5], ?_, by simpa using h3⟩
        rw [(tokS s p 5 k).2, h2, skipsS_i]
    · simp at h
/-- The tokens of threads. -/
def ThreadsTok : List (List St) → List (Nat × Nat) → Prop
  | [], T => T = []
  | l :: r, T => ∃ (k : Nat) (T1 T2 : List (Nat × Nat)), T = (5, k) :: (T1 ++ T2) ∧ StepsTok l T1 ∧ ThreadsTok r T2
theorem ThreadsTok.snoc {l : List St} {k : Nat} {T1 : List (Nat × Nat)} (h1 : StepsTok l T1) : ∀ {ls : List (List St)} {T : List (Nat × Nat)}, ThreadsTok ls T → ThreadsTok (ls ++ [l]) (T ++ (5, k) :: T1) := by
  intro ls
  induction ls with
  | nil => intro T h; have h : T = [] := h; subst h; exact ⟨k, T1, [], by simp, h1, rfl⟩
  | cons x r ih => intro T h; obtain ⟨k2, T2, T3, rfl, h2, h3⟩ := h; exact ⟨k2, T2, T3 ++ (5, k) :: T1, by simp, h2, ih h3⟩
theorem ThreadsTok.ok : ∀ {ls : List (List St)} {T : List (Nat × Nat)}, ThreadsTok ls T → ∀ l ∈ ls, ∀ x ∈ l, StOk x := by
  intro ls
  induction ls with
  | nil => intro T _ l hl; simp at hl
  | cons y r ih =>
    intro T h l hl
    obtain ⟨k, T1, T2, rfl, h2, h3⟩ := h
    rcases List.mem_cons.1 hl with rfl | hl
    · exact h2.ok
    · exact ih h3 l hl

/-- What the document's answer prints behind a token. -/
def rrun (sp : Nat) : Nat → Nat × Nat → List (Nat × Nat) → Txt
  | _, _, [] => []
  | i, a, y :: r => (if y.1 = 5 ∨ i = sp then [10] else sepT a y) ++ tokT y ++ rrun sp (i + 1) y r
def rprint (sp : Nat) : List (Nat × Nat) → Txt
  | [] => [10]
  | x :: r => tokT x ++ rrun sp 1 x r ++ [10]
theorem rrun_app (sp : Nat) : ∀ (l : List (Nat × Nat)) (i : Nat) (a : Nat × Nat) (m : List (Nat × Nat)), rrun sp i a (l ++ m) = rrun sp i a l ++ rrun sp (i + l.length) (lastK a l) m := by
  intro l
  induction l with
  | nil => intro i a m; simp [rrun, lastK]
  | cons y r ih => intro i a m; simp only [List.cons_append, rrun, lastK, ih, List.length_cons]; rw [show i + 1 + r.length = i + (r.length + 1) from by omega]; simp
theorem rrun_inner (sp : Nat) : ∀ (l : List (Nat × Nat)) (i : Nat) (a : Nat × Nat), Inner l → (sp < i ∨ i + l.length ≤ sp) → rrun sp i a l = runT a l := by
  intro l
  induction l with
  | nil => intro i a _ _; rfl
  | cons y r ih =>
    intro i a h hs
    simp only [List.length_cons] at hs
    have hy := h y (by simp)
    rw [rrun, runT, if_neg (by omega), ih (i + 1) y (fun z hz => h z (by simp [hz])) (by omega)]

/-- What the program prints of steps and threads. -/
def stepsT (l : List St) : Txt := l.flatMap (fun x => [32] ++ stT x ++ [59])
def thrT (l : List St) : Txt := [116, 104, 114, 101, 97, 100] ++ stepsT l ++ [10]
def qT (fa : Bool) : Txt := if fa = true then [102, 111, 114, 97, 108, 108] else [101, 120, 105, 115, 116, 115]
def testT (ls : List (List St)) (fa : Bool) (ft : Txt) : Txt := ls.flatMap thrT ++ (qT fa ++ [32] ++ ft ++ [10])
theorem steps_run : ∀ (l : List St) (T : List (Nat × Nat)) (a : Nat × Nat), StepsTok l T → gr a.1 = false → runT a T = stepsT l := by
  intro l
  induction l with
  | nil => intro T a h _; have h : T = [] := h; subst h; rfl
  | cons x r ih =>
    intro T a h ha
    obtain ⟨b, m, k, rest, rfl, h2, h3, _, _, h6⟩ := h
    show runT a (b :: (m ++ (18, k) :: rest)) = _
    rw [runT, sep_blank h3 ha, runT_app, runT, ih rest (18, k) h6 rfl]
    show _ = ([32] ++ stT x ++ [59]) ++ stepsT r
    rw [h2, show sepT (lastK b m) (18, k) = [] from by unfold sepT; simp [gl]]
    simp [tokT, canon]
theorem threads_run (sp : Nat) : ∀ (ls : List (List St)) (T : List (Nat × Nat)) (i : Nat) (a : Nat × Nat), ThreadsTok ls T → i + T.length ≤ sp → rrun sp i a T = ls.flatMap (fun l => [10] ++ [116, 104, 114, 101, 97, 100] ++ stepsT l) := by
  intro ls
  induction ls with
  | nil => intro T i a h _; have h : T = [] := h; subst h; rfl
  | cons l r ih =>
    intro T i a h hi
    obtain ⟨k, T1, T2, rfl, h2, h3⟩ := h
    simp only [List.length_cons, List.length_append] at hi
    rw [rrun, if_pos (Or.inl rfl), rrun_app, rrun_inner sp T1 _ _ h2.inner (by omega), steps_run l T1 (5, k) h2 rfl, ih T2 _ _ h3 (by omega)]
    simp [tokT, canon]
theorem flat_shift (f : List St → Txt) : ∀ (r : List (List St)) (l : List St), (l :: r).flatMap (fun l => f l ++ [10]) = f l ++ r.flatMap (fun l => [10] ++ f l) ++ [10] := by
  intro r
  induction r with
  | nil => intro l; simp
  | cons y r ih => intro l; rw [List.flatMap_cons, ih y]; simp
/-- The whole text: the document's answer prints the tokens as the program prints what it has read. -/
theorem print_eq {ls : List (List St)} {T F : List (Nat × Nat)} {fa : Bool} {ft : Txt} {k : Nat} {f : Nat × Nat} (hT : ThreadsTok ls T) (hls : ls ≠ []) (hF : ft = tokT f ++ runT f F) (hf : gl f.1 = false) (hI : Inner (f :: F)) :
    rprint T.length (T ++ (if fa = true then 11 else 10, k) :: f :: F) = testT ls fa ft := by
  cases ls with
  | nil => exact (hls rfl).elim
  | cons l r =>
    obtain ⟨k1, T1, T2, rfl, h2, h3⟩ := hT
    have hq : tokT (if fa = true then 11 else 10, k) = qT fa := by cases fa <;> rfl
    have hg : gr (if fa = true then 11 else 10) = false := by cases fa <;> rfl
    show tokT (5, k1) ++ rrun _ 1 (5, k1) (T1 ++ T2 ++ ((if fa = true then 11 else 10, k) :: f :: F)) ++ [10] = _
    simp only [List.length_cons, List.length_append]
    rw [rrun_app, rrun_app, rrun_inner _ T1 _ _ h2.inner (by omega), steps_run l T1 (5, k1) h2 rfl, threads_run _ r T2 _ _ h3 (by omega), rrun, if_pos (Or.inr (by simp; omega)), hq,
      rrun_inner _ (f :: F) _ _ hI (Or.inl (by simp)), runT, sep_blank hf hg]
    unfold testT
    rw [show (l :: r).flatMap thrT = (l :: r).flatMap (fun l => ([116, 104, 114, 101, 97, 100] ++ stepsT l) ++ [10]) from rfl, flat_shift, hF]
    simp [tokT, canon]
end Go.Proofs.YtmpaeladhoomoaaGreatDoor
