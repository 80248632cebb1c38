/-
  Plain: the machine, on states as lists, and the program's cells beside them.
  Plain: moves of the machine, and the program's cells behind them.
  Plain: walks of the machine; what holds of every state on the way.
  The document's machine: a step, plainly; a state that is being changed, in memory.
-/
import Derived.Test.YtmpaeladhoomoaaGreatDoorPmW
import Derived.Test.YtmpaeladhoomoaaGreatDoorWkV
import Derived.Test.YtmpaeladhoomoaaGreatDoorWkL
import Derived.Test.YtmpaeladhoomoaaGreatDoorWkW
namespace Go.Proofs.YtmpaeladhoomoaaGreatDoor
open Go.RowKit

/-- A buffer's cells beside the stores that wait. -/
structure BRep (d : Nat → Nat) (l : List (Nat × Nat)) : Prop where
  len : d 16 = l.length
  at_ : ∀ k x, l[k]? = some x → d (2 * k) = x.1 ∧ d (2 * k + 1) = x.2
def oldW (p : Nat) : Nat → List (Nat × Nat) → Option Nat
  | _, [] => none
  | k, x :: r => if x.1 = p then some k else oldW p (k + 1) r
theorem BRep.old {d : Nat → Nat} {l : List (Nat × Nat)} (h : BRep d l) (p : Nat) : ∀ n k, k + n = l.length → oldC d p k n = oldW p k (l.drop k) := by
  intro n
  induction n with
  | zero => intro k hk; rw [List.drop_eq_nil_of_le (by omega)]; rfl
  | succ n ih =>
    intro k hk
    obtain ⟨x, hx⟩ : ∃ x, l[k]? = some x := ⟨l[k]'(by omega), List.getElem?_eq_getElem (by omega)⟩
    obtain ⟨hk', hx'⟩ := List.getElem?_eq_some_iff.1 hx
    rw [oldC, (h.at_ k x hx).1, List.drop_eq_getElem_cons hk', hx', oldW, ih (k + 1) (by omega)]
def seesW (p m : Nat) : List (Nat × Nat) → Nat
  | [] => m
  | x :: r => seesW p (if x.1 = p then x.2 else m) r
theorem seesW_snoc (p : Nat) (x : Nat × Nat) : ∀ (l : List (Nat × Nat)) (m : Nat), seesW p m (l ++ [x]) = if x.1 = p then x.2 else seesW p m l := by
  intro l
  induction l with
  | nil => intro m; rfl
  | cons y r ih => intro m; exact ih _
theorem BRep.new {d : Nat → Nat} {l : List (Nat × Nat)} (h : BRep d l) (p m : Nat) : ∀ k, k ≤ l.length → (newC d p k).getD m = seesW p m (l.take k) := by
  intro k
  induction k with
  | zero => intro _; rfl
  | succ k ih =>
    intro hk
    obtain ⟨x, hx⟩ : ∃ x, l[k]? = some x := ⟨l[k]'(by omega), List.getElem?_eq_getElem (by omega)⟩
    rw [List.take_add_one, hx, newC, (h.at_ k x hx).1, (h.at_ k x hx).2]
    show _ = seesW p m (l.take k ++ [x])
    rw [seesW_snoc]
    split
    · rfl
    · exact ih (by omega)

/-- The program's cells beside a state. -/
structure CRep (c : Nat → Nat) (s : WSt) : Prop where
  small : ∀ j, c j ≤ 255
  four : s.ths.length ≤ 4
  next : ∀ i t, s.ths[i]? = some t → c (i * 22) = t.next
  regs : ∀ i t, s.ths[i]? = some t → ∀ r, r < 4 → c (i * 22 + 1 + r) = t.regs.getD r 0
  wait : ∀ i t, s.ths[i]? = some t → c (i * 22 + 5 + 16) = t.wait.length
  at_ : ∀ i t, s.ths[i]? = some t → ∀ k x, t.wait[k]? = some x → k < 8 ∧ c (i * 22 + 5 + k * 2) = x.1 ∧ c (i * 22 + 5 + k * 2 + 1) = x.2
  none : ∀ i, s.ths.length ≤ i → i < 4 → c (i * 22 + 5 + 16) = 0
  mem : ∀ p, p < 4 → c (88 + p) = s.mem p
theorem CRep.buf {c : Nat → Nat} {s : WSt} (h : CRep c s) {i : Nat} {t : WTh} (ht : s.ths[i]? = some t) : BRep (fun j => c (i * 22 + 5 + j)) t.wait := by
  refine ⟨h.wait i t ht, fun k x hx => ?_⟩
  obtain ⟨_, h1, h2⟩ := h.at_ i t ht k x hx
  rw [show k * 2 = 2 * k by omega] at h1 h2
  exact ⟨h1, h2⟩
theorem CRep.len {c : Nat → Nat} {s : WSt} (h : CRep c s) {i : Nat} {t : WTh} (ht : s.ths[i]? = some t) : t.wait.length ≤ 8 := by
  by_cases h0 : t.wait.length = 0
  · omega
  · obtain ⟨x, hx⟩ : ∃ x, t.wait[t.wait.length - 1]? = some x := ⟨t.wait[t.wait.length - 1]'(by omega), List.getElem?_eq_getElem (by omega)⟩
    have := (h.at_ i t ht _ x hx).1
    omega
theorem CRep.lt {c : Nat → Nat} {s : WSt} (h : CRep c s) {i : Nat} {t : WTh} (ht : s.ths[i]? = some t) : i < 4 := by
  have := (List.getElem?_eq_some_iff.1 ht).1
  have := h.four
  omega
theorem upd_le {c : Nat → Nat} {k v : Nat} (h : ∀ j, c j ≤ 255) (hv : v ≤ 255) : ∀ j, upd c k v j ≤ 255 := by
  intro j
  unfold upd
  split
  · exact hv
  · exact h j
theorem upd_ne {c : Nat → Nat} {k v j : Nat} (h : j ≠ k) : upd c k v j = c j := if_neg h
theorem upd_eq (c : Nat → Nat) (k v : Nat) : upd c k v k = v := if_pos rfl
theorem setT_get {s : WSt} {i j : Nat} {t t2 : WTh} (h : (s.setT i t).ths[j]? = some t2) : (j = i ∧ t2 = t) ∨ (j ≠ i ∧ s.ths[j]? = some t2) := set_cases h
theorem setT_len (s : WSt) (i : Nat) (t : WTh) : (s.setT i t).ths.length = s.ths.length := by simp [WSt.setT]
theorem setT_mem (s : WSt) (i : Nat) (t : WTh) (p : Nat) : (s.setT i t).mem p = s.mem p := rfl
theorem setT_setT (s : WSt) (i : Nat) (a b : WTh) : (s.setT i a).setT i b = s.setT i b := by simp [WSt.setT]
theorem setT_at {s : WSt} {i : Nat} {t t' : WTh} (h : s.ths[i]? = some t) : (s.setT i t').ths[i]? = some t' := by
  have := (List.getElem?_eq_some_iff.1 h).1
  simp [WSt.setT, this]
theorem put_ths (s : WSt) (p n : Nat) : (s.put p n).ths = s.ths := rfl
theorem put_mem (s : WSt) (p n q : Nat) (hp : p < 4) (hq : q < 4) : (s.put p n).mem q = if q = p then n else s.mem q := by
  have h1 : p = 0 ∨ p = 1 ∨ p = 2 ∨ p = 3 := by omega
  have h2 : q = 0 ∨ q = 1 ∨ q = 2 ∨ q = 3 := by omega
  rcases h1 with rfl | rfl | rfl | rfl <;> rcases h2 with rfl | rfl | rfl | rfl <;> rfl

theorem CRep.setNext {c : Nat → Nat} {s : WSt} (h : CRep c s) {i : Nat} {t : WTh} (ht : s.ths[i]? = some t) (v : Nat) (hv : v ≤ 255) : CRep (upd c (i * 22) v) (s.setT i ⟨v, t.regs, t.wait⟩) := by
  have hi := h.lt ht
  refine ⟨upd_le h.small hv, by rw [setT_len]; exact h.four, fun j u hu => ?_, fun j u hu r hr => ?_, fun j u hu => ?_, fun j u hu k x hx => ?_, fun j hj h4 => ?_, fun p hp => ?_⟩
  · rcases setT_get hu with ⟨rfl, rfl⟩ | ⟨hne, hu⟩
    · exact upd_eq _ _ _
    · rw [upd_ne (by omega)]; exact h.next j u hu
  · rcases setT_get hu with ⟨rfl, rfl⟩ | ⟨hne, hu⟩
    · rw [upd_ne (by omega)]; exact h.regs _ t ht r hr
    · rw [upd_ne (by omega)]; exact h.regs j u hu r hr
  · rcases setT_get hu with ⟨rfl, rfl⟩ | ⟨hne, hu⟩
    · rw [upd_ne (by omega)]; exact h.wait _ t ht
    · rw [upd_ne (by omega)]; exact h.wait j u hu
  · rcases setT_get hu with ⟨rfl, rfl⟩ | ⟨hne, hu⟩
    · obtain ⟨h1, h2, h3⟩ := h.at_ _ t ht k x hx
      exact ⟨h1, by rw [upd_ne (by omega)]; exact h2, by rw [upd_ne (by omega)]; exact h3⟩
    · obtain ⟨h1, h2, h3⟩ := h.at_ j u hu k x hx
      exact ⟨h1, by rw [upd_ne (by omega)]; exact h2, by rw [upd_ne (by omega)]; exact h3⟩
  · rw [setT_len] at hj
    rw [upd_ne (by omega)]; exact h.none j hj h4
  · rw [upd_ne (by omega), setT_mem]; exact h.mem p hp
theorem CRep.setReg {c : Nat → Nat} {s : WSt} (h : CRep c s) {i : Nat} {t : WTh} (ht : s.ths[i]? = some t) (h4 : t.regs.length = 4) (r v : Nat) (hr : r < 4) (hv : v ≤ 255) : CRep (upd c (i * 22 + 1 + r) v) (s.setT i ⟨t.next, t.regs.set r v, t.wait⟩) := by
  have hi := h.lt ht
  refine ⟨upd_le h.small hv, by rw [setT_len]; exact h.four, fun j u hu => ?_, fun j u hu q hq => ?_, fun j u hu => ?_, fun j u hu k x hx => ?_, fun j hj h4 => ?_, fun p hp => ?_⟩
  · rcases setT_get hu with ⟨rfl, rfl⟩ | ⟨hne, hu⟩
    · rw [upd_ne (by omega)]; exact h.next _ t ht
    · rw [upd_ne (by omega)]; exact h.next j u hu
  · rcases setT_get hu with ⟨rfl, rfl⟩ | ⟨hne, hu⟩
    · by_cases hqr : q = r
      · subst hqr
        rw [upd_eq]
        simp [List.getD_eq_getElem?_getD, h4, hr]
      · rw [upd_ne (by omega), h.regs _ t ht q hq]
        simp [List.getD_eq_getElem?_getD, List.getElem?_set_ne (fun e : r = q => hqr e.symm)]
    · rw [upd_ne (by omega)]; exact h.regs j u hu q hq
  · rcases setT_get hu with ⟨rfl, rfl⟩ | ⟨hne, hu⟩
    · rw [upd_ne (by omega)]; exact h.wait _ t ht
    · rw [upd_ne (by omega)]; exact h.wait j u hu
  · rcases setT_get hu with ⟨rfl, rfl⟩ | ⟨hne, hu⟩
    · obtain ⟨h1, h2, h3⟩ := h.at_ _ t ht k x hx
      exact ⟨h1, by rw [upd_ne (by omega)]; exact h2, by rw [upd_ne (by omega)]; exact h3⟩
    · obtain ⟨h1, h2, h3⟩ := h.at_ j u hu k x hx
      exact ⟨h1, by rw [upd_ne (by omega)]; exact h2, by rw [upd_ne (by omega)]; exact h3⟩
  · rw [setT_len] at hj
    rw [upd_ne (by omega)]; exact h.none j hj h4
  · rw [upd_ne (by omega), setT_mem]; exact h.mem p hp
theorem CRep.setMem {c : Nat → Nat} {s : WSt} (h : CRep c s) (p v : Nat) (hp : p < 4) (hv : v ≤ 255) : CRep (upd c (88 + p) v) (s.put p v) := by
  have hf := h.four
  have hlt : ∀ {j : Nat} {u : WTh}, s.ths[j]? = some u → j < 4 := fun hu => h.lt hu
  refine ⟨upd_le h.small hv, h.four, fun j u hu => ?_, fun j u hu r hr => ?_, fun j u hu => ?_, fun j u hu k x hx => ?_, fun j hj h4 => ?_, fun q hq => ?_⟩
  · have := hlt hu; rw [upd_ne (by omega)]; exact h.next j u hu
  · have := hlt hu; rw [upd_ne (by omega)]; exact h.regs j u hu r hr
  · have := hlt hu; rw [upd_ne (by omega)]; exact h.wait j u hu
  · have := hlt hu
    obtain ⟨h1, h2, h3⟩ := h.at_ j u hu k x hx
    exact ⟨h1, by rw [upd_ne (by omega)]; exact h2, by rw [upd_ne (by omega)]; exact h3⟩
  · rw [upd_ne (by omega)]; exact h.none j hj h4
  · rw [put_mem s p v q hp hq]
    by_cases e : q = p
    · subst e; rw [if_pos rfl]; exact upd_eq _ _ _
    · rw [if_neg e, upd_ne (by omega)]; exact h.mem q hq
theorem CRep.add {c : Nat → Nat} {s : WSt} (h : CRep c s) {i : Nat} {t : WTh} (ht : s.ths[i]? = some t) (p v : Nat) (hp : p ≤ 255) (hv : v ≤ 255) (h8 : t.wait.length < 8) : CRep (addC c (i * 22 + 5) p v) (s.setT i ⟨t.next, t.regs, t.wait ++ [(p, v)]⟩) := by
  have hi := h.lt ht
  have hw := h.wait i t ht
  unfold addC
  rw [hw]
  refine ⟨upd_le (upd_le (upd_le h.small hp) hv) (by omega), by rw [setT_len]; exact h.four, fun j u hu => ?_, fun j u hu r hr => ?_, fun j u hu => ?_, fun j u hu k x hx => ?_, fun j hj h4 => ?_, fun q hq => ?_⟩
  · rcases setT_get hu with ⟨rfl, rfl⟩ | ⟨hne, hu⟩
    · rw [upd_ne (by omega), upd_ne (by omega), upd_ne (by omega)]; exact h.next _ t ht
    · have := h.lt hu
      rw [upd_ne (by omega), upd_ne (by omega), upd_ne (by omega)]; exact h.next j u hu
  · rcases setT_get hu with ⟨rfl, rfl⟩ | ⟨hne, hu⟩
    · rw [upd_ne (by omega), upd_ne (by omega), upd_ne (by omega)]; exact h.regs _ t ht r hr
    · have := h.lt hu
      rw [upd_ne (by omega), upd_ne (by omega), upd_ne (by omega)]; exact h.regs j u hu r hr
  · rcases setT_get hu with ⟨rfl, rfl⟩ | ⟨hne, hu⟩
    · rw [upd_eq]; simp
    · have := h.lt hu
      rw [upd_ne (by omega), upd_ne (by omega), upd_ne (by omega)]; exact h.wait j u hu
  · rcases setT_get hu with ⟨rfl, rfl⟩ | ⟨hne, hu⟩
    · by_cases hk : k < t.wait.length
      · rw [List.getElem?_append_left hk] at hx
        obtain ⟨h1, h2, h3⟩ := h.at_ _ t ht k x hx
        exact ⟨h1, by rw [upd_ne (by omega), upd_ne (by omega), upd_ne (by omega)]; exact h2, by rw [upd_ne (by omega), upd_ne (by omega), upd_ne (by omega)]; exact h3⟩
      · have hkl := (List.getElem?_eq_some_iff.1 hx).1
        simp at hkl
        obtain rfl : k = t.wait.length := by omega
        simp at hx
        subst hx
        exact ⟨h8, by rw [upd_ne (by omega), upd_ne (by omega), upd_eq], by rw [upd_ne (by omega), upd_eq]⟩
    · have := h.lt hu
      obtain ⟨h1, h2, h3⟩ := h.at_ j u hu k x hx
      exact ⟨h1, by rw [upd_ne (by omega), upd_ne (by omega), upd_ne (by omega)]; exact h2, by rw [upd_ne (by omega), upd_ne (by omega), upd_ne (by omega)]; exact h3⟩
  · rw [setT_len] at hj
    have := (List.getElem?_eq_some_iff.1 ht).1
    rw [upd_ne (by omega), upd_ne (by omega), upd_ne (by omega)]; exact h.none j hj h4
  · rw [upd_ne (by omega), upd_ne (by omega), upd_ne (by omega), setT_mem]; exact h.mem q hq
end Go.Proofs.YtmpaeladhoomoaaGreatDoor

namespace Go.Proofs.YtmpaeladhoomoaaGreatDoor
open Go.RowKit

theorem CRep.take {c : Nat → Nat} {s : WSt} (h : CRep c s) {i : Nat} {t : WTh} (ht : s.ths[i]? = some t) (k : Nat) (hk : k < t.wait.length) : CRep (takeC c (i * 22 + 5) k) (s.setT i ⟨t.next, t.regs, t.wait.eraseIdx k⟩) := by
  have hi := h.lt ht
  have hw := h.wait i t ht
  have hl := h.len ht
  have hel : (t.wait.eraseIdx k).length = t.wait.length - 1 := by rw [List.length_eraseIdx, if_pos hk]
  unfold takeC
  rw [hw]
  have hsh : ∀ j, shC c (i * 22 + 5) k j ≤ 255 := fun j => by unfold shC; split <;> exact h.small _
  have sho : ∀ j, (j < i * 22 + 5 + k * 2 ∨ i * 22 + 19 ≤ j) → shC c (i * 22 + 5) k j = c j := fun j hj => if_neg (by omega)
  have shi : ∀ j, i * 22 + 5 + k * 2 ≤ j → j < i * 22 + 19 → shC c (i * 22 + 5) k j = c (j + 2) := fun j h1 h2 => if_pos ⟨h1, by omega⟩
  refine ⟨upd_le (upd_le (upd_le hsh (by omega)) (by omega)) (by omega), by rw [setT_len]; exact h.four, fun j u hu => ?_, fun j u hu r hr => ?_, fun j u hu => ?_, fun j u hu m x hx => ?_, fun j hj h4 => ?_, fun q hq => ?_⟩
  · rcases setT_get hu with ⟨rfl, rfl⟩ | ⟨hne, hu⟩
    · rw [upd_ne (by omega), upd_ne (by omega), upd_ne (by omega), sho _ (by omega)]; exact h.next _ t ht
    · have := h.lt hu
      rw [upd_ne (by omega), upd_ne (by omega), upd_ne (by omega), sho _ (by omega)]; exact h.next j u hu
  · rcases setT_get hu with ⟨rfl, rfl⟩ | ⟨hne, hu⟩
    · rw [upd_ne (by omega), upd_ne (by omega), upd_ne (by omega), sho _ (by omega)]; exact h.regs _ t ht r hr
    · have := h.lt hu
      rw [upd_ne (by omega), upd_ne (by omega), upd_ne (by omega), sho _ (by omega)]; exact h.regs j u hu r hr
  · rcases setT_get hu with ⟨rfl, rfl⟩ | ⟨hne, hu⟩
    · rw [upd_ne (by omega), upd_ne (by omega), upd_eq]; exact hel.symm
    · have := h.lt hu
      rw [upd_ne (by omega), upd_ne (by omega), upd_ne (by omega), sho _ (by omega)]; exact h.wait j u hu
  · rcases setT_get hu with ⟨rfl, rfl⟩ | ⟨hne, hu⟩
    · have hml := (List.getElem?_eq_some_iff.1 hx).1
      simp only at hml
      rw [hel] at hml
      simp only [List.getElem?_eraseIdx] at hx
      by_cases hmk : m < k
      · rw [if_pos hmk] at hx
        obtain ⟨h1, h2, h3⟩ := h.at_ _ t ht m x hx
        exact ⟨h1, by rw [upd_ne (by omega), upd_ne (by omega), upd_ne (by omega), sho _ (by omega)]; exact h2, by rw [upd_ne (by omega), upd_ne (by omega), upd_ne (by omega), sho _ (by omega)]; exact h3⟩
      · rw [if_neg hmk] at hx
        obtain ⟨h1, h2, h3⟩ := h.at_ _ t ht (m + 1) x hx
        refine ⟨by omega, ?_, ?_⟩
        · rw [upd_ne (by omega), upd_ne (by omega), upd_ne (by omega), shi _ (by omega) (by omega), ← h2]
          congr 1
          omega
        · rw [upd_ne (by omega), upd_ne (by omega), upd_ne (by omega), shi _ (by omega) (by omega), ← h3]
          congr 1
          omega
    · have := h.lt hu
      obtain ⟨h1, h2, h3⟩ := h.at_ j u hu m x hx
      exact ⟨h1, by rw [upd_ne (by omega), upd_ne (by omega), upd_ne (by omega), sho _ (by omega)]; exact h2, by rw [upd_ne (by omega), upd_ne (by omega), upd_ne (by omega), sho _ (by omega)]; exact h3⟩
  · rw [setT_len] at hj
    have := (List.getElem?_eq_some_iff.1 ht).1
    rw [upd_ne (by omega), upd_ne (by omega), upd_ne (by omega), sho _ (by omega)]; exact h.none j hj h4
  · rw [upd_ne (by omega), upd_ne (by omega), upd_ne (by omega), sho _ (by omega), setT_mem]; exact h.mem q hq
theorem CRep.flush {c : Nat → Nat} {s : WSt} (h : CRep c s) {i : Nat} {t : WTh} (ht : s.ths[i]? = some t) (k : Nat) (x : Nat × Nat) (hx : t.wait[k]? = some x) (hp : x.1 < 4) : CRep (flushC c i k) (flushP s i k t x) := by
  obtain ⟨h1, h2, h3⟩ := h.at_ i t ht k x hx
  have hv := h.small (i * 22 + 5 + k * 2 + 1)
  unfold flushC
  rw [h2, h3]
  exact (h.take ht k (List.getElem?_eq_some_iff.1 hx).1).setMem x.1 x.2 hp (by omega)

/-- The state behind a thread's step. -/
def stepW (model : Nat) (s : WSt) (i : Nat) (t : WTh) (x : St) : WSt :=
  if x.kind = 0 ∨ x.kind = 1 then
    (if model = 1 then (s.put x.place (if x.kind = 1 then t.regs.getD x.reg 0 else x.digit)).setT i ⟨t.next + 1, t.regs, t.wait⟩
     else s.setT i ⟨t.next + 1, t.regs, t.wait ++ [(x.place, if x.kind = 1 then t.regs.getD x.reg 0 else x.digit)]⟩)
  else if x.kind = 2 then s.setT i ⟨t.next + 1, t.regs.set x.reg (seesW x.place (s.mem x.place) t.wait), t.wait⟩
  else if x.kind = 3 then s.setT i ⟨t.next + 1, t.regs.set x.reg x.digit, t.wait⟩
  else if x.kind = 4 then (s.put x.place x.digit).setT i ⟨t.next + 1, t.regs.set x.reg (s.mem x.place), t.wait⟩
  else if x.kind = 6 then s.setT i ⟨if t.regs.getD x.reg 0 = x.digit then t.next + 1 + x.count else t.next + 1, t.regs, t.wait⟩
  else s.setT i ⟨t.next + 1, t.regs, t.wait⟩
theorem CRep.sees {c : Nat → Nat} {s : WSt} (h : CRep c s) {i : Nat} {t : WTh} (ht : s.ths[i]? = some t) (p : Nat) (hp : p < 4) : seenC c i p = seesW p (s.mem p) t.wait := by
  unfold seenC
  have hb := h.buf ht
  have := hb.new p (c (88 + p)) t.wait.length (Nat.le_refl _)
  rw [List.take_length] at this
  rw [h.wait i t ht, this, h.mem p hp]

theorem CRep.step {c : Nat → Nat} {s : WSt} (h : CRep c s) {i : Nat} {t : WTh} (ht : s.ths[i]? = some t) (h4 : t.regs.length = 4) (model : Nat) (x : St) (hx : x.kind ≤ 6 ∧ x.place < 4 ∧ x.reg < 4 ∧ x.digit ≤ 9 ∧ x.count ≤ 9) (hn : t.next ≤ 100) (h8 : x.kind ≤ 1 → t.wait.length < 8) (hm : model = 1 → t.wait = []) : CRep (doC model c i x) (stepW model s i t x) := by
  obtain ⟨kd, pl, rg, dg, ct⟩ := x
  obtain ⟨hk, hpl, hrg, hdg, hct⟩ := hx
  simp only at hk hpl hrg hdg hct h8
  have hi := h.lt ht
  have hnx := h.next i t ht
  have hrx := h.regs i t ht rg hrg
  have hrs : t.regs.getD rg 0 ≤ 255 := by rw [← hrx]; exact h.small _
  have h1 : CRep (upd c (i * 22) (c (i * 22) + 1)) (s.setT i ⟨t.next + 1, t.regs, t.wait⟩) := by rw [hnx]; exact h.setNext ht (t.next + 1) (by omega)
  have ht1 : (s.setT i ⟨t.next + 1, t.regs, t.wait⟩).ths[i]? = some ⟨t.next + 1, t.regs, t.wait⟩ := setT_at ht
  have store : ∀ v, v ≤ 255 → kd ≤ 1 → CRep (if model = 1 then flushC (addC (upd c (i * 22) (c (i * 22) + 1)) (i * 22 + 5) pl v) i 0 else addC (upd c (i * 22) (c (i * 22) + 1)) (i * 22 + 5) pl v) (if model = 1 then (s.put pl v).setT i ⟨t.next + 1, t.regs, t.wait⟩ else s.setT i ⟨t.next + 1, t.regs, t.wait ++ [(pl, v)]⟩) := by
    intro v hv hkd
    have ha := h1.add ht1 pl v (by omega) hv (h8 hkd)
    rw [setT_setT] at ha
    by_cases hm1 : model = 1
    · rw [if_pos hm1, if_pos hm1]
      have hw := hm hm1
      have ht2 : (s.setT i ⟨t.next + 1, t.regs, t.wait ++ [(pl, v)]⟩).ths[i]? = some ⟨t.next + 1, t.regs, t.wait ++ [(pl, v)]⟩ := setT_at ht
      have hf := ha.flush ht2 0 (pl, v) (by simp [hw]) hpl
      have e : flushP (s.setT i ⟨t.next + 1, t.regs, t.wait ++ [(pl, v)]⟩) i 0 ⟨t.next + 1, t.regs, t.wait ++ [(pl, v)]⟩ (pl, v) = (s.put pl v).setT i ⟨t.next + 1, t.regs, t.wait⟩ := by
        simp [flushP, hw, WSt.setT, WSt.put]
      rw [e] at hf
      exact hf
    · rw [if_neg hm1, if_neg hm1]
      exact ha
  have hk7 : kd = 0 ∨ kd = 1 ∨ kd = 2 ∨ kd = 3 ∨ kd = 4 ∨ kd = 5 ∨ kd = 6 := by omega
  rcases hk7 with rfl | rfl | rfl | rfl | rfl | rfl | rfl
  · have := store dg (by omega) (by omega)
    simpa [doC, stepW] using this
  · have := store (t.regs.getD rg 0) hrs (by omega)
    rw [← hrx] at this
    simpa [doC, stepW, hrx] using this
  · have hs := h.sees ht pl hpl
    have hsb : seesW pl (s.mem pl) t.wait ≤ 255 := by
      rw [← hs]
      unfold seenC
      cases hq : newC (fun j => c (i * 22 + 5 + j)) pl (c (i * 22 + 5 + 16)) with
      | none => exact h.small _
      | some v =>
        have : ∀ n v, newC (fun j => c (i * 22 + 5 + j)) pl n = some v → v ≤ 255 := by
          intro n
          induction n with
          | zero => intro v hv; simp [newC] at hv
          | succ n ih =>
            intro v hv
            rw [newC] at hv
            split at hv
            · simp at hv; subst hv; exact h.small _
            · exact ih v hv
        exact this _ v hq
    have := h1.setReg ht1 h4 rg _ hrg hsb
    rw [setT_setT] at this
    simpa [doC, stepW, hs] using this
  · have := h1.setReg ht1 h4 rg dg hrg (by omega)
    rw [setT_setT] at this
    simpa [doC, stepW] using this
  · have hmem := h.mem pl hpl
    have hmb : s.mem pl ≤ 255 := by rw [← hmem]; exact h.small _
    have := (h1.setReg ht1 h4 rg (s.mem pl) hrg hmb).setMem pl dg hpl (by omega)
    rw [setT_setT] at this
    have e : stepW model s i t ⟨4, pl, rg, dg, ct⟩ = (s.setT i ⟨t.next + 1, t.regs.set rg (s.mem pl), t.wait⟩).put pl dg := by simp [stepW]; rfl
    rw [e]
    simpa [doC, hmem] using this
  · simpa [doC, stepW] using h1
  · by_cases hq : t.regs.getD rg 0 = dg
    · have := h1.setNext ht1 (t.next + 1 + ct) (by omega)
      rw [setT_setT] at this
      have e : doC model c i ⟨6, pl, rg, dg, ct⟩ = upd (upd c (i * 22) (c (i * 22) + 1)) (i * 22) (c (i * 22) + 1 + ct) := by
        unfold doC
        rw [if_neg (by simp), if_neg (by simp), if_neg (by simp), if_neg (by simp), if_pos rfl]
        exact if_pos (hrx.trans hq)
      have e2 : stepW model s i t ⟨6, pl, rg, dg, ct⟩ = s.setT i ⟨t.next + 1 + ct, t.regs, t.wait⟩ := by
        unfold stepW
        rw [if_neg (by simp), if_neg (by simp), if_neg (by simp), if_neg (by simp), if_pos rfl]
        simp only [hq, if_true]
      rw [e, e2, hnx]
      rw [hnx] at this
      exact this
    · have e : doC model c i ⟨6, pl, rg, dg, ct⟩ = upd c (i * 22) (c (i * 22) + 1) := by
        unfold doC
        rw [if_neg (by simp), if_neg (by simp), if_neg (by simp), if_neg (by simp), if_pos rfl]
        exact if_neg (fun e => hq (hrx.symm.trans e))
      have e2 : stepW model s i t ⟨6, pl, rg, dg, ct⟩ = s.setT i ⟨t.next + 1, t.regs, t.wait⟩ := by
        unfold stepW
        rw [if_neg (by simp), if_neg (by simp), if_neg (by simp), if_neg (by simp), if_pos rfl]
        simp only [hq, if_false]
      rw [e, e2]
      exact h1
end Go.Proofs.YtmpaeladhoomoaaGreatDoor

namespace Go.Proofs.YtmpaeladhoomoaaGreatDoor
open Go.RowKit

theorem flat_congr {α β : Type} {f g : α → List β} : ∀ {l : List α}, (∀ a ∈ l, f a = g a) → l.flatMap f = l.flatMap g
  | [], _ => rfl
  | a :: r, h => by
    rw [List.flatMap_cons, List.flatMap_cons, h a (by simp), flat_congr (fun b hb => h b (by simp [hb]))]
theorem filt_congr {α β : Type} {f g : α → Option β} : ∀ {l : List α}, (∀ a ∈ l, f a = g a) → l.filterMap f = l.filterMap g
  | [], _ => rfl
  | a :: r, h => by
    rw [List.filterMap_cons, List.filterMap_cons, h a (by simp), filt_congr (fun b hb => h b (by simp [hb]))]
def canW (l : List St) (t : WTh) : Bool :=
  match l[t.next]? with
  | none => false
  | some x => if x.kind = 4 ∨ x.kind = 5 then decide (t.wait.length = 0) else true
def ripeW (model : Nat) (wait : List (Nat × Nat)) : List Nat := if wait.length = 0 then [] else if model = 3 then (List.range 4).filterMap (fun p => oldW p 0 wait) else [0]
def mvW (model i : Nat) (l : List St) (t : WTh) : List (Nat × Option Nat) := (if canW l t = true then [(i, none)] else []) ++ (ripeW model t.wait).map fun a => (i, some a)
def thW (s : WSt) (i : Nat) : WTh := s.ths.getD i ⟨0, [], []⟩
def movesW (model : Nat) (ls : List (List St)) (s : WSt) : List (Nat × Option Nat) := (List.range ls.length).flatMap fun i => mvW model i (ls.getD i []) (thW s i)
theorem CRep.moves {c : Nat → Nat} {s : WSt} (h : CRep c s) (model : Nat) (ls : List (List St)) (hl : s.ths.length = ls.length) : movesL model c ls ls.length = movesW model ls s := by
  unfold movesL movesW
  apply flat_congr
  intro i hi
  have hi' : i < ls.length := by simpa using hi
  obtain ⟨t, ht⟩ : ∃ t, s.ths[i]? = some t := ⟨s.ths[i]'(by omega), List.getElem?_eq_getElem (by omega)⟩
  have et : thW s i = t := by simp [thW, List.getD_eq_getElem?_getD, ht]
  rw [et]
  unfold mvT mvW
  have e1 : canC c i (ls.getD i []) = canW (ls.getD i []) t := by
    unfold canC canW
    rw [h.next i t ht, h.wait i t ht]
    cases (ls.getD i [])[t.next]? <;> rfl
  have e2 : (ripeC model fun j => c (i * 22 + 5 + j)) = ripeW model t.wait := by
    have hb := h.buf ht
    have hw : c (i * 22 + 5 + 16) = t.wait.length := h.wait i t ht
    unfold ripeC ripeW ripeL
    simp only [hw]
    have e3 : ∀ p, oldC (fun j => c (i * 22 + 5 + j)) p 0 t.wait.length = oldW p 0 t.wait := fun p => by
      have := hb.old p t.wait.length 0 (by omega)
      rwa [List.drop_zero] at this
    simp only [e3]
  rw [e1, e2]
/-- What is asked of a test's steps. -/
structure LsOk (ls : List (List St)) : Prop where
  four : ls.length ≤ 4
  eight : ∀ l ∈ ls, l.length ≤ 8
  st : ∀ l ∈ ls, ∀ x ∈ l, x.kind ≤ 6 ∧ x.place < 4 ∧ x.reg < 4 ∧ x.digit ≤ 9 ∧ x.count ≤ 9
structure WOk (model : Nat) (ls : List (List St)) (s : WSt) : Prop where
  len : s.ths.length = ls.length
  th : ∀ (i : Nat) (t : WTh), s.ths[i]? = some t → t.regs.length = 4 ∧ t.next ≤ 17 ∧ t.wait.length ≤ t.next ∧ (model = 1 → t.wait = []) ∧ (∀ r, r < 4 → t.regs.getD r 0 ≤ 9) ∧ ∀ x ∈ t.wait, x.1 < 4 ∧ x.2 ≤ 9
  mem : ∀ p, p < 4 → s.mem p ≤ 9
theorem sees_le (p : Nat) : ∀ (l : List (Nat × Nat)) (m : Nat), m ≤ 9 → (∀ x ∈ l, x.2 ≤ 9) → seesW p m l ≤ 9 := by
  intro l
  induction l with
  | nil => intro m hm _; exact hm
  | cons x r ih =>
    intro m hm hx
    refine ih _ ?_ (fun y hy => hx y (by simp [hy]))
    split
    · exact hx x (by simp)
    · exact hm
theorem getD_set_le {l : List Nat} {r v q : Nat} (h4 : l.length = 4) (hr : r < 4) (hv : v ≤ 9) (hl : ∀ r, r < 4 → l.getD r 0 ≤ 9) (hq : q < 4) : (l.set r v).getD q 0 ≤ 9 := by
  by_cases e : q = r
  · subst e
    simp [List.getD_eq_getElem?_getD, h4, hr]
    exact hv
  · have := hl q hq
    simp only [List.getD_eq_getElem?_getD] at this ⊢
    rw [List.getElem?_set_ne (fun e2 : r = q => e e2.symm)]
    exact this
theorem WOk.setT {model : Nat} {ls : List (List St)} {s : WSt} (h : WOk model ls s) {i : Nat} {t' : WTh} (h' : t'.regs.length = 4 ∧ t'.next ≤ 17 ∧ t'.wait.length ≤ t'.next ∧ (model = 1 → t'.wait = []) ∧ (∀ r, r < 4 → t'.regs.getD r 0 ≤ 9) ∧ ∀ x ∈ t'.wait, x.1 < 4 ∧ x.2 ≤ 9) : WOk model ls (s.setT i t') := by
  refine ⟨by rw [setT_len]; exact h.len, fun j u hu => ?_, fun p hp => by rw [setT_mem]; exact h.mem p hp⟩
  rcases setT_get hu with ⟨rfl, rfl⟩ | ⟨_, hu⟩
  · exact h'
  · exact h.th j u hu
theorem WOk.put {model : Nat} {ls : List (List St)} {s : WSt} (h : WOk model ls s) (p v : Nat) (hp : p < 4) (hv : v ≤ 9) : WOk model ls (s.put p v) := by
  refine ⟨h.len, h.th, fun q hq => ?_⟩
  rw [put_mem s p v q hp hq]
  split
  · exact hv
  · exact h.mem q hq
theorem WOk.flush {model : Nat} {ls : List (List St)} {s : WSt} (h : WOk model ls s) {i k : Nat} {t : WTh} {x : Nat × Nat} (ht : s.ths[i]? = some t) (hx : t.wait[k]? = some x) : WOk model ls (flushP s i k t x) := by
  obtain ⟨a1, a2, a3, a4, a5, a6⟩ := h.th i t ht
  have hxm := a6 x (List.mem_of_getElem? hx)
  have hk := (List.getElem?_eq_some_iff.1 hx).1
  refine (h.put x.1 x.2 hxm.1 hxm.2).setT ⟨a1, a2, ?_, fun hm => ?_, a5, fun y hy => a6 y (List.mem_of_mem_eraseIdx hy)⟩
  · simp only
    rw [List.length_eraseIdx]
    split <;> omega
  · have := a4 hm
    simp [this]
theorem WOk.step {model : Nat} {ls : List (List St)} {s : WSt} (h : WOk model ls s) (ho : LsOk ls) {i : Nat} {t : WTh} {l : List St} {x : St} (ht : s.ths[i]? = some t) (hl : ls[i]? = some l) (hx : l[t.next]? = some x) : WOk model ls (stepW model s i t x) := by
  obtain ⟨a1, a2, a3, a4, a5, a6⟩ := h.th i t ht
  have hn := (List.getElem?_eq_some_iff.1 hx).1
  have h8 := ho.eight l (List.mem_of_getElem? hl)
  obtain ⟨b1, b2, b3, b4, b5⟩ := ho.st l (List.mem_of_getElem? hl) x (List.mem_of_getElem? hx)
  have hrv : t.regs.getD x.reg 0 ≤ 9 := a5 _ b3
  have hv : (if x.kind = 1 then t.regs.getD x.reg 0 else x.digit) ≤ 9 := by split <;> omega
  have hs := sees_le x.place t.wait (s.mem x.place) (h.mem _ b2) (fun y hy => (a6 y hy).2)
  unfold stepW
  split
  · split
    · exact (h.put _ _ b2 hv).setT ⟨a1, by simp only; omega, by simp only; omega, a4, a5, a6⟩
    · rename_i hm
      refine h.setT ⟨a1, by simp only; omega, by simp only [List.length_append, List.length_cons, List.length_nil]; omega, fun e => (hm e).elim, a5, fun y hy => ?_⟩
      simp only [List.mem_append, List.mem_cons, List.not_mem_nil, or_false] at hy
      rcases hy with hy | rfl
      · exact a6 y hy
      · exact ⟨b2, hv⟩
  · split
    · exact h.setT ⟨by simp [a1], by simp only; omega, by simp only; omega, a4, fun q hq => getD_set_le a1 b3 hs a5 hq, a6⟩
    · split
      · exact h.setT ⟨by simp [a1], by simp only; omega, by simp only; omega, a4, fun q hq => getD_set_le a1 b3 (by omega) a5 hq, a6⟩
      · split
        · exact (h.put _ _ b2 b4).setT ⟨by simp [a1], by simp only; omega, by simp only; omega, a4, fun q hq => getD_set_le a1 b3 (h.mem _ b2) a5 hq, a6⟩
        · split
          · refine h.setT ⟨a1, ?_, ?_, a4, a5, a6⟩
            · simp only; split <;> omega
            · simp only; split <;> omega
          · exact h.setT ⟨a1, by simp only; omega, by simp only; omega, a4, a5, a6⟩

/-- The state behind a move. -/
def afterW (model : Nat) (ls : List (List St)) (s : WSt) (m : Nat × Option Nat) : WSt :=
  match m.2 with
  | none => stepW model s m.1 (thW s m.1) ((ls.getD m.1 []).getD (thW s m.1).next ⟨0, 0, 0, 0, 0⟩)
  | some k => flushP s m.1 k (thW s m.1) ((thW s m.1).wait.getD k (0, 0))
def cellsW (s : WSt) : Nat → Nat := fun j => if 88 ≤ j then s.mem (j - 88) else (thW s (j / 22)).regs.getD (j % 22 - 1) 0
def outW (ls : List (List St)) (ft : Txt) (s : WSt) : Txt := outT (cellsW s) ls ft
theorem outT_congr {c d : Nat → Nat} (ls : List (List St)) (ft : Txt) (h1 : ∀ i r, i < ls.length → r < 4 → c (i * 22 + 1 + r) = d (i * 22 + 1 + r)) (h2 : ∀ p, p < 4 → c (88 + p) = d (88 + p)) : outT c ls ft = outT d ls ft := by
  unfold outT
  congr 2
  · unfold regWs
    apply flat_congr
    intro i hi
    have hi' : i < ls.length := by simpa using hi
    unfold regW
    apply filt_congr
    intro r hr
    rw [h1 i r hi' (by simpa using hr)]
  · unfold plcWs
    apply filt_congr
    intro p hp
    rw [h2 p (by simpa using hp)]
theorem CRep.out {c : Nat → Nat} {s : WSt} (h : CRep c s) (ls : List (List St)) (ft : Txt) (hl : s.ths.length = ls.length) : outT c ls ft = outW ls ft s := by
  have h4 := h.four
  refine outT_congr ls ft (fun i r hi hr => ?_) (fun p hp => ?_)
  · obtain ⟨t, ht⟩ : ∃ t, s.ths[i]? = some t := ⟨s.ths[i]'(by omega), List.getElem?_eq_getElem (by omega)⟩
    have et : thW s i = t := by simp [thW, List.getD_eq_getElem?_getD, ht]
    rw [h.regs i t ht r hr]
    unfold cellsW
    rw [if_neg (by omega), show (i * 22 + 1 + r) / 22 = i by omega, show (i * 22 + 1 + r) % 22 - 1 = r by omega, et]
  · rw [h.mem p hp]
    unfold cellsW
    rw [if_pos (by omega), show 88 + p - 88 = p by omega]
def nextW (model : Nat) (ls : List (List St)) (s : WSt) (p : Int) : WSt := afterW model ls s ((movesW model ls s).getD (sizeP p (movesW model ls s).length) (0, none))
/-- A walk: what it comes to, if there are picks enough. -/
def walkW (model : Nat) (ls : List (List St)) (ft : Txt) : List Int → WSt → Option Txt
  | [], s => if (movesW model ls s).length = 0 then some (outW ls ft s) else none
  | p :: r, s => if (movesW model ls s).length = 0 then some (outW ls ft s) else walkW model ls ft r (nextW model ls s p)
def firstW (n : Nat) : WSt := ⟨List.replicate n ⟨0, [0, 0, 0, 0], []⟩, 0, 0, 0, 0⟩
theorem first_crep (n : Nat) (hn : n ≤ 4) : CRep (fun _ => 0) (firstW n) := by
  have hg : ∀ (i : Nat) (t : WTh), (firstW n).ths[i]? = some t → t = ⟨0, [0, 0, 0, 0], []⟩ := fun i t ht => by
    simp only [firstW, List.getElem?_replicate] at ht
    split at ht
    · simp at ht; exact ht.symm
    · simp at ht
  refine ⟨fun _ => by omega, by simpa [firstW] using hn, fun i t ht => by rw [hg i t ht], fun i t ht r hr => ?_, fun i t ht => by rw [hg i t ht]; rfl, fun i t ht k x hx => ?_, fun _ _ _ => rfl, fun p hp => ?_⟩
  · rw [hg i t ht]
    have : r = 0 ∨ r = 1 ∨ r = 2 ∨ r = 3 := by omega
    rcases this with rfl | rfl | rfl | rfl <;> rfl
  · rw [hg i t ht] at hx; simp at hx
  · have : p = 0 ∨ p = 1 ∨ p = 2 ∨ p = 3 := by omega
    rcases this with rfl | rfl | rfl | rfl <;> rfl
theorem first_ok (model : Nat) (ls : List (List St)) : WOk model ls (firstW ls.length) := by
  have hg : ∀ (i : Nat) (t : WTh), (firstW ls.length).ths[i]? = some t → t = ⟨0, [0, 0, 0, 0], []⟩ := fun i t ht => by
    simp only [firstW, List.getElem?_replicate] at ht
    split at ht
    · simp at ht; exact ht.symm
    · simp at ht
  refine ⟨by simp [firstW], fun i t ht => ?_, fun p hp => ?_⟩
  · rw [hg i t ht]
    refine ⟨rfl, by simp, by simp, fun _ => rfl, fun r hr => ?_, fun x hx => by simp at hx⟩
    have : r = 0 ∨ r = 1 ∨ r = 2 ∨ r = 3 := by omega
    rcases this with rfl | rfl | rfl | rfl <;> decide
  · have : p = 0 ∨ p = 1 ∨ p = 2 ∨ p = 3 := by omega
    rcases this with rfl | rfl | rfl | rfl <;> exact Nat.zero_le _
end Go.Proofs.YtmpaeladhoomoaaGreatDoor

namespace Go.Proofs.YtmpaeladhoomoaaGreatDoor
open Go.RowKit

theorem seesN_eq (p : Nat) : ∀ (l : List (Nat × Nat)) (m : Nat), seesP p (m : Int) l = ((seesW p m l : Nat) : Int) := by
  intro l
  induction l with
  | nil => intro m; rfl
  | cons x r ih =>
    intro m
    show seesP p (if x.1 = p then (x.2 : Int) else (m : Int)) r = ((seesW p (if x.1 = p then x.2 else m) r : Nat) : Int)
    rw [← ih]
    congr 1
    split <;> rfl
theorem memP_eq (s : WSt) (p : Nat) (hp : p < 4) : memP p (s.m0 : Nat) (s.m1 : Nat) (s.m2 : Nat) (s.m3 : Nat) = ((s.mem p : Nat) : Int) := by
  have : p = 0 ∨ p = 1 ∨ p = 2 ∨ p = 3 := by omega
  rcases this with rfl | rfl | rfl | rfl <;> rfl
/-- The state behind a thread's step, which it can do. -/
def stepP (model : Nat) (s : WSt) (i : Nat) (t : WTh) (x : RSt) : WSt :=
  if x.kind = 115 ∨ x.kind = 83 then
    (if model = 1 then (s.put x.place (if x.kind = 83 then t.regs.getD x.reg 0 else x.n)).setT i ⟨t.next + 1, t.regs, t.wait⟩
     else s.setT i ⟨t.next + 1, t.regs, t.wait ++ [(x.place, if x.kind = 83 then t.regs.getD x.reg 0 else x.n)]⟩)
  else if x.kind = 108 then s.setT i ⟨t.next + 1, t.regs.set x.reg (seesW x.place (s.mem x.place) t.wait), t.wait⟩
  else if x.kind = 107 then s.setT i ⟨t.next + 1, t.regs.set x.reg x.n, t.wait⟩
  else if x.kind = 120 then (s.put x.place x.n).setT i ⟨t.next + 1, t.regs.set x.reg (s.mem x.place), t.wait⟩
  else if x.kind = 106 then s.setT i ⟨if t.regs.getD x.reg 0 = x.n then t.next + 1 + x.skip else t.next + 1, t.regs, t.wait⟩
  else s.setT i ⟨t.next + 1, t.regs, t.wait⟩
/-- Can it be done? -/
def canP (l : List RSt) (t : WTh) : Option RSt :=
  match l[t.next]? with
  | none => none
  | some x => if (x.kind = 102 ∨ x.kind = 120) ∧ 0 < t.wait.length then none else some x

def PostD (w : World) (model : Nat) (s : WSt) (i : Nat) (l : List RSt) (t : WTh) (e : Ending) (w' : World) : Prop :=
  w.grownBy w' none ∧ match canP l t with
    | none => ∃ (a : Option Addr) (n c : Nat) (m0 m1 m2 m3 : Int), e = .returned (.tuple #[.agg #[.slice a n c, .int .i64 m0, .int .i64 m1, .int .i64 m2, .int .i64 m3], .bool false])
    | some x => ∃ v', e = .returned (.tuple #[.agg (memC v' (stepP model s i t x)), .bool true]) ∧ ThsAt w' (newB w w') v' (stepP model s i t x).ths
theorem PostD.no {w w' : World} {model : Nat} {s : WSt} {i : Nat} {l : List RSt} {t : WTh} {e : Ending} {a : Option Addr} {n c : Nat} {m0 m1 m2 m3 : Int} (h : canP l t = none) (hg : w.grownBy w' none) (he : e = .returned (.tuple #[.agg #[.slice a n c, .int .i64 m0, .int .i64 m1, .int .i64 m2, .int .i64 m3], .bool false])) : PostD w model s i l t e w' := by
  refine ⟨hg, ?_⟩
  rw [h]
  exact ⟨_, _, _, _, _, _, _, he⟩

theorem OwnS.keepX {w w' : World} {B n o : Nat} {v : Value} {ts : List WTh} {vs : List Value} (h : OwnS w B v n ts vs) (hv : v.ownBlock ≠ some o) (hvs : ∀ u ∈ vs, u.ownBlock ≠ some o) (hk : ∀ x, x ≠ o → x < w.heap.size → w'.heap[x]? = w.heap[x]?) : OwnS w' B v n ts vs :=
  ⟨h.hn, h.len, own_at h.row (fun x hx => hk x (fun e => hv (by rw [hx, e])) (h.row.lt x hx).2), h.four, fun i t u h1 h2 => ⟨own_at (h.wt i t u h1 h2).1 (fun x hx => hk x (fun e => hvs u (List.mem_of_getElem? h2) (by rw [hx, e])) ((h.wt i t u h1 h2).1.lt x hx).2), (h.wt i t u h1 h2).2⟩, h.ap⟩

/-- The state that done has copied, and what lies beside it. -/
structure DS (w W : World) (B xb ob g cap n : Nat) (v0 : Value) (s : WSt) (x : RSt) (S : WSt) (vs : List Value) : Prop where
  hG : w.grownBy W none
  X : W.heap[xb]? = some (.cells #[.int .u8 (x.kind : Nat), .int .i64 (x.reg : Nat), .int .i64 (x.place : Nat), .int .i64 (x.n : Nat), .int .i64 (x.skip : Nat), .int .i64 (x.at_ : Nat)] 209 (0, 0))
  C : W.heap[w.heap.size]? = some (.cells (memC v0 s) 153 (0, 0))
  R : W.heap[w.heap.size + 1]? = some (.cells #[.slice none 0 0, .int .i64 0, .int .i64 0, .int .i64 0, .int .i64 0] 153 (0, 0))
  O : W.heap[ob]? = some (.cells (memC (.slice (some ⟨g, 0, none⟩) n cap) S) 153 (0, 0))
  own : OwnS W B (.slice (some ⟨g, 0, none⟩) n cap) n S.ths vs
  ne : ∀ u ∈ vs, u.ownBlock ≠ some ob
  le : w.heap.size + 2 ≤ xb ∧ xb < B ∧ B ≤ g ∧ g < ob
theorem DS.drew {w W : World} {B xb ob g cap n : Nat} {v0 : Value} {s : WSt} {x : RSt} {S : WSt} {vs : List Value} (h : DS w W B xb ob g cap n v0 s x S vs) : DS w W.drew B xb ob g cap n v0 s x S vs :=
  ⟨gb_drew h.hG, h.X, h.C, h.R, h.O, h.own.same (fun _ _ => rfl), h.ne, h.le⟩
theorem DS.drewN {w W : World} {B xb ob g cap n : Nat} {v0 : Value} {s : WSt} {x : RSt} {S : WSt} {vs : List Value} (h : DS w W B xb ob g cap n v0 s x S vs) (m : Nat) : DS w (W.drewN m) B xb ob g cap n v0 s x S vs := by
  exact ⟨gb_drewN h.hG m, h.X, h.C, h.R, h.O, h.own.same (fun _ _ => rfl), h.ne, h.le⟩
theorem DS.grow {w W W' : World} {B xb ob g cap n : Nat} {v0 : Value} {s : WSt} {x : RSt} {S : WSt} {vs : List Value} (h : DS w W B xb ob g cap n v0 s x S vs) (hg : W.grownBy W' none) : DS w W' B xb ob g cap n v0 s x S vs :=
  ⟨gb_trans h.hG hg, heap_gb hg h.X (by simp), heap_gb hg h.C (by simp), heap_gb hg h.R (by simp), heap_gb hg h.O (by simp), h.own.keep (fun x _ hx => hg.block x hx (by simp)), h.ne, h.le⟩
theorem DS.put {w W : World} {B xb ob g cap n : Nat} {v0 : Value} {s : WSt} {x : RSt} {S : WSt} {vs : List Value} (h : DS w W B xb ob g cap n v0 s x S vs) (p m : Nat) (hp : p < 4) : DS w (W.setCell ⟨ob, 1 + p, none⟩ (.int .i64 (m : Nat))) B xb ob g cap n v0 s x (S.put p m) vs := by
  have hl := h.le
  refine ⟨gb_put_new h.hG (by omega) _ _, heap_set_ne h.X _ _ (by simp; omega), heap_set_ne h.C _ _ (by simp; omega), heap_set_ne h.R _ _ (by simp; omega), heap_set' h.O _ _ _ (memC_put _ _ _ _ hp), ?_, h.ne, hl⟩
  refine h.own.keepX (o := ob) (by simp [Value.ownBlock]; omega) h.ne (fun y hy _ => Below.heap_setCell _ _ _ _ (fun e => hy e))
theorem DS.upd {w W : World} {B xb ob g cap n i o : Nat} {v0 : Value} {s : WSt} {x : RSt} {S : WSt} {vs vs' : List Value} {val : Value} {t' : WTh} (h : DS w W B xb ob g cap n v0 s x S vs) (ho : OwnS (W.setCell ⟨g, i * 6 + o, none⟩ val) B (.slice (some ⟨g, 0, none⟩) n cap) n (S.ths.set i t') vs') (hne : ∀ u ∈ vs', u.ownBlock ≠ some ob) : DS w (W.setCell ⟨g, i * 6 + o, none⟩ val) B xb ob g cap n v0 s x (S.setT i t') vs' := by
  have hl := h.le
  exact ⟨gb_put_new h.hG (by omega) _ _, heap_set_ne h.X _ _ (by simp; omega), heap_set_ne h.C _ _ (by simp; omega), heap_set_ne h.R _ _ (by simp; omega), heap_set_ne h.O _ _ (by simp; omega), ho, hne, hl⟩
theorem DS.setReg {w W : World} {B xb ob g cap n i r m : Nat} {v0 : Value} {s : WSt} {x : RSt} {S : WSt} {vs : List Value} {t : WTh} (h : DS w W B xb ob g cap n v0 s x S vs) (ht : S.ths[i]? = some t) (hr : r < 4) : DS w (W.setCell ⟨g, i * 6 + 1 + r, none⟩ (.int .i64 (m : Nat))) B xb ob g cap n v0 s x (S.setT i ⟨t.next, t.regs.set r m, t.wait⟩) vs := by
  obtain ⟨u, hu⟩ := h.own.val ht
  rw [Nat.add_assoc]
  exact h.upd (h.own.setReg ht hu r m hr) h.ne
theorem DS.setNext {w W : World} {B xb ob g cap n i m : Nat} {v0 : Value} {s : WSt} {x : RSt} {S : WSt} {vs : List Value} {t : WTh} (h : DS w W B xb ob g cap n v0 s x S vs) (ht : S.ths[i]? = some t) : DS w (W.setCell ⟨g, i * 6, none⟩ (.int .i64 (m : Nat))) B xb ob g cap n v0 s x (S.setT i ⟨m, t.regs, t.wait⟩) vs := by
  obtain ⟨u, hu⟩ := h.own.val ht
  exact h.upd (o := 0) (h.own.setNext ht hu m) h.ne
theorem DS.setWait {w W : World} {B xb ob g cap n i : Nat} {v0 : Value} {s : WSt} {x : RSt} {S : WSt} {vs : List Value} {t : WTh} {wt : List (Nat × Nat)} {u' : Value} (h : DS w W B xb ob g cap n v0 s x S vs) (ht : S.ths[i]? = some t) (hw : W.ownsRow B 261 2 u' wt.length (wtF wt)) (hold : ∀ u ∈ vs, ∀ k, u.ownBlock = some k → k < ob) (hn : ∀ k, u'.ownBlock = some k → ob < k ∨ ∃ u, vs[i]? = some u ∧ u.ownBlock = some k) : ∃ vs', DS w (W.setCell ⟨g, i * 6 + 5, none⟩ u') B xb ob g cap n v0 s x (S.setT i ⟨t.next, t.regs, wt⟩) vs' := by
  obtain ⟨u, hu⟩ := h.own.val ht
  have hl := h.le
  have hu0 := h.own.wt i t u ht hu
  have hn' : ∀ k, u'.ownBlock = some k → ob < k ∨ u.ownBlock = some k := fun k hk => by
    rcases hn k hk with a | ⟨u2, a, b⟩
    · exact Or.inl a
    · rw [hu] at a; simp at a; subst a; exact Or.inr b
  refine ⟨vs.set i u', h.upd (h.own.upd (o := 5) (t' := ⟨t.next, t.regs, wt⟩) (u' := u') ht hu (by omega) rfl (h.own.four t (List.mem_of_getElem? ht)) hw (fun e => ?_) (fun j b hj hb k hk hk2 => ?_)) (fun y hy e => ?_)⟩
  · rcases hn' g e with a | a
    · omega
    · exact hu0.2 g rfl a
  · rcases hn' k hk with a | a
    · have := hold b (List.mem_of_getElem? hb) k hk2; omega
    · exact h.own.ap i j u b (fun e => hj e.symm) hu hb k a hk2
  · rcases List.mem_or_eq_of_mem_set hy with h1 | rfl
    · exact h.ne y h1 e
    · rcases hn' ob e with a | a
      · omega
      · exact h.ne u (List.mem_of_getElem? hu) a
theorem OwnS.updX {w w' : World} {B g cap n i o : Nat} {ts : List WTh} {vs : List Value} {t t' : WTh} {u u' val : Value} (h : OwnS w B (.slice (some ⟨g, 0, none⟩) n cap) n ts vs) (ht : ts[i]? = some t) (hu : vs[i]? = some u) (hk : ∀ x, x < w.heap.size → some x ≠ u.ownBlock → w'.heap[x]? = w.heap[x]?) (ho : o < 6) (hc : (thC t u).set o val = thC t' u') (h4 : t'.regs.length = 4)
    (hw : w'.ownsRow B 261 2 u' t'.wait.length (wtF t'.wait)) (ha : u'.ownBlock ≠ some g) (hap : ∀ j b, j ≠ i → vs[j]? = some b → Apart u' b) : OwnS (w'.setCell ⟨g, i * 6 + o, none⟩ val) B (.slice (some ⟨g, 0, none⟩) n cap) n (ts.set i t') (vs.set i u') := by
  have hu0 := h.wt i t u ht hu
  refine ⟨by rw [List.length_set]; exact h.hn, by rw [List.length_set, List.length_set]; exact h.len, ?_, ?_, ?_, ?_⟩
  · rw [← thF_upd ts vs i o t u t' u' val ht hu ho hc]
    refine own_set (own_at h.row (fun x hx => hk x (h.row.lt x hx).2 (fun e => ?_))) _ _
    exact hu0.2 x hx e.symm
  · intro x hx
    rcases List.mem_or_eq_of_mem_set hx with h1 | rfl
    · exact h.four x h1
    · exact h4
  · intro j x y hx hy
    rcases set_cases hx with ⟨rfl, rfl⟩ | ⟨hj, hx'⟩
    · rcases set_cases hy with ⟨_, rfl⟩ | ⟨hj, _⟩
      · exact ⟨own_set_ne hw _ _ ha, fun k hk e => ha (by simp [Value.ownBlock] at hk; rw [e, hk])⟩
      · exact (hj rfl).elim
    · rcases set_cases hy with ⟨e, _⟩ | ⟨_, hy'⟩
      · exact (hj e).elim
      · have hh := h.wt j x y hx' hy'
        exact ⟨own_set_ne (own_at hh.1 (fun z hz => hk z (hh.1.lt z hz).2 (fun e => h.ap j i y u hj hy' hu z hz e.symm))) _ _ (fun e => hh.2 g rfl e), hh.2⟩
  · intro j k a b hjk hja hkb
    rcases set_cases hja with ⟨rfl, rfl⟩ | ⟨hj, ha'⟩
    · rcases set_cases hkb with ⟨rfl, _⟩ | ⟨hk, hb'⟩
      · exact (hjk rfl).elim
      · exact hap k b hk hb'
    · rcases set_cases hkb with ⟨rfl, rfl⟩ | ⟨hk, hb'⟩
      · exact fun x h1 h2 => hap j a hj ha' x h2 h1
      · exact h.ap j k a b hjk ha' hb'
theorem DS.append {w W W1 W' : World} {B xb ob g cap n i : Nat} {v0 : Value} {s : WSt} {x : RSt} {S : WSt} {vs : List Value} {t : WTh} {wt : List (Nat × Nat)} {u u' : Value} (h : DS w W B xb ob g cap n v0 s x S vs) (ht : S.ths[i]? = some t) (hu : vs[i]? = some u) (hold : ∀ u ∈ vs, ∀ k, u.ownBlock = some k → k < ob)
    (h1 : W.grownBy W1 none) (h2 : W1.grownBy W' u.ownBlock) (hw : W'.ownsRow B 261 2 u' wt.length (wtF wt)) (hn : ∀ k, u'.ownBlock = some k → u.ownBlock = some k ∨ ob < k) : ∃ vs', DS w (W'.setCell ⟨g, i * 6 + 5, none⟩ u') B xb ob g cap n v0 s x (S.setT i ⟨t.next, t.regs, wt⟩) vs' := by
  have hl := h.le
  have hu0 := h.own.wt i t u ht hu
  have hub : ∀ k, u.ownBlock = some k → B ≤ k ∧ k < ob ∧ k ≠ g := fun k hk => ⟨(hu0.1.lt k hk).1, hold u (List.mem_of_getElem? hu) k hk, fun e => hu0.2 g rfl (by rw [← e]; exact hk)⟩
  have hk : ∀ y, y < W.heap.size → some y ≠ u.ownBlock → W'.heap[y]? = W.heap[y]? := fun y hy hne => (h2.block y (Nat.lt_of_lt_of_le hy h1.size) hne).trans (h1.block y hy (by simp))
  have hlow : ∀ y, y < W.heap.size → (y < B ∨ y = ob) → W'.heap[y]? = W.heap[y]? := fun y hy hyb => hk y hy (fun e => by have := hub y e.symm; omega)
  refine ⟨vs.set i u', ?_⟩
  have hO := h.own.updX (o := 5) (t' := ⟨t.next, t.regs, wt⟩) (u' := u') (val := u') ht hu hk (by omega) rfl (h.own.four t (List.mem_of_getElem? ht)) hw (fun e => ?_) (fun j b hj hb k hk hk2 => ?_)
  · refine ⟨gb_put_new (gb_new (gb_trans h.hG h1) h2 (fun y e => Or.inr ?_)) (by omega) _ _, heap_set_ne ((hlow xb (heap_lt h.X) (by omega)).trans h.X) _ _ (by simp; omega), heap_set_ne ((hlow _ (heap_lt h.C) (by omega)).trans h.C) _ _ (by simp; omega), heap_set_ne ((hlow _ (heap_lt h.R) (by omega)).trans h.R) _ _ (by simp; omega), heap_set_ne ((hlow _ (heap_lt h.O) (by omega)).trans h.O) _ _ (by simp; omega), hO, fun y hy e => ?_, hl⟩
    · have := hub y e; omega
    · rcases List.mem_or_eq_of_mem_set hy with h3 | rfl
      · exact h.ne y h3 e
      · rcases hn ob e with a | a
        · exact h.ne u (List.mem_of_getElem? hu) a
        · omega
  · rcases hn g e with a | a
    · exact (hub g a).2.2 rfl
    · omega
  · rcases hn k hk with a | a
    · exact h.own.ap i j u b (fun e => hj e.symm) hu hb k a hk2
    · have := hold b (List.mem_of_getElem? hb) k hk2; omega
end Go.Proofs.YtmpaeladhoomoaaGreatDoor
