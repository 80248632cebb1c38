/-
  The document's answer: a whole formula; its threads that are none.
-/
import Derived.Test.YtmpaeladhoomoaaGreatDoorRfK
namespace Go.Proofs.YtmpaeladhoomoaaGreatDoor
open Go.RowKit

def form2Q (s : ByteArray) : Nat → Q → TM × Q
  | 0, q => (TM.nil, q)
  | n + 1, q =>
    if isQ s q 14 = true then ((form2Q s n (openQ s q)).1.no, shutQ (form2Q s n (openQ s q)).2) else
    if isQ s q 19 = true then ((levQ s 13 (levQ s 12 (form2Q s n)) (openQ s q)).1, shutQ (needQ s (levQ s 13 (levQ s 12 (form2Q s n)) (openQ s q)).2 20)) else
    atomQ s q
def formQ (s : ByteArray) (n : Nat) (q : Q) : TM × Q := levQ s 13 (levQ s 12 (form2Q s n)) q
def SaidQ2 (n : Nat) : Prop := ∀ (w : World) (b : Nat) (s : ByteArray) (q : Q) (tv : Value), QAt w b s q tv → preQ n q → Calls Tryz.prog 108 #[.pointer (some ⟨b, 0, none⟩), .int .i64 2] w fun e w' => PostQ w tv b s q (form2Q s n q) e w'
theorem said0_of (n : Nat) (h : SaidQ2 n) (w : World) (b : Nat) (s : ByteArray) (q : Q) (tv : Value) (hq : QAt w b s q tv) (hp : preQ n q) : Calls Tryz.prog 108 #[.pointer (some ⟨b, 0, none⟩), .int .i64 0] w fun e w' => PostQ w tv b s q (levQ s 13 (levQ s 12 (form2Q s n)) q) e w' :=
  or_lev n (levQ s 12 (form2Q s n)) w b s q tv hq hp fun wx tx qx h1 h2 => and_lev n (form2Q s n) wx b s qx tx h1 h2 fun wy ty qy h3 h4 => h wy b s qy ty h3 h4
theorem said2_all : ∀ n, SaidQ2 n := by
  intro n
  induction n with
  | zero => intro w b s q tv h hp; have := hp.2.2.1; omega
  | succ n ih =>
    intro w b s q tv h hp
    by_cases h14 : isQ s q 14 = true
    · have e : form2Q s (n + 1) q = ((form2Q s n (openQ s q)).1.no, shutQ (form2Q s n (openQ s q)).2) := by rw [form2Q, if_pos h14]
      rw [e]
      exact not_any n (form2Q s n) w b s q tv h hp h14 fun wx tx qx h1 h2 => ih wx b s qx tx h1 h2
    · by_cases h19 : isQ s q 19 = true
      · have e : form2Q s (n + 1) q = ((levQ s 13 (levQ s 12 (form2Q s n)) (openQ s q)).1, shutQ (needQ s (levQ s 13 (levQ s 12 (form2Q s n)) (openQ s q)).2 20)) := by rw [form2Q, if_neg h14, if_pos h19]
        rw [e]
        exact paren_any n (levQ s 13 (levQ s 12 (form2Q s n))) w b s q tv h hp (by simpa using h14) h19 fun wx tx qx h1 h2 => said0_of n ih wx b s qx tx h1 h2
      · have e : form2Q s (n + 1) q = atomQ s q := by rw [form2Q, if_neg h14, if_neg h19]
        rw [e]
        exact atom_any w b s q tv h (by simpa using h14) (by simpa using h19)
theorem form_any (n : Nat) (w : World) (b : Nat) (s : ByteArray) (q : Q) (tv : Value) (hq : QAt w b s q tv) (hp : preQ n q) : Calls Tryz.prog 108 #[.pointer (some ⟨b, 0, none⟩), .int .i64 0] w fun e w' => PostQ w tv b s q (formQ s n q) e w' :=
  said0_of n (said2_all n) w b s q tv hq hp

/-- The place of the first thread that is none. -/
def jumpL (t : Nat) : List (Nat × Nat) → Int
  | [] => -1
  | (a, at_) :: r => if t ≤ a then (at_ : Int) else jumpL t r
theorem jumpL_append (t : Nat) (l r : List (Nat × Nat)) : jumpL t (l ++ r) = if 0 ≤ jumpL t l then jumpL t l else jumpL t r := by
  induction l with
  | nil => simp [jumpL]
  | cons x l ih =>
    obtain ⟨a, at_⟩ := x
    simp only [List.cons_append, jumpL]
    split
    · rw [if_pos (by omega)]
    · exact ih
theorem jumpL_lo (t : Nat) (l : List (Nat × Nat)) : -1 ≤ jumpL t l := by
  induction l with
  | nil => simp [jumpL]
  | cons x l ih => obtain ⟨a, at_⟩ := x; simp only [jumpL]; split <;> omega
theorem nat_beq (a p : Nat) : ((a : Int) == (p : Int)) = (a == p) := by rw [Bool.eq_iff_iff]; simp; omega
theorem TRep.kids {d : Nat} {w : World} {ok : Nat → Prop} {cs : List Value} {l : TM} (h : TRep (d + 1) w ok cs l) :
    ∃ (op : ByteArray) (a b n at_ : Int) (sa : Option Addr) (k c : Nat) (ks : List (List Value × TM)), cs = trC op a b n at_ (.slice sa k c) ∧ k = ks.length ∧ ks.length ≤ 2 ∧
      ((op.toList = [114] ∧ ks = [] ∧ ∃ a' at' : Nat, a = a' ∧ at_ = at' ∧ l.jm = [(a', at')]) ∨ (op.toList ≠ [114] ∧ l.jm = ks.flatMap (·.2.jm))) ∧
      (∀ p : Nat, l.nm p = ((op.toList == [112] && a == (p : Int)) || ks.any (fun x => x.2.nm p))) ∧
      (∀ i x, ks[i]? = some x → TRep d w ok x.1 x.2 ∧ ∃ g, sa = some ⟨g, 0, none⟩ ∧ ∀ o v, x.1[o]? = some v → w.cell? ⟨g, i * 6 + o, none⟩ = some v) := by
  rcases h with ⟨a, n, at_, ha, rfl, rfl⟩ | ⟨a, b, n, at_, hb, rfl, rfl⟩ | ⟨op, g, c1, l1, ho, hg, hh, rfl, t1, rfl⟩ | ⟨c, op, g, c1, c2, l1, l2, ho, hg, hh, rfl, t1, t2, rfl⟩
  · exact ⟨_, _, _, _, _, _, _, _, [], rfl, rfl, by simp, Or.inr ⟨by simp [ByteArray.toList_eq], rfl⟩, fun p => by simp [ByteArray.toList_eq, TM.plc, nat_beq], fun i x hx => by simp at hx⟩
  · exact ⟨_, _, _, _, _, _, _, _, [], rfl, rfl, by simp, Or.inl ⟨by simp [ByteArray.toList_eq], rfl, a, at_, rfl, rfl, rfl⟩, fun p => by simp [ByteArray.toList_eq, TM.reg], fun i x hx => by simp at hx⟩
  · refine ⟨_, _, _, _, _, _, _, _, [(c1, l1)], rfl, rfl, by simp, Or.inr ⟨by rw [ho]; decide, by simp [TM.no]⟩, fun p => by rw [ho]; simp [TM.no], fun i x hx => ?_⟩
    match i, hx with
    | 0, hx =>
      simp at hx; subst hx
      exact ⟨t1, g, rfl, fun o v hv => cell_of hh _ _ (by simpa using hv)⟩
  · have hl := t1.len
    refine ⟨_, _, _, _, _, _, _, _, [(c1, l1), (c2, l2)], rfl, rfl, by simp, Or.inr ⟨by rw [ho.2]; rcases ho.1 with e | e <;> rw [e] <;> decide, by simp [TM.two]⟩, fun p => by rw [ho.2]; rcases ho.1 with e | e <;> rw [e] <;> simp [TM.two, opB], fun i x hx => ?_⟩
    match i, hx with
    | 0, hx =>
      simp at hx; subst hx
      refine ⟨t1, g, rfl, fun o v hv => cell_of hh _ _ ?_⟩
      have : o < c1.length := (List.getElem?_eq_some_iff.1 hv).1
      simp [List.getElem?_append_left this, hv]
    | 1, hx =>
      simp at hx; subst hx
      refine ⟨t2, g, rfl, fun o v hv => cell_of hh _ _ ?_⟩
      rw [List.getElem?_toArray, List.getElem?_append_right (by omega), hl, show 1 * 6 + o - 6 = o from by omega]
      exact hv
end Go.Proofs.YtmpaeladhoomoaaGreatDoor
