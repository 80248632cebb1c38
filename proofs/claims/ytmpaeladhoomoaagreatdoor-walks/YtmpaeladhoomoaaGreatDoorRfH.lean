/-
  The document's answer: does a step begin here; trees in memory.
-/
import Derived.Test.YtmpaeladhoomoaaGreatDoorRfG
namespace Go.Proofs.YtmpaeladhoomoaaGreatDoor
open Go.RowKit

def beginsQ (s : ByteArray) (q : Q) : Bool := decide (q.bad < 0) && (decide (qk s q = 2) || decide (qk s q = 3) || decide (qk s q = 6) || decide (qk s q = 8))

set_option maxHeartbeats 1000000 in
theorem begins_any (w : World) (b : Nat) (s : ByteArray) (q : Q) (tv : Value) (h : QAt w b s q tv) :
    Calls Tryz.prog 105 #[.pointer (some ⟨b, 0, none⟩)] w fun e w' => e = .returned (.bool (beginsQ s q)) ∧ w' = w := by
  obtain ⟨c0, c1, c2, c3, c4, c5, c6, c7, hf, hlt⟩ := h.get
  have e2 : ((rkind (tk s q.j).kind : Int) == 112) = decide ((tk s q.j).kind = 2) := rkind_eq (c := 2) (tk_le s q.j).1 (by omega)
  have e3 : ((rkind (tk s q.j).kind : Int) == 114) = decide ((tk s q.j).kind = 3) := rkind_eq (c := 3) (tk_le s q.j).1 (by omega)
  by_cases hb : q.bad < 0
  · have HI6 : Hid (isQ s q 6 = decide (qk s q = 6)) := by show _ = _; unfold isQ; simp [hb]
    have HI8 : Hid (isQ s q 8 = decide (qk s q = 8)) := by show _ = _; unfold isQ; simp [hb]
    have HB : Hid (beginsQ s q = (decide (qk s q = 2) || decide (qk s q = 3) || decide (qk s q = 6) || decide (qk s q = 8))) := by show _ = _; unfold beginsQ; simp [hb]
    go_enter Tryz.func105, Tryz.ntmps105
    go_wp2_with fail
    refine (is_any _ b s q tv h 6 (by omega) (by omega) ⟨#[102, 101, 110, 99, 101]⟩ rfl).mono ?_
    rintro e w1 ⟨rfl, rfl⟩
    rw [HI6.out]
    go_wp2_with fail
    refine (is_any _ b s q tv h 8 (by omega) (by omega) ⟨#[105, 102]⟩ rfl).mono ?_
    rintro e w1 ⟨rfl, rfl⟩
    rw [HI8.out]
    by_cases h2 : (tk s q.j).kind = 2
    · have e2' : ((rkind (tk s q.j).kind : Int) == 112) = true := by rw [e2]; simpa using h2
      go_wp2_with fail
      go_ret
      exact ⟨ret_bool (by rw [HB.out]; simp [qk, h2]), rfl⟩
    · have e2' : ((rkind (tk s q.j).kind : Int) == 112) = false := by rw [e2]; simpa using h2
      by_cases h3 : (tk s q.j).kind = 3
      · have e3' : ((rkind (tk s q.j).kind : Int) == 114) = true := by rw [e3]; simpa using h3
        go_wp2_with fail
        go_ret
        exact ⟨ret_bool (by rw [HB.out]; simp [qk, h3]), rfl⟩
      · have e3' : ((rkind (tk s q.j).kind : Int) == 114) = false := by rw [e3]; simpa using h3
        cases h6 : decide (qk s q = 6)
        · cases h8 : decide (qk s q = 8)
          · have HR : Hid (beginsQ s q = false) := by show _ = _; rw [HB.out, h6, h8]; simp [qk, h2, h3]
            go_wp2_with fail
            go_ret
            exact ⟨ret_bool HR.out.symm, rfl⟩
          · have HR : Hid (beginsQ s q = true) := by show _ = _; rw [HB.out, h6, h8]; simp
            go_wp2_with fail
            go_ret
            exact ⟨ret_bool HR.out.symm, rfl⟩
        · have HR : Hid (beginsQ s q = true) := by show _ = _; rw [HB.out, h6]; simp
          go_wp2_with fail
          go_ret
          exact ⟨ret_bool HR.out.symm, rfl⟩
  · have HB : Hid (beginsQ s q = false) := by show _ = _; unfold beginsQ; simp [hb]
    go_enter Tryz.func105, Tryz.ntmps105
    go_wp2_with fail
    refine (is_any _ b s q tv h 6 (by omega) (by omega) ⟨#[102, 101, 110, 99, 101]⟩ rfl).mono ?_
    rintro e w1 ⟨rfl, rfl⟩
    go_wp2_with fail
    refine (is_any _ b s q tv h 8 (by omega) (by omega) ⟨#[105, 102]⟩ rfl).mono ?_
    rintro e w1 ⟨rfl, rfl⟩
    go_wp2_with fail
    go_ret
    exact ⟨ret_bool HB.out.symm, rfl⟩

/-- A tree as it is laid: op, a, b, n, at, kids. -/
def trC (op : ByteArray) (a b n at_ : Int) (k : Value) : List Value := [.string op, .int .i64 a, .int .i64 b, .int .i64 n, .int .i64 at_, k]
/-- What a tree means: its registers' threads with their places in the text, the places that it names, whether it is so. -/
structure TM where
  jm : List (Nat × Nat)
  nm : Nat → Bool
  hd : (Nat → Nat → Nat) → (Nat → Nat) → Bool
def TM.nil : TM := ⟨[], fun _ => false, fun _ _ => false⟩
def TM.plc (a n : Nat) : TM := ⟨[], fun p => a == p, fun _ M => M a == n⟩
def TM.reg (a b n at_ : Nat) : TM := ⟨[(a, at_)], fun _ => false, fun R _ => R a b == n⟩
def TM.no (x : TM) : TM := ⟨x.jm, x.nm, fun R M => !x.hd R M⟩
def TM.two (c : Nat) (x y : TM) : TM := ⟨x.jm ++ y.jm, fun p => x.nm p || y.nm p, fun R M => if c = 12 then x.hd R M && y.hd R M else x.hd R M || y.hd R M⟩
def opB (c : Nat) : List UInt8 := if c = 12 then [97, 110, 100] else [111, 114]
/-- The tree at cells cs, of a depth, in blocks that are well; with what it means. -/
def TRep : Nat → World → (Nat → Prop) → List Value → TM → Prop
  | 0, _, _, _, _ => False
  | d + 1, w, ok, cs, l =>
    (∃ (a n : Nat) (at_ : Int), a ≤ 3 ∧ cs = trC ⟨#[112]⟩ a 0 n at_ (.slice none 0 0) ∧ l = TM.plc a n) ∨
    (∃ (a b n at_ : Nat), b ≤ 3 ∧ cs = trC ⟨#[114]⟩ a b n at_ (.slice none 0 0) ∧ l = TM.reg a b n at_) ∨
    (∃ (op : ByteArray) (g : Nat) (c1 : List Value) (l1 : TM), op.toList = [110, 111, 116] ∧ ok g ∧ w.heap[g]? = some (.cells c1.toArray 146 (0, 0)) ∧ cs = trC op 0 0 0 0 (.slice (some ⟨g, 0, none⟩) 1 1) ∧ TRep d w ok c1 l1 ∧ l = l1.no) ∨
    (∃ (c : Nat) (op : ByteArray) (g : Nat) (c1 c2 : List Value) (l1 l2 : TM), ((c = 12 ∨ c = 13) ∧ op.toList = opB c) ∧ ok g ∧ w.heap[g]? = some (.cells (c1 ++ c2).toArray 146 (0, 0)) ∧ cs = trC op 0 0 0 0 (.slice (some ⟨g, 0, none⟩) 2 2) ∧ TRep d w ok c1 l1 ∧ TRep d w ok c2 l2 ∧ l = TM.two c l1 l2)
theorem TRep.len : ∀ {d : Nat} {w : World} {ok : Nat → Prop} {cs : List Value} {l : TM}, TRep d w ok cs l → cs.length = 6 := by
  intro d w ok cs l h
  cases d with
  | zero => exact h.elim
  | succ d => rcases h with ⟨_, _, _, _, rfl, _⟩ | ⟨_, _, _, _, _, rfl, _⟩ | ⟨_, _, _, _, _, _, _, rfl, _⟩ | ⟨_, _, _, _, _, _, _, _, _, _, rfl, _⟩ <;> rfl
theorem TRep.form : ∀ {d : Nat} {w : World} {ok : Nat → Prop} {cs : List Value} {l : TM}, TRep d w ok cs l → ∃ (op : ByteArray) (a b n at_ : Int) (sa : Option Addr) (k c : Nat), cs = trC op a b n at_ (.slice sa k c) := by
  intro d w ok cs l h
  cases d with
  | zero => exact h.elim
  | succ d => rcases h with ⟨_, _, _, _, rfl, _⟩ | ⟨_, _, _, _, _, rfl, _⟩ | ⟨_, _, _, _, _, _, _, rfl, _⟩ | ⟨_, _, _, _, _, _, _, _, _, _, rfl, _⟩ <;> exact ⟨_, _, _, _, _, _, _, _, rfl⟩
theorem TRep.mono : ∀ {d : Nat} {w w' : World} {ok ok' : Nat → Prop} {cs : List Value} {l : TM}, TRep d w ok cs l → (∀ g, ok g → ok' g) → (∀ g o, ok g → w.heap[g]? = some o → w'.heap[g]? = some o) → TRep d w' ok' cs l := by
  intro d
  induction d with
  | zero => intro w w' ok ok' cs l h; exact h.elim
  | succ d ih =>
    intro w w' ok ok' cs l h h1 h2
    rcases h with h | h | ⟨op, g, c1, l1, ho, hg, hh, rfl, t1, rfl⟩ | ⟨c, op, g, c1, c2, l1, l2, ho, hg, hh, rfl, t1, t2, rfl⟩
    · exact Or.inl h
    · exact Or.inr (Or.inl h)
    · exact Or.inr (Or.inr (Or.inl ⟨op, g, c1, _, ho, h1 g hg, h2 g _ hg hh, rfl, ih t1 h1 h2, rfl⟩))
    · exact Or.inr (Or.inr (Or.inr ⟨c, op, g, c1, c2, _, _, ho, h1 g hg, h2 g _ hg hh, rfl, ih t1 h1 h2, ih t2 h1 h2, rfl⟩))
theorem TRep.up : ∀ {d e : Nat} {w : World} {ok : Nat → Prop} {cs : List Value} {l : TM}, TRep d w ok cs l → d ≤ e → TRep e w ok cs l := by
  intro d
  induction d with
  | zero => intro e w ok cs l h; exact h.elim
  | succ d ih =>
    intro e w ok cs l h he
    obtain ⟨m, rfl⟩ : ∃ m, e = m + 1 := ⟨e - 1, by omega⟩
    rcases h with h | h | ⟨op, g, c1, l1, ho, hg, hh, hc, t1, hl⟩ | ⟨c, op, g, c1, c2, l1, l2, ho, hg, hh, hc, t1, t2, hl⟩
    · exact Or.inl h
    · exact Or.inr (Or.inl h)
    · exact Or.inr (Or.inr (Or.inl ⟨op, g, c1, l1, ho, hg, hh, hc, ih t1 (by omega), hl⟩))
    · exact Or.inr (Or.inr (Or.inr ⟨c, op, g, c1, c2, l1, l2, ho, hg, hh, hc, ih t1 (by omega), ih t2 (by omega), hl⟩))
end Go.Proofs.YtmpaeladhoomoaaGreatDoor
