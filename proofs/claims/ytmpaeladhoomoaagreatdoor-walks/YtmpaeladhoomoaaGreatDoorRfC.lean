/-
  The document's answer: the parser's own block.
-/
import Derived.Test.YtmpaeladhoomoaaGreatDoorRfB
import Derived.Test.YtmpaeladhoomoaaGreatDoorPrA
import Derived.Deep.RegionHeld3
import Derived.Deep.DrawnRows
import Derived.BigRegion
import Derived.OwnWalk
namespace Go.Proofs.YtmpaeladhoomoaaGreatDoor
open Go.RowKit
attribute [local go_sem ↓] Go.wp_at_zero Go.wp_at_succ

/-- So many tokens from a place on, whole; their cells. -/
def tkl (s : ByteArray) : Nat → Nat → List Tk
  | _, 0 => []
  | i, n + 1 => tk s i :: tkl s (tk s i).end_ n
def rtC (t : Tk) : List Value := [.int .u8 (rkind t.kind : Nat), .string (canonB t.kind t.num), .int .i64 (t.at_ : Nat)]
def tkF (s : ByteArray) (n : Nat) : List Value := (tkl s 0 n).flatMap rtC
theorem tkl_snoc (s : ByteArray) : ∀ (n i : Nat), tkl s i (n + 1) = tkl s i n ++ [tk s (pos s i n)] := by
  intro n
  induction n with
  | zero => intro i; rfl
  | succ n ih => intro i; rw [tkl, ih, tkl, pos]; rfl
theorem tkl_toks (s : ByteArray) : ∀ (n i : Nat), toks s i n = (tkl s i n).map (fun t => (t.kind, t.num)) := by
  intro n
  induction n with
  | zero => intro i; rfl
  | succ n ih => intro i; rw [toks, tkl, ih]; rfl
theorem tkF_snoc {s : ByteArray} {n j : Nat} (h : j = pos s 0 n) : tkF s (n + 1) = tkF s n ++ rtC (tk s j) := by
  unfold tkF; rw [tkl_snoc, h]; simp
/-- The state of the document's parser: where the next token is read from; how many were taken; the place at which it is no test (-1: none); how much is open. -/
structure Q where
  j : Nat
  n : Nat
  bad : Int
  opn : Int
def qk (s : ByteArray) (q : Q) : Nat := (tk s q.j).kind
def qn (s : ByteArray) (q : Q) : Nat := (tk s q.j).num
def qa (s : ByteArray) (q : Q) : Nat := (tk s q.j).at_
def qCells (s : ByteArray) (q : Q) (tv : Value) : Array Value :=
  #[.string s, .int .u8 (rkind (tk s q.j).kind : Nat), .string (canonB (tk s q.j).kind (tk s q.j).num), .int .i64 ((tk s q.j).at_ : Nat), .int .i64 ((tk s q.j).end_ : Nat), tv, .int .i64 q.bad, .int .i64 q.opn]
/-- What was taken: tokens from the text's start on. -/
def Tks (s : ByteArray) (q : Q) : Prop := q.j = pos s 0 q.n ∧ ∀ y ∈ toks s 0 q.n, 2 ≤ y.1
structure QAt (w : World) (b : Nat) (s : ByteArray) (q : Q) (tv : Value) : Prop where
  blk : w.heap[b]? = some (.cells (qCells s q tv) 203 (0, 0))
  toks : w.ownsRow (b + 1) 142 3 tv q.n (tkF s q.n)
  ssz : s.size ≤ 400
  jsz : q.j ≤ s.size
  nsz : q.n ≤ q.j
  blo : -1 ≤ q.bad
  bhi : q.bad ≤ 400
  olo : -100 ≤ q.opn
  ohi : q.opn ≤ 100
  tks : Tks s q
theorem QAt.own {w : World} {b : Nat} {s : ByteArray} {q : Q} {tv : Value} (h : QAt w b s q tv) : ∃ xs, w.ownsRow (b + 1) 142 3 tv q.n xs := ⟨_, h.toks⟩

/-- What a call of the parser may have turned: its own block, the row of the tokens taken, and what is new. -/
structure FR (b : Nat) (tv : Value) (w : World) (tv' : Value) (w' : World) : Prop where
  os : w'.os = w.os
  tape : w'.tape = w.tape
  output : w'.output = w.output
  size : w.heap.size ≤ w'.heap.size
  block : ∀ k, k < w.heap.size → k ≠ b → tv.ownBlock ≠ some k → w'.heap[k]? = w.heap[k]?
  row : tv'.ownBlock = tv.ownBlock ∨ ∃ g, tv'.ownBlock = some g ∧ w.heap.size ≤ g
theorem FR.refl (b : Nat) (tv : Value) (w : World) : FR b tv w tv w := ⟨rfl, rfl, rfl, Nat.le_refl _, fun _ _ _ _ => rfl, Or.inl rfl⟩
theorem FR.trans {b : Nat} {tv tv1 tv2 : Value} {w w1 w2 : World} (h : FR b tv w tv1 w1) (k : FR b tv1 w1 tv2 w2) : FR b tv w tv2 w2 :=
  ⟨k.os.trans h.os, k.tape.trans h.tape, k.output.trans h.output, Nat.le_trans h.size k.size,
   fun i hi hb ht => (k.block i (Nat.lt_of_lt_of_le hi h.size) hb (fun e => by
     rcases h.row with h1 | ⟨g, h1, h2⟩
     · exact ht (h1 ▸ e)
     · rw [h1] at e; simp at e; omega)).trans (h.block i hi hb ht),
   by
    rcases k.row with k1 | ⟨g, k1, k2⟩
    · rcases h.row with h1 | ⟨g, h1, h2⟩
      · exact Or.inl (k1.trans h1)
      · exact Or.inr ⟨g, k1.trans h1, h2⟩
    · exact Or.inr ⟨g, k1, Nat.le_trans h.size k2⟩⟩
theorem FR.of_gb {b : Nat} {tv : Value} {w w' : World} (h : w.grownBy w' (some b)) : FR b tv w tv w' := ⟨h.os, h.tape, h.output, h.size, fun k hk hb _ => h.block k hk (by simpa using hb), Or.inl rfl⟩
theorem FR.of_new {b : Nat} {tv : Value} {w w' : World} (h : w.grownBy w' none) : FR b tv w tv w' := FR.of_gb (gb_any h)
theorem FR.alloc {b : Nat} {tv tv' : Value} {w w' : World} (h : FR b tv w tv' w') (o : Obj) : FR b tv w tv' (w'.alloc o) := h.trans (FR.of_new (gb_alloc (gb_refl _ _) o))
theorem FR.drew {b : Nat} {tv tv' : Value} {w w' : World} (h : FR b tv w tv' w') : FR b tv w tv' w'.drew := ⟨h.os, h.tape, h.output, h.size, h.block, h.row⟩
/-- A block that is not the parser's nor the row's is as it was. -/
theorem FR.heap {b : Nat} {tv tv' : Value} {w w' : World} {k : Nat} {o : Obj} (h : FR b tv w tv' w') (hk : w.heap[k]? = some o) (hb : k ≠ b) (ht : tv.ownBlock ≠ some k) : w'.heap[k]? = some o := (h.block k (heap_lt hk) hb ht).trans hk
/-- The row stays apart from a block that was there. -/
theorem FR.apart {b : Nat} {tv tv' : Value} {w w' : World} {k : Nat} (h : FR b tv w tv' w') (hk : k < w.heap.size) (ht : tv.ownBlock ≠ some k) : tv'.ownBlock ≠ some k := by
  rcases h.row with h1 | ⟨g, h1, h2⟩
  · rw [h1]; exact ht
  · rw [h1]; simp; omega

theorem QAt.get {w : World} {b : Nat} {s : ByteArray} {q : Q} {tv : Value} (h : QAt w b s q tv) :
    w.cell? ⟨b, 0, none⟩ = some (.string s) ∧ w.cell? ⟨b, 1, none⟩ = some (.int .u8 (rkind (tk s q.j).kind : Nat)) ∧ w.cell? ⟨b, 2, none⟩ = some (.string (canonB (tk s q.j).kind (tk s q.j).num)) ∧
    w.cell? ⟨b, 3, none⟩ = some (.int .i64 ((tk s q.j).at_ : Nat)) ∧ w.cell? ⟨b, 4, none⟩ = some (.int .i64 ((tk s q.j).end_ : Nat)) ∧ w.cell? ⟨b, 5, none⟩ = some tv ∧
    w.cell? ⟨b, 6, none⟩ = some (.int .i64 q.bad) ∧ w.cell? ⟨b, 7, none⟩ = some (.int .i64 q.opn) ∧ (∀ o, w.frozen? ⟨b, o, none⟩ = false) ∧ b < w.heap.size :=
  ⟨cell_of h.blk 0 _ rfl, cell_of h.blk 1 _ rfl, cell_of h.blk 2 _ rfl, cell_of h.blk 3 _ rfl, cell_of h.blk 4 _ rfl, cell_of h.blk 5 _ rfl, cell_of h.blk 6 _ rfl, cell_of h.blk 7 _ rfl, frozen_of h.blk, heap_lt h.blk⟩
theorem QAt.kept {w w' : World} {b : Nat} {s : ByteArray} {q : Q} {tv : Value} (h : QAt w b s q tv) (hg : w.grownBy w' none) : QAt w' b s q tv := by
  exact ⟨heap_gb hg h.blk (by simp), h.toks.kept hg (by cases tv.ownBlock <;> simp), h.ssz, h.jsz, h.nsz, h.blo, h.bhi, h.olo, h.ohi, h.tks⟩
theorem QAt.alloc {w : World} {b : Nat} {s : ByteArray} {q : Q} {tv : Value} (h : QAt w b s q tv) (o : Obj) : QAt (w.alloc o) b s q tv := h.kept (gb_alloc (gb_refl _ _) o)
theorem QAt.drew {w : World} {b : Nat} {s : ByteArray} {q : Q} {tv : Value} (h : QAt w b s q tv) : QAt w.drew b s q tv := h.kept (gb_drew (gb_refl _ _))
theorem QAt.other {w : World} {b : Nat} {s : ByteArray} {q : Q} {tv : Value} (h : QAt w b s q tv) (a : Addr) (v : Value) (ha : b ≠ a.block) (ht : tv.ownBlock ≠ some a.block) : QAt (w.setCell a v) b s q tv := by
  refine ⟨heap_set_ne h.blk a v ha, h.toks.kept (row := some a.block) ⟨rfl, rfl, rfl, by simp [World.setCell], fun k hk hne => Below.heap_setCell _ _ _ _ (by simpa using hne)⟩ (Or.inr ht), h.ssz, h.jsz, h.nsz, h.blo, h.bhi, h.olo, h.ohi, h.tks⟩
/-- A store into the parser's own block. -/
theorem QAt.own_put {w : World} {b n : Nat} {tv : Value} {xs : List Value} (h : w.ownsRow (b + 1) 142 3 tv n xs) (o : Nat) (v : Value) : (w.setCell ⟨b, o, none⟩ v).ownsRow (b + 1) 142 3 tv n xs :=
  ownsRow_setCell_below h (by simp) v
theorem QAt.setBad {w : World} {b : Nat} {s : ByteArray} {q : Q} {tv : Value} (h : QAt w b s q tv) (d : Int) (h1 : -1 ≤ d) (h2 : d ≤ 400) : QAt (w.setCell ⟨b, 6, none⟩ (.int .i64 d)) b s { q with bad := d } tv :=
  ⟨heap_set' h.blk 6 _ _ rfl, QAt.own_put h.toks _ _, h.ssz, h.jsz, h.nsz, h1, h2, h.olo, h.ohi, h.tks⟩
theorem QAt.setOpn {w : World} {b : Nat} {s : ByteArray} {q : Q} {tv : Value} (h : QAt w b s q tv) (d : Int) (h1 : -100 ≤ d) (h2 : d ≤ 100) : QAt (w.setCell ⟨b, 7, none⟩ (.int .i64 d)) b s { q with opn := d } tv :=
  ⟨heap_set' h.blk 7 _ _ rfl, QAt.own_put h.toks _ _, h.ssz, h.jsz, h.nsz, h.blo, h.bhi, h1, h2, h.tks⟩
theorem QAt.rowlt {w : World} {b : Nat} {s : ByteArray} {q : Q} {tv : Value} (h : QAt w b s q tv) (k : Nat) (hk : w.heap.size ≤ k) : tv.ownBlock ≠ some k := by
  obtain ⟨xs, hx⟩ := h.own
  intro e
  have := (hx.lt k e).2
  omega

def failQ (s : ByteArray) (q : Q) : Q := if q.bad < 0 then { q with bad := (qa s q : Int) } else q
theorem FR.put {b : Nat} {tv tv' : Value} {w w' : World} (h : FR b tv w tv' w') (o : Nat) (v : Value) : FR b tv w tv' (w'.setCell ⟨b, o, none⟩ v) := h.trans (FR.of_gb (gb_put (gb_refl _ _) o v))

set_option maxHeartbeats 400000 in
theorem fail_any (w : World) (b : Nat) (s : ByteArray) (q : Q) (tv : Value) (h : QAt w b s q tv) :
    Calls Tryz.prog 102 #[.pointer (some ⟨b, 0, none⟩)] w fun e w' => e = .returned (.tuple #[]) ∧ FR b tv w tv w' ∧ QAt w' b s (failQ s q) tv := by
  obtain ⟨c0, c1, c2, c3, c4, c5, c6, c7, hf, hlt⟩ := h.get
  have hbd := tk_bounds s q.j h.jsz
  have hss := h.ssz
  by_cases hb : q.bad < 0
  · have HF : Hid (failQ s q = { q with bad := (qa s q : Int) }) := if_pos hb
    go_enter Tryz.func102, Tryz.ntmps102
    go_wp2_with fail
    go_end0
    rw [HF.out]
    exact ⟨rfl, (FR.refl _ _ _).put _ _, h.setBad _ (by omega) (by show ((tk s q.j).at_ : Int) ≤ 400; omega)⟩
  · have HF : Hid (failQ s q = q) := if_neg hb
    go_enter Tryz.func102, Tryz.ntmps102
    go_wp2_with fail
    go_end0
    rw [HF.out]
    exact ⟨rfl, FR.refl _ _ _, h⟩
end Go.Proofs.YtmpaeladhoomoaaGreatDoor
