/-
  The program's reader: the parser's own block, and the token at hand.
-/
import Derived.Test.YtmpaeladhoomoaaGreatDoorLex3
import Derived.Deep.RegionHeld3
import Derived.Deep.DrawnRows
import Derived.BigRegion
namespace Go.Proofs.YtmpaeladhoomoaaGreatDoor
open Go.RowKit
attribute [local go_sem ↓] Go.wp_at_zero Go.wp_at_succ

/-- The parser's state: where the token at hand is read from; the place of the last digit taken; how many threads; how much is open; the first wrong jump. -/
structure PS where
  i : Nat
  dig : Nat
  thr : Nat
  opn : Nat
  jmp : Int

def pCells (s : ByteArray) (p : PS) : Array Value :=
  #[.string s, .int .i64 ((tk s p.i).kind : Nat), .int .i64 ((tk s p.i).num : Nat), .int .i64 ((tk s p.i).at_ : Nat), .int .i64 ((tk s p.i).end_ : Nat), .int .i64 (p.dig : Nat), .int .i64 (p.thr : Nat), .int .i64 (p.opn : Nat), .int .i64 p.jmp]

structure PAt (w : World) (b : Nat) (s : ByteArray) (p : PS) : Prop where
  blk : w.heap[b]? = some (.cells (pCells s p) 130 (0, 0))
  ssz : s.size ≤ 400
  isz : p.i ≤ s.size
  dsz : p.dig ≤ 400
  tsz : p.thr ≤ 4
  osz : p.opn ≤ 6
  jlo : -1 ≤ p.jmp
  jhi : p.jmp ≤ 400

set_option maxHeartbeats 400000 in
theorem advance_raw (w : World) (b : Nat) (s : ByteArray) (i : Nat) (x1 x2 x3 x5 x6 x7 x8 : Value) (hs : s.size ≤ 400) (hi : i ≤ s.size)
    (h : w.heap[b]? = some (.cells #[.string s, x1, x2, x3, .int .i64 i, x5, x6, x7, x8] 130 (0, 0))) :
    Calls Tryz.prog 60 #[.pointer (some ⟨b, 0, none⟩)] w fun e w' => e = .returned (.tuple #[]) ∧ w.grownBy w' (some b) ∧
      w'.heap[b]? = some (.cells #[.string s, .int .i64 ((tk s i).kind : Nat), .int .i64 ((tk s i).num : Nat), .int .i64 ((tk s i).at_ : Nat), .int .i64 ((tk s i).end_ : Nat), x5, x6, x7, x8] 130 (0, 0)) := by
  have c0 := cell_of h 0 _ rfl
  have c1 := cell_of h 1 _ rfl
  have c2 := cell_of h 2 _ rfl
  have c3 := cell_of h 3 _ rfl
  have c4 := cell_of h 4 _ rfl
  have hf := frozen_of h
  have hlt := heap_lt h
  have H : Hid (_ = _) := h
  clear h
  have HT : Hid (∀ wx : World, Calls Tryz.prog 90 #[.string s, .int .i64 i] wx fun e w' => e = .returned (.tuple #[tkV (tk s i), .int .i64 ((tk s i).end_ : Nat)]) ∧ wx.grownBy w' none) := fun wx => tokenFrom_any s i wx hs hi
  unfold tkV at HT
  generalize (tk s i).kind = n1 at *
  generalize (tk s i).num = n2 at *
  generalize (tk s i).at_ = n3 at *
  generalize (tk s i).end_ = n4 at *
  go_enter Tryz.func60, Tryz.ntmps60
  go_wp2_with fail
  go_region_with (go_at_call 90; refine (HT.out _).mono ?_; rintro e w1 ⟨rfl, hg⟩; have k0 := hg.cell c0 (by simp); have k1 := hg.cell c1 (by simp); have k2 := hg.cell c2 (by simp); have k3 := hg.cell c3 (by simp); have k4 := hg.cell c4 (by simp); have kf : ∀ o, w1.frozen? ⟨b, o, none⟩ = false := fun o => (hg.frozen_far ⟨b, o, none⟩ hlt (by simp)).trans (hf o))
  all_goals
    go_end0
    have hg0 := gb_from_drew hg
    have hb := heap_gb hg0 H.out (by simp)
    refine ⟨?_, ?_, ?_⟩
    · exact rfl
    · exact gb_put (gb_put (gb_put (gb_put (gb_any hg0) _ _) _ _) _ _) _ _
    · first | exact set_1234 hb | exact set_4123 hb

theorem PAt.get {w : World} {b : Nat} {s : ByteArray} {p : PS} (h : PAt w b s p) :
    w.cell? ⟨b, 0, none⟩ = some (.string s) ∧ w.cell? ⟨b, 1, none⟩ = some (.int .i64 ((tk s p.i).kind : Nat)) ∧ w.cell? ⟨b, 2, none⟩ = some (.int .i64 ((tk s p.i).num : Nat)) ∧
    w.cell? ⟨b, 3, none⟩ = some (.int .i64 ((tk s p.i).at_ : Nat)) ∧ w.cell? ⟨b, 4, none⟩ = some (.int .i64 ((tk s p.i).end_ : Nat)) ∧ w.cell? ⟨b, 5, none⟩ = some (.int .i64 (p.dig : Nat)) ∧
    w.cell? ⟨b, 6, none⟩ = some (.int .i64 (p.thr : Nat)) ∧ w.cell? ⟨b, 7, none⟩ = some (.int .i64 (p.opn : Nat)) ∧ w.cell? ⟨b, 8, none⟩ = some (.int .i64 p.jmp) ∧ (∀ o, w.frozen? ⟨b, o, none⟩ = false) ∧ b < w.heap.size :=
  ⟨cell_of h.blk 0 _ rfl, cell_of h.blk 1 _ rfl, cell_of h.blk 2 _ rfl, cell_of h.blk 3 _ rfl, cell_of h.blk 4 _ rfl, cell_of h.blk 5 _ rfl, cell_of h.blk 6 _ rfl, cell_of h.blk 7 _ rfl, cell_of h.blk 8 _ rfl, frozen_of h.blk, heap_lt h.blk⟩
/-- The parser's block goes on over whatever does not write it. -/
theorem PAt.kept {w w' : World} {b : Nat} {s : ByteArray} {p : PS} {row : Option Nat} (h : PAt w b s p) (hg : w.grownBy w' row) (hne : some b ≠ row) : PAt w' b s p :=
  ⟨heap_gb hg h.blk hne, h.ssz, h.isz, h.dsz, h.tsz, h.osz, h.jlo, h.jhi⟩
theorem PAt.alloc {w : World} {b : Nat} {s : ByteArray} {p : PS} (h : PAt w b s p) (o : Obj) : PAt (w.alloc o) b s p := h.kept (World.grownBy_alloc w o none) (by simp)
theorem PAt.drew {w : World} {b : Nat} {s : ByteArray} {p : PS} (h : PAt w b s p) : PAt w.drew b s p := ⟨h.blk, h.ssz, h.isz, h.dsz, h.tsz, h.osz, h.jlo, h.jhi⟩
theorem PAt.other {w : World} {b : Nat} {s : ByteArray} {p : PS} (h : PAt w b s p) (a : Addr) (v : Value) (ha : b ≠ a.block) : PAt (w.setCell a v) b s p :=
  ⟨heap_set_ne h.blk a v ha, h.ssz, h.isz, h.dsz, h.tsz, h.osz, h.jlo, h.jhi⟩
theorem PAt.setDig {w : World} {b : Nat} {s : ByteArray} {p : PS} (h : PAt w b s p) (d : Nat) (hd : d ≤ 400) : PAt (w.setCell ⟨b, 5, none⟩ (.int .i64 (d : Nat))) b s { p with dig := d } :=
  ⟨heap_set' h.blk 5 _ _ rfl, h.ssz, h.isz, hd, h.tsz, h.osz, h.jlo, h.jhi⟩
theorem PAt.setThr {w : World} {b : Nat} {s : ByteArray} {p : PS} (h : PAt w b s p) (d : Nat) (hd : d ≤ 4) : PAt (w.setCell ⟨b, 6, none⟩ (.int .i64 (d : Nat))) b s { p with thr := d } :=
  ⟨heap_set' h.blk 6 _ _ rfl, h.ssz, h.isz, h.dsz, hd, h.osz, h.jlo, h.jhi⟩
theorem PAt.setOpn {w : World} {b : Nat} {s : ByteArray} {p : PS} (h : PAt w b s p) (d : Nat) (hd : d ≤ 6) : PAt (w.setCell ⟨b, 7, none⟩ (.int .i64 (d : Nat))) b s { p with opn := d } :=
  ⟨heap_set' h.blk 7 _ _ rfl, h.ssz, h.isz, h.dsz, h.tsz, hd, h.jlo, h.jhi⟩
theorem PAt.setJmp {w : World} {b : Nat} {s : ByteArray} {p : PS} (h : PAt w b s p) (d : Int) (h1 : -1 ≤ d) (h2 : d ≤ 400) : PAt (w.setCell ⟨b, 8, none⟩ (.int .i64 d)) b s { p with jmp := d } :=
  ⟨heap_set' h.blk 8 _ _ rfl, h.ssz, h.isz, h.dsz, h.tsz, h.osz, h1, h2⟩

theorem advance_any (w : World) (b : Nat) (s : ByteArray) (p : PS) (h : PAt w b s p) :
    Calls Tryz.prog 60 #[.pointer (some ⟨b, 0, none⟩)] w fun e w' => e = .returned (.tuple #[]) ∧ w.grownBy w' (some b) ∧ PAt w' b s { p with i := (tk s p.i).end_ } := by
  have hb := tk_bounds s p.i h.isz
  refine (advance_raw w b s (tk s p.i).end_ _ _ _ _ _ _ _ h.ssz (by omega) h.blk).mono ?_
  rintro e w' ⟨rfl, hg, hk⟩
  exact ⟨rfl, hg, ⟨hk, h.ssz, by show (tk s p.i).end_ ≤ s.size; omega, h.dsz, h.tsz, h.osz, h.jlo, h.jhi⟩⟩
end Go.Proofs.YtmpaeladhoomoaaGreatDoor
