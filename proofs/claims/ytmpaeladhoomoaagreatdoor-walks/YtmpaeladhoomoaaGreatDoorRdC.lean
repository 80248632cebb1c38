/-
  The program's reader: steps.
-/
import Derived.Test.YtmpaeladhoomoaaGreatDoorRdB
namespace Go.Proofs.YtmpaeladhoomoaaGreatDoor
open Go.RowKit

/-- The kind and the place of the token at hand. -/
def kd (s : ByteArray) (p : PS) : Nat := (tk s p.i).kind
def nm (s : ByteArray) (p : PS) : Nat := (tk s p.i).num
def pl (s : ByteArray) (p : PS) : Nat := (tk s p.i).at_

structure St where
  kind : Nat
  place : Nat
  reg : Nat
  digit : Nat
  count : Nat
def stV (x : St) : Value := .agg #[.int .i64 (x.kind : Nat), .int .i64 (x.place : Nat), .int .i64 (x.reg : Nat), .int .i64 (x.digit : Nat), .int .i64 (x.count : Nat)]

/-- What a reader of a step answers: the step, or a place at which it is no step. -/
def PostSt (w : World) (b : Nat) (s : ByteArray) (r : Except Nat (St × PS)) (e : Ending) (w' : World) : Prop :=
  w.grownBy w' (some b) ∧ match r with
  | .ok (x, p') => e = .returned (.tuple #[stV x, .bool true]) ∧ PAt w' b s p'
  | .error q => (∃ n0 n1 n2 n3 n4 : Int, e = .returned (.tuple #[.agg #[.int .i64 n0, .int .i64 n1, .int .i64 n2, .int .i64 n3, .int .i64 n4], .bool false])) ∧ ∃ p', PAt w' b s p' ∧ pl s p' = q

theorem loc5 {w : World} {B : Nat} {t : TypeId} {a0 a1 a2 a3 a4 : Value} (h : w.heap[B]? = some (.cells #[a0, a1, a2, a3, a4] t (0, 0))) :
    w.cell? ⟨B, 0, none⟩ = some a0 ∧ w.cell? ⟨B, 1, none⟩ = some a1 ∧ w.cell? ⟨B, 2, none⟩ = some a2 ∧ w.cell? ⟨B, 3, none⟩ = some a3 ∧ w.cell? ⟨B, 4, none⟩ = some a4 ∧ (∀ o, w.frozen? ⟨B, o, none⟩ = false) :=
  ⟨cell_of h 0 _ rfl, cell_of h 1 _ rfl, cell_of h 2 _ rfl, cell_of h 3 _ rfl, cell_of h 4 _ rfl, frozen_of h⟩

/-- A reader in mid-call: behind w0 it has written nothing old but the parser's block b; block R is the result's, block C the local struct's. -/
structure L2 (w0 w : World) (b : Nat) (s : ByteArray) (p : PS) (R C : Nat) (t : TypeId) (rs cs : Array Value) : Prop where
  g : w0.grownBy w (some b)
  pa : PAt w b s p
  res : w.heap[R]? = some (.cells rs t (0, 0))
  loc : w.heap[C]? = some (.cells cs t (0, 0))
  hR : w0.heap.size ≤ R
  hC : w0.heap.size ≤ C
  hb : b < w0.heap.size
  hne : R ≠ C

theorem L2.start {w : World} {b : Nat} {s : ByteArray} {p : PS} (h : PAt w b s p) (t : TypeId) (rs cs : Array Value) : L2 w ((w.alloc (.cells rs t (0, 0))).alloc (.cells cs t (0, 0))) b s p w.heap.size (w.heap.size + 1) t rs cs :=
  ⟨gb_alloc (gb_alloc (gb_refl _ _) _) _, (h.alloc _).alloc _, heap_alloc_at (heap_alloc_new w _) _, new_at (by simp) _, Nat.le_refl _, Nat.le_succ _, heap_lt h.blk, by omega⟩
theorem L2.startBox {w : World} {b : Nat} {s : ByteArray} {p : PS} (h : PAt w b s p) (t : TypeId) (rs cs : Array Value) : L2 w ((w.alloc (.cells cs t (0, 0))).alloc (.cells rs t (0, 0))) b s p (w.heap.size + 1) w.heap.size t rs cs :=
  ⟨gb_alloc (gb_alloc (gb_refl _ _) _) _, (h.alloc _).alloc _, new_at (by simp) _, heap_alloc_at (heap_alloc_new w _) _, Nat.le_succ _, Nat.le_refl _, heap_lt h.blk, by omega⟩
theorem L2.call {w0 w w' : World} {b : Nat} {s : ByteArray} {p p' : PS} {R C : Nat} {t : TypeId} {rs cs : Array Value} (l : L2 w0 w b s p R C t rs cs) (hg : w.grownBy w' (some b)) (hp : PAt w' b s p') : L2 w0 w' b s p' R C t rs cs :=
  ⟨gb_trans l.g hg, hp, heap_gb hg l.res (by simp; have := l.hb; have := l.hR; omega), heap_gb hg l.loc (by simp; have := l.hb; have := l.hC; omega), l.hR, l.hC, l.hb, l.hne⟩
theorem L2.put {w0 w : World} {b : Nat} {s : ByteArray} {p : PS} {R C : Nat} {t : TypeId} {rs cs : Array Value} (l : L2 w0 w b s p R C t rs cs) (o : Nat) (v : Value) : L2 w0 (w.setCell ⟨C, o, none⟩ v) b s p R C t rs (cs.setIfInBounds o v) :=
  ⟨gb_put_new l.g l.hC o v, l.pa.other _ _ (by simp; have := l.hb; have := l.hC; omega), heap_set_ne l.res _ _ (by simpa using l.hne), heap_set l.loc o v, l.hR, l.hC, l.hb, l.hne⟩
theorem L2.put' {w0 w : World} {b : Nat} {s : ByteArray} {p : PS} {R C : Nat} {t : TypeId} {rs cs : Array Value} (l : L2 w0 w b s p R C t rs cs) (o : Nat) (v : Value) (cs' : Array Value) (hc : cs.setIfInBounds o v = cs') : L2 w0 (w.setCell ⟨C, o, none⟩ v) b s p R C t rs cs' := by
  rw [← hc]; exact l.put o v
theorem L2.ret {w0 w : World} {b : Nat} {s : ByteArray} {p : PS} {R C : Nat} {t : TypeId} {rs cs : Array Value} (l : L2 w0 w b s p R C t rs cs) (o : Nat) (v : Value) : L2 w0 (w.setCell ⟨R, o, none⟩ v) b s p R C t (rs.setIfInBounds o v) cs :=
  ⟨gb_put_new l.g l.hR o v, l.pa.other _ _ (by simp; have := l.hb; have := l.hR; omega), heap_set l.res o v, heap_set_ne l.loc _ _ (by simpa using l.hne.symm), l.hR, l.hC, l.hb, l.hne⟩
theorem L2.drew {w0 w : World} {b : Nat} {s : ByteArray} {p : PS} {R C : Nat} {t : TypeId} {rs cs : Array Value} (l : L2 w0 w b s p R C t rs cs) : L2 w0 w.drew b s p R C t rs cs :=
  ⟨gb_drew l.g, l.pa.drew, l.res, l.loc, l.hR, l.hC, l.hb, l.hne⟩
theorem L2.get5 {w0 w : World} {b : Nat} {s : ByteArray} {p : PS} {R C : Nat} {t : TypeId} {r0 r1 r2 r3 r4 a0 a1 a2 a3 a4 : Value} (l : L2 w0 w b s p R C t #[r0, r1, r2, r3, r4] #[a0, a1, a2, a3, a4]) :
    (w.cell? ⟨C, 0, none⟩ = some a0 ∧ w.cell? ⟨C, 1, none⟩ = some a1 ∧ w.cell? ⟨C, 2, none⟩ = some a2 ∧ w.cell? ⟨C, 3, none⟩ = some a3 ∧ w.cell? ⟨C, 4, none⟩ = some a4 ∧ (∀ o, w.frozen? ⟨C, o, none⟩ = false)) ∧
    (w.cell? ⟨R, 0, none⟩ = some r0 ∧ w.cell? ⟨R, 1, none⟩ = some r1 ∧ w.cell? ⟨R, 2, none⟩ = some r2 ∧ w.cell? ⟨R, 3, none⟩ = some r3 ∧ w.cell? ⟨R, 4, none⟩ = some r4 ∧ (∀ o, w.frozen? ⟨R, o, none⟩ = false)) :=
  ⟨loc5 l.loc, loc5 l.res⟩

/-- The result is laid: five stores into block H. -/
theorem L2.done5 {w0 w : World} {b : Nat} {s : ByteArray} {p : PS} {R C : Nat} {t : TypeId} {r0 r1 r2 r3 r4 : Value} {cs : Array Value} (l : L2 w0 w b s p R C t #[r0, r1, r2, r3, r4] cs) (v0 v1 v2 v3 v4 : Value) :
    L2 w0 (((((w.setCell ⟨R, 0, none⟩ v0).setCell ⟨R, 1, none⟩ v1).setCell ⟨R, 2, none⟩ v2).setCell ⟨R, 3, none⟩ v3).setCell ⟨R, 4, none⟩ v4) b s p R C t #[v0, v1, v2, v3, v4] cs :=
  ((((l.ret 0 v0).ret 1 v1).ret 2 v2).ret 3 v3).ret 4 v4
theorem post_ok {w w' : World} {b : Nat} {s : ByteArray} {p' : PS} {R C : Nat} {t : TypeId} {rs cs : Array Value} {r : Except Nat (St × PS)} (x : St) (hr : r = .ok (x, p')) (l : L2 w w' b s p' R C t rs cs) : PostSt w b s r (.returned (.tuple #[stV x, .bool true])) w' := by
  subst hr; exact ⟨l.g, rfl, l.pa⟩
theorem post_err {w w' : World} {b : Nat} {s : ByteArray} {p' : PS} {R C : Nat} {t : TypeId} {rs cs : Array Value} {r : Except Nat (St × PS)} (n0 n1 n2 n3 n4 : Int) (hr : r = .error (pl s p')) (l : L2 w w' b s p' R C t rs cs) :
    PostSt w b s r (.returned (.tuple #[.agg #[.int .i64 n0, .int .i64 n1, .int .i64 n2, .int .i64 n3, .int .i64 n4], .bool false])) w' := by
  subst hr; exact ⟨l.g, ⟨n0, n1, n2, n3, n4, rfl⟩, p', l.pa, rfl⟩

end Go.Proofs.YtmpaeladhoomoaaGreatDoor
