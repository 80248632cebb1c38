/-
  The program's machine: a buffer of stores that wait, looked at.
  The program's machine: a buffer of stores that wait, changed.
  The program's machine: flush, seen.
  The program's machine: a thread's step.
  The program's machine: the state behind a move.
  The program's machine: the state behind a thread's step.
  The program's machine: can a thread step?
  The program's machine: which stores may go to memory.
  The program's machine: the moves of a state.
-/
import Derived.Test.YtmpaeladhoomoaaGreatDoorPrB
import Derived.Laws.CopyRow
import Derived.Deep.RegionLaw
import Derived.Deep.RegionWith
import Derived.Deep.WholeRow
import Derived.Deep.MidRow
import Derived.Test.YtmpaeladhoomoaaGreatDoorPrD
import Derived.Deep.RegionHeld3
namespace Go.Proofs.YtmpaeladhoomoaaGreatDoor
open Go.RowKit

/-- Small numbers that lie in a row of cells. -/
def U8s (w : World) (g o n : Nat) (c : Nat → Nat) : Prop := ∀ j, j < n → w.cell? ⟨g, o + j, none⟩ = some (.int .u8 (c j : Nat))
theorem U8s.grow {w w' : World} {g o n : Nat} {c : Nat → Nat} {row : Option Nat} (h : U8s w g o n c) (hg : w.grownBy w' row) (hr : some g ≠ row) : U8s w' g o n c := by
  intro j hj
  exact gb_cell hg (h j hj) hr

set_option maxRecDepth 100000 in
theorem buf_isEmpty (w : World) (g o : Nat) (c : Nat → Nat) (h : U8s w g o 17 c) :
    Calls Tryz.prog 154 #[.pointer (some ⟨g, o, none⟩)] w fun e w' => e = .returned (.bool (decide (c 16 = 0))) ∧ w' = w := by
  have h16 := h 16 (by omega)
  have hgl : g < w.heap.size := World.block_lt_of_cell? w _ h16
  by_cases h0 : c 16 = 0
  · have h0' : ((c 16 : Int) == 0) = true := by rw [beq_iff_eq]; omega
    have HE : Hid (decide (c 16 = 0) = true) := by show _ = _; simpa using h0
    clear h0
    go_enter Tryz.func154, Tryz.ntmps154
    go_wp2_with fail
    go_ret
    refine ⟨?_, rfl⟩
    rw [HE.out]
    rfl
  · have h0' : ((c 16 : Int) == 0) = false := by rw [beq_eq_false_iff_ne]; omega
    have HE : Hid (decide (c 16 = 0) = false) := by show _ = _; simpa using h0
    clear h0
    go_enter Tryz.func154, Tryz.ntmps154
    go_wp2_with fail
    go_ret
    refine ⟨?_, rfl⟩
    rw [HE.out]
    rfl

/-- The first store to a place, from one on: so many are left. -/
def oldC (c : Nat → Nat) (p : Nat) : Nat → Nat → Option Nat
  | _, 0 => none
  | k, n + 1 => if c (2 * k) = p then some k else oldC c p (k + 1) n
def oldV (r : Option Nat) : Value := .tuple #[.int .i64 ((r.getD 0 : Nat) : Int), .bool r.isSome]

theorem wrap_u8 (n : Nat) (h : n ≤ 255) : wrap64 (n : Int) = (n : Int) := by unfold wrap64; omega

set_option maxRecDepth 100000 in
set_option maxHeartbeats 2000000 in
theorem buf_oldest (w : World) (g o : Nat) (c : Nat → Nat) (h : U8s w g o 17 c) (hb : ∀ j, c j ≤ 255) (h8 : c 16 ≤ 8) (p : Nat) :
    Calls Tryz.prog 155 #[.pointer (some ⟨g, o, none⟩), .int .i64 (p : Nat)] w fun e w' => e = .returned (oldV (oldC c p 0 (c 16))) ∧ w.grownBy w' none := by
  have h16 := h 16 (by omega)
  have hgl : g < w.heap.size := World.block_lt_of_cell? w _ h16
  have HU : Hid (U8s w g o 17 c) := h
  have HB : Hid (∀ j, c j ≤ 255) := hb
  have h8' : (c 16 : Int) ≤ 8 := by omega
  clear h hb
  go_enter Tryz.func155, Tryz.ntmps155
  go_wp2_with fail
  go_region
  go_wp2_with fail
  go_loopw [17] (fun v17 wr => ∃ k : Nat, v17 = .int .i64 (k : Nat) ∧ k ≤ c 16 ∧ Hid (w.grownBy wr none) ∧ Hid (oldC c p 0 (c 16) = oldC c p k (c 16 - k))) (fun v17 _ => c 16 - (intOf v17).toNat)
  case atStart => exact ⟨0, rfl, Nat.zero_le _, gb_drew (gb_refl _ _), rfl⟩
  case round =>
    obtain ⟨k, rfl, hk, HG, HR⟩ := hrel
    by_cases hkl : k < c 16
    · have hk' : decide ((k : Int) < (c 16 : Int)) = true := by simp; omega
      have hk2 : (k : Int) < (c 16 : Int) := by omega
      have b0 : _ = some (Value.int .u8 (c (2 * k) : Nat)) := gb_cell HG.out (HU.out (2 * k) (by omega)) (by simp)
      have b1 : _ = some (Value.int .u8 (c (2 * k + 1) : Nat)) := gb_cell HG.out (HU.out (2 * k + 1) (by omega)) (by simp)
      rw [show o + 2 * k = o + k * 2 by omega] at b0
      rw [show o + (2 * k + 1) = o + k * 2 + 1 by omega] at b1
      have hgr : g < _ := World.block_lt_of_cell? _ _ b0
      have hwp := wrap_u8 (c (2 * k)) (HB.out _)
      have HS : Hid (oldC c p k (c 16 - k) = if c (2 * k) = p then some k else oldC c p (k + 1) (c 16 - (k + 1))) := by
        show _ = _
        rw [show c 16 - k = (c 16 - (k + 1)) + 1 by omega, oldC]
      by_cases hp : c (2 * k) = p
      · have hp' : ((c (2 * k) : Int) == (p : Int)) = true := by rw [beq_iff_eq]; omega
        have HP : Hid (c (2 * k) = p) := hp
        clear hp
        go_wp2_with fail
        go_ret2
        refine ⟨?_, gb_alloc HG.out _⟩
        rw [HR.out, HS.out, if_pos HP.out]
        rfl
      · have hp' : ((c (2 * k) : Int) == (p : Int)) = false := by rw [beq_eq_false_iff_ne]; omega
        have HP : Hid (¬ c (2 * k) = p) := hp
        clear hp
        go_wp2_with fail
        refine ⟨⟨k + 1, by go_num, by omega, gb_alloc HG.out _, ?_⟩, by simp [intOf]; omega⟩
        show _ = _
        rw [HR.out, HS.out, if_neg HP.out]
    · have hk' : decide ((k : Int) < (c 16 : Int)) = false := by simp; omega
      go_wp2_with fail
      go_ret2
      refine ⟨?_, HG.out⟩
      rw [HR.out, show c 16 - k = 0 by omega]
      rfl

/-- The last store to a place, among the first so many. -/
def newC (c : Nat → Nat) (p : Nat) : Nat → Option Nat
  | 0 => none
  | k + 1 => if c (2 * k) = p then some (c (2 * k + 1)) else newC c p k
def newV (r : Option Nat) : Value := .tuple #[.int .u8 ((r.getD 0 : Nat) : Int), .bool r.isSome]

set_option maxRecDepth 100000 in
set_option maxHeartbeats 2000000 in
theorem buf_newest (w : World) (g o : Nat) (c : Nat → Nat) (h : U8s w g o 17 c) (hb : ∀ j, c j ≤ 255) (h8 : c 16 ≤ 8) (p : Nat) :
    Calls Tryz.prog 205 #[.pointer (some ⟨g, o, none⟩), .int .i64 (p : Nat)] w fun e w' => e = .returned (newV (newC c p (c 16))) ∧ w' = w := by
  have h16 := h 16 (by omega)
  have hgl : g < w.heap.size := World.block_lt_of_cell? w _ h16
  have HU : Hid (U8s w g o 17 c) := h
  have HB : Hid (∀ j, c j ≤ 255) := hb
  have hw16 := wrap_u8 (c 16) (hb _)
  have h8' : (c 16 : Int) ≤ 8 := by omega
  clear h hb
  go_enter Tryz.func205, Tryz.ntmps205
  go_wp2_with fail
  go_loopw [6] (fun v6 wr => ∃ k : Nat, v6 = .int .i64 ((k : Int) - 1) ∧ k ≤ c 16 ∧ wr = w ∧ Hid (newC c p (c 16) = newC c p k)) (fun v6 _ => (intOf v6 + 1).toNat)
  case atStart => exact ⟨c 16, by first | rfl | simp, Nat.le_refl _, rfl, rfl⟩
  case round =>
    obtain ⟨k, rfl, hk, rfl, HR⟩ := hrel
    by_cases hk0 : k = 0
    · subst hk0
      go_wp2_with fail
      go_ret2
      refine ⟨?_, rfl⟩
      rw [HR.out]
      rfl
    · obtain ⟨j, rfl⟩ : ∃ j, k = j + 1 := ⟨k - 1, by omega⟩
      have hj' : decide ((0 : Int) ≤ ((j + 1 : Nat) : Int) - 1) = true := by simp
      have hjj : ((j + 1 : Nat) : Int) - 1 = (j : Int) := by omega
      rw [hjj] at hj' ⊢
      have hj8 : (j : Int) < 8 := by omega
      have b0 := HU.out (2 * j) (by omega)
      have b1 := HU.out (2 * j + 1) (by omega)
      rw [show o + 2 * j = o + j * 2 by omega] at b0
      rw [show o + (2 * j + 1) = o + j * 2 + 1 by omega] at b1
      have hwp := wrap_u8 (c (2 * j)) (HB.out _)
      by_cases hp : c (2 * j) = p
      · have hp' : ((c (2 * j) : Int) == (p : Int)) = true := by rw [beq_iff_eq]; omega
        have HP : Hid (c (2 * j) = p) := hp
        clear hp hjj
        go_wp2_with fail
        go_ret2
        refine ⟨?_, rfl⟩
        rw [HR.out, newC, if_pos HP.out]
        rfl
      · have hp' : ((c (2 * j) : Int) == (p : Int)) = false := by rw [beq_eq_false_iff_ne]; omega
        have HP : Hid (¬ c (2 * j) = p) := hp
        clear hp hjj
        go_wp2_with fail
        refine ⟨⟨j, rfl, by omega, by first | trivial | rfl, ?_⟩, by simp [intOf]⟩
        show _ = _
        rw [HR.out, newC, if_neg HP.out]
end Go.Proofs.YtmpaeladhoomoaaGreatDoor

namespace Go.Proofs.YtmpaeladhoomoaaGreatDoor
open Go.RowKit

/-- A block of small numbers. -/
def u8L (n : Nat) (c : Nat → Nat) : List Value := (List.range n).map fun j => .int .u8 (c j : Nat)
def u8A (n : Nat) (c : Nat → Nat) : Array Value := (u8L n c).toArray
def upd (c : Nat → Nat) (k v : Nat) : Nat → Nat := fun j => if j = k then v else c j
theorem u8L_len (n : Nat) (c : Nat → Nat) : (u8L n c).length = n := by simp [u8L]
theorem u8A_size (n : Nat) (c : Nat → Nat) : (u8A n c).size = n := by simp [u8A, u8L]
theorem u8L_get {n j : Nat} (c : Nat → Nat) (h : j < n) : (u8L n c)[j]? = some (.int .u8 (c j : Nat)) := by simp [u8L, h]
theorem u8A_get {n j : Nat} (c : Nat → Nat) (h : j < n) : (u8A n c)[j]? = some (.int .u8 (c j : Nat)) := by simp [u8A, u8L_get c h]
theorem u8L_one (n : Nat) (c : Nat → Nat) : ∀ v ∈ u8L n c, v.oneCell' = true := by
  intro v hv
  simp [u8L] at hv
  obtain ⟨j, _, rfl⟩ := hv
  rfl
theorem u8A_eq {n : Nat} {c d : Nat → Nat} (h : ∀ j, j < n → c j = d j) : u8A n c = u8A n d := by
  unfold u8A u8L
  congr 1
  apply List.map_congr_left
  intro j hj
  rw [h j (by simpa using hj)]
theorem u8A_set {n k : Nat} (c : Nat → Nat) (v : Nat) (h : k < n) : (u8A n c).setIfInBounds k (.int .u8 (v : Nat)) = u8A n (upd c k v) := by
  apply Array.ext_getElem?
  intro j
  by_cases hj : k = j
  · subst hj
    rw [Array.getElem?_setIfInBounds_self, if_pos (by rw [u8A_size]; exact h), u8A_get _ h]
    simp [upd]
  · rw [Array.getElem?_setIfInBounds_ne hj]
    by_cases hn : j < n
    · rw [u8A_get _ hn, u8A_get _ hn]
      have : ¬ j = k := fun e => hj e.symm
      simp [upd, this]
    · simp [u8A_size, Nat.le_of_not_lt hn]
def Blk (w : World) (g : Nat) (ty : TypeId) (n : Nat) (c : Nat → Nat) : Prop := w.heap[g]? = some (.cells (u8A n c) ty (0, 0))
theorem Blk.u8s {w : World} {g : Nat} {ty : TypeId} {n : Nat} {c : Nat → Nat} (h : Blk w g ty n c) (o m : Nat) (ho : o + m ≤ n) : U8s w g o m (fun j => c (o + j)) := fun j hj => cell_of h _ _ (u8A_get c (by omega))
theorem Blk.cell {w : World} {g : Nat} {ty : TypeId} {n : Nat} {c : Nat → Nat} (h : Blk w g ty n c) (k : Nat) (hk : k < n) : w.cell? ⟨g, k, none⟩ = some (.int .u8 (c k : Nat)) := cell_of h _ _ (u8A_get c hk)
theorem Blk.set {w : World} {g : Nat} {ty : TypeId} {n : Nat} {c : Nat → Nat} (h : Blk w g ty n c) (k v : Nat) (hk : k < n) : Blk (w.setCell ⟨g, k, none⟩ (.int .u8 (v : Nat))) g ty n (upd c k v) := heap_set' h k _ _ (u8A_set c v hk)
theorem Blk.ne {w : World} {g : Nat} {ty : TypeId} {n : Nat} {c : Nat → Nat} (h : Blk w g ty n c) (p : Addr) (v : Value) (hp : g ≠ p.block) : Blk (w.setCell p v) g ty n c := heap_set_ne h p v hp
theorem Blk.alloc {w : World} {g : Nat} {ty : TypeId} {n : Nat} {c : Nat → Nat} (h : Blk w g ty n c) (x : Obj) : Blk (w.alloc x) g ty n c := heap_alloc_at h x
theorem Blk.gb {w w' : World} {g : Nat} {ty : TypeId} {n : Nat} {c : Nat → Nat} {row : Option Nat} (h : Blk w g ty n c) (hg : w.grownBy w' row) (hr : some g ≠ row) : Blk w' g ty n c := heap_gb hg h hr
theorem Blk.lt {w : World} {g : Nat} {ty : TypeId} {n : Nat} {c : Nat → Nat} (h : Blk w g ty n c) : g < w.heap.size := heap_lt h
/-- What add makes of a buffer's cells. -/
def addC (c : Nat → Nat) (o p v : Nat) : Nat → Nat := upd (upd (upd c (o + c (o + 16) * 2) p) (o + c (o + 16) * 2 + 1) v) (o + 16) (c (o + 16) + 1)

set_option maxRecDepth 100000 in
set_option maxHeartbeats 2000000 in
theorem buf_add (w : World) (g : Nat) (ty : TypeId) (n o : Nat) (c : Nat → Nat) (h : Blk w g ty n c) (ho : o + 17 ≤ n) (h8 : c (o + 16) < 8) (p v : Nat) :
    Calls Tryz.prog 157 #[.pointer (some ⟨g, o, none⟩), .agg #[.int .u8 (p : Nat), .int .u8 (v : Nat)]] w fun e w' => e = .returned (.tuple #[]) ∧ Blk w' g ty n (addC c o p v) ∧ w.grownBy w' (some g) := by
  have h16 := h.cell (o + 16) (by omega)
  have a0 := h.cell (o + c (o + 16) * 2) (by omega)
  have a1 := h.cell (o + c (o + 16) * 2 + 1) (by omega)
  have hgl := h.lt
  have hfr := frozen_of h
  have h8' : (c (o + 16) : Int) < 8 := by omega
  have HB : Hid (Blk w g ty n c) := h
  clear h
  go_enter Tryz.func157, Tryz.ntmps157
  go_wp2_with fail
  go_region
  go_wp2_with fail
  go_end0
  refine ⟨rfl, ?_, ?_⟩
  · show Blk _ g ty n (addC c o p v)
    exact (((HB.out.set _ p (by omega)).set _ v (by omega)).set (o + 16) (c (o + 16) + 1) (by omega)).alloc _
  · exact gb_drew (gb_alloc (gb_put (gb_put (gb_put (gb_refl _ _) _ _) _ _) _ _) _)

section
variable {P : Program}
/-- copy between rows of elements of a size. -/
theorem run_copy_sz (w : World) (dT sT ty elem : TypeId) (g o dLen dCap : Nat) (a : Addr) (sLen sCap : Nat) (cur : Array Value) (t : TypeId) (cs : List Value) (sz : Nat)
    (hu : P.underlying dT = some (.slice elem)) (hs : (P.info? elem).map (·.size) = some sz)
    (hg : w.heap[g]? = some (.cells cur t (0, 0))) (hn : cs.length = Nat.min sLen dLen * sz)
    (hsrc : ∀ j v, cs[j]? = some v → w.cell? (a.add j) = some v) (hfit : o + cs.length ≤ cur.size) (h1 : ∀ v ∈ cs, v.oneCell' = true) :
    (Builtin.copy_ #[dT, sT] ty #[.slice (some ⟨g, o, none⟩) dLen dCap, .slice (some a) sLen sCap]).run P w =
      .ok (goInt (Nat.min sLen dLen)) (w.setRow g (cur.toList.take o ++ cs ++ cur.toList.drop (o + cs.length)).toArray) := by
  have hl := run_loadCells_list (P := P) w a cs hsrc
  have hst := run_storeCells_at P g o t cs 0 cur w hg (by simpa using hfit) h1
  cases hq : P.info? elem with
  | none => simp [hq] at hs
  | some i =>
    have hi : i.size = sz := by simpa [hq] using hs
    simp [Builtin.copy_, run_underlying hu, Builtin.lenOf, Builtin.firstCells, sizeOf, typeInfo, hq, hi, ← hn, hl, hst]
theorem step_copy_sz {ops : Array Oper} {o : Oper} {a : Act} {w : World} {K : Act → World → Prop} {Q : Exit → Act → World → Prop} {E : Prop} (hgd : o.guard = none) (d s : Operand) (dT sT : TypeId)
    (ho : o.op = .call { callee := .builtin .copy, args := #[d, s], argTypes := #[dT, sT] }) (elem : TypeId) (sz : Nat) (hu : P.underlying dT = some (.slice elem)) (hsz : (P.info? elem).map (·.size) = some sz)
    (g off : Nat) (da ad : Addr) (hda : da = ⟨g, off, none⟩) (dLen dCap sLen sCap : Nat) (hd : a.eval d = .slice (some da) dLen dCap) (hs : a.eval s = .slice (some ad) sLen sCap)
    (cur : Array Value) (t : TypeId) (hg : w.heap[g]? = some (.cells cur t (0, 0))) (cs : List Value) (hn : cs.length = Nat.min sLen dLen * sz)
    (hsrc : ∀ j v, cs[j]? = some v → w.cell? (ad.add j) = some v)
    (hfit : off + cs.length ≤ cur.size) (h1 : ∀ v ∈ cs, v.oneCell' = true)
    (h : ∀ w', Hid (w' = w.setRow g (cur.toList.take off ++ cs ++ cur.toList.drop (off + cs.length)).toArray) → K (a.put o.dst (goInt (Nat.min sLen dLen))) w') :
    if Region.wanted o (yielded ops a.tmps) = true then Oper.wp P o a w K Q else E := by
  have hw : Region.wanted o (yielded ops a.tmps) = true := by simp [Region.wanted, hgd]
  rw [if_pos hw]
  subst hda
  have hrun := run_copy_sz (P := P) w dT sT o.type elem g off dLen dCap ad sLen sCap cur t cs sz hu hsz hg hn hsrc hfit h1
  unfold Oper.wp
  simp only [execOp, ho, resolve, invoke, builtin, List.map_toArray, List.map_cons, List.map_nil, hd, hs, Sem.run_bind, Sem.run_pure, Result.andThen_ok, hrun]
  exact h _ (show _ = _ from rfl)
end

/-- A buffer's cells with the stores behind one moved down. -/
def shC (c : Nat → Nat) (o k : Nat) : Nat → Nat := fun j => if o + k * 2 ≤ j ∧ j < o + 14 then c (j + 2) else c j
def movedL (c : Nat → Nat) (o k : Nat) : List Value := (List.range ((7 - k) * 2)).map fun j => .int .u8 (c (o + (k + 1) * 2 + j) : Nat)
theorem movedL_len (c : Nat → Nat) (o k : Nat) : (movedL c o k).length = (7 - k) * 2 := by simp [movedL]
theorem moved_eq (c : Nat → Nat) (n o k : Nat) (hk : k < 8) (ho : o + 17 ≤ n) : ((u8A n c).toList.take (o + k * 2) ++ movedL c o k ++ (u8A n c).toList.drop (o + k * 2 + (movedL c o k).length)).toArray = u8A n (shC c o k) := by
  unfold u8A
  congr 1
  apply List.ext_getElem?
  intro j
  have hl := movedL_len c o k
  simp only []
  by_cases h1 : j < o + k * 2
  · rw [List.append_assoc, List.getElem?_append_left (by rw [List.length_take, u8L_len]; omega), List.getElem?_take, if_pos h1, u8L_get _ (by omega), u8L_get _ (by omega)]
    simp [shC, show ¬ (o + k * 2 ≤ j) by omega]
  · by_cases h2 : j < o + 14
    · rw [List.getElem?_append_left (by rw [List.length_append, List.length_take, u8L_len, hl]; omega), List.getElem?_append_right (by rw [List.length_take, u8L_len]; omega), List.length_take, u8L_len, u8L_get _ (by omega)]
      have e : j - min (o + k * 2) n < (7 - k) * 2 := by omega
      simp only [movedL, List.getElem?_map, List.getElem?_range e, Option.map_some]
      simp only [shC, show (o + k * 2 ≤ j ∧ j < o + 14) from ⟨by omega, h2⟩, and_self, if_true]
      rw [show o + (k + 1) * 2 + (j - min (o + k * 2) n) = j + 2 by omega]
    · rw [List.getElem?_append_right (by rw [List.length_append, List.length_take, u8L_len, hl]; omega), List.length_append, List.length_take, u8L_len, hl, List.getElem?_drop, show o + k * 2 + (7 - k) * 2 + (j - (min (o + k * 2) n + (7 - k) * 2)) = j by omega]
      by_cases h3 : j < n
      · rw [u8L_get _ h3, u8L_get _ h3]
        simp [shC, show ¬ (j < o + 14) by omega]
      · simp [u8L_len, Nat.le_of_not_lt h3]
/-- What take makes of a buffer's cells. -/
def takeC (c : Nat → Nat) (o k : Nat) : Nat → Nat := upd (upd (upd (shC c o k) (o + 16) (c (o + 16) - 1)) (o + (c (o + 16) - 1) * 2) 0) (o + (c (o + 16) - 1) * 2 + 1) 0
theorem infoStore : (Tryz.prog.info? 112).map (fun i => (i.zero, i.size)) = some (some (.agg #[.int .u8 0, .int .u8 0]), 2) := by kernel_rfl

theorem addr_add_u (g a j : Nat) : (⟨g, a, none⟩ : Addr).add j = ⟨g, a + j, none⟩ := by unfold Addr.add; split <;> simp_all

set_option maxRecDepth 100000 in
set_option maxHeartbeats 2000000 in
theorem buf_take (w : World) (g : Nat) (ty : TypeId) (n o : Nat) (c : Nat → Nat) (h : Blk w g ty n c) (ho : o + 17 ≤ n) (h8 : c (o + 16) ≤ 8) (k : Nat) (hk : k < c (o + 16)) :
    Calls Tryz.prog 156 #[.pointer (some ⟨g, o, none⟩), .int .i64 (k : Nat)] w fun e w' => e = .returned (.agg #[.int .u8 (c (o + k * 2) : Nat), .int .u8 (c (o + k * 2 + 1) : Nat)]) ∧ Blk w' g ty n (takeC c o k) ∧ w.grownBy w' (some g) := by
  have a0 := h.cell (o + k * 2) (by omega)
  have a1 := h.cell (o + k * 2 + 1) (by omega)
  have hgl := h.lt
  have hk' : (k : Int) < 8 := by omega
  have HB : Hid (Blk w g ty n c) := h
  have hsz : (Tryz.prog.info? 112).map (·.size) = some 2 := by
    have := infoStore
    cases hq : Tryz.prog.info? 112 with
    | none => rw [hq] at this; simp at this
    | some i => rw [hq] at this; simp at this; simp [this.2]
  clear h
  go_enter Tryz.func156, Tryz.ntmps156
  go_wp2_with fail
  have hwr : IntKind.i64.wrap ((k : Int) + 1) = (k : Int) + 1 := by rw [IntKind.wrap_i64]; omega
  have htn : ((k : Int) + 1).toNat = k + 1 := by omega
  have h0k : 0 ≤ (k : Int) + 1 := by omega
  have h8k : (k : Int) + 1 ≤ 8 := by omega
  have h8k' : (k : Int) ≤ 8 := by omega
  have HSRC : Hid (∀ (w2 : World), w.grownBy w2 none → ∀ j v, (movedL c o k)[j]? = some v → w2.cell? ((if k = 7 then (⟨g, o, none⟩ : Addr) else ⟨g, o + (k + 1) * 2, none⟩).add j) = some v) := by
    intro w2 hg2 j v hv
    have hj := (List.getElem?_eq_some_iff.1 hv).1
    rw [movedL_len] at hj
    rw [if_neg (by omega), addr_add_u]
    simp only [movedL, List.getElem?_map, List.getElem?_range hj, Option.map_some, Option.some.injEq] at hv
    rw [← hv]
    exact gb_cell hg2 (HB.out.cell (o + (k + 1) * 2 + j) (by omega)) (by simp)
  have hga : w.grownBy ((w.alloc (Obj.cells #[Value.int IntKind.u8 0, Value.int IntKind.u8 0] 112)).alloc (Obj.cells #[Value.int IntKind.u8 (c (o + k * 2) : Nat), Value.int IntKind.u8 (c (o + k * 2 + 1) : Nat)] 112)) none := gb_alloc (gb_alloc (gb_refl _ _) _) _
  have HGA : Hid (w.grownBy _ none) := gb_drew hga
  clear hga
  go_region_law ((refine step_copy_sz (by rfl) _ _ 291 291 (by rfl) 112 2 Tryz.underlying291 hsz g (o + k * 2) (if 8 = k then (⟨g, o, none⟩ : Addr) else ⟨g, o + k * 2, none⟩) (if k = 7 then (⟨g, o, none⟩ : Addr) else ⟨g, o + (k + 1) * 2, none⟩) (if_neg (by omega)) (8 - k) (8 - k) (7 - k) (7 - k) (by go_simp) (by go_simp) (u8A n c) ty (heap_gb HGA.out HB.out (by simp)) (movedL c o k) (by rw [movedL_len, show Nat.min (7 - k) (8 - k) = 7 - k from Nat.min_eq_left (by omega)]) (HSRC.out _ HGA.out) (by rw [u8A_size, movedL_len]; omega) (fun v hv => by simp only [movedL, List.mem_map] at hv; obtain ⟨_, _, rfl⟩ := hv; rfl) ?_; intro w2 hw2))
  clear HSRC
  generalize (if 8 = k then (⟨g, o, none⟩ : Addr) else ⟨g, o + k * 2, none⟩) = da
  generalize (if k = 7 then (⟨g, o, none⟩ : Addr) else ⟨g, o + (k + 1) * 2, none⟩) = sa
  generalize (7 - k).min (8 - k) = mn
  have hGA := HGA.out
  have hB2 : Blk w2 g ty n (shC c o k) := by
    rw [hw2.out]
    unfold Blk
    rw [setRow_heap _ g _ _ ty _ (heap_gb hGA HB.out (by simp)), moved_eq c n o k (by omega) ho]
  have hG2 : w.grownBy w2 (some g) := by
    rw [hw2.out]
    exact ⟨hGA.os, hGA.tape, hGA.output, by simp only [World.setRow, Array.size_modify]; exact hGA.size, fun i hi hr => (setRow_other _ g i _ (fun e => hr (by rw [e]))).trans (hGA.block i hi (by simp))⟩
  have hS2 : w.heap.size + 2 ≤ w2.heap.size := by
    rw [hw2.out]
    simp [World.setRow]
  have hb4 : w2.heap[w.heap.size]? = some (.cells #[.int .u8 0, .int .u8 0] 112 (0, 0)) := by
    rw [hw2.out, setRow_other _ g _ _ (by omega)]
    exact heap_alloc_at (heap_alloc_new w _) _
  have hb5 : w2.heap[w.heap.size + 1]? = some (.cells #[.int .u8 (c (o + k * 2) : Nat), .int .u8 (c (o + k * 2 + 1) : Nat)] 112 (0, 0)) := by
    rw [hw2.out, setRow_other _ g _ _ (by omega)]
    exact new_at (by simp) _
  clear hw2 hGA
  obtain ⟨m, hm⟩ : ∃ m, c (o + 16) = m + 1 := ⟨c (o + 16) - 1, by omega⟩
  have h16 := hB2.cell (o + 16) (by omega)
  rw [show shC c o k (o + 16) = m + 1 by simp [shC, hm]] at h16
  rw [show ((m + 1 : Nat) : Int) = (m : Int) + 1 by omega] at h16
  have z0 := hB2.cell (o + m * 2) (by omega)
  have z1 := hB2.cell (o + m * 2 + 1) (by omega)
  have hfr := frozen_of hB2
  have hg2 := hB2.lt
  have hm8 : (m : Int) < 8 := by omega
  have p0 := cell_of hb5 0 (.int .u8 (c (o + k * 2) : Nat)) rfl
  have p1 := cell_of hb5 1 (.int .u8 (c (o + k * 2 + 1) : Nat)) rfl
  have q0 := cell_of hb4 0 (.int .u8 0) rfl
  have q1 := cell_of hb4 1 (.int .u8 0) rfl
  have qf := frozen_of hb4
  have HB2 : Hid (Blk w2 g ty n (shC c o k)) := hB2
  have HG2 : Hid (w.grownBy w2 (some g)) := hG2
  have HM : Hid (c (o + 16) = m + 1) := hm
  have HB4 : Hid (w2.heap[w.heap.size]? = some (.cells #[.int .u8 0, .int .u8 0] 112 (0, 0))) := hb4
  have hl4 := heap_lt hb4
  have hl5 := heap_lt hb5
  clear hB2 hG2 hb4 hb5 hm h8 hk a0 a1
  go_wp2_with fail
  go_region
  go_wp2_with fail
  have hne : w.heap.size ≠ g := by omega
  have hD := heap_set' (heap_set' (heap_set_ne (heap_set_ne (heap_set_ne HB4.out ⟨g, o + 16, none⟩ (.int .u8 (m : Nat)) hne) ⟨g, o + m * 2, none⟩ (.int .u8 0) hne) ⟨g, o + m * 2 + 1, none⟩ (.int .u8 0) hne) 0 (.int .u8 (c (o + k * 2) : Nat)) #[.int .u8 (c (o + k * 2) : Nat), .int .u8 0] rfl) 1 (.int .u8 (c (o + k * 2 + 1) : Nat)) #[.int .u8 (c (o + k * 2) : Nat), .int .u8 (c (o + k * 2 + 1) : Nat)] rfl
  have d0 := cell_of hD 0 (.int .u8 (c (o + k * 2) : Nat)) rfl
  have d1 := cell_of hD 1 (.int .u8 (c (o + k * 2 + 1) : Nat)) rfl
  have HF1 : Hid (Blk (((((w2.setCell ⟨g, o + 16, none⟩ (.int .u8 (m : Nat))).setCell ⟨g, o + m * 2, none⟩ (.int .u8 0)).setCell ⟨g, o + m * 2 + 1, none⟩ (.int .u8 0)).setCell ⟨w.heap.size, 0, none⟩ (.int .u8 (c (o + k * 2) : Nat))).setCell ⟨w.heap.size, 1, none⟩ (.int .u8 (c (o + k * 2 + 1) : Nat))) g ty n (takeC c o k)) := by
    show Blk _ g ty n (takeC c o k)
    have e : takeC c o k = upd (upd (upd (shC c o k) (o + 16) m) (o + m * 2) 0) (o + m * 2 + 1) 0 := by unfold takeC; rw [HM.out]; rfl
    rw [e]
    exact ((((HB2.out.set (o + 16) m (by omega)).set (o + m * 2) 0 (by omega)).set (o + m * 2 + 1) 0 (by omega)).ne _ _ (fun e => hne e.symm)).ne _ _ (fun e => hne e.symm)
  have HF2 : Hid (w.grownBy (((((w2.setCell ⟨g, o + 16, none⟩ (.int .u8 (m : Nat))).setCell ⟨g, o + m * 2, none⟩ (.int .u8 0)).setCell ⟨g, o + m * 2 + 1, none⟩ (.int .u8 0)).setCell ⟨w.heap.size, 0, none⟩ (.int .u8 (c (o + k * 2) : Nat))).setCell ⟨w.heap.size, 1, none⟩ (.int .u8 (c (o + k * 2 + 1) : Nat))) (some g)) :=
    gb_put_new (gb_put_new (gb_put (gb_put (gb_put HG2.out _ _) _ _) _ _) (Nat.le_refl _) _ _) (Nat.le_refl _) _ _
  exact bodyPost_ret (v := .agg #[.int .u8 (c (o + k * 2) : Nat), .int .u8 (c (o + k * 2 + 1) : Nat)]) (by simp [results, Tryz.results156, go_sem, d0, d1]) rfl ⟨rfl, HF1.out, gb_drew HF2.out⟩
end Go.Proofs.YtmpaeladhoomoaaGreatDoor

namespace Go.Proofs.YtmpaeladhoomoaaGreatDoor
open Go.RowKit

/-- What flush makes of a state's cells. -/
def flushC (c : Nat → Nat) (i k : Nat) : Nat → Nat := upd (takeC c (i * 22 + 5) k) (88 + c (i * 22 + 5 + k * 2)) (c (i * 22 + 5 + k * 2 + 1))

set_option maxRecDepth 100000 in
set_option maxHeartbeats 2000000 in
theorem st_flush (w : World) (g : Nat) (c : Nat → Nat) (h : Blk w g 120 92 c) (i k : Nat) (hi : i < 4) (h8 : c (i * 22 + 5 + 16) ≤ 8) (hk : k < c (i * 22 + 5 + 16)) (hp : c (i * 22 + 5 + k * 2) < 4) :
    Calls Tryz.prog 96 #[.pointer (some ⟨g, 0, none⟩), .int .i64 (i : Nat), .int .i64 (k : Nat)] w fun e w' => e = .returned (.tuple #[]) ∧ Blk w' g 120 92 (flushC c i k) ∧ w.grownBy w' (some g) := by
  have hi' : (i : Int) < 4 := by omega
  have hp' : (c (i * 22 + 5 + k * 2) : Int) < 4 := by omega
  have hgl := h.lt
  have HB : Hid (Blk w g 120 92 c) := h
  have H8 : Hid (c (i * 22 + 5 + 16) ≤ 8) := h8
  have HK : Hid (k < c (i * 22 + 5 + 16)) := hk
  clear h h8 hk
  go_enter Tryz.func96, Tryz.ntmps96
  go_wp2_with fail
  refine (buf_take w g _ 92 (i * 22 + 5) c HB.out (by omega) H8.out k HK.out).mono ?_
  rintro e w1 ⟨rfl, hB1, hG1⟩
  have HB1 : Hid (Blk w1 g 120 92 (takeC c (i * 22 + 5) k)) := hB1
  have HG1 : Hid (w.grownBy w1 (some g)) := hG1
  have z0 := hB1.cell (88 + c (i * 22 + 5 + k * 2)) (by omega)
  have hfr := frozen_of hB1
  have hg1 := hB1.lt
  clear hB1 hG1
  go_wp2_with fail
  go_region
  go_wp2_with fail
  go_end0
  refine ⟨rfl, ?_, ?_⟩
  · exact (HB1.out.set _ _ (by omega)).alloc _
  · exact gb_drew (gb_alloc (gb_put HG1.out _ _) _)

/-- What a thread finds in a place. -/
def seenC (c : Nat → Nat) (i p : Nat) : Nat := (newC (fun j => c (i * 22 + 5 + j)) p (c (i * 22 + 5 + 16))).getD (c (88 + p))

set_option maxRecDepth 100000 in
set_option maxHeartbeats 2000000 in
theorem st_seen (w : World) (g : Nat) (c : Nat → Nat) (h : Blk w g 120 92 c) (hb : ∀ j, c j ≤ 255) (i p : Nat) (hi : i < 4) (h8 : c (i * 22 + 5 + 16) ≤ 8) (hp : p < 4) :
    Calls Tryz.prog 158 #[.pointer (some ⟨g, 0, none⟩), .int .i64 (i : Nat), .int .i64 (p : Nat)] w fun e w' => e = .returned (.int .u8 (seenC c i p : Nat)) ∧ w' = w := by
  have hi' : (i : Int) < 4 := by omega
  have hp' : (p : Int) < 4 := by omega
  have hgl := h.lt
  have z0 := h.cell (88 + p) (by omega)
  have HB : Hid (∀ j, c j ≤ 255) := hb
  have H8 : Hid (c (i * 22 + 5 + 16) ≤ 8) := h8
  have HU : Hid (U8s w g (i * 22 + 5) 17 (fun j => c (i * 22 + 5 + j))) := h.u8s (i * 22 + 5) 17 (by omega)
  clear h h8 hb
  go_enter Tryz.func158, Tryz.ntmps158
  go_wp2_with fail
  refine (buf_newest w g _ (fun j => c (i * 22 + 5 + j)) HU.out (fun j => HB.out _) H8.out p).mono ?_
  rintro e w1 ⟨rfl, rfl⟩
  cases hn : newC (fun j => c (i * 22 + 5 + j)) p (c (i * 22 + 5 + 16)) with
  | none =>
    have HE : Hid (seenC c i p = c (88 + p)) := by show _ = _; unfold seenC; rw [hn]; rfl
    unfold newV
    simp only [Option.getD_none, Option.isSome_none]
    clear hn
    go_wp2_with fail
    go_ret
    refine ⟨?_, rfl⟩
    rw [HE.out]
    rfl
  | some v =>
    have HE : Hid (seenC c i p = v) := by show _ = _; unfold seenC; rw [hn]; rfl
    unfold newV
    simp only [Option.getD_some, Option.isSome_some]
    clear hn
    go_wp2_with fail
    go_ret
    refine ⟨?_, rfl⟩
    rw [HE.out]
    rfl
end Go.Proofs.YtmpaeladhoomoaaGreatDoor

namespace Go.Proofs.YtmpaeladhoomoaaGreatDoor
open Go.RowKit

/-- What a step makes of a state's cells. -/
def doC (model : Nat) (c : Nat → Nat) (i : Nat) (x : St) : Nat → Nat :=
  if x.kind = 0 ∨ x.kind = 1 then
    (if model = 1 then flushC (addC (upd c (i * 22) (c (i * 22) + 1)) (i * 22 + 5) x.place (if x.kind = 1 then c (i * 22 + 1 + x.reg) else x.digit)) i 0
     else addC (upd c (i * 22) (c (i * 22) + 1)) (i * 22 + 5) x.place (if x.kind = 1 then c (i * 22 + 1 + x.reg) else x.digit))
  else if x.kind = 2 then upd (upd c (i * 22) (c (i * 22) + 1)) (i * 22 + 1 + x.reg) (seenC c i x.place)
  else if x.kind = 3 then upd (upd c (i * 22) (c (i * 22) + 1)) (i * 22 + 1 + x.reg) x.digit
  else if x.kind = 4 then upd (upd (upd c (i * 22) (c (i * 22) + 1)) (i * 22 + 1 + x.reg) (c (88 + x.place))) (88 + x.place) x.digit
  else if x.kind = 6 then (if c (i * 22 + 1 + x.reg) = x.digit then upd (upd c (i * 22) (c (i * 22) + 1)) (i * 22) (c (i * 22) + 1 + x.count) else upd c (i * 22) (c (i * 22) + 1))
  else upd c (i * 22) (c (i * 22) + 1)

theorem seenC_next (c : Nat → Nat) (i p v : Nat) (hi : i < 4) : seenC (upd c (i * 22) v) i p = seenC c i p := by
  have e : (fun j => upd c (i * 22) v (i * 22 + 5 + j)) = fun j => c (i * 22 + 5 + j) := by
    funext j
    exact if_neg (by omega)
  unfold seenC
  rw [e, show upd c (i * 22) v (i * 22 + 5 + 16) = c (i * 22 + 5 + 16) from if_neg (by omega), show upd c (i * 22) v (88 + p) = c (88 + p) from if_neg (by omega)]
theorem addC_count (c : Nat → Nat) (o p v : Nat) : addC c o p v (o + 16) = c (o + 16) + 1 := if_pos rfl
theorem addC_first (c : Nat → Nat) (o p v : Nat) (h : c (o + 16) = 0) : addC c o p v (o + 0 * 2) = p := by
  unfold addC
  rw [h]
  simp [upd]

theorem do_start {w W : World} {g : Nat} {c : Nat → Nat} {i : Nat} {vM vX : Array Value} {tM tX : TypeId} (hB : Blk w g 120 92 c) (hi : i < 4) (hW : W = ((w.setCell ⟨g, i * 22, none⟩ (.int .u8 ((c (i * 22) : Int) + 1))).alloc (.cells vM tM)).alloc (.cells vX tX)) :
    Blk W g 120 92 (upd c (i * 22) (c (i * 22) + 1)) ∧ w.grownBy W (some g) ∧ W.heap[w.heap.size]? = some (.cells vM tM (0, 0)) ∧ W.heap[w.heap.size + 1]? = some (.cells vX tX (0, 0)) := by
  subst hW
  refine ⟨((hB.set (i * 22) (c (i * 22) + 1) (by omega)).alloc _).alloc _, gb_alloc (gb_alloc (gb_put (gb_refl _ _) _ _) _) _, heap_alloc_at (new_at (by rw [size_set]) _) _, new_at (by simp) _⟩

set_option maxRecDepth 100000 in
set_option maxHeartbeats 4000000 in
theorem ma_do (w : World) (g : Nat) (c : Nat → Nat) (h : Blk w g 120 92 c) (hb : ∀ j, c j ≤ 255) (pv : Value) (model i : Nat) (x : St) (hm : 1 ≤ model ∧ model ≤ 3) (hi : i < 4) (hx : x.kind ≤ 6 ∧ x.place < 4 ∧ x.reg < 4 ∧ x.digit ≤ 9 ∧ x.count ≤ 9)
    (hn : c (i * 22) ≤ 100) (h8 : x.kind ≤ 1 → c (i * 22 + 5 + 16) < 8) (h8' : c (i * 22 + 5 + 16) ≤ 8) (hs : model = 1 → c (i * 22 + 5 + 16) = 0) :
    Calls Tryz.prog 97 #[.agg #[pv, .int .i64 (model : Nat)], .pointer (some ⟨g, 0, none⟩), .int .i64 (i : Nat), .agg (stCells x).toArray] w fun e w' => e = .returned (.tuple #[]) ∧ Blk w' g 120 92 (doC model c i x) ∧ w.grownBy w' (some g) := by
  obtain ⟨kd, pl, rg, dg, ct⟩ := x
  simp only at hx h8
  have hi' : (i : Int) < 4 := by omega
  have hp' : (pl : Int) < 4 := by omega
  have hr' : (rg : Int) < 4 := by omega
  have hgl := h.lt
  have HX : Hid (pl < 4 ∧ rg < 4 ∧ dg ≤ 9 ∧ ct ≤ 9) := hx.2
  have HS : Hid (model = 1 → c (i * 22 + 5 + 16) = 0) := hs
  have HB : Hid (∀ j, c j ≤ 255) := hb
  have z0 := h.cell (i * 22) (by omega)
  have hfr := frozen_of h
  have HBl : Hid (Blk w g 120 92 c) := h
  have hk : kd = 0 ∨ kd = 1 ∨ kd = 2 ∨ kd = 3 ∨ kd = 4 ∨ kd = 5 ∨ kd = 6 := by omega
  have H8 : Hid (kd ≤ 1 → c (i * 22 + 5 + 16) < 8) := h8
  have H8' : Hid (c (i * 22 + 5 + 16) ≤ 8) := h8'
  have hn' : (c (i * 22) : Int) ≤ 100 := by omega
  have hdg : (dg : Int) ≤ 9 := by omega
  have hct : (ct : Int) ≤ 9 := by omega
  clear h hs hb h8 h8' hx
  rcases hk with rfl | rfl | rfl | rfl | rfl | rfl | rfl
  all_goals
    unfold stCells
    go_enter Tryz.func97, Tryz.ntmps97
    go_wp2_with fail
  · obtain ⟨W, hW⟩ : ∃ W, W = ((w.setCell ⟨g, i * 22, none⟩ (.int .u8 ((c (i * 22) : Int) + 1))).alloc (.cells #[pv, .int .i64 (model : Nat)] 76)).alloc (.cells #[.int .i64 0, .int .i64 (pl : Nat), .int .i64 (rg : Nat), .int .i64 (dg : Nat), .int .i64 (ct : Nat)] 107) := ⟨_, rfl⟩
    obtain ⟨hB1, hG1, hM1, hX1⟩ := do_start HBl.out hi hW
    rw [← hW]
    clear hW z0 hfr
    have m1 := cell_of hM1 1 (.int .i64 (model : Nat)) rfl
    have x1 := cell_of hX1 1 (.int .i64 (pl : Nat)) rfl
    have x2 := cell_of hX1 2 (.int .i64 (rg : Nat)) rfl
    have x3 := cell_of hX1 3 (.int .i64 (dg : Nat)) rfl
    have x4 := cell_of hX1 4 (.int .i64 (ct : Nat)) rfl
    have hgW := hB1.lt
    have hMW := heap_lt hM1
    have hXW := heap_lt hX1
    have hfr := frozen_of hB1
    have HB1 : Hid (Blk W g 120 92 (upd c (i * 22) (c (i * 22) + 1))) := hB1
    have HG1 : Hid (w.grownBy W (some g)) := hG1
    have HX1 : Hid (W.heap[w.heap.size + 1]? = some _) := hX1
    have HM1 : Hid (W.heap[w.heap.size]? = some _) := hM1
    have HPL : Hid (pl < 4 ∧ rg < 4) := ⟨HX.out.1, HX.out.2.1⟩
    have r0 := hB1.cell (i * 22 + 1 + rg) (by have := HX.out.2.1; omega)
    have q0 := hB1.cell (88 + pl) (by have := HX.out.1; omega)
    rw [show upd c (i * 22) (c (i * 22) + 1) (i * 22 + 1 + rg) = c (i * 22 + 1 + rg) by simp [upd]; omega] at r0
    rw [show upd c (i * 22) (c (i * 22) + 1) (88 + pl) = c (88 + pl) by simp [upd]; omega] at q0
    clear hB1 hG1 hX1 hM1
    have HAD : Hid (∀ W', Blk W' g 120 92 (upd c (i * 22) (c (i * 22) + 1)) → Calls Tryz.prog 157 #[.pointer (some ⟨g, i * 22 + 5, none⟩), .agg #[.int .u8 (pl : Nat), .int .u8 (dg : Nat)]] W' fun e w' => e = .returned (.tuple #[]) ∧ Blk w' g 120 92 (addC (upd c (i * 22) (c (i * 22) + 1)) (i * 22 + 5) pl (dg)) ∧ W'.grownBy w' (some g)) := fun W' hW' => buf_add W' g _ 92 (i * 22 + 5) _ hW' (by omega) (by rw [show upd c (i * 22) (c (i * 22) + 1) (i * 22 + 5 + 16) = c (i * 22 + 5 + 16) from if_neg (by omega)]; exact H8.out (by omega)) pl (dg)
    have HE : Hid (doC model c i ⟨0, pl, rg, dg, ct⟩ = if model = 1 then flushC (addC (upd c (i * 22) (c (i * 22) + 1)) (i * 22 + 5) pl (dg)) i 0 else addC (upd c (i * 22) (c (i * 22) + 1)) (i * 22 + 5) pl (dg)) := by show _ = _; simp [doC]
    have HVB : Hid ((dg : Nat) ≤ 255) := by show _ ≤ _; have := HX.out; omega
    have hwpl : IntKind.u8.wrap (pl : Int) = (pl : Int) := by rw [IntKind.wrap_u8]; omega
    by_cases hm1 : model = 1
    · subst hm1
      have H0 : Hid (upd c (i * 22) (c (i * 22) + 1) (i * 22 + 5 + 16) = 0) := by
        show _ = _
        rw [show upd c (i * 22) (c (i * 22) + 1) (i * 22 + 5 + 16) = c (i * 22 + 5 + 16) from if_neg (by omega)]
        exact HS.out rfl
      go_region_with (refine (HAD.out _ (by exact HB1.out)).mono ?_; rintro e w2 ⟨rfl, hB2, hG2⟩)
      all_goals
        have HB2 : Hid (Blk w2 g 120 92 (addC (upd c (i * 22) (c (i * 22) + 1)) (i * 22 + 5) pl (dg))) := hB2
        have HG2 : Hid (w.grownBy w2 (some g)) := gb_trans (gb_drew HG1.out) hG2
        have m2 := gb_cell hG2 (show W.drew.cell? ⟨w.heap.size, 1, none⟩ = _ from m1) (by simp; omega)
        have hg2 := hB2.lt
        have hs2 := hG2.size
        have hl2 : w.heap.size < w2.heap.size := Nat.lt_of_lt_of_le hMW hs2
        clear hB2 hG2 m1 x1 x2 x3 x4 r0 q0 hfr
        go_wp2_with fail
        refine (st_flush w2 g _ HB2.out i 0 hi (by rw [addC_count, H0.out]; omega) (by rw [addC_count, H0.out]; omega) (by rw [addC_first _ _ _ _ H0.out]; exact HPL.out.1)).mono ?_
        rintro e w3 ⟨rfl, hB3, hG3⟩
        have HB3 : Hid (Blk w3 g 120 92 (flushC (addC (upd c (i * 22) (c (i * 22) + 1)) (i * 22 + 5) pl (dg)) i 0)) := hB3
        have HG3 : Hid (w.grownBy w3 (some g)) := gb_trans HG2.out hG3
        clear hB3 hG3
        go_wp2_with fail
        go_end0
        refine ⟨rfl, ?_, HG3.out⟩
        rw [HE.out]
        first | rw [if_pos rfl] | rw [if_pos trivial]
        exact HB3.out
    · have hm1' : ((model : Int) == 1) = false := by rw [beq_eq_false_iff_ne]; omega
      have HM1 : Hid (¬ model = 1) := hm1
      clear hm1
      go_region_with (refine (HAD.out _ (by exact HB1.out)).mono ?_; rintro e w2 ⟨rfl, hB2, hG2⟩)
      all_goals
        have HB2 : Hid (Blk w2 g 120 92 (addC (upd c (i * 22) (c (i * 22) + 1)) (i * 22 + 5) pl (dg))) := hB2
        have HG2 : Hid (w.grownBy w2 (some g)) := gb_trans (gb_drew HG1.out) hG2
        have m2 := gb_cell hG2 (show W.drew.cell? ⟨w.heap.size, 1, none⟩ = _ from m1) (by simp; omega)
        have hg2 := hB2.lt
        have hs2 := hG2.size
        have hl2 : w.heap.size < w2.heap.size := Nat.lt_of_lt_of_le hMW hs2
        clear hB2 hG2 m1 x1 x2 x3 x4 r0 q0 hfr
        go_wp2_with fail
        go_end0
        refine ⟨rfl, ?_, HG2.out⟩
        rw [HE.out, if_neg HM1.out]
        exact HB2.out
  · obtain ⟨W, hW⟩ : ∃ W, W = ((w.setCell ⟨g, i * 22, none⟩ (.int .u8 ((c (i * 22) : Int) + 1))).alloc (.cells #[pv, .int .i64 (model : Nat)] 76)).alloc (.cells #[.int .i64 1, .int .i64 (pl : Nat), .int .i64 (rg : Nat), .int .i64 (dg : Nat), .int .i64 (ct : Nat)] 107) := ⟨_, rfl⟩
    obtain ⟨hB1, hG1, hM1, hX1⟩ := do_start HBl.out hi hW
    rw [← hW]
    clear hW z0 hfr
    have m1 := cell_of hM1 1 (.int .i64 (model : Nat)) rfl
    have x1 := cell_of hX1 1 (.int .i64 (pl : Nat)) rfl
    have x2 := cell_of hX1 2 (.int .i64 (rg : Nat)) rfl
    have x3 := cell_of hX1 3 (.int .i64 (dg : Nat)) rfl
    have x4 := cell_of hX1 4 (.int .i64 (ct : Nat)) rfl
    have hgW := hB1.lt
    have hMW := heap_lt hM1
    have hXW := heap_lt hX1
    have hfr := frozen_of hB1
    have HB1 : Hid (Blk W g 120 92 (upd c (i * 22) (c (i * 22) + 1))) := hB1
    have HG1 : Hid (w.grownBy W (some g)) := hG1
    have HX1 : Hid (W.heap[w.heap.size + 1]? = some _) := hX1
    have HM1 : Hid (W.heap[w.heap.size]? = some _) := hM1
    have HPL : Hid (pl < 4 ∧ rg < 4) := ⟨HX.out.1, HX.out.2.1⟩
    have r0 := hB1.cell (i * 22 + 1 + rg) (by have := HX.out.2.1; omega)
    have q0 := hB1.cell (88 + pl) (by have := HX.out.1; omega)
    rw [show upd c (i * 22) (c (i * 22) + 1) (i * 22 + 1 + rg) = c (i * 22 + 1 + rg) by simp [upd]; omega] at r0
    rw [show upd c (i * 22) (c (i * 22) + 1) (88 + pl) = c (88 + pl) by simp [upd]; omega] at q0
    clear hB1 hG1 hX1 hM1
    have HAD : Hid (∀ W', Blk W' g 120 92 (upd c (i * 22) (c (i * 22) + 1)) → Calls Tryz.prog 157 #[.pointer (some ⟨g, i * 22 + 5, none⟩), .agg #[.int .u8 (pl : Nat), .int .u8 (c (i * 22 + 1 + rg) : Nat)]] W' fun e w' => e = .returned (.tuple #[]) ∧ Blk w' g 120 92 (addC (upd c (i * 22) (c (i * 22) + 1)) (i * 22 + 5) pl (c (i * 22 + 1 + rg))) ∧ W'.grownBy w' (some g)) := fun W' hW' => buf_add W' g _ 92 (i * 22 + 5) _ hW' (by omega) (by rw [show upd c (i * 22) (c (i * 22) + 1) (i * 22 + 5 + 16) = c (i * 22 + 5 + 16) from if_neg (by omega)]; exact H8.out (by omega)) pl (c (i * 22 + 1 + rg))
    have HE : Hid (doC model c i ⟨1, pl, rg, dg, ct⟩ = if model = 1 then flushC (addC (upd c (i * 22) (c (i * 22) + 1)) (i * 22 + 5) pl (c (i * 22 + 1 + rg))) i 0 else addC (upd c (i * 22) (c (i * 22) + 1)) (i * 22 + 5) pl (c (i * 22 + 1 + rg))) := by show _ = _; simp [doC]
    have HVB : Hid ((c (i * 22 + 1 + rg) : Nat) ≤ 255) := by exact HB.out _
    go_region
    go_wp2_with fail
    have hwpl : IntKind.u8.wrap (pl : Int) = (pl : Int) := by rw [IntKind.wrap_u8]; omega
    by_cases hm1 : model = 1
    · subst hm1
      have H0 : Hid (upd c (i * 22) (c (i * 22) + 1) (i * 22 + 5 + 16) = 0) := by
        show _ = _
        rw [show upd c (i * 22) (c (i * 22) + 1) (i * 22 + 5 + 16) = c (i * 22 + 5 + 16) from if_neg (by omega)]
        exact HS.out rfl
      go_region_with (refine (HAD.out _ (by exact HB1.out)).mono ?_; rintro e w2 ⟨rfl, hB2, hG2⟩)
      all_goals
        have HB2 : Hid (Blk w2 g 120 92 (addC (upd c (i * 22) (c (i * 22) + 1)) (i * 22 + 5) pl (c (i * 22 + 1 + rg)))) := hB2
        have HG2 : Hid (w.grownBy w2 (some g)) := gb_trans (gb_drew (gb_drew HG1.out)) hG2
        have m2 := gb_cell hG2 (show W.drew.drew.cell? ⟨w.heap.size, 1, none⟩ = _ from m1) (by simp; omega)
        have hg2 := hB2.lt
        have hs2 := hG2.size
        have hl2 : w.heap.size < w2.heap.size := Nat.lt_of_lt_of_le hMW hs2
        clear hB2 hG2 m1 x1 x2 x3 x4 r0 q0 hfr
        go_wp2_with fail
        refine (st_flush w2 g _ HB2.out i 0 hi (by rw [addC_count, H0.out]; omega) (by rw [addC_count, H0.out]; omega) (by rw [addC_first _ _ _ _ H0.out]; exact HPL.out.1)).mono ?_
        rintro e w3 ⟨rfl, hB3, hG3⟩
        have HB3 : Hid (Blk w3 g 120 92 (flushC (addC (upd c (i * 22) (c (i * 22) + 1)) (i * 22 + 5) pl (c (i * 22 + 1 + rg))) i 0)) := hB3
        have HG3 : Hid (w.grownBy w3 (some g)) := gb_trans HG2.out hG3
        clear hB3 hG3
        go_wp2_with fail
        go_end0
        refine ⟨rfl, ?_, HG3.out⟩
        rw [HE.out]
        first | rw [if_pos rfl] | rw [if_pos trivial]
        exact HB3.out
    · have hm1' : ((model : Int) == 1) = false := by rw [beq_eq_false_iff_ne]; omega
      have HM1 : Hid (¬ model = 1) := hm1
      clear hm1
      go_region_with (refine (HAD.out _ (by exact HB1.out)).mono ?_; rintro e w2 ⟨rfl, hB2, hG2⟩)
      all_goals
        have HB2 : Hid (Blk w2 g 120 92 (addC (upd c (i * 22) (c (i * 22) + 1)) (i * 22 + 5) pl (c (i * 22 + 1 + rg)))) := hB2
        have HG2 : Hid (w.grownBy w2 (some g)) := gb_trans (gb_drew (gb_drew HG1.out)) hG2
        have m2 := gb_cell hG2 (show W.drew.drew.cell? ⟨w.heap.size, 1, none⟩ = _ from m1) (by simp; omega)
        have hg2 := hB2.lt
        have hs2 := hG2.size
        have hl2 : w.heap.size < w2.heap.size := Nat.lt_of_lt_of_le hMW hs2
        clear hB2 hG2 m1 x1 x2 x3 x4 r0 q0 hfr
        go_wp2_with fail
        go_end0
        refine ⟨rfl, ?_, HG2.out⟩
        rw [HE.out, if_neg HM1.out]
        exact HB2.out
  · obtain ⟨W, hW⟩ : ∃ W, W = ((w.setCell ⟨g, i * 22, none⟩ (.int .u8 ((c (i * 22) : Int) + 1))).alloc (.cells #[pv, .int .i64 (model : Nat)] 76)).alloc (.cells #[.int .i64 2, .int .i64 (pl : Nat), .int .i64 (rg : Nat), .int .i64 (dg : Nat), .int .i64 (ct : Nat)] 107) := ⟨_, rfl⟩
    obtain ⟨hB1, hG1, hM1, hX1⟩ := do_start HBl.out hi hW
    rw [← hW]
    clear hW z0 hfr
    have m1 := cell_of hM1 1 (.int .i64 (model : Nat)) rfl
    have x1 := cell_of hX1 1 (.int .i64 (pl : Nat)) rfl
    have x2 := cell_of hX1 2 (.int .i64 (rg : Nat)) rfl
    have x3 := cell_of hX1 3 (.int .i64 (dg : Nat)) rfl
    have x4 := cell_of hX1 4 (.int .i64 (ct : Nat)) rfl
    have hgW := hB1.lt
    have hMW := heap_lt hM1
    have hXW := heap_lt hX1
    have hfr := frozen_of hB1
    have HB1 : Hid (Blk W g 120 92 (upd c (i * 22) (c (i * 22) + 1))) := hB1
    have HG1 : Hid (w.grownBy W (some g)) := hG1
    have HX1 : Hid (W.heap[w.heap.size + 1]? = some _) := hX1
    have HM1 : Hid (W.heap[w.heap.size]? = some _) := hM1
    have HPL : Hid (pl < 4 ∧ rg < 4) := ⟨HX.out.1, HX.out.2.1⟩
    have r0 := hB1.cell (i * 22 + 1 + rg) (by have := HX.out.2.1; omega)
    have q0 := hB1.cell (88 + pl) (by have := HX.out.1; omega)
    rw [show upd c (i * 22) (c (i * 22) + 1) (i * 22 + 1 + rg) = c (i * 22 + 1 + rg) by simp [upd]; omega] at r0
    rw [show upd c (i * 22) (c (i * 22) + 1) (88 + pl) = c (88 + pl) by simp [upd]; omega] at q0
    clear hB1 hG1 hX1 hM1
    have HC : Hid (∀ j, upd c (i * 22) (c (i * 22) + 1) j ≤ 255) := fun j => by
      unfold upd
      split
      · omega
      · exact HB.out j
    have HCN : Hid (upd c (i * 22) (c (i * 22) + 1) (i * 22 + 5 + 16) ≤ 8) := by
      have e : upd c (i * 22) (c (i * 22) + 1) (i * 22 + 5 + 16) = c (i * 22 + 5 + 16) := if_neg (by omega)
      show _ ≤ _
      rw [e]
      exact H8'.out
    have HSN : Hid (∀ W', W'.heap = W.heap → Calls Tryz.prog 158 #[.pointer (some ⟨g, 0, none⟩), .int .i64 (i : Nat), .int .i64 (pl : Nat)] W' fun e w' => e = .returned (.int .u8 (seenC (upd c (i * 22) (c (i * 22) + 1)) i pl : Nat)) ∧ w' = W') := fun W' hW' => st_seen W' g _ (show Blk W' g 120 92 (upd c (i * 22) (c (i * 22) + 1)) by unfold Blk; rw [hW']; exact HB1.out) HC.out i pl hi HCN.out HPL.out.1
    go_region_with (refine (HSN.out _ (by rfl)).mono ?_; rintro e w2 ⟨rfl, rfl⟩)
    all_goals
      go_wp2_with fail
      go_end0
      refine ⟨rfl, ?_, ?_⟩
      · have e : doC model c i ⟨2, pl, rg, dg, ct⟩ = upd (upd c (i * 22) (c (i * 22) + 1)) (i * 22 + 1 + rg) (seenC c i pl) := by simp [doC]
        rw [e, ← seenC_next c i pl (c (i * 22) + 1) hi]
        exact HB1.out.set _ _ (by have := HPL.out; omega)
      · first | exact gb_drew (gb_put HG1.out _ _) | exact gb_drewN (gb_put HG1.out _ _) _
  · obtain ⟨W, hW⟩ : ∃ W, W = ((w.setCell ⟨g, i * 22, none⟩ (.int .u8 ((c (i * 22) : Int) + 1))).alloc (.cells #[pv, .int .i64 (model : Nat)] 76)).alloc (.cells #[.int .i64 3, .int .i64 (pl : Nat), .int .i64 (rg : Nat), .int .i64 (dg : Nat), .int .i64 (ct : Nat)] 107) := ⟨_, rfl⟩
    obtain ⟨hB1, hG1, hM1, hX1⟩ := do_start HBl.out hi hW
    rw [← hW]
    clear hW z0 hfr
    have m1 := cell_of hM1 1 (.int .i64 (model : Nat)) rfl
    have x1 := cell_of hX1 1 (.int .i64 (pl : Nat)) rfl
    have x2 := cell_of hX1 2 (.int .i64 (rg : Nat)) rfl
    have x3 := cell_of hX1 3 (.int .i64 (dg : Nat)) rfl
    have x4 := cell_of hX1 4 (.int .i64 (ct : Nat)) rfl
    have hgW := hB1.lt
    have hMW := heap_lt hM1
    have hXW := heap_lt hX1
    have hfr := frozen_of hB1
    have HB1 : Hid (Blk W g 120 92 (upd c (i * 22) (c (i * 22) + 1))) := hB1
    have HG1 : Hid (w.grownBy W (some g)) := hG1
    have HX1 : Hid (W.heap[w.heap.size + 1]? = some _) := hX1
    have HM1 : Hid (W.heap[w.heap.size]? = some _) := hM1
    have HPL : Hid (pl < 4 ∧ rg < 4) := ⟨HX.out.1, HX.out.2.1⟩
    have r0 := hB1.cell (i * 22 + 1 + rg) (by have := HX.out.2.1; omega)
    have q0 := hB1.cell (88 + pl) (by have := HX.out.1; omega)
    rw [show upd c (i * 22) (c (i * 22) + 1) (i * 22 + 1 + rg) = c (i * 22 + 1 + rg) by simp [upd]; omega] at r0
    rw [show upd c (i * 22) (c (i * 22) + 1) (88 + pl) = c (88 + pl) by simp [upd]; omega] at q0
    clear hB1 hG1 hX1 hM1
    go_region
    go_wp2_with fail
    go_end0
    refine ⟨rfl, ?_, ?_⟩
    · have e : doC model c i ⟨3, pl, rg, dg, ct⟩ = upd (upd c (i * 22) (c (i * 22) + 1)) (i * 22 + 1 + rg) dg := by simp [doC]
      rw [e]
      exact HB1.out.set _ dg (by have := HPL.out; omega)
    · exact gb_drew (gb_put HG1.out _ _)
  · obtain ⟨W, hW⟩ : ∃ W, W = ((w.setCell ⟨g, i * 22, none⟩ (.int .u8 ((c (i * 22) : Int) + 1))).alloc (.cells #[pv, .int .i64 (model : Nat)] 76)).alloc (.cells #[.int .i64 4, .int .i64 (pl : Nat), .int .i64 (rg : Nat), .int .i64 (dg : Nat), .int .i64 (ct : Nat)] 107) := ⟨_, rfl⟩
    obtain ⟨hB1, hG1, hM1, hX1⟩ := do_start HBl.out hi hW
    rw [← hW]
    clear hW z0 hfr
    have m1 := cell_of hM1 1 (.int .i64 (model : Nat)) rfl
    have x1 := cell_of hX1 1 (.int .i64 (pl : Nat)) rfl
    have x2 := cell_of hX1 2 (.int .i64 (rg : Nat)) rfl
    have x3 := cell_of hX1 3 (.int .i64 (dg : Nat)) rfl
    have x4 := cell_of hX1 4 (.int .i64 (ct : Nat)) rfl
    have hgW := hB1.lt
    have hMW := heap_lt hM1
    have hXW := heap_lt hX1
    have hfr := frozen_of hB1
    have HB1 : Hid (Blk W g 120 92 (upd c (i * 22) (c (i * 22) + 1))) := hB1
    have HG1 : Hid (w.grownBy W (some g)) := hG1
    have HX1 : Hid (W.heap[w.heap.size + 1]? = some _) := hX1
    have HM1 : Hid (W.heap[w.heap.size]? = some _) := hM1
    have HPL : Hid (pl < 4 ∧ rg < 4) := ⟨HX.out.1, HX.out.2.1⟩
    have r0 := hB1.cell (i * 22 + 1 + rg) (by have := HX.out.2.1; omega)
    have q0 := hB1.cell (88 + pl) (by have := HX.out.1; omega)
    rw [show upd c (i * 22) (c (i * 22) + 1) (i * 22 + 1 + rg) = c (i * 22 + 1 + rg) by simp [upd]; omega] at r0
    rw [show upd c (i * 22) (c (i * 22) + 1) (88 + pl) = c (88 + pl) by simp [upd]; omega] at q0
    clear hB1 hG1 hX1 hM1
    go_region
    go_wp2_with fail
    go_region
    go_wp2_with fail
    go_end0
    refine ⟨rfl, ?_, ?_⟩
    · have e : doC model c i ⟨4, pl, rg, dg, ct⟩ = upd (upd (upd c (i * 22) (c (i * 22) + 1)) (i * 22 + 1 + rg) (c (88 + pl))) (88 + pl) dg := by simp [doC]
      rw [e]
      exact (HB1.out.set _ (c (88 + pl)) (by have := HPL.out; omega)).set _ dg (by have := HPL.out; omega)
    · first | exact gb_drew (gb_put (gb_put HG1.out _ _) _ _) | exact gb_drew (gb_drew (gb_put (gb_put HG1.out _ _) _ _)) | exact gb_drewN (gb_put (gb_put HG1.out _ _) _ _) _
  · obtain ⟨W, hW⟩ : ∃ W, W = ((w.setCell ⟨g, i * 22, none⟩ (.int .u8 ((c (i * 22) : Int) + 1))).alloc (.cells #[pv, .int .i64 (model : Nat)] 76)).alloc (.cells #[.int .i64 5, .int .i64 (pl : Nat), .int .i64 (rg : Nat), .int .i64 (dg : Nat), .int .i64 (ct : Nat)] 107) := ⟨_, rfl⟩
    obtain ⟨hB1, hG1, hM1, hX1⟩ := do_start HBl.out hi hW
    rw [← hW]
    clear hW z0 hfr
    have m1 := cell_of hM1 1 (.int .i64 (model : Nat)) rfl
    have x1 := cell_of hX1 1 (.int .i64 (pl : Nat)) rfl
    have x2 := cell_of hX1 2 (.int .i64 (rg : Nat)) rfl
    have x3 := cell_of hX1 3 (.int .i64 (dg : Nat)) rfl
    have x4 := cell_of hX1 4 (.int .i64 (ct : Nat)) rfl
    have hgW := hB1.lt
    have hMW := heap_lt hM1
    have hXW := heap_lt hX1
    have hfr := frozen_of hB1
    have HB1 : Hid (Blk W g 120 92 (upd c (i * 22) (c (i * 22) + 1))) := hB1
    have HG1 : Hid (w.grownBy W (some g)) := hG1
    have HX1 : Hid (W.heap[w.heap.size + 1]? = some _) := hX1
    have HM1 : Hid (W.heap[w.heap.size]? = some _) := hM1
    have HPL : Hid (pl < 4 ∧ rg < 4) := ⟨HX.out.1, HX.out.2.1⟩
    have r0 := hB1.cell (i * 22 + 1 + rg) (by have := HX.out.2.1; omega)
    have q0 := hB1.cell (88 + pl) (by have := HX.out.1; omega)
    rw [show upd c (i * 22) (c (i * 22) + 1) (i * 22 + 1 + rg) = c (i * 22 + 1 + rg) by simp [upd]; omega] at r0
    rw [show upd c (i * 22) (c (i * 22) + 1) (88 + pl) = c (88 + pl) by simp [upd]; omega] at q0
    clear hB1 hG1 hX1 hM1
    go_end0
    refine ⟨rfl, ?_, HG1.out⟩
    have e : doC model c i ⟨5, pl, rg, dg, ct⟩ = upd c (i * 22) (c (i * 22) + 1) := by simp [doC]
    rw [e]
    exact HB1.out
  · obtain ⟨W, hW⟩ : ∃ W, W = ((w.setCell ⟨g, i * 22, none⟩ (.int .u8 ((c (i * 22) : Int) + 1))).alloc (.cells #[pv, .int .i64 (model : Nat)] 76)).alloc (.cells #[.int .i64 6, .int .i64 (pl : Nat), .int .i64 (rg : Nat), .int .i64 (dg : Nat), .int .i64 (ct : Nat)] 107) := ⟨_, rfl⟩
    obtain ⟨hB1, hG1, hM1, hX1⟩ := do_start HBl.out hi hW
    rw [← hW]
    clear hW z0 hfr
    have m1 := cell_of hM1 1 (.int .i64 (model : Nat)) rfl
    have x1 := cell_of hX1 1 (.int .i64 (pl : Nat)) rfl
    have x2 := cell_of hX1 2 (.int .i64 (rg : Nat)) rfl
    have x3 := cell_of hX1 3 (.int .i64 (dg : Nat)) rfl
    have x4 := cell_of hX1 4 (.int .i64 (ct : Nat)) rfl
    have hgW := hB1.lt
    have hMW := heap_lt hM1
    have hXW := heap_lt hX1
    have hfr := frozen_of hB1
    have HB1 : Hid (Blk W g 120 92 (upd c (i * 22) (c (i * 22) + 1))) := hB1
    have HG1 : Hid (w.grownBy W (some g)) := hG1
    have HX1 : Hid (W.heap[w.heap.size + 1]? = some _) := hX1
    have HM1 : Hid (W.heap[w.heap.size]? = some _) := hM1
    have HPL : Hid (pl < 4 ∧ rg < 4) := ⟨HX.out.1, HX.out.2.1⟩
    have r0 := hB1.cell (i * 22 + 1 + rg) (by have := HX.out.2.1; omega)
    have q0 := hB1.cell (88 + pl) (by have := HX.out.1; omega)
    rw [show upd c (i * 22) (c (i * 22) + 1) (i * 22 + 1 + rg) = c (i * 22 + 1 + rg) by simp [upd]; omega] at r0
    rw [show upd c (i * 22) (c (i * 22) + 1) (88 + pl) = c (88 + pl) by simp [upd]; omega] at q0
    clear hB1 hG1 hX1 hM1
    have n0 := HB1.out.cell (i * 22) (by omega)
    rw [show upd c (i * 22) (c (i * 22) + 1) (i * 22) = c (i * 22) + 1 by simp [upd], show ((c (i * 22) + 1 : Nat) : Int) = (c (i * 22) : Int) + 1 by omega] at n0
    by_cases hq : c (i * 22 + 1 + rg) = dg
    · have hq' : ((c (i * 22 + 1 + rg) : Int) == (dg : Int)) = true := by rw [beq_iff_eq]; omega
      have HQ : Hid (c (i * 22 + 1 + rg) = dg) := hq
      clear hq
      go_region
      go_wp2_with fail
      go_region
      go_wp2_with fail
      go_end0
      refine ⟨rfl, ?_, ?_⟩
      · have e : doC model c i ⟨6, pl, rg, dg, ct⟩ = upd (upd c (i * 22) (c (i * 22) + 1)) (i * 22) (c (i * 22) + 1 + ct) := by simp [doC, HQ.out]
        rw [e]
        exact HB1.out.set _ (c (i * 22) + 1 + ct) (by omega)
      · first | exact gb_drew (gb_put HG1.out _ _) | exact gb_drew (gb_drew (gb_put HG1.out _ _)) | exact gb_drewN (gb_put HG1.out _ _) _
    · have hq' : ((c (i * 22 + 1 + rg) : Int) == (dg : Int)) = false := by rw [beq_eq_false_iff_ne]; omega
      have HQ : Hid (¬ c (i * 22 + 1 + rg) = dg) := hq
      clear hq
      go_region
      go_wp2_with fail
      go_end0
      refine ⟨rfl, ?_, ?_⟩
      · have e : doC model c i ⟨6, pl, rg, dg, ct⟩ = upd c (i * 22) (c (i * 22) + 1) := by simp [doC, HQ.out]
        rw [e]
        exact HB1.out
      · exact gb_drew HG1.out
end Go.Proofs.YtmpaeladhoomoaaGreatDoor

namespace Go.Proofs.YtmpaeladhoomoaaGreatDoor
open Go.RowKit

theorem infoState : (Tryz.prog.info? 120).map (fun i => (i.zero, i.size)) = some (some (.agg (u8A 92 fun _ => 0)), 92) := by kernel_rfl

theorem Blk.range {w : World} {g : Nat} {ty : TypeId} {n : Nat} {c : Nat → Nat} (h : Blk w g ty n c) (o m : Nat) (ho : o + m ≤ n) : w.rangeAt g o (u8L m fun j => c (o + j)) := by
  intro j v hv
  have hj := (List.getElem?_eq_some_iff.1 hv).1
  rw [u8L_len] at hj
  rw [u8L_get _ hj] at hv
  rw [← Option.some.inj hv]
  exact h.cell (o + j) (by omega)
theorem Blk.range0 {w : World} {g : Nat} {ty : TypeId} {n : Nat} {c : Nat → Nat} (h : Blk w g ty n c) : w.rangeAt g 0 (u8L n c) := by
  have := h.range 0 n (by omega)
  simpa using this
theorem Blk.there {w : World} {g : Nat} {ty : TypeId} {n : Nat} {c : Nat → Nat} (h : Blk w g ty n c) (o m : Nat) (ho : o + m ≤ n) : w.there g o m := fun j hj => ⟨by rw [h.cell (o + j) (by omega)]; rfl, frozen_of h _⟩
/-- Numbers written into a row. -/
def updL (c : Nat → Nat) : Nat → List Nat → (Nat → Nat)
  | _, [] => c
  | o, v :: r => updL (upd c o v) (o + 1) r
theorem Blk.sets {g : Nat} {ty : TypeId} {n : Nat} : ∀ (vs : List Nat) (o : Nat) (w : World) (c : Nat → Nat), Blk w g ty n c → o + vs.length ≤ n → Blk (w.setCells g o (vs.map fun v => .int .u8 (v : Nat))) g ty n (updL c o vs)
  | [], _, _, _, h, _ => h
  | v :: r, o, w, c, h, hn => by
    simp only [List.length_cons] at hn
    show Blk ((w.setCell ⟨g, o, none⟩ (.int .u8 (v : Nat))).setCells g (o + 1) _) g ty n (updL (upd c o v) (o + 1) r)
    exact Blk.sets r (o + 1) _ _ (h.set o v (by omega)) (by omega)
theorem updL_out : ∀ (vs : List Nat) (o : Nat) (c : Nat → Nat) (j : Nat), j < o → updL c o vs j = c j
  | [], _, _, _, _ => rfl
  | v :: r, o, c, j, h => by
    rw [updL, updL_out r (o + 1) _ j (by omega)]
    exact if_neg (by omega)
theorem updL_get : ∀ (vs : List Nat) (o : Nat) (c : Nat → Nat) (j : Nat) (v : Nat), vs[j]? = some v → updL c o vs (o + j) = v
  | [], _, _, _, _, h => by simp at h
  | x :: r, o, c, 0, v, h => by
    simp at h
    subst h
    rw [updL, updL_out r (o + 1) _ _ (by omega)]
    exact if_pos rfl
  | x :: r, o, c, j + 1, v, h => by
    simp at h
    rw [updL, show o + (j + 1) = o + 1 + j by omega]
    exact updL_get r (o + 1) _ j v h
theorem gb_cells {a : World} {g : Nat} : ∀ (vs : List Value) (o : Nat) (b : World), a.grownBy b (some g) → a.grownBy (b.setCells g o vs) (some g)
  | [], _, _, h => h
  | v :: r, o, b, h => gb_cells r (o + 1) (b.setCell ⟨g, o, none⟩ v) (gb_put h o v)
theorem gb_cells_new {a : World} {g : Nat} (hg : a.heap.size ≤ g) : ∀ (vs : List Value) (o : Nat) (b : World), a.grownBy b none → a.grownBy (b.setCells g o vs) none
  | [], _, _, h => h
  | v :: r, o, b, h => gb_cells_new hg r (o + 1) (b.setCell ⟨g, o, none⟩ v) (gb_put_new h hg o v)
/-- A block written over whole. -/
theorem Blk.whole {w : World} {g : Nat} {ty : TypeId} {n : Nat} {d : Nat → Nat} (h : Blk w g ty n d) (c : Nat → Nat) : Blk (w.setCells g 0 (u8A n c).toList) g ty n c := by
  have := Blk.sets ((List.range n).map c) 0 w d h (by simp)
  have e : ((List.range n).map c).map (fun v => Value.int .u8 (v : Nat)) = (u8A n c).toList := by simp [u8A, u8L]
  rw [e] at this
  unfold Blk at this ⊢
  rw [this]
  congr 2
  apply u8A_eq
  intro j hj
  have := updL_get ((List.range n).map c) 0 d j (c j) (by simp [hj])
  simpa using this
theorem u8A_all (n : Nat) (c : Nat → Nat) : (u8A n c).all (·.oneCell') = true := all_oneCell_toArray (u8L_one n c)

set_option maxRecDepth 100000 in
set_option maxHeartbeats 2000000 in
theorem ma_after_flush (w : World) (c : Nat → Nat) (pv : Value) (model i k : Nat) (hi : i < 4) (h8 : c (i * 22 + 5 + 16) ≤ 8) (hk : k < c (i * 22 + 5 + 16)) (hp : c (i * 22 + 5 + k * 2) < 4) :
    Calls Tryz.prog 63 #[.agg #[pv, .int .i64 (model : Nat)], .agg (u8A 92 c), .agg #[.int .i64 (i : Nat), .bool true, .int .i64 (k : Nat)]] w fun e w' => e = .returned (.agg (u8A 92 (flushC c i k))) ∧ w.grownBy w' none := by
  obtain ⟨hz, hsz⟩ := zero_of_info (P := Tryz.prog) infoState
  go_enter Tryz.func63, Tryz.ntmps63
  go_wp2_with fail
  have hB0 : Blk ((((w.alloc (.cells #[pv, .int .i64 (model : Nat)] 76)).alloc (.cells (u8A 92 c) 120)).alloc (.cells #[.int .i64 (i : Nat), .bool true, .int .i64 (k : Nat)] 137)).alloc (.cells (u8A 92 fun _ => 0) 120)) (w.heap.size + 1) 120 92 c := heap_alloc_at (heap_alloc_at (new_at (by simp) _) _) _
  have hZ0 : Blk ((((w.alloc (.cells #[pv, .int .i64 (model : Nat)] 76)).alloc (.cells (u8A 92 c) 120)).alloc (.cells #[.int .i64 (i : Nat), .bool true, .int .i64 (k : Nat)] 137)).alloc (.cells (u8A 92 fun _ => 0) 120)) (w.heap.size + 1 + 1 + 1) 120 92 (fun _ => 0) := new_at (by simp) _
  have HG0 : Hid (w.grownBy ((((w.alloc (.cells #[pv, .int .i64 (model : Nat)] 76)).alloc (.cells (u8A 92 c) 120)).alloc (.cells #[.int .i64 (i : Nat), .bool true, .int .i64 (k : Nat)] 137)).alloc (.cells (u8A 92 fun _ => 0) 120)) none) := gb_alloc (gb_alloc (gb_alloc (gb_alloc (gb_refl _ _) _) _) _) _
  refine (st_flush _ (w.heap.size + 1) c hB0 i k hi h8 hk hp).mono ?_
  rintro e w2 ⟨rfl, hB2, hG2⟩
  have hZ2 := hZ0.gb hG2 (by simp; omega)
  have HB2 : Hid (Blk w2 (w.heap.size + 1) 120 92 (flushC c i k)) := hB2
  have HZ2 : Hid (Blk w2 (w.heap.size + 1 + 1 + 1) 120 92 (fun _ => 0)) := hZ2
  have HG2 : Hid (w.grownBy w2 none) := gb_new HG0.out hG2 (fun x e => by simp at e; omega)
  have hg2 := hB2.lt
  have hg3 := hZ2.lt
  clear hB0 hZ0 hB2 hG2 hZ2 hz
  have HSZ : Hid ((Tryz.prog.info? 120).map (·.size) = some 92) := hsz
  clear hsz
  go_wp2_with (first | (refine wpList_load_mid (by rfl) 120 _ (by rfl) (w.heap.size + 1) 0 (by rfl) (u8L 92 (flushC c i k)) _ HB2.out.range0 Tryz.underlying120 rfl (by rw [u8L_len]; exact HSZ.out) ?_) | (refine wpList_store_mid (by rfl) 120 _ _ (by rfl) (w.heap.size + 1 + 1 + 1) 0 (u8A 92 (flushC c i k)) (by rfl) (by rfl) (HZ2.out.there 0 _ (by rw [u8A_size]; omega)) (by rw [u8A_size]; exact HSZ.out) (u8A_all _ _) ?_))
  have HF : Hid (Blk (w2.setCells (w.heap.size + 1 + 1 + 1) 0 (u8A 92 (flushC c i k)).toList) (w.heap.size + 1 + 1 + 1) 120 92 (flushC c i k)) := HZ2.out.whole _
  exact bodyPost_ret (v := .agg (u8A 92 (flushC c i k))) (results_cell_row rfl _ _ (w.heap.size + 1 + 1 + 1) 120 (u8A 92 (flushC c i k)) (0, 0) _ (by rfl) HF.out Tryz.underlying120 rfl (by rw [u8A_size]; exact HSZ.out)) rfl ⟨rfl, gb_cells_new (by omega) _ _ _ HG2.out⟩
end Go.Proofs.YtmpaeladhoomoaaGreatDoor

namespace Go.Proofs.YtmpaeladhoomoaaGreatDoor
open Go.RowKit

/-- A program's threads, as they lie. -/
def PT (w : World) (pg : Nat) (ls : List (List St)) : Prop :=
  ∃ (ta : Option Addr) (cap : Nat), w.cell? ⟨pg, 0, none⟩ = some (.slice ta ls.length cap) ∧ ∀ (i : Nat) (l : List St), ls[i]? = some l → ∃ (tg : Nat) (sa : Option Addr) (scap : Nat), ta = some ⟨tg, 0, none⟩ ∧ w.cell? ⟨tg, i, none⟩ = some (.slice sa l.length scap) ∧ l.length ≤ 8 ∧
    ∀ (j : Nat) (x : St), l[j]? = some x → ∃ g, sa = some ⟨g, 0, none⟩ ∧ ∀ (o : Nat) (v : Value), (stCells x)[o]? = some v → w.cell? ⟨g, j * 5 + o, none⟩ = some v
theorem PT.grow {w w' : World} {pg : Nat} {ls : List (List St)} (h : PT w pg ls) (hg : w.grownBy w' none) : PT w' pg ls := by
  obtain ⟨ta, cap, h1, h2⟩ := h
  refine ⟨ta, cap, gb_cell hg h1 (by simp), fun i l hl => ?_⟩
  obtain ⟨tg, sa, scap, a1, a2, a3, a4⟩ := h2 i l hl
  refine ⟨tg, sa, scap, a1, gb_cell hg a2 (by simp), a3, fun j x hx => ?_⟩
  obtain ⟨g, b1, b2⟩ := a4 j x hx
  exact ⟨g, b1, fun o v hv => gb_cell hg (b2 o v hv) (by simp)⟩
theorem ProgRep.pt {w : World} {ok : Nat → Prop} {g : Nat} {ls : List (List St)} {fa : Bool} {ft : Txt} (h : ProgRep w ok g ls fa ft) : PT w g ls := by
  obtain ⟨ta, cap, xs, n0, a, k, c, n2, n3, n4, n5, d, h0, _, h1, h2, _⟩ := h.ex
  refine ⟨ta, cap, cell_of h0 0 _ rfl, fun i l hl => ?_⟩
  obtain ⟨sa, scap, b1, b2, b3⟩ := h2.2 i l hl
  obtain ⟨tg, c1, _, c2⟩ := h1 i _ b1
  refine ⟨tg, sa, scap, c1, c2, b2, fun j x hx => ?_⟩
  obtain ⟨g2, d1, _, d2⟩ := b3 j x hx
  exact ⟨g2, d1, d2⟩

set_option maxRecDepth 100000 in
set_option maxHeartbeats 4000000 in
theorem ma_after_step (w : World) (pg : Nat) (ls : List (List St)) (hP : PT w pg ls) (c : Nat → Nat) (hb : ∀ j, c j ≤ 255) (model i k : Nat) (l : List St) (x : St) (hl : ls[i]? = some l) (hlx : l[c (i * 22)]? = some x) (hm : 1 ≤ model ∧ model ≤ 3) (hi : i < 4) (hx : x.kind ≤ 6 ∧ x.place < 4 ∧ x.reg < 4 ∧ x.digit ≤ 9 ∧ x.count ≤ 9)
    (h8 : x.kind ≤ 1 → c (i * 22 + 5 + 16) < 8) (h8' : c (i * 22 + 5 + 16) ≤ 8) (hs : model = 1 → c (i * 22 + 5 + 16) = 0) :
    Calls Tryz.prog 63 #[.agg #[.pointer (some ⟨pg, 0, none⟩), .int .i64 (model : Nat)], .agg (u8A 92 c), .agg #[.int .i64 (i : Nat), .bool false, .int .i64 (k : Nat)]] w fun e w' => e = .returned (.agg (u8A 92 (doC model c i x))) ∧ w.grownBy w' none := by
  obtain ⟨hz, hsz⟩ := zero_of_info (P := Tryz.prog) infoState
  have HSZ : Hid ((Tryz.prog.info? 120).map (·.size) = some 92) := hsz
  obtain ⟨ta, cap, t0, hT⟩ := hP
  obtain ⟨tg, sa, scap, rfl, t1, hl8, hT2⟩ := hT i l hl
  obtain ⟨sg, rfl, hst⟩ := hT2 _ x hlx
  have hil := (List.getElem?_eq_some_iff.1 hl).1
  have hnl := (List.getElem?_eq_some_iff.1 hlx).1
  have s0 := hst 0 _ rfl
  have s1 := hst 1 _ rfl
  have s2 := hst 2 _ rfl
  have s3 := hst 3 _ rfl
  have s4 := hst 4 _ rfl
  simp only [Nat.add_zero] at s0
  have hi' : (i : Int) < 4 := by omega
  have hi2 : (i : Int) < (ls.length : Int) := by omega
  have hn2 : (c (i * 22) : Int) < (l.length : Int) := by omega
  have hpl := World.block_lt_of_cell? w ⟨pg, 0, none⟩ t0
  have htl := World.block_lt_of_cell? w ⟨tg, i, none⟩ t1
  have hsl := World.block_lt_of_cell? w ⟨sg, c (i * 22) * 5, none⟩ s0
  have HB : Hid (∀ j, c j ≤ 255) := hb
  have HN : Hid (c (i * 22) ≤ 100) := by show _ ≤ _; omega
  have HX : Hid (x.kind ≤ 6 ∧ x.place < 4 ∧ x.reg < 4 ∧ x.digit ≤ 9 ∧ x.count ≤ 9) := hx
  have H8 : Hid (x.kind ≤ 1 → c (i * 22 + 5 + 16) < 8) := h8
  have H8' : Hid (c (i * 22 + 5 + 16) ≤ 8) := h8'
  have HS : Hid (model = 1 → c (i * 22 + 5 + 16) = 0) := hs
  clear hT hT2 hst hl hlx hb hx h8 h8' hs hsz
  obtain ⟨W, hW⟩ : ∃ W, W = (((w.alloc (.cells #[.pointer (some ⟨pg, 0, none⟩), .int .i64 (model : Nat)] 76)).alloc (.cells (u8A 92 c) 120)).alloc (.cells #[.int .i64 (i : Nat), .bool false, .int .i64 (k : Nat)] 137)).alloc (.cells (u8A 92 fun _ => 0) 120) := ⟨_, rfl⟩
  have hB0 : Blk W (w.heap.size + 1) 120 92 c := by rw [hW]; exact heap_alloc_at (heap_alloc_at (new_at (by simp) _) _) _
  have hZ0 : Blk W (w.heap.size + 1 + 1 + 1) 120 92 (fun _ => 0) := by rw [hW]; exact new_at (by simp) _
  have hM0 : W.heap[w.heap.size]? = some (.cells #[.pointer (some ⟨pg, 0, none⟩), .int .i64 (model : Nat)] 76 (0, 0)) := by rw [hW]; exact heap_alloc_at (heap_alloc_at (heap_alloc_at (heap_alloc_new w _) _) _) _
  have hV0 : W.heap[w.heap.size + 1 + 1]? = some (.cells #[.int .i64 (i : Nat), .bool false, .int .i64 (k : Nat)] 137 (0, 0)) := by rw [hW]; exact heap_alloc_at (new_at (by simp) _) _
  have HG0 : Hid (w.grownBy W none) := by rw [hW]; exact gb_alloc (gb_alloc (gb_alloc (gb_alloc (gb_refl _ _) _) _) _) _
  have n0 := hB0.cell (i * 22) (by omega)
  rw [hW] at n0
  have hu0 := u8A_get (n := 92) c (show i * 22 < 92 by omega)
  have HW : Hid (W = _) := hW
  clear hW
  go_enter Tryz.func63, Tryz.ntmps63
  go_wp2_with fail
  rw [← HW.out]
  have hG0 := HG0.out
  have m0 := cell_of hM0 0 (.pointer (some ⟨pg, 0, none⟩)) rfl
  have m1 := cell_of hM0 1 (.int .i64 (model : Nat)) rfl
  have v0 := cell_of hV0 0 (.int .i64 (i : Nat)) rfl
  have p0 := gb_cell hG0 t0 (by simp)
  have p1 := gb_cell hG0 t1 (by simp)
  have k0 := gb_cell hG0 s0 (by simp)
  have k1 := gb_cell hG0 s1 (by simp)
  have k2 := gb_cell hG0 s2 (by simp)
  have k3 := gb_cell hG0 s3 (by simp)
  have k4 := gb_cell hG0 s4 (by simp)
  have hl0 := heap_lt hM0
  have hl1 := hB0.lt
  have hl2 := heap_lt hV0
  have hl3 := hZ0.lt
  have hsW := hG0.size
  have HDO : Hid (∀ W', Blk W' (w.heap.size + 1) 120 92 c → Calls Tryz.prog 97 #[.agg #[.pointer (some ⟨pg, 0, none⟩), .int .i64 (model : Nat)], .pointer (some ⟨w.heap.size + 1, 0, none⟩), .int .i64 (i : Nat), .agg #[.int .i64 (x.kind : Nat), .int .i64 (x.place : Nat), .int .i64 (x.reg : Nat), .int .i64 (x.digit : Nat), .int .i64 (x.count : Nat)]] W' fun e w' => e = .returned (.tuple #[]) ∧ Blk w' (w.heap.size + 1) 120 92 (doC model c i x) ∧ W'.grownBy w' (some (w.heap.size + 1))) := fun W' hW' => ma_do W' (w.heap.size + 1) c hW' HB.out _ model i x hm hi HX.out HN.out H8.out H8'.out HS.out
  have HB0 : Hid (Blk W (w.heap.size + 1) 120 92 c) := hB0
  have HZ0 : Hid (Blk W (w.heap.size + 1 + 1 + 1) 120 92 (fun _ => 0)) := hZ0
  clear hB0 hZ0 hM0 hV0 n0 hu0 hG0 t0 t1 s0 s1 s2 s3 s4 hz
  go_region_held3 (fun w' => w'.cell? ⟨w.heap.size, 0, none⟩ = some (.pointer (some ⟨pg, 0, none⟩)) ∧ w'.cell? ⟨w.heap.size, 1, none⟩ = some (.int .i64 (model : Nat)) ∧ w'.cell? ⟨w.heap.size + 1 + 1, 0, none⟩ = some (.int .i64 (i : Nat)) ∧ w'.cell? ⟨pg, 0, none⟩ = some (.slice (some ⟨tg, 0, none⟩) ls.length cap) ∧ w'.cell? ⟨tg, i, none⟩ = some (.slice (some ⟨sg, 0, none⟩) l.length scap) ∧ w'.cell? ⟨sg, c (i * 22) * 5, none⟩ = some (.int .i64 (x.kind : Nat)) ∧ w'.cell? ⟨sg, c (i * 22) * 5 + 1, none⟩ = some (.int .i64 (x.place : Nat)) ∧ w'.cell? ⟨sg, c (i * 22) * 5 + 2, none⟩ = some (.int .i64 (x.reg : Nat)) ∧ w'.cell? ⟨sg, c (i * 22) * 5 + 3, none⟩ = some (.int .i64 (x.digit : Nat)) ∧ w'.cell? ⟨sg, c (i * 22) * 5 + 4, none⟩ = some (.int .i64 (x.count : Nat))) (go_keep)
    (first | (go_at_call 97; refine (HDO.out _ (by exact HB0.out)).mono ?_; rintro e w2 ⟨rfl, hB2, hG2⟩; have jm0 := gb_cell hG2 m0 (by first | (simp; done) | (simp; omega)); have jm1 := gb_cell hG2 m1 (by first | (simp; done) | (simp; omega)); have jv0 := gb_cell hG2 v0 (by first | (simp; done) | (simp; omega)); have jp0 := gb_cell hG2 p0 (by first | (simp; done) | (simp; omega)); have jp1 := gb_cell hG2 p1 (by first | (simp; done) | (simp; omega)); have jk0 := gb_cell hG2 k0 (by first | (simp; done) | (simp; omega)); have jk1 := gb_cell hG2 k1 (by first | (simp; done) | (simp; omega)); have jk2 := gb_cell hG2 k2 (by first | (simp; done) | (simp; omega)); have jk3 := gb_cell hG2 k3 (by first | (simp; done) | (simp; omega)); have jk4 := gb_cell hG2 k4 (by first | (simp; done) | (simp; omega))))
  clear jm0 jm1 jv0 jp0 jp1 jk0 jk1 jk2 jk3 jk4 m0 m1 v0 p0 p1 k0 k1 k2 k3 k4
  have HB2 : Hid (Blk w2 (w.heap.size + 1) 120 92 (doC model c i x)) := hB2
  have HZ2 : Hid (Blk w2 (w.heap.size + 1 + 1 + 1) 120 92 (fun _ => 0)) := heap_gb hG2 HZ0.out (by simp; omega)
  have HG2 : Hid (w.grownBy w2 none) := gb_new (gb_drew HG0.out) hG2 (fun x e => by simp at e; omega)
  clear hB2 hG2
  go_wp2_with (first | (refine wpList_load_mid (by rfl) 120 _ (by rfl) (w.heap.size + 1) 0 (by rfl) (u8L 92 (doC model c i x)) _ HB2.out.range0 Tryz.underlying120 rfl (by rw [u8L_len]; exact HSZ.out) ?_) | (refine wpList_store_mid (by rfl) 120 _ _ (by rfl) (w.heap.size + 1 + 1 + 1) 0 (u8A 92 (doC model c i x)) (by rfl) (by rfl) (HZ2.out.there 0 _ (by rw [u8A_size]; omega)) (by rw [u8A_size]; exact HSZ.out) (u8A_all _ _) ?_))
  have HF : Hid (Blk (w2.setCells (w.heap.size + 1 + 1 + 1) 0 (u8A 92 (doC model c i x)).toList) (w.heap.size + 1 + 1 + 1) 120 92 (doC model c i x)) := HZ2.out.whole _
  exact bodyPost_ret (v := .agg (u8A 92 (doC model c i x))) (results_cell_row rfl _ _ (w.heap.size + 1 + 1 + 1) 120 (u8A 92 (doC model c i x)) (0, 0) _ (by rfl) HF.out Tryz.underlying120 rfl (by rw [u8A_size]; exact HSZ.out)) rfl ⟨rfl, gb_cells_new (by omega) _ _ _ HG2.out⟩
end Go.Proofs.YtmpaeladhoomoaaGreatDoor

namespace Go.Proofs.YtmpaeladhoomoaaGreatDoor
open Go.RowKit

def canC (c : Nat → Nat) (i : Nat) (l : List St) : Bool :=
  match l[c (i * 22)]? with
  | none => false
  | some x => if x.kind = 4 ∨ x.kind = 5 then decide (c (i * 22 + 5 + 16) = 0) else true

theorem infoThread2 : (Tryz.prog.info? 117).map (·.size) = some 22 := by kernel_rfl

set_option maxRecDepth 100000 in
set_option maxHeartbeats 4000000 in
theorem ma_canStep (w : World) (pg : Nat) (ls : List (List St)) (hP : PT w pg ls) (c : Nat → Nat) (hb : ∀ j, c j ≤ 255) (model i : Nat) (l : List St) (hl : ls[i]? = some l) (hi : i < 4) :
    Calls Tryz.prog 94 #[.agg #[.pointer (some ⟨pg, 0, none⟩), .int .i64 (model : Nat)], .agg (u8A 92 c), .int .i64 (i : Nat)] w fun e w' => e = .returned (.bool (canC c i l)) ∧ w.grownBy w' none := by
  have HSZ : Hid ((Tryz.prog.info? 117).map (·.size) = some 22) := infoThread2
  obtain ⟨ta, cap, t0, hT⟩ := hP
  obtain ⟨tg, sa, scap, rfl, t1, hl8, hT2⟩ := hT i l hl
  have hil := (List.getElem?_eq_some_iff.1 hl).1
  have hi' : (i : Int) < 4 := by omega
  have hi2 : (i : Int) < (ls.length : Int) := by omega
  have hpl := World.block_lt_of_cell? w ⟨pg, 0, none⟩ t0
  have htl := World.block_lt_of_cell? w ⟨tg, i, none⟩ t1
  obtain ⟨W, hW⟩ : ∃ W, W = (w.alloc (.cells #[.pointer (some ⟨pg, 0, none⟩), .int .i64 (model : Nat)] 76)).alloc (.cells (u8A 92 c) 120) := ⟨_, rfl⟩
  have hB0 : Blk W (w.heap.size + 1) 120 92 c := by rw [hW]; exact new_at (by simp) _
  have hM0 : W.heap[w.heap.size]? = some (.cells #[.pointer (some ⟨pg, 0, none⟩), .int .i64 (model : Nat)] 76 (0, 0)) := by rw [hW]; exact heap_alloc_at (heap_alloc_new w _) _
  have hG0 : w.grownBy W none := by rw [hW]; exact gb_alloc (gb_alloc (gb_refl _ _) _) _
  have HG0 : Hid (w.grownBy W none) := hG0
  have HW : Hid (W = _) := hW
  have HT2 : Hid (∀ (j : Nat) (x : St), l[j]? = some x → ∃ g, sa = some ⟨g, 0, none⟩ ∧ ∀ (o : Nat) (v : Value), (stCells x)[o]? = some v → w.cell? ⟨g, j * 5 + o, none⟩ = some v) := hT2
  have HB : Hid (∀ j, c j ≤ 255) := hb
  clear hW hT hT2 hl hb
  go_enter Tryz.func94, Tryz.ntmps94
  go_wp2_with fail
  rw [← HW.out]
  have m0 := cell_of hM0 0 (.pointer (some ⟨pg, 0, none⟩)) rfl
  have p0 := gb_cell hG0 t0 (by simp)
  have p1 := gb_cell hG0 t1 (by simp)
  have hl0 := heap_lt hM0
  have hl1 := hB0.lt
  have hsW := hG0.size
  have hpW : pg < W.heap.size := by omega
  have htW : tg < W.heap.size := by omega
  have hr0 := hB0.range (i * 22) 22 (by omega)
  have HB0 : Hid (Blk W (w.heap.size + 1) 120 92 c) := hB0
  clear hB0 hM0 hG0 t0 t1
  refine wp_region_held (S := fun w' => w'.cell? ⟨w.heap.size, 0, none⟩ = some (.pointer (some ⟨pg, 0, none⟩)) ∧ w'.cell? ⟨pg, 0, none⟩ = some (.slice (some ⟨tg, 0, none⟩) ls.length cap) ∧ w'.cell? ⟨tg, i, none⟩ = some (.slice sa l.length scap) ∧ w'.rangeAt (w.heap.size + 1) (i * 22) (u8L 22 fun j => c (i * 22 + j))) (by kernel_rfl) ?_
  have hS : (fun w' : World => w'.cell? ⟨w.heap.size, 0, none⟩ = some (.pointer (some ⟨pg, 0, none⟩)) ∧ w'.cell? ⟨pg, 0, none⟩ = some (.slice (some ⟨tg, 0, none⟩) ls.length cap) ∧ w'.cell? ⟨tg, i, none⟩ = some (.slice sa l.length scap) ∧ w'.rangeAt (w.heap.size + 1) (i * 22) (u8L 22 fun j => c (i * 22 + j))) W.drew := ⟨m0, p0, p1, hr0⟩
  change wpAnyH _ _ _ _ _ _ _ _ (World.drew _)
  refine wpAnyH_take (i := 0) (v := .pointer (some ⟨w.heap.size, 0, none⟩)) rfl (by kernel_rfl) (by kernel_rfl) (by kernel_rfl) (fun _ _ _ h => h) (Or.inl ⟨by rfl, fun w' hSw => by go_simp⟩) hS ?_
  simp only [Act.put, List.getElem_toArray, List.getElem_cons_zero, List.setIfInBounds_toArray, List.set_cons_zero, List.set_cons_succ]
  refine wpAnyH_take (i := 1) (v := .pointer (some ⟨pg, 0, none⟩)) rfl (by kernel_rfl) (by kernel_rfl) (by kernel_rfl) (fun _ _ _ h => h) (Or.inl ⟨by rfl, fun w' hSw => by go_simp⟩) hS ?_
  simp only [Act.put, List.getElem_toArray, List.getElem_cons_zero, List.getElem_cons_succ, List.setIfInBounds_toArray, List.set_cons_zero, List.set_cons_succ]
  refine wpAnyH_take (i := 2) (v := .pointer (some ⟨pg, 0, none⟩)) rfl (by kernel_rfl) (by kernel_rfl) (by kernel_rfl) (fun _ _ _ h => h) (Or.inl ⟨by rfl, fun w' hSw => by go_simp⟩) hS ?_
  simp only [Act.put, List.getElem_toArray, List.getElem_cons_zero, List.getElem_cons_succ, List.setIfInBounds_toArray, List.set_cons_zero, List.set_cons_succ]
  refine wpAnyH_take (i := 3) (v := .pointer (some ⟨pg, 0, none⟩)) rfl (by kernel_rfl) (by kernel_rfl) (by kernel_rfl) (fun _ _ _ h => h) (Or.inl ⟨by rfl, fun w' hSw => by go_simp⟩) hS ?_
  simp only [Act.put, List.getElem_toArray, List.getElem_cons_zero, List.getElem_cons_succ, List.setIfInBounds_toArray, List.set_cons_zero, List.set_cons_succ]
  refine wpAnyH_take (i := 4) (v := .slice (some ⟨tg, 0, none⟩) ls.length cap) rfl (by kernel_rfl) (by kernel_rfl) (by kernel_rfl) (fun _ _ _ h => h) (Or.inl ⟨by rfl, fun w' hSw => by go_simp⟩) hS ?_
  simp only [Act.put, List.getElem_toArray, List.getElem_cons_zero, List.getElem_cons_succ, List.setIfInBounds_toArray, List.set_cons_zero, List.set_cons_succ]
  refine wpAnyH_take (i := 5) (v := .int .i64 (i : Nat)) rfl (by kernel_rfl) (by kernel_rfl) (by kernel_rfl) (fun _ _ _ h => h) (Or.inl ⟨by rfl, fun w' hSw => by go_simp⟩) hS ?_
  simp only [Act.put, List.getElem_toArray, List.getElem_cons_zero, List.getElem_cons_succ, List.setIfInBounds_toArray, List.set_cons_zero, List.set_cons_succ]
  refine wpAnyH_take (i := 6) (v := .pointer (some ⟨tg, i, none⟩)) rfl (by kernel_rfl) (by kernel_rfl) (by kernel_rfl) (fun _ _ _ h => h) (Or.inl ⟨by rfl, fun w' hSw => by go_simp⟩) hS ?_
  simp only [Act.put, List.getElem_toArray, List.getElem_cons_zero, List.getElem_cons_succ, List.setIfInBounds_toArray, List.set_cons_zero, List.set_cons_succ]
  refine wpAnyH_take (i := 7) (v := .slice sa l.length scap) rfl (by kernel_rfl) (by kernel_rfl) (by kernel_rfl) (fun _ _ _ h => h) (Or.inl ⟨by rfl, fun w' hSw => by go_simp⟩) hS ?_
  simp only [Act.put, List.getElem_toArray, List.getElem_cons_zero, List.getElem_cons_succ, List.setIfInBounds_toArray, List.set_cons_zero, List.set_cons_succ]
  refine wpAnyH_take (i := 8) (v := .int .i64 (i : Nat)) rfl (by kernel_rfl) (by kernel_rfl) (by kernel_rfl) (fun _ _ _ h => h) (Or.inl ⟨by rfl, fun w' hSw => by go_simp⟩) hS ?_
  simp only [Act.put, List.getElem_toArray, List.getElem_cons_zero, List.getElem_cons_succ, List.setIfInBounds_toArray, List.set_cons_zero, List.set_cons_succ]
  refine wpAnyH_take (i := 9) (v := .pointer (some ⟨w.heap.size + 1, 0, none⟩)) rfl (by kernel_rfl) (by kernel_rfl) (by kernel_rfl) (fun _ _ _ h => h) (Or.inl ⟨by rfl, fun w' hSw => by go_simp⟩) hS ?_
  simp only [Act.put, List.getElem_toArray, List.getElem_cons_zero, List.getElem_cons_succ, List.setIfInBounds_toArray, List.set_cons_zero, List.set_cons_succ]
  refine wpAnyH_take (i := 10) (v := .pointer (some ⟨w.heap.size + 1, i * 22, none⟩)) rfl (by kernel_rfl) (by kernel_rfl) (by kernel_rfl) (fun _ _ _ h => h) (Or.inl ⟨by rfl, fun w' hSw => by go_simp⟩) hS ?_
  simp only [Act.put, List.getElem_toArray, List.getElem_cons_zero, List.getElem_cons_succ, List.setIfInBounds_toArray, List.set_cons_zero, List.set_cons_succ]
  refine wpAnyH_take (i := 11) (v := .agg (u8L 22 fun j => c (i * 22 + j)).toArray) rfl (by kernel_rfl) (by kernel_rfl) (by kernel_rfl) (fun _ _ _ h => h) (yieldsIf_load_mid (by rfl) 117 _ (by rfl) (w.heap.size + 1) (i * 22) (by rfl) _ _ (fun w' hw' => hw'.2.2.2) Tryz.underlying117 rfl (by rw [u8L_len]; exact HSZ.out)) hS ?_
  simp only [Act.put, List.getElem_toArray, List.getElem_cons_zero, List.getElem_cons_succ, List.setIfInBounds_toArray, List.set_cons_zero, List.set_cons_succ]
  generalize hA : (u8L 22 fun j => c (i * 22 + j)).toArray = A
  refine wpAnyH_ready (rs := [12]) (by kernel_rfl) (by simp) ?_
  refine AllReadyH.cons rfl (fun K hK => ?_) AllReadyH.nil
  go_simp
  obtain ⟨W1, hW1⟩ : ∃ W1, W1 = (W.alloc (.cells #[.int .u8 0, .int .u8 0, .int .u8 0, .int .u8 0, .int .u8 0, .int .u8 0, .int .u8 0, .int .u8 0, .int .u8 0, .int .u8 0, .int .u8 0, .int .u8 0, .int .u8 0, .int .u8 0, .int .u8 0, .int .u8 0, .int .u8 0, .int .u8 0, .int .u8 0, .int .u8 0, .int .u8 0, .int .u8 0] 117)).drew := ⟨_, rfl⟩
  have hg1 : W.grownBy W1 none := by rw [hW1]; exact gb_drew (gb_alloc (gb_refl _ _) _)
  have hB1 : Blk W1 W.heap.size 117 22 (fun _ => 0) := by rw [hW1]; exact heap_alloc_new W _
  rw [← hW1]
  clear hW1
  have hSat : ∀ W', W.grownBy W' none → (fun w' : World => w'.cell? ⟨w.heap.size, 0, none⟩ = some (.pointer (some ⟨pg, 0, none⟩)) ∧ w'.cell? ⟨pg, 0, none⟩ = some (.slice (some ⟨tg, 0, none⟩) ls.length cap) ∧ w'.cell? ⟨tg, i, none⟩ = some (.slice sa l.length scap) ∧ w'.rangeAt (w.heap.size + 1) (i * 22) (u8L 22 fun j => c (i * 22 + j))) W' := fun W' hg => ⟨gb_cell hg m0 (by simp), gb_cell hg p0 (by simp), gb_cell hg p1 (by simp), fun j v hv => gb_cell hg (hr0 j v hv) (by simp)⟩
  have hS1 := hSat W1 hg1
  refine hK.out _ _ hS1 (fun _ => ?_)
  refine wpAnyH_take (i := 13) (v := .slice sa l.length scap) rfl (by kernel_rfl) (by kernel_rfl) (by kernel_rfl) (fun _ _ _ h => h) (Or.inl ⟨by rfl, fun w' hSw => by go_simp⟩) hS1 ?_
  simp only [Act.put, List.getElem_toArray, List.getElem_cons_zero, List.getElem_cons_succ, List.setIfInBounds_toArray, List.set_cons_zero, List.set_cons_succ]
  refine wpAnyH_ready (rs := [14]) (by kernel_rfl) (by simp) ?_
  refine AllReadyH.cons rfl (fun K2 hK2 => ?_) AllReadyH.nil
  rw [if_pos (by rfl)]
  have hAs : A = u8A 22 fun j => c (i * 22 + j) := hA.symm
  refine wp_store_mid 117 _ _ (by rfl) W.heap.size 0 A (by rfl) (by rfl) (hB1.there 0 _ (by rw [hAs, u8A_size]; omega)) (by rw [hAs, u8A_size]; exact HSZ.out) (by rw [hAs]; exact u8A_all _ _) ?_
  have hB2 : Blk (W1.setCells W.heap.size 0 A.toList) W.heap.size 117 22 (fun j => c (i * 22 + j)) := by rw [hAs]; exact hB1.whole _
  have hg2 : W.grownBy (W1.setCells W.heap.size 0 A.toList) none := gb_cells_new (Nat.le_refl _) _ _ _ hg1
  obtain ⟨W2, hW2⟩ : ∃ W2, W2 = W1.setCells W.heap.size 0 A.toList := ⟨_, rfl⟩
  rw [← hW2] at hB2 hg2 ⊢
  refine hK2.out _ _ (hSat _ hg2) (fun _ => ?_)
  refine wpAnyH_done (by kernel_rfl) ?_ _
  simp only [Act.put, List.getElem_toArray, List.getElem_cons_zero, List.getElem_cons_succ]
  have HB2 : Hid (Blk W2 W.heap.size 117 22 (fun j => c (i * 22 + j))) := hB2
  have HG2 : Hid (w.grownBy W2 none) := gb_trans HG0.out hg2
  have n0 := hB2.cell 0 (by omega)
  simp only [Nat.add_zero] at n0
  have hl2 := hB2.lt
  have hwn := wrap_u8 (c (i * 22)) (HB.out _)
  clear hK hK2 hB2 hg2 hB1 hg1 hS1 hSat hS hW2 hA hAs m0 p0 p1 hr0
  by_cases hnx : c (i * 22) < l.length
  · have hn2 : (c (i * 22) : Int) < (l.length : Int) := by omega
    obtain ⟨x, hx⟩ : ∃ x, l[c (i * 22)]? = some x := ⟨l[c (i * 22)], List.getElem?_eq_getElem hnx⟩
    obtain ⟨sg, rfl, hst⟩ := HT2.out _ x hx
    have s0 := gb_cell HG2.out (hst 0 (.int .i64 (x.kind : Nat)) rfl) (by simp)
    simp only [Nat.add_zero] at s0
    have hsl := World.block_lt_of_cell? W2 _ s0
    have HX : Hid (l[c (i * 22)]? = some x) := hx
    clear hx hst hnx
    by_cases hk : x.kind = 4 ∨ x.kind = 5
    · have HC : Hid (canC c i l = decide (c (i * 22 + 5 + 16) = 0)) := by
        show _ = _
        unfold canC
        rw [HX.out]
        simp only
        rw [if_pos hk]
      have hE := buf_isEmpty W2 W.heap.size 5 (fun j => c (i * 22 + (5 + j))) (HB2.out.u8s 5 17 (by omega))
      have HE : Hid (Calls Tryz.prog 154 #[.pointer (some ⟨W.heap.size, 5, none⟩)] W2 fun e w' => e = .returned (.bool (decide (c (i * 22 + 5 + 16) = 0))) ∧ w' = W2) := hE
      clear hE
      rcases hk with hk | hk
      · rw [hk] at s0
        go_wp2_with fail
        refine HE.out.mono ?_
        rintro e w3 ⟨rfl, rfl⟩
        go_wp2_with fail
        go_ret
        refine ⟨?_, HG2.out⟩
        rw [HC.out]
        rfl
      · rw [hk] at s0
        go_wp2_with fail
        refine HE.out.mono ?_
        rintro e w3 ⟨rfl, rfl⟩
        go_wp2_with fail
        go_ret
        refine ⟨?_, HG2.out⟩
        rw [HC.out]
        rfl
    · have HC : Hid (canC c i l = true) := by
        show _ = _
        unfold canC
        rw [HX.out]
        simp only
        rw [if_neg hk]
      have hk4 : ((x.kind : Int) == 4) = false := by rw [beq_eq_false_iff_ne]; omega
      have hk5 : ((x.kind : Int) == 5) = false := by rw [beq_eq_false_iff_ne]; omega
      clear hk
      go_wp2_with fail
      go_ret
      refine ⟨?_, HG2.out⟩
      rw [HC.out]
      rfl
  · have hn1 : (l.length : Int) ≤ (c (i * 22) : Int) := by omega
    have HC : Hid (canC c i l = false) := by
      show _ = _
      unfold canC
      rw [List.getElem?_eq_none (by omega)]
    clear hnx
    go_wp2_with fail
    go_ret
    refine ⟨?_, HG2.out⟩
    rw [HC.out]
    rfl
end Go.Proofs.YtmpaeladhoomoaaGreatDoor

namespace Go.Proofs.YtmpaeladhoomoaaGreatDoor
open Go.RowKit

def intL (l : List Nat) : List Value := l.map fun n => .int .i64 (n : Nat)
/-- A row of numbers. -/
def IntsAt (w : World) (B : Nat) (v : Value) (l : List Nat) : Prop := ∃ (a : Option Addr) (cap : Nat), v = .slice a l.length cap ∧ ∀ (j : Nat) (x : Nat), l[j]? = some x → ∃ g, a = some ⟨g, 0, none⟩ ∧ B ≤ g ∧ w.cell? ⟨g, j, none⟩ = some (.int .i64 (x : Nat))
theorem IntsAt.of_own {w : World} {B n : Nat} {u : Value} {l : List Nat} (h : w.ownsRow B 3 1 u n (intL l)) (hn : n = l.length) : IntsAt w B u l := by
  subst hn
  rcases h.2 with ⟨rfl, h0⟩ | ⟨g, cap, cur, rfl, _, _, hcap, _⟩
  · have : l = [] := List.eq_nil_of_length_eq_zero h0
    subst this
    exact ⟨none, 0, rfl, fun j x hx => by simp at hx⟩
  · refine ⟨_, cap, rfl, fun j x hx => ⟨g, rfl, (h.lt g rfl).1, ?_⟩⟩
    have := h.cells rfl j (.int .i64 (x : Nat)) (by simp [intL, hx])
    rwa [addr_add_u, Nat.zero_add] at this
def ripeL (d : Nat → Nat) (k : Nat) : List Nat := (List.range k).filterMap fun p => oldC d p 0 (d 16)
theorem ripeL_succ (d : Nat → Nat) (k : Nat) : ripeL d (k + 1) = ripeL d k ++ (match oldC d k 0 (d 16) with | none => [] | some a => [a]) := by
  unfold ripeL
  rw [List.range_succ, List.filterMap_append]
  congr 1
  cases h : oldC d k 0 (d 16) <;> simp [h]
theorem ripeL_len (d : Nat → Nat) (k : Nat) : (ripeL d k).length ≤ k := by
  unfold ripeL
  exact Nat.le_trans (List.length_filterMap_le _ _) (by simp)
theorem own_at_u {w w' : World} {B e size n : Nat} {u : Value} {xs : List Value} (h : w.ownsRow B e size u n xs) (hk : ∀ k, u.ownBlock = some k → w'.heap[k]? = w.heap[k]?) : w'.ownsRow B e size u n xs := by
  refine ⟨h.1, ?_⟩
  rcases h.2 with hn | ⟨g, cap, cur, rfl, hB, hg, rest⟩
  · exact .inl hn
  · exact .inr ⟨g, cap, cur, rfl, hB, (hk g rfl).trans hg, rest⟩
theorem own_base_u {w : World} {B B' e size n : Nat} {u : Value} {xs : List Value} (h : w.ownsRow B e size u n xs) (hb : B' ≤ B) : w.ownsRow B' e size u n xs := by
  refine ⟨h.1, ?_⟩
  rcases h.2 with hn | ⟨g, cap, cur, rfl, hB, rest⟩
  · exact .inl hn
  · exact .inr ⟨g, cap, cur, rfl, Nat.le_trans hb hB, rest⟩
def ripeC (model : Nat) (d : Nat → Nat) : List Nat := if d 16 = 0 then [] else if model = 3 then ripeL d 4 else [0]
theorem infoIntP : (Tryz.prog.info? 3).map (fun i => (i.zero, i.size, i.bytes)) = some (some (.int .i64 0), 1, 8) := by kernel_rfl

set_option maxRecDepth 100000 in
set_option maxHeartbeats 4000000 in
theorem ma_ripe (w : World) (pv : Value) (model : Nat) (d : Nat → Nat) (hb : ∀ j, d j ≤ 255) (h8 : d 16 ≤ 8) :
    Calls Tryz.prog 95 #[.agg #[pv, .int .i64 (model : Nat)], .agg (u8A 17 d)] w fun e w' => ∃ v, e = .returned v ∧ IntsAt w' w.heap.size v (ripeC model d) ∧ w.grownBy w' none := by
  obtain ⟨ii, hii, hi0, hi1, hi2⟩ : ∃ i, Tryz.prog.info? 3 = some i ∧ i.zero = some (.int .i64 0) ∧ i.size = 1 ∧ i.bytes = 8 := by
    have := infoIntP
    cases hq : Tryz.prog.info? 3 with
    | none => rw [hq] at this; simp at this
    | some i => rw [hq] at this; simp at this; exact ⟨i, rfl, this.1, this.2.1, this.2.2⟩
  obtain ⟨W, hW⟩ : ∃ W, W = (w.alloc (.cells #[pv, .int .i64 (model : Nat)] 76)).alloc (.cells (u8A 17 d) 115) := ⟨_, rfl⟩
  have hB0 : Blk W (w.heap.size + 1) 115 17 d := by rw [hW]; exact new_at (by simp) _
  have hM0 : W.heap[w.heap.size]? = some (.cells #[pv, .int .i64 (model : Nat)] 76 (0, 0)) := by rw [hW]; exact heap_alloc_at (heap_alloc_new w _) _
  have hG0 : w.grownBy W none := by rw [hW]; exact gb_alloc (gb_alloc (gb_refl _ _) _) _
  have HW : Hid (W = (w.alloc (.cells #[pv, .int .i64 (model : Nat)] 76)).alloc (.cells (u8A 17 d) 115)) := hW
  have HG0 : Hid (w.grownBy W none) := hG0
  have m1 := cell_of hM0 1 (.int .i64 (model : Nat)) rfl
  have hlM := heap_lt hM0
  have HM0 : Hid (W.heap[w.heap.size]? = some (.cells #[pv, .int .i64 (model : Nat)] 76 (0, 0))) := hM0
  have HB0 : Hid (Blk W (w.heap.size + 1) 115 17 d) := hB0
  have hE := buf_isEmpty W (w.heap.size + 1) 0 d (by have := hB0.u8s 0 17 (by omega); simpa using this)
  have HE : Hid (Calls Tryz.prog 154 #[.pointer (some ⟨w.heap.size + 1, 0, none⟩)] W fun e w' => e = .returned (.bool (decide (d 16 = 0))) ∧ w' = W) := hE
  have HB : Hid (∀ j, d j ≤ 255) := hb
  have H8 : Hid (d 16 ≤ 8) := h8
  have hlB := hB0.lt
  clear hE hW hM0 hG0 hB0 hb h8
  go_enter Tryz.func95, Tryz.ntmps95
  go_wp2_with fail
  rw [← HW.out]
  refine HE.out.mono ?_
  rintro e w1 ⟨rfl, rfl⟩
  by_cases h0 : d 16 = 0
  · have HR : Hid (ripeC model d = []) := by show _ = _; unfold ripeC; rw [if_pos h0]
    simp only [h0, decide_true]
    go_wp2_with fail
    go_ret
    refine ⟨_, rfl, ?_, HG0.out⟩
    rw [HR.out]
    exact ⟨none, 0, rfl, fun j x hx => by simp at hx⟩
  · simp only [h0, decide_false]
    by_cases h3 : model = 3
    · have h3' : ((model : Int) != 3) = false := by simp; omega
      have HR : Hid (ripeC model d = ripeL d 4) := by show _ = _; unfold ripeC; rw [if_neg h0, if_pos h3]
      clear h0 h3
      go_wp2_with fail
      clear m1 h3'
      go_loopw [5, 14] (fun v5 v14 wr => ∃ (k : Nat) (oa : Option Addr) (cap n : Nat), v14 = .int .i64 (k : Nat) ∧ k ≤ 4 ∧ v5 = .slice oa n cap ∧ n ≤ k ∧ Hid (n = (ripeL d k).length) ∧ Hid (w.grownBy wr none) ∧ Hid (Blk wr (w.heap.size + 1) 115 17 d) ∧ Hid (wr.ownsRow (w.heap.size + 1 + 1) 3 1 (.slice oa n cap) n (intL (ripeL d k)))) (fun _ v14 _ => 4 - (intOf v14).toNat)
      case atStart => exact ⟨0, none, 0, 0, rfl, by omega, rfl, by omega, rfl, HG0.out, HB0.out, World.ownsRow_nil _ _ _ _⟩
      case round =>
        obtain ⟨k, oa, cap, n, rfl, hk, rfl, hnk, HN, HG, HBr, HO⟩ := hrel
        by_cases hk4 : k < 4
        · have hk4' : decide ((k : Int) < 4) = true := by simp; omega
          have hlr := HBr.out.lt
          have HOL : Hid (Calls Tryz.prog 155 #[.pointer (some ⟨w.heap.size + 1, 0, none⟩), .int .i64 (k : Nat)] wr fun e w' => e = .returned (oldV (oldC d k 0 (d 16))) ∧ wr.grownBy w' none) := buf_oldest wr (w.heap.size + 1) 0 d (by have := HBr.out.u8s 0 17 (by omega); simpa using this) HB.out H8.out k
          go_wp2_with fail
          refine HOL.out.mono ?_
          rintro e w2 ⟨rfl, hg2⟩
          have hs2 := hg2.size
          have HG2 : Hid (w.grownBy w2 none) := gb_trans HG.out hg2
          have HB2 : Hid (Blk w2 (w.heap.size + 1) 115 17 d) := HBr.out.gb hg2 (by simp)
          have HO2 : Hid (w2.ownsRow (w.heap.size + 1 + 1) 3 1 (.slice oa n cap) n (intL (ripeL d k))) := own_at_u HO.out (fun x hx => hg2.block x (HO.out.lt x hx).2 (by simp))
          have hs0 := HG2.out.size
          have hl2 := HB2.out.lt
          clear hg2
          cases ho : oldC d k 0 (d 16) with
          | none =>
            have HS : Hid (ripeL d (k + 1) = ripeL d k) := by show _ = _; rw [ripeL_succ, ho]; simp
            unfold oldV
            simp only [Option.getD_none, Option.isSome_none]
            clear ho
            go_wp2_with fail
            refine ⟨⟨k + 1, oa, cap, n, by go_num, by omega, rfl, by omega, ?_, HG2.out, HB2.out, ?_⟩, by simp [intOf]; omega⟩
            · show _ = _; rw [HS.out]; exact HN.out
            · show World.ownsRow _ _ _ _ _ _ _; rw [HS.out]; exact HO2.out
          | some x =>
            have HS : Hid (ripeL d (k + 1) = ripeL d k ++ [x]) := by show _ = _; rw [ripeL_succ, ho]
            unfold oldV
            simp only [Option.getD_some, Option.isSome_some]
            clear ho
            go_wp2_with (at_builtin; go_must (refine wpList_append_lies _ (by rfl) _ _ 24 (by rfl) (w.heap.size + 1 + 1) 3 ii _ 1 8 Tryz.underlying24 hii hi0 hi1 hi2 rfl (by decide) (.slice oa n cap) n (intL (ripeL d k)) (by rfl) (own_at_u HO2.out (fun y hy => Below.heap_alloc _ _ _ (HO2.out.lt y hy).2)) ⟨w2.heap.size, 0, none⟩ 1 1 [.int .i64 (x : Nat)] (by rfl) (by rfl) (World.news_of_block (new_at (by simp) _)) (fun u hu => by simp at hu; rw [hu]; rfl) (by decide) (by unfold maxLen; omega) (by omega) (by simp; omega) (w2.heap.size + 1) (by simp) ?_; intro g4 cap4 w4 hown4 hgrow4 hat4 hlt4))
            refine ⟨⟨k + 1, some ⟨g4, 0, none⟩, cap4, n + 1, by go_num, by omega, rfl, by omega, ?_, ?_, ?_, ?_⟩, by simp [intOf]; omega⟩
            · show _ = _; rw [HS.out, List.length_append, ← HN.out]; rfl
            · exact gb_new (gb_alloc HG2.out _) hgrow4 (fun y e => Or.inr (by have := (HO2.out.lt y e).1; omega))
            · exact heap_gb hgrow4 (HB2.out.alloc _) (fun e => by have := (HO2.out.lt _ e.symm).1; omega)
            · show World.ownsRow _ _ _ _ _ _ _
              rw [HS.out]
              unfold intL at hown4 ⊢
              rw [List.map_append]
              exact hown4
        · have hk4' : decide ((k : Int) < 4) = false := by simp; omega
          have hke : k = 4 := by omega
          subst hke
          go_wp2_with fail
          go_ret
          refine ⟨_, rfl, ?_, HG.out⟩
          rw [HR.out]
          exact IntsAt.of_own (own_base_u HO.out (by omega)) HN.out
    · have h3' : ((model : Int) != 3) = true := by simp; omega
      have HR : Hid (ripeC model d = [0]) := by show _ = _; unfold ripeC; rw [if_neg h0, if_neg h3]
      clear h0 h3
      go_wp2_with fail
      go_ret
      refine ⟨_, rfl, ?_, ?_⟩
      · rw [HR.out]
        refine ⟨_, _, rfl, fun j x hx => ⟨_, rfl, by omega, ?_⟩⟩
        cases j with
        | zero =>
          simp at hx
          subst hx
          exact cell_of (heap_alloc_new _ _) 0 _ rfl
        | succ j => simp at hx
      · exact gb_alloc HG0.out _
end Go.Proofs.YtmpaeladhoomoaaGreatDoor

namespace Go.Proofs.YtmpaeladhoomoaaGreatDoor
open Go.RowKit

/-- A move: a thread's step, or the store of a thread that goes to memory. -/
def mvC (m : Nat × Option Nat) : List Value := [.int .i64 (m.1 : Nat), .bool m.2.isSome, .int .i64 (m.2.getD 0 : Nat)]
def mvF (l : List (Nat × Option Nat)) : List Value := l.flatMap mvC
theorem mvF_len (l : List (Nat × Option Nat)) : (mvF l).length = l.length * 3 := by
  induction l with
  | nil => rfl
  | cons x r ih => show (mvC x ++ mvF r).length = _; rw [List.length_append, ih]; simp [mvC]; omega
theorem mvF_app (a b : List (Nat × Option Nat)) : mvF (a ++ b) = mvF a ++ mvF b := by simp [mvF]
theorem mvF_get : ∀ (l : List (Nat × Option Nat)) (i o : Nat) (x : Nat × Option Nat), l[i]? = some x → o < 3 → (mvF l)[i * 3 + o]? = (mvC x)[o]? := by
  intro l
  induction l with
  | nil => intro i o x h; simp at h
  | cons y r ih =>
    intro i o x h ho
    have hl : (mvC y).length = 3 := rfl
    cases i with
    | zero =>
      simp at h
      subst h
      show (mvC y ++ mvF r)[0 * 3 + o]? = _
      rw [List.getElem?_append_left (by rw [hl]; omega)]
      simp
    | succ i =>
      simp at h
      show (mvC y ++ mvF r)[(i + 1) * 3 + o]? = _
      rw [List.getElem?_append_right (by rw [hl]; omega), hl, show (i + 1) * 3 + o - 3 = i * 3 + o from by omega]
      exact ih i o x h ho
/-- Moves, as they lie. -/
def MovesAt (w : World) (v : Value) (l : List (Nat × Option Nat)) : Prop := ∃ (a : Option Addr) (cap : Nat), v = .slice a l.length cap ∧ ∀ (j : Nat) (x : Nat × Option Nat), l[j]? = some x → ∃ g, a = some ⟨g, 0, none⟩ ∧ ∀ (o : Nat) (u : Value), (mvC x)[o]? = some u → w.cell? ⟨g, j * 3 + o, none⟩ = some u
theorem MovesAt.of_own {w : World} {B n : Nat} {u : Value} {l : List (Nat × Option Nat)} (h : w.ownsRow B 137 3 u n (mvF l)) (hn : n = l.length) : MovesAt w u l := by
  subst hn
  rcases h.2 with ⟨rfl, h0⟩ | ⟨g, cap, cur, rfl, _, _, hcap, _⟩
  · have : l = [] := List.eq_nil_of_length_eq_zero h0
    subst this
    exact ⟨none, 0, rfl, fun j x hx => by simp at hx⟩
  · refine ⟨_, cap, rfl, fun j x hx => ⟨g, rfl, fun o v ho => ?_⟩⟩
    have ho3 := (List.getElem?_eq_some_iff.1 ho).1
    have := h.cells rfl (j * 3 + o) v ((mvF_get l j o x hx ho3).trans ho)
    rwa [addr_add_u, Nat.zero_add] at this
theorem MovesAt.grow {w w' : World} {v : Value} {l : List (Nat × Option Nat)} (h : MovesAt w v l) (hg : w.grownBy w' none) : MovesAt w' v l := by
  obtain ⟨a, cap, e, h⟩ := h
  refine ⟨a, cap, e, fun j x hx => ?_⟩
  obtain ⟨g, h1, h2⟩ := h j x hx
  exact ⟨g, h1, fun o u hu => gb_cell hg (h2 o u hu) (by simp)⟩
/-- The moves of a thread, of the first threads. -/
def mvT (model : Nat) (c : Nat → Nat) (i : Nat) (l : List St) : List (Nat × Option Nat) := (if canC c i l = true then [(i, none)] else []) ++ (ripeC model fun j => c (i * 22 + 5 + j)).map fun a => (i, some a)
def movesL (model : Nat) (c : Nat → Nat) (ls : List (List St)) (k : Nat) : List (Nat × Option Nat) := (List.range k).flatMap fun i => mvT model c i (ls.getD i [])
theorem movesL_succ (model : Nat) (c : Nat → Nat) (ls : List (List St)) (k : Nat) (l : List St) (h : ls[k]? = some l) : movesL model c ls (k + 1) = movesL model c ls k ++ mvT model c k l := by
  unfold movesL
  rw [List.range_succ, List.flatMap_append]
  simp [List.getD_eq_getElem?_getD, h]
theorem ripeC_len (model : Nat) (d : Nat → Nat) : (ripeC model d).length ≤ 4 := by
  unfold ripeC
  split
  · simp
  · split
    · exact ripeL_len d 4
    · simp
theorem mvT_len (model : Nat) (c : Nat → Nat) (i : Nat) (l : List St) : (mvT model c i l).length ≤ 5 := by
  have := ripeC_len model fun j => c (i * 22 + 5 + j)
  unfold mvT
  rw [List.length_append, List.length_map]
  split <;> simp <;> omega
theorem infoMove : (Tryz.prog.info? 137).map (fun i => (i.zero, i.size, i.bytes)) = some (some (.agg #[.int .i64 0, .bool false, .int .i64 0]), 3, 24) := by kernel_rfl
theorem infoBuf : (Tryz.prog.info? 115).map (·.size) = some 17 := by kernel_rfl
theorem stSize : (Tryz.prog.info? 120).map (·.size) = some 92 := (zero_of_info (P := Tryz.prog) infoState).2

set_option maxRecDepth 100000 in
set_option maxHeartbeats 8000000 in
theorem ma_moves (w : World) (pg : Nat) (ls : List (List St)) (hP : PT w pg ls) (c : Nat → Nat) (hb : ∀ j, c j ≤ 255) (model : Nat) (hls : ls.length ≤ 4) (h8 : ∀ i, i < 4 → c (i * 22 + 5 + 16) ≤ 8) :
    Calls Tryz.prog 62 #[.agg #[.pointer (some ⟨pg, 0, none⟩), .int .i64 (model : Nat)], .agg (u8A 92 c)] w fun e w' => ∃ v, e = .returned v ∧ MovesAt w' v (movesL model c ls ls.length) ∧ w.grownBy w' none := by
  obtain ⟨im, him, hm0, hm1, hm2⟩ : ∃ i, Tryz.prog.info? 137 = some i ∧ i.zero = some (.agg #[.int .i64 0, .bool false, .int .i64 0]) ∧ i.size = 3 ∧ i.bytes = 24 := by
    have := infoMove
    cases hq : Tryz.prog.info? 137 with
    | none => rw [hq] at this; simp at this
    | some i => rw [hq] at this; simp at this; exact ⟨i, rfl, this.1, this.2.1, this.2.2⟩
  have HP : Hid (PT w pg ls) := hP
  obtain ⟨ta, tcap, t0, _⟩ := hP
  have hpl := World.block_lt_of_cell? w ⟨pg, 0, none⟩ t0
  obtain ⟨W, hW⟩ : ∃ W, W = (w.alloc (.cells #[.pointer (some ⟨pg, 0, none⟩), .int .i64 (model : Nat)] 76)).alloc (.cells (u8A 92 c) 120) := ⟨_, rfl⟩
  have hB0 : Blk W (w.heap.size + 1) 120 92 c := by rw [hW]; exact new_at (by simp) _
  have hM0 : W.heap[w.heap.size]? = some (.cells #[.pointer (some ⟨pg, 0, none⟩), .int .i64 (model : Nat)] 76 (0, 0)) := by rw [hW]; exact heap_alloc_at (heap_alloc_new w _) _
  have HG0 : Hid (w.grownBy W none) := by rw [hW]; exact gb_alloc (gb_alloc (gb_refl _ _) _) _
  have HW : Hid (W = (w.alloc (.cells #[.pointer (some ⟨pg, 0, none⟩), .int .i64 (model : Nat)] 76)).alloc (.cells (u8A 92 c) 120)) := hW
  have HM0 : Hid (W.heap[w.heap.size]? = some (.cells #[.pointer (some ⟨pg, 0, none⟩), .int .i64 (model : Nat)] 76 (0, 0))) := hM0
  have HB0 : Hid (Blk W (w.heap.size + 1) 120 92 c) := hB0
  have HB : Hid (∀ j, c j ≤ 255) := hb
  have H8 : Hid (∀ i, i < 4 → c (i * 22 + 5 + 16) ≤ 8) := h8
  clear hW hM0 hB0 hb h8
  go_enter Tryz.func62, Tryz.ntmps62
  go_wp2_with fail
  rw [← HW.out]
  go_loopw [5, 15] (fun v5 v15 wr => ∃ (i : Nat) (oa : Option Addr) (cap n : Nat), v15 = .int .i64 (i : Nat) ∧ i ≤ ls.length ∧ v5 = .slice oa n cap ∧ n ≤ 5 * i ∧ Hid (n = (movesL model c ls i).length) ∧ Hid (w.grownBy wr none) ∧ Hid (Blk wr (w.heap.size + 1) 120 92 c) ∧ Hid (wr.heap[w.heap.size]? = some (.cells #[.pointer (some ⟨pg, 0, none⟩), .int .i64 (model : Nat)] 76 (0, 0))) ∧ Hid (wr.ownsRow (w.heap.size + 1 + 1) 137 3 (.slice oa n cap) n (mvF (movesL model c ls i)))) (fun _ v15 _ => ls.length - (intOf v15).toNat)
  case atStart => exact ⟨0, none, 0, 0, rfl, by omega, rfl, by omega, rfl, HG0.out, HB0.out, HM0.out, World.ownsRow_nil _ _ _ _⟩
  case round =>
    obtain ⟨i, oa, cap, n, rfl, hi, rfl, hn5, HN, HG, HBr, HMr, HO⟩ := hrel
    by_cases hil : i < ls.length
    · have hil' : decide ((i : Int) < (ls.length : Int)) = true := by simp; omega
      obtain ⟨l, hl⟩ : ∃ l, ls[i]? = some l := ⟨ls[i], List.getElem?_eq_getElem hil⟩
      have hi4 : i < 4 := by omega
      have hi4' : (i : Int) < 4 := by omega
      have HL : Hid (ls[i]? = some l) := hl
      have m0 := cell_of HMr.out 0 (.pointer (some ⟨pg, 0, none⟩)) rfl
      have m1 := cell_of HMr.out 1 (.int .i64 (model : Nat)) rfl
      have hlM := heap_lt HMr.out
      have hlB := HBr.out.lt
      have HCS : Hid (Calls Tryz.prog 94 #[.agg #[.pointer (some ⟨pg, 0, none⟩), .int .i64 (model : Nat)], .agg (u8A 92 c), .int .i64 (i : Nat)] wr fun e w' => e = .returned (.bool (canC c i l)) ∧ wr.grownBy w' none) := ma_canStep wr pg ls (HP.out.grow HG.out) c HB.out model i l hl hi4
      clear hl t0
      go_wp2_with (refine wpList_load_mid (by rfl) 120 _ (by rfl) (w.heap.size + 1) 0 (by rfl) (u8L 92 c) _ HBr.out.range0 Tryz.underlying120 rfl (by rw [u8L_len]; exact stSize) ?_)
      refine HCS.out.mono ?_
      rintro e w2 ⟨rfl, hg2⟩
      have HG2 : Hid (w.grownBy w2 none) := gb_trans HG.out hg2
      have HB2 : Hid (Blk w2 (w.heap.size + 1) 120 92 c) := HBr.out.gb hg2 (by simp)
      have HM2 : Hid (w2.heap[w.heap.size]? = some (.cells #[.pointer (some ⟨pg, 0, none⟩), .int .i64 (model : Nat)] 76 (0, 0))) := heap_gb hg2 HMr.out (by simp)
      have HO2 : Hid (w2.ownsRow (w.heap.size + 1 + 1) 137 3 (.slice oa n cap) n (mvF (movesL model c ls i))) := own_at_u HO.out (fun x hx => hg2.block x (HO.out.lt x hx).2 (by simp))
      have hs2 := HG2.out.size
      have hl2 := HB2.out.lt
      clear hg2 m0 m1
      cases hc : canC c i l with
      | false =>
        have HMT : Hid (mvT model c i l = (ripeC model fun j => c (i * 22 + 5 + j)).map fun a => (i, some a)) := by show _ = _; unfold mvT; rw [hc]; simp
        clear hc
        go_wp2_with fail
        obtain ⟨L1, hL1⟩ : ∃ L1, L1 = movesL model c ls i := ⟨_, rfl⟩
        have HN1 : Hid (n = L1.length) := by show _ = _; rw [hL1]; exact HN.out
        have hn1 : n ≤ 5 * i + 1 := by omega
        have HO3 : Hid (w2.ownsRow (w.heap.size + 1 + 1) 137 3 (.slice oa n cap) n (mvF L1)) := by rw [hL1]; exact HO2.out
        have HMV : Hid (movesL model c ls (i + 1) = L1 ++ (ripeC model fun j => c (i * 22 + 5 + j)).map fun a => (i, some a)) := by show _ = _; rw [movesL_succ model c ls i l HL.out, HMT.out, hL1]
        have HG3 := HG2
        have HB3 := HB2
        have HM3 := HM2
        clear HG2 HB2 HM2 HO2 HN HO HG HBr HMr HMT hL1
        rename World => w3
        have hS : (fun w' : World => w'.cell? ⟨w.heap.size, 0, none⟩ = some (.pointer (some ⟨pg, 0, none⟩)) ∧ w'.cell? ⟨w.heap.size, 1, none⟩ = some (.int .i64 (model : Nat)) ∧ w'.rangeAt (w.heap.size + 1) (i * 22 + 5) (u8L 17 fun j => c (i * 22 + 5 + j))) w3.drew := ⟨cell_of HM3.out 0 _ rfl, cell_of HM3.out 1 _ rfl, HB3.out.range (i * 22 + 5) 17 (by omega)⟩
        have hSat : ∀ W', w3.grownBy W' none → (fun w' : World => w'.cell? ⟨w.heap.size, 0, none⟩ = some (.pointer (some ⟨pg, 0, none⟩)) ∧ w'.cell? ⟨w.heap.size, 1, none⟩ = some (.int .i64 (model : Nat)) ∧ w'.rangeAt (w.heap.size + 1) (i * 22 + 5) (u8L 17 fun j => c (i * 22 + 5 + j))) W' := fun W' hg => ⟨gb_cell hg (cell_of HM3.out 0 _ rfl) (by simp), gb_cell hg (cell_of HM3.out 1 _ rfl) (by simp), fun j v hv => gb_cell hg (HB3.out.range (i * 22 + 5) 17 (by omega) j v hv) (by simp)⟩
        have hs3 := HG3.out.size
        have hl3 := HB3.out.lt
        have hl3' := heap_lt HM3.out
        refine wp_region_held (S := fun w' => w'.cell? ⟨w.heap.size, 0, none⟩ = some (.pointer (some ⟨pg, 0, none⟩)) ∧ w'.cell? ⟨w.heap.size, 1, none⟩ = some (.int .i64 (model : Nat)) ∧ w'.rangeAt (w.heap.size + 1) (i * 22 + 5) (u8L 17 fun j => c (i * 22 + 5 + j))) (by kernel_rfl) ?_
        change wpAnyH _ _ _ _ _ _ _ _ (World.drew _)
        refine wpAnyH_take (i := 0) (v := .agg #[.pointer (some ⟨pg, 0, none⟩), .int .i64 (model : Nat)]) rfl (by kernel_rfl) (by kernel_rfl) (by kernel_rfl) (fun _ _ _ h => h) (Or.inl ⟨by rfl, fun w' hSw => by go_simp⟩) hS ?_
        simp only [Act.put, List.getElem_toArray, List.getElem_cons_zero, List.setIfInBounds_toArray, List.set_cons_zero, List.set_cons_succ]
        refine wpAnyH_take (i := 1) (v := .int .i64 (i : Nat)) rfl (by kernel_rfl) (by kernel_rfl) (by kernel_rfl) (fun _ _ _ h => h) (Or.inl ⟨by rfl, fun w' hSw => by go_simp⟩) hS ?_
        simp only [Act.put, List.getElem_toArray, List.getElem_cons_zero, List.getElem_cons_succ, List.setIfInBounds_toArray, List.set_cons_zero, List.set_cons_succ]
        refine wpAnyH_take (i := 2) (v := .pointer (some ⟨w.heap.size + 1, 0, none⟩)) rfl (by kernel_rfl) (by kernel_rfl) (by kernel_rfl) (fun _ _ _ h => h) (Or.inl ⟨by rfl, fun w' hSw => by go_simp⟩) hS ?_
        simp only [Act.put, List.getElem_toArray, List.getElem_cons_zero, List.getElem_cons_succ, List.setIfInBounds_toArray, List.set_cons_zero, List.set_cons_succ]
        refine wpAnyH_take (i := 3) (v := .pointer (some ⟨w.heap.size + 1, i * 22, none⟩)) rfl (by kernel_rfl) (by kernel_rfl) (by kernel_rfl) (fun _ _ _ h => h) (Or.inl ⟨by rfl, fun w' hSw => by go_simp⟩) hS ?_
        simp only [Act.put, List.getElem_toArray, List.getElem_cons_zero, List.getElem_cons_succ, List.setIfInBounds_toArray, List.set_cons_zero, List.set_cons_succ]
        refine wpAnyH_take (i := 4) (v := .pointer (some ⟨w.heap.size + 1, i * 22 + 5, none⟩)) rfl (by kernel_rfl) (by kernel_rfl) (by kernel_rfl) (fun _ _ _ h => h) (Or.inl ⟨by rfl, fun w' hSw => by go_simp⟩) hS ?_
        simp only [Act.put, List.getElem_toArray, List.getElem_cons_zero, List.getElem_cons_succ, List.setIfInBounds_toArray, List.set_cons_zero, List.set_cons_succ]
        refine wpAnyH_take (i := 5) (v := .agg (u8L 17 fun j => c (i * 22 + 5 + j)).toArray) rfl (by kernel_rfl) (by kernel_rfl) (by kernel_rfl) (fun _ _ _ h => h) (yieldsIf_load_mid (by rfl) 115 _ (by rfl) (w.heap.size + 1) (i * 22 + 5) (by rfl) _ _ (fun w' hw' => hw'.2.2) Tryz.underlying115 rfl (by rw [u8L_len]; exact infoBuf)) hS ?_
        simp only [Act.put, List.getElem_toArray, List.getElem_cons_zero, List.getElem_cons_succ, List.setIfInBounds_toArray, List.set_cons_zero, List.set_cons_succ]
        refine wpAnyH_take (i := 8) (v := .int .i64 0) rfl (by kernel_rfl) (by kernel_rfl) (by kernel_rfl) (fun _ _ _ h => h) (Or.inl ⟨by rfl, fun w' hSw => by go_simp⟩) hS ?_
        simp only [Act.put, List.getElem_toArray, List.getElem_cons_zero, List.getElem_cons_succ, List.setIfInBounds_toArray, List.set_cons_zero, List.set_cons_succ]
        refine wpAnyH_ready (rs := [6]) (by kernel_rfl) (by simp) ?_
        refine AllReadyH.cons rfl (fun K hK => ?_) AllReadyH.nil
        rw [if_pos (by rfl)]
        obtain ⟨R, HR⟩ : ∃ R, Hid (R = ripeC model fun j => c (i * 22 + 5 + j)) := ⟨_, rfl⟩
        have hR4 : R.length ≤ 4 := by rw [HR.out]; exact ripeC_len _ _
        have HRP : Hid (∀ W', Calls Tryz.prog 95 #[.agg #[.pointer (some ⟨pg, 0, none⟩), .int .i64 (model : Nat)], .agg (u8L 17 fun j => c (i * 22 + 5 + j)).toArray] W' fun e w' => ∃ v, e = .returned v ∧ IntsAt w' W'.heap.size v R ∧ W'.grownBy w' none) := fun W' => by rw [HR.out]; exact ma_ripe W' _ model (fun j => c (i * 22 + 5 + j)) (fun j => HB.out _) (H8.out i hi4)
        go_wp2_with fail
        refine (HRP.out _).mono ?_
        rintro e w5 ⟨rv, rfl, ⟨ra, rcap, rfl, hri⟩, hg5⟩
        have hg5' : w3.grownBy w5 none := gb_trans (gb_drew (gb_refl w3 none)) hg5
        go_wp2_with fail
        refine hK.out _ _ (hSat _ hg5') (fun _ => ?_)
        refine wpAnyH_take (i := 7) (v := .int .i64 (R.length : Nat)) rfl (by kernel_rfl) (by kernel_rfl) (by kernel_rfl) (fun _ _ _ h => h) (Or.inl ⟨by rfl, fun w' hSw => by go_simp⟩) (hSat _ hg5') ?_
        simp only [Act.put, List.getElem_toArray, List.getElem_cons_zero, List.getElem_cons_succ, List.setIfInBounds_toArray, List.set_cons_zero, List.set_cons_succ]
        refine wpAnyH_done (by kernel_rfl) ?_ _
        have HG5 : Hid (w.grownBy w5 none) := gb_trans HG3.out hg5'
        have HB5 : Hid (Blk w5 (w.heap.size + 1) 120 92 c) := HB3.out.gb hg5' (by simp)
        have HM5 : Hid (w5.heap[w.heap.size]? = some (.cells #[.pointer (some ⟨pg, 0, none⟩), .int .i64 (model : Nat)] 76 (0, 0))) := heap_gb hg5' HM3.out (by simp)
        have HO5 : Hid (w5.ownsRow (w.heap.size + 1 + 1) 137 3 (.slice oa n cap) n (mvF L1)) := own_at_u HO3.out (fun x hx => hg5'.block x (HO3.out.lt x hx).2 (by simp))
        have HRI : Hid (∀ (j : Nat) (x : Nat), R[j]? = some x → ∃ g, ra = some ⟨g, 0, none⟩ ∧ w3.heap.size ≤ g ∧ w5.cell? ⟨g, j, none⟩ = some (.int .i64 (x : Nat))) := hri
        have hs5 := HG5.out.size
        have H3L : Hid (∀ x, (Value.slice oa n cap).ownBlock = some x → x < w3.heap.size) := fun x hx => (HO3.out.lt x hx).2
        clear hK hS hSat hg5 hg5' hri HRP HCS HG3 HB3 HM3 HO3 hs3 hl3 hl3'
        have HO3L : Hid (∀ x, (Value.slice oa n cap).ownBlock = some x → x < w3.heap.size ∨ w5.heap.size ≤ x) := fun x hx => Or.inl (H3L.out x hx)
        go_wp2_with fail
        go_loopw [5, 35] (fun v5 v35 wq => ∃ (j : Nat) (ob : Option Addr) (cb nb : Nat), v35 = .int .i64 (j : Nat) ∧ j ≤ R.length ∧ v5 = .slice ob nb cb ∧ nb ≤ 100 ∧ Hid (nb = n + j) ∧ w5.heap.size ≤ wq.heap.size ∧ Hid (w.grownBy wq none) ∧ Hid (Blk wq (w.heap.size + 1) 120 92 c) ∧ Hid (wq.heap[w.heap.size]? = some (.cells #[.pointer (some ⟨pg, 0, none⟩), .int .i64 (model : Nat)] 76 (0, 0))) ∧ Hid (∀ g, w3.heap.size ≤ g → g < w5.heap.size → wq.heap[g]? = w5.heap[g]?) ∧ Hid (∀ x, (Value.slice ob nb cb).ownBlock = some x → x < w3.heap.size ∨ w5.heap.size ≤ x) ∧ Hid (wq.ownsRow (w.heap.size + 1 + 1) 137 3 (.slice ob nb cb) nb (mvF (L1 ++ (R.take j).map fun a => (i, some a))))) (fun _ v35 _ => R.length - (intOf v35).toNat)
        case atStart => exact ⟨0, oa, cap, n, rfl, by omega, rfl, by omega, rfl, Nat.le_refl _, HG5.out, HB5.out, HM5.out, fun _ _ _ => rfl, HO3L.out, by show World.ownsRow _ _ _ _ _ _ _; simpa using HO5.out⟩
        case round =>
          rename World => wq
          obtain ⟨j, ob, cb, nb, rfl, hj, rfl, hnb, HNB, hszq, HGq, HBq, HMq, HKq, HOB, HOq⟩ := hrel
          have hlq := HBq.out.lt
          have hlq' := heap_lt HMq.out
          by_cases hjR : j < R.length
          · have hjR' : decide ((j : Int) < (R.length : Int)) = true := by simp; omega
            have hjR2 : (j : Int) < (R.length : Int) := by omega
            obtain ⟨x, hx⟩ : ∃ x, R[j]? = some x := ⟨R[j], List.getElem?_eq_getElem hjR⟩
            obtain ⟨rg, rfl, hrg, hrc⟩ := HRI.out j x hx
            have hrl : rg < w5.heap.size := World.block_lt_of_cell? w5 _ hrc
            have rc : wq.cell? ⟨rg, j, none⟩ = some (.int .i64 (x : Nat)) := (cell_same (HKq.out rg hrg hrl) _).trans hrc
            have hrlq : rg < wq.heap.size := by omega
            have HTK : Hid (R.take (j + 1) = R.take j ++ [x]) := by show _ = _; rw [List.take_add_one, hx]; rfl
            clear hx hrc
            go_wp2_with (at_builtin; go_must (refine wpList_append_lies _ (by rfl) _ _ 133 (by rfl) (w.heap.size + 1 + 1) 137 im _ 3 24 Tryz.underlying133 him hm0 hm1 hm2 rfl (by decide) (.slice ob nb cb) nb (mvF (L1 ++ (R.take j).map fun a => (i, some a))) (by rfl) (own_at_u HOq.out (fun y hy => Below.heap_alloc _ _ _ (HOq.out.lt y hy).2)) ⟨wq.heap.size, 0, none⟩ 1 1 [.int .i64 (i : Nat), .bool true, .int .i64 (x : Nat)] (by rfl) (by rfl) (World.news_of_block (new_at (by simp) _)) (fun u hu => by simp at hu; rcases hu with rfl | rfl | rfl <;> rfl) (by decide) (by unfold maxLen; omega) (by omega) (by simp; omega) (wq.heap.size + 1) (by simp) ?_; intro g6 cap6 w6 hown6 hgrow6 hat6 hlt6))
            have hs6 := hgrow6.size
            simp only [World.size_alloc] at hs6
            refine ⟨⟨j + 1, some ⟨g6, 0, none⟩, cap6, nb + 1, by go_num, by omega, rfl, by have := HNB.out; omega, (show nb + 1 = n + (j + 1) by have := HNB.out; omega), by omega, ?_, ?_, ?_, ?_, ?_, ?_⟩, by simp [intOf]; omega⟩
            · exact gb_new (gb_alloc HGq.out _) hgrow6 (fun y e => Or.inr (by have := (HOq.out.lt y e).1; omega))
            · exact heap_gb hgrow6 (HBq.out.alloc _) (fun e => by have := (HOq.out.lt _ e.symm).1; omega)
            · exact heap_gb hgrow6 (heap_alloc_at HMq.out _) (fun e => by have := (HOq.out.lt _ e.symm).1; omega)
            · intro g h1 h2
              rw [hgrow6.block g (by simp; omega) (fun e => by rcases HOB.out g e.symm with h | h <;> omega), Below.heap_alloc _ _ _ (by omega)]
              exact HKq.out g h1 h2
            · intro y hy
              have e6 : g6 = y := by simpa [Value.ownBlock] using hy
              subst e6
              rcases hat6 with h | h
              · exact HOB.out _ h
              · right; omega
            · show World.ownsRow _ _ _ _ _ _ _
              rw [HTK.out, List.map_append, ← List.append_assoc, mvF_app]
              exact hown6
          · have hjR' : decide ((j : Int) < (R.length : Int)) = false := by simp; omega
            have hje : j = R.length := by omega
            have HF : Hid (movesL model c ls (i + 1) = L1 ++ (R.take j).map fun a => (i, some a)) := by show _ = _; rw [HMV.out, hje, List.take_length, HR.out]
            clear hje
            go_wp2_with fail
            refine ⟨⟨i + 1, ob, cb, nb, by go_num, by omega, rfl, by have := HNB.out; omega, ?_, HGq.out, HBq.out, HMq.out, ?_⟩, by simp [intOf]; omega⟩
            · show _ = _
              rw [HF.out, List.length_append, List.length_map, List.length_take, ← HN1.out]
              have := HNB.out
              omega
            · show World.ownsRow _ _ _ _ _ _ _
              rw [HF.out]
              exact HOq.out
      | true =>
        have HMT : Hid (mvT model c i l = [(i, none)] ++ (ripeC model fun j => c (i * 22 + 5 + j)).map fun a => (i, some a)) := by show _ = _; unfold mvT; rw [hc]; simp
        clear hc
        go_wp2_with (at_builtin; go_must (refine wpList_append_lies _ (by rfl) _ _ 133 (by rfl) (w.heap.size + 1 + 1) 137 im _ 3 24 Tryz.underlying133 him hm0 hm1 hm2 rfl (by decide) (.slice oa n cap) n (mvF (movesL model c ls i)) (by rfl) (own_at_u HO2.out (fun y hy => Below.heap_alloc _ _ _ (HO2.out.lt y hy).2)) ⟨w2.heap.size, 0, none⟩ 1 1 [.int .i64 (i : Nat), .bool false, .int .i64 0] (by rfl) (by rfl) (World.news_of_block (new_at (by simp) _)) (fun u hu => by simp at hu; rcases hu with rfl | rfl | rfl <;> rfl) (by decide) (by unfold maxLen; omega) (by omega) (by simp; omega) (w2.heap.size + 1) (by simp) ?_; intro g4 cap4 w4 hown4 hgrow4 hat4 hlt4))
        obtain ⟨L1, hL1⟩ : ∃ L1, L1 = movesL model c ls i ++ [(i, none)] := ⟨_, rfl⟩
        have HN1 : Hid (n + 1 = L1.length) := by show _ = _; rw [hL1, List.length_append, ← HN.out]; rfl
        have hn1 : n + 1 ≤ 5 * i + 1 := by omega
        have HO3 : Hid (w4.ownsRow (w.heap.size + 1 + 1) 137 3 (.slice (some ⟨g4, 0, none⟩) (n + 1) cap4) (n + 1) (mvF L1)) := by rw [hL1, mvF_app]; exact hown4
        have HMV : Hid (movesL model c ls (i + 1) = L1 ++ (ripeC model fun j => c (i * 22 + 5 + j)).map fun a => (i, some a)) := by show _ = _; rw [movesL_succ model c ls i l HL.out, HMT.out, hL1, List.append_assoc]
        have HG3 : Hid (w.grownBy w4 none) := gb_new (gb_alloc HG2.out _) hgrow4 (fun y e => Or.inr (by have := (HO2.out.lt y e).1; omega))
        have HB3 : Hid (Blk w4 (w.heap.size + 1) 120 92 c) := heap_gb hgrow4 (HB2.out.alloc _) (fun e => by have := (HO2.out.lt _ e.symm).1; omega)
        have HM3 : Hid (w4.heap[w.heap.size]? = some (.cells #[.pointer (some ⟨pg, 0, none⟩), .int .i64 (model : Nat)] 76 (0, 0))) := heap_gb hgrow4 (heap_alloc_at HM2.out _) (fun e => by have := (HO2.out.lt _ e.symm).1; omega)
        clear HG2 HB2 HM2 HO2 HN HO HG HBr HMr HMT hL1 hown4 hgrow4 hat4
        rename World => w3
        have hS : (fun w' : World => w'.cell? ⟨w.heap.size, 0, none⟩ = some (.pointer (some ⟨pg, 0, none⟩)) ∧ w'.cell? ⟨w.heap.size, 1, none⟩ = some (.int .i64 (model : Nat)) ∧ w'.rangeAt (w.heap.size + 1) (i * 22 + 5) (u8L 17 fun j => c (i * 22 + 5 + j))) w3.drew := ⟨cell_of HM3.out 0 _ rfl, cell_of HM3.out 1 _ rfl, HB3.out.range (i * 22 + 5) 17 (by omega)⟩
        have hSat : ∀ W', w3.grownBy W' none → (fun w' : World => w'.cell? ⟨w.heap.size, 0, none⟩ = some (.pointer (some ⟨pg, 0, none⟩)) ∧ w'.cell? ⟨w.heap.size, 1, none⟩ = some (.int .i64 (model : Nat)) ∧ w'.rangeAt (w.heap.size + 1) (i * 22 + 5) (u8L 17 fun j => c (i * 22 + 5 + j))) W' := fun W' hg => ⟨gb_cell hg (cell_of HM3.out 0 _ rfl) (by simp), gb_cell hg (cell_of HM3.out 1 _ rfl) (by simp), fun j v hv => gb_cell hg (HB3.out.range (i * 22 + 5) 17 (by omega) j v hv) (by simp)⟩
        have hs3 := HG3.out.size
        have hl3 := HB3.out.lt
        have hl3' := heap_lt HM3.out
        refine wp_region_held (S := fun w' => w'.cell? ⟨w.heap.size, 0, none⟩ = some (.pointer (some ⟨pg, 0, none⟩)) ∧ w'.cell? ⟨w.heap.size, 1, none⟩ = some (.int .i64 (model : Nat)) ∧ w'.rangeAt (w.heap.size + 1) (i * 22 + 5) (u8L 17 fun j => c (i * 22 + 5 + j))) (by kernel_rfl) ?_
        change wpAnyH _ _ _ _ _ _ _ _ (World.drew _)
        refine wpAnyH_take (i := 0) (v := .agg #[.pointer (some ⟨pg, 0, none⟩), .int .i64 (model : Nat)]) rfl (by kernel_rfl) (by kernel_rfl) (by kernel_rfl) (fun _ _ _ h => h) (Or.inl ⟨by rfl, fun w' hSw => by go_simp⟩) hS ?_
        simp only [Act.put, List.getElem_toArray, List.getElem_cons_zero, List.setIfInBounds_toArray, List.set_cons_zero, List.set_cons_succ]
        refine wpAnyH_take (i := 1) (v := .int .i64 (i : Nat)) rfl (by kernel_rfl) (by kernel_rfl) (by kernel_rfl) (fun _ _ _ h => h) (Or.inl ⟨by rfl, fun w' hSw => by go_simp⟩) hS ?_
        simp only [Act.put, List.getElem_toArray, List.getElem_cons_zero, List.getElem_cons_succ, List.setIfInBounds_toArray, List.set_cons_zero, List.set_cons_succ]
        refine wpAnyH_take (i := 2) (v := .pointer (some ⟨w.heap.size + 1, 0, none⟩)) rfl (by kernel_rfl) (by kernel_rfl) (by kernel_rfl) (fun _ _ _ h => h) (Or.inl ⟨by rfl, fun w' hSw => by go_simp⟩) hS ?_
        simp only [Act.put, List.getElem_toArray, List.getElem_cons_zero, List.getElem_cons_succ, List.setIfInBounds_toArray, List.set_cons_zero, List.set_cons_succ]
        refine wpAnyH_take (i := 3) (v := .pointer (some ⟨w.heap.size + 1, i * 22, none⟩)) rfl (by kernel_rfl) (by kernel_rfl) (by kernel_rfl) (fun _ _ _ h => h) (Or.inl ⟨by rfl, fun w' hSw => by go_simp⟩) hS ?_
        simp only [Act.put, List.getElem_toArray, List.getElem_cons_zero, List.getElem_cons_succ, List.setIfInBounds_toArray, List.set_cons_zero, List.set_cons_succ]
        refine wpAnyH_take (i := 4) (v := .pointer (some ⟨w.heap.size + 1, i * 22 + 5, none⟩)) rfl (by kernel_rfl) (by kernel_rfl) (by kernel_rfl) (fun _ _ _ h => h) (Or.inl ⟨by rfl, fun w' hSw => by go_simp⟩) hS ?_
        simp only [Act.put, List.getElem_toArray, List.getElem_cons_zero, List.getElem_cons_succ, List.setIfInBounds_toArray, List.set_cons_zero, List.set_cons_succ]
        refine wpAnyH_take (i := 5) (v := .agg (u8L 17 fun j => c (i * 22 + 5 + j)).toArray) rfl (by kernel_rfl) (by kernel_rfl) (by kernel_rfl) (fun _ _ _ h => h) (yieldsIf_load_mid (by rfl) 115 _ (by rfl) (w.heap.size + 1) (i * 22 + 5) (by rfl) _ _ (fun w' hw' => hw'.2.2) Tryz.underlying115 rfl (by rw [u8L_len]; exact infoBuf)) hS ?_
        simp only [Act.put, List.getElem_toArray, List.getElem_cons_zero, List.getElem_cons_succ, List.setIfInBounds_toArray, List.set_cons_zero, List.set_cons_succ]
        refine wpAnyH_take (i := 8) (v := .int .i64 0) rfl (by kernel_rfl) (by kernel_rfl) (by kernel_rfl) (fun _ _ _ h => h) (Or.inl ⟨by rfl, fun w' hSw => by go_simp⟩) hS ?_
        simp only [Act.put, List.getElem_toArray, List.getElem_cons_zero, List.getElem_cons_succ, List.setIfInBounds_toArray, List.set_cons_zero, List.set_cons_succ]
        refine wpAnyH_ready (rs := [6]) (by kernel_rfl) (by simp) ?_
        refine AllReadyH.cons rfl (fun K hK => ?_) AllReadyH.nil
        rw [if_pos (by rfl)]
        obtain ⟨R, HR⟩ : ∃ R, Hid (R = ripeC model fun j => c (i * 22 + 5 + j)) := ⟨_, rfl⟩
        have hR4 : R.length ≤ 4 := by rw [HR.out]; exact ripeC_len _ _
        have HRP : Hid (∀ W', Calls Tryz.prog 95 #[.agg #[.pointer (some ⟨pg, 0, none⟩), .int .i64 (model : Nat)], .agg (u8L 17 fun j => c (i * 22 + 5 + j)).toArray] W' fun e w' => ∃ v, e = .returned v ∧ IntsAt w' W'.heap.size v R ∧ W'.grownBy w' none) := fun W' => by rw [HR.out]; exact ma_ripe W' _ model (fun j => c (i * 22 + 5 + j)) (fun j => HB.out _) (H8.out i hi4)
        go_wp2_with fail
        refine (HRP.out _).mono ?_
        rintro e w5 ⟨rv, rfl, ⟨ra, rcap, rfl, hri⟩, hg5⟩
        have hg5' : w3.grownBy w5 none := gb_trans (gb_drew (gb_refl w3 none)) hg5
        go_wp2_with fail
        refine hK.out _ _ (hSat _ hg5') (fun _ => ?_)
        refine wpAnyH_take (i := 7) (v := .int .i64 (R.length : Nat)) rfl (by kernel_rfl) (by kernel_rfl) (by kernel_rfl) (fun _ _ _ h => h) (Or.inl ⟨by rfl, fun w' hSw => by go_simp⟩) (hSat _ hg5') ?_
        simp only [Act.put, List.getElem_toArray, List.getElem_cons_zero, List.getElem_cons_succ, List.setIfInBounds_toArray, List.set_cons_zero, List.set_cons_succ]
        refine wpAnyH_done (by kernel_rfl) ?_ _
        have HG5 : Hid (w.grownBy w5 none) := gb_trans HG3.out hg5'
        have HB5 : Hid (Blk w5 (w.heap.size + 1) 120 92 c) := HB3.out.gb hg5' (by simp)
        have HM5 : Hid (w5.heap[w.heap.size]? = some (.cells #[.pointer (some ⟨pg, 0, none⟩), .int .i64 (model : Nat)] 76 (0, 0))) := heap_gb hg5' HM3.out (by simp)
        have HO5 : Hid (w5.ownsRow (w.heap.size + 1 + 1) 137 3 (.slice (some ⟨g4, 0, none⟩) (n + 1) cap4) (n + 1) (mvF L1)) := own_at_u HO3.out (fun x hx => hg5'.block x (HO3.out.lt x hx).2 (by simp))
        have HRI : Hid (∀ (j : Nat) (x : Nat), R[j]? = some x → ∃ g, ra = some ⟨g, 0, none⟩ ∧ w3.heap.size ≤ g ∧ w5.cell? ⟨g, j, none⟩ = some (.int .i64 (x : Nat))) := hri
        have hs5 := HG5.out.size
        have H3L : Hid (∀ x, (Value.slice (some ⟨g4, 0, none⟩) (n + 1) cap4).ownBlock = some x → x < w3.heap.size) := fun x hx => (HO3.out.lt x hx).2
        clear hK hS hSat hg5 hg5' hri HRP HCS HG3 HB3 HM3 HO3 hs3 hl3 hl3'
        have HO3L : Hid (∀ x, (Value.slice (some ⟨g4, 0, none⟩) (n + 1) cap4).ownBlock = some x → x < w3.heap.size ∨ w5.heap.size ≤ x) := fun x hx => Or.inl (H3L.out x hx)
        go_wp2_with fail
        go_loopw [5, 35] (fun v5 v35 wq => ∃ (j : Nat) (ob : Option Addr) (cb nb : Nat), v35 = .int .i64 (j : Nat) ∧ j ≤ R.length ∧ v5 = .slice ob nb cb ∧ nb ≤ 100 ∧ Hid (nb = (n + 1) + j) ∧ w5.heap.size ≤ wq.heap.size ∧ Hid (w.grownBy wq none) ∧ Hid (Blk wq (w.heap.size + 1) 120 92 c) ∧ Hid (wq.heap[w.heap.size]? = some (.cells #[.pointer (some ⟨pg, 0, none⟩), .int .i64 (model : Nat)] 76 (0, 0))) ∧ Hid (∀ g, w3.heap.size ≤ g → g < w5.heap.size → wq.heap[g]? = w5.heap[g]?) ∧ Hid (∀ x, (Value.slice ob nb cb).ownBlock = some x → x < w3.heap.size ∨ w5.heap.size ≤ x) ∧ Hid (wq.ownsRow (w.heap.size + 1 + 1) 137 3 (.slice ob nb cb) nb (mvF (L1 ++ (R.take j).map fun a => (i, some a))))) (fun _ v35 _ => R.length - (intOf v35).toNat)
        case atStart => exact ⟨0, (some ⟨g4, 0, none⟩), cap4, (n + 1), rfl, by omega, rfl, by omega, rfl, Nat.le_refl _, HG5.out, HB5.out, HM5.out, fun _ _ _ => rfl, HO3L.out, by show World.ownsRow _ _ _ _ _ _ _; simpa using HO5.out⟩
        case round =>
          rename World => wq
          obtain ⟨j, ob, cb, nb, rfl, hj, rfl, hnb, HNB, hszq, HGq, HBq, HMq, HKq, HOB, HOq⟩ := hrel
          have hlq := HBq.out.lt
          have hlq' := heap_lt HMq.out
          by_cases hjR : j < R.length
          · have hjR' : decide ((j : Int) < (R.length : Int)) = true := by simp; omega
            have hjR2 : (j : Int) < (R.length : Int) := by omega
            obtain ⟨x, hx⟩ : ∃ x, R[j]? = some x := ⟨R[j], List.getElem?_eq_getElem hjR⟩
            obtain ⟨rg, rfl, hrg, hrc⟩ := HRI.out j x hx
            have hrl : rg < w5.heap.size := World.block_lt_of_cell? w5 _ hrc
            have rc : wq.cell? ⟨rg, j, none⟩ = some (.int .i64 (x : Nat)) := (cell_same (HKq.out rg hrg hrl) _).trans hrc
            have hrlq : rg < wq.heap.size := by omega
            have HTK : Hid (R.take (j + 1) = R.take j ++ [x]) := by show _ = _; rw [List.take_add_one, hx]; rfl
            clear hx hrc
            go_wp2_with (at_builtin; go_must (refine wpList_append_lies _ (by rfl) _ _ 133 (by rfl) (w.heap.size + 1 + 1) 137 im _ 3 24 Tryz.underlying133 him hm0 hm1 hm2 rfl (by decide) (.slice ob nb cb) nb (mvF (L1 ++ (R.take j).map fun a => (i, some a))) (by rfl) (own_at_u HOq.out (fun y hy => Below.heap_alloc _ _ _ (HOq.out.lt y hy).2)) ⟨wq.heap.size, 0, none⟩ 1 1 [.int .i64 (i : Nat), .bool true, .int .i64 (x : Nat)] (by rfl) (by rfl) (World.news_of_block (new_at (by simp) _)) (fun u hu => by simp at hu; rcases hu with rfl | rfl | rfl <;> rfl) (by decide) (by unfold maxLen; omega) (by omega) (by simp; omega) (wq.heap.size + 1) (by simp) ?_; intro g6 cap6 w6 hown6 hgrow6 hat6 hlt6))
            have hs6 := hgrow6.size
            simp only [World.size_alloc] at hs6
            refine ⟨⟨j + 1, some ⟨g6, 0, none⟩, cap6, nb + 1, by go_num, by omega, rfl, by have := HNB.out; omega, (show nb + 1 = (n + 1) + (j + 1) by have := HNB.out; omega), by omega, ?_, ?_, ?_, ?_, ?_, ?_⟩, by simp [intOf]; omega⟩
            · exact gb_new (gb_alloc HGq.out _) hgrow6 (fun y e => Or.inr (by have := (HOq.out.lt y e).1; omega))
            · exact heap_gb hgrow6 (HBq.out.alloc _) (fun e => by have := (HOq.out.lt _ e.symm).1; omega)
            · exact heap_gb hgrow6 (heap_alloc_at HMq.out _) (fun e => by have := (HOq.out.lt _ e.symm).1; omega)
            · intro g h1 h2
              rw [hgrow6.block g (by simp; omega) (fun e => by rcases HOB.out g e.symm with h | h <;> omega), Below.heap_alloc _ _ _ (by omega)]
              exact HKq.out g h1 h2
            · intro y hy
              have e6 : g6 = y := by simpa [Value.ownBlock] using hy
              subst e6
              rcases hat6 with h | h
              · exact HOB.out _ h
              · right; omega
            · show World.ownsRow _ _ _ _ _ _ _
              rw [HTK.out, List.map_append, ← List.append_assoc, mvF_app]
              exact hown6
          · have hjR' : decide ((j : Int) < (R.length : Int)) = false := by simp; omega
            have hje : j = R.length := by omega
            have HF : Hid (movesL model c ls (i + 1) = L1 ++ (R.take j).map fun a => (i, some a)) := by show _ = _; rw [HMV.out, hje, List.take_length, HR.out]
            clear hje
            go_wp2_with fail
            refine ⟨⟨i + 1, ob, cb, nb, by go_num, by omega, rfl, by have := HNB.out; omega, ?_, HGq.out, HBq.out, HMq.out, ?_⟩, by simp [intOf]; omega⟩
            · show _ = _
              rw [HF.out, List.length_append, List.length_map, List.length_take, ← HN1.out]
              have := HNB.out
              omega
            · show World.ownsRow _ _ _ _ _ _ _
              rw [HF.out]
              exact HOq.out
    · have hil' : decide ((i : Int) < (ls.length : Int)) = false := by simp; omega
      have hie : i = ls.length := by omega
      go_wp2_with fail
      go_ret
      refine ⟨_, rfl, ?_, HG.out⟩
      rw [← hie]
      exact MovesAt.of_own HO.out HN.out
end Go.Proofs.YtmpaeladhoomoaaGreatDoor
