/-
  A test in memory, the program's and the document's, with the plain machine that both are; a script's world that holds pairs of them.
  The statements' own functions: load, and a step by it; which test a step speaks of.
  The statements' own functions: numbers that are lent, with spare places; they are looked at behind the call, and written over.
  The statements' own functions: numbers that are lent, and looked at behind the call; a step by Walk.
  The statements' own functions: plays, for loads and walks, and Walks, walked.
-/
import Derived.Test.YtmpaeladhoomoaaGreatDoorLwX
import Derived.Test.YtmpaeladhoomoaaGreatDoorWkX
import Derived.Test.YtmpaeladhoomoaaGreatDoorWkY
import Derived.Test.YtmpaeladhoomoaaGreatDoorPwX
import Derived.Test.YtmpaeladhoomoaaGreatDoorPmY
import Derived.Test.YtmpaeladhoomoaaGreatDoorWkW
import Derived.Test.YtmpaeladhoomoaaGreatDoorRfP
import Derived.Test.YtmpaeladhoomoaaGreatDoorWkL
import Derived.Laws.CopyOwn
import Derived.Laws.OwnMore
import Derived.Deep.RegionHeld3
namespace Go.Proofs.YtmpaeladhoomoaaGreatDoor
open Go.RowKit

/-- Both tests are one. -/
structure KPair (ls : List (List St)) (ft : Txt) (tt : List (List RSt)) (nm : Nat → Bool) : Prop where
  all : AllT tt ls
  ok : LsOk ls
  ne : ls ≠ []
  nam : ∀ p, p < 4 → nm p = nmT p ft
structure PK (w : World) (ok : Nat → Prop) (g : Nat) (ls : List (List St)) (ft : Txt) : Prop where
  ex : ∃ pg fa, w.heap[g]? = some (.cells #[.pointer (some ⟨pg, 0, none⟩)] 71 (0, 0)) ∧ ok g ∧ ProgRep w ok pg ls fa ft
structure RK (w : World) (ok : Nat → Prop) (T : Nat) (tt : List (List RSt)) (nm : Nat → Bool) : Prop where
  ex : ∃ (tsv k8 u8 u9 : Value) (bo : Bool) (op : ByteArray) (n1 n2 n3 n4 : Int) (d : Nat) (m : TM),
    w.heap[T]? = some (.cells #[tsv, .bool bo, .string op, .int .i64 n1, .int .i64 n2, .int .i64 n3, .int .i64 n4, k8, u8, u9] 149 (0, 0)) ∧ ok T ∧
    (∃ (ta : Option Addr) (cap : Nat) (xs : List Value), tsv = .slice ta tt.length cap ∧ (∀ (i : Nat) (v : Value), xs[i]? = some v → ∃ g, ta = some ⟨g, 0, none⟩ ∧ ok g ∧ w.cell? ⟨g, i, none⟩ = some v) ∧ ThR w ok tt xs) ∧
    TRep d w ok (trC op n1 n2 n3 n4 k8) m ∧ m.nm = nm
theorem PK.mono {w w' : World} {ok ok' : Nat → Prop} {g : Nat} {ls : List (List St)} {ft : Txt} (h : PK w ok g ls ft) (h1 : ∀ x, ok x → ok' x) (h2 : ∀ x, ok x → w'.heap[x]? = w.heap[x]?) : PK w' ok' g ls ft := by
  obtain ⟨pg, fa, a1, a2, a3⟩ := h.ex
  exact ⟨pg, fa, (h2 g a2).trans a1, h1 g a2, a3.mono h1 h2⟩
theorem RK.mono {w w' : World} {ok ok' : Nat → Prop} {g : Nat} {tt : List (List RSt)} {nm : Nat → Bool} (h : RK w ok g tt nm) (h1 : ∀ x, ok x → ok' x) (h2 : ∀ x, ok x → w'.heap[x]? = w.heap[x]?) : RK w' ok' g tt nm := by
  obtain ⟨tsv, k8, u8, u9, bo, op, n1, n2, n3, n4, d, m, a1, a2, ⟨ta, cap, xs, b1, b2, b3⟩, a4, a5⟩ := h.ex
  refine ⟨tsv, k8, u8, u9, bo, op, n1, n2, n3, n4, d, m, (h2 g a2).trans a1, h1 g a2, ⟨ta, cap, xs, b1, fun i v hv => ?_, b3.mono (fun x hx => ⟨h1 x hx, h2 x hx⟩)⟩, a4.mono h1 (fun x o hx ho => (h2 x hx).trans ho), a5⟩
  obtain ⟨x, c1, c2, c3⟩ := b2 i v hv
  exact ⟨x, c1, h1 x c2, (cell_same (h2 x c2) _).trans c3⟩
theorem PK.walk {w : World} {ok : Nat → Prop} {g : Nat} {ls : List (List St)} {ft : Txt} (h : PK w ok g ls ft) (hok : ∀ x, ok x → x < w.heap.size) (ho : LsOk ls) (m : Int) (picks : List Int) (pv : Value) (hp : PicksAt w pv picks) :
    Calls Tryz.prog 24 #[.pointer (some ⟨g, 0, none⟩), .int .i64 m, pv] w fun e w' => e = .returned (walkA ls ft m picks) ∧ w.grownBy w' none := by
  obtain ⟨pg, fa, a1, a2, a3⟩ := h.ex
  exact he_Walk w ok g pg a1 ls fa ft a3 hok ho m picks pv hp
theorem RK.walk {w : World} {ok : Nat → Prop} {g : Nat} {ls : List (List St)} {ft : Txt} {tt : List (List RSt)} {nm : Nat → Bool} (h : RK w ok g tt nm) (hk : KPair ls ft tt nm) (m : Int) (picks : List Int) (pv : Value) (hp : PicksAt w pv picks) (hpl : picks.length ≤ 140737488355328) :
    Calls Tryz.prog 47 #[.pointer (some ⟨g, 0, none⟩), .int .i64 m, pv] w fun e w' => e = .returned (walkA ls ft m picks) ∧ w.grownBy w' none := by
  obtain ⟨tsv, k8, u8, u9, bo, op, n1, n2, n3, n4, d, t, a1, a2, ⟨ta, cap, xs, rfl, b2, b3⟩, a4, rfl⟩ := h.ex
  refine rwalk_any w g tt ⟨ta, cap, xs, cell_of a1 0 _ rfl, fun i v hv => ?_, b3.mono (fun x hx => ⟨trivial, rfl⟩)⟩ ls ft hk.all hk.ok hk.ne op n1 n2 n3 n4 k8 t.nm (cell_of a1 2 _ rfl) (cell_of a1 3 _ rfl) (cell_of a1 4 _ rfl) (cell_of a1 5 _ rfl) (cell_of a1 6 _ rfl) (cell_of a1 7 _ rfl) (fun p w1 hg => ?_) hk.nam m picks pv hp hpl
  · obtain ⟨x, c1, _, c3⟩ := b2 i v hv
    exact ⟨x, c1, c3⟩
  · exact named_any d w1 ok _ t p (a4.mono (fun x hx => hx) (fun x o hx ho => heap_gb hg ho (by simp)))
/-- Both tests of one text. -/
theorem pair_k {s : ByteArray} {w1 w2 w3 : World} {gx gy : Nat} (hx : TestK3 s w1 w2 gx) (hgx : newB w1 w2 gx) (hy : RTestK s w2 w3 gy) (hg : w2.grownBy w3 none) : ∃ ls ft tt nm, KPair ls ft tt nm ∧ PK w3 (newB w1 w3) gx ls ft ∧ RK w3 (newB w1 w3) gy tt nm := by
  obtain ⟨pg, hb, ls, fa, ft, p', ht, hP, hS, h8, p1, hL⟩ := hx
  obtain ⟨tsv, k8, bo, op, n1, n2, n3, n4, va, vcap, r1, r2, r3, r4, r5, r6, ⟨ta, cap, xs, t1, t2, t3⟩, d, r8⟩ := hy
  have hsz := hg.size
  have hm : ∀ x, newB w1 w2 x → newB w1 w3 x := fun x hx => ⟨hx.1, Nat.lt_of_lt_of_le hx.2 hsz⟩
  have hk : ∀ x, newB w1 w2 x → w3.heap[x]? = w2.heap[x]? := fun x hx => hg.block x hx.2 (by simp)
  have h12 : w1.heap.size ≤ w2.heap.size := by have := hgx.1; have := hgx.2; omega
  have hn : ∀ x, newB w2 w3 x → newB w1 w3 x := fun x hx => ⟨Nat.le_trans h12 hx.1, hx.2⟩
  refine ⟨ls, ft, (thrQ s).1, (fmQ s).1.nm, ⟨thr_full hL, ?_, ?_, fun p hp => names_fm ht hS p hp⟩, ⟨pg, fa, (hk gx hgx).trans hb, hm gx hgx, hP.mono hm hk⟩, ?_⟩
  · obtain ⟨m1, q1, _, _, e3, _, e5, _⟩ := hS
    refine ⟨e5, h8, fun l hl x hx => ?_⟩
    obtain ⟨s1, s2, s3, s4, s5⟩ := e3.ok l hl x hx
    exact ⟨s1, by omega, by omega, s4, s5⟩
  · obtain ⟨m1, q1, _, _, _, e4, _⟩ := hS
    exact e4
  · refine ⟨tsv, k8, _, _, bo, op, n1, n2, n3, n4, d, (fmQ s).1, r1, hn gy r2, ⟨ta, cap, xs, t1, fun i v hv => ?_, t3.mono (fun x hx => ⟨hn x hx, rfl⟩)⟩, r8.mono hn (fun x o _ ho => ho), rfl⟩
    obtain ⟨g, c1, c2, c3⟩ := t2 i v hv
    exact ⟨g, c1, hn g c2, c3⟩
/-- Where the tests of a script may lie. -/
def okPk (w0 w : World) (wb : Nat) (tsv : Value) (x : Nat) : Prop := w0.heap.size ≤ x ∧ x < w.heap.size ∧ x ≠ wb ∧ tsv.ownBlock ≠ some x
structure LK (w0 w : World) (wb n : Nat) (tsv : Value) (xs : List Value) : Prop where
  lw : LW w0 w wb n tsv xs
  len : xs.length = n * 2
  pr : ∀ i, i < n → ∃ gx gy ls ft tt nm, xs[i * 2]? = some (.pointer (some ⟨gx, 0, none⟩)) ∧ xs[i * 2 + 1]? = some (.pointer (some ⟨gy, 0, none⟩)) ∧ KPair ls ft tt nm ∧ PK w (okPk w0 w wb tsv) gx ls ft ∧ RK w (okPk w0 w wb tsv) gy tt nm
theorem LK.grow {w0 w w' : World} {wb n : Nat} {tsv : Value} {xs : List Value} (l : LK w0 w wb n tsv xs) (hg : w.grownBy w' none) : LK w0 w' wb n tsv xs := by
  refine ⟨l.lw.grow hg, l.len, fun i hi => ?_⟩
  obtain ⟨gx, gy, ls, ft, tt, nm, a1, a2, a0, a3, a4⟩ := l.pr i hi
  have h1 : ∀ x, okPk w0 w wb tsv x → okPk w0 w' wb tsv x := fun x hx => ⟨hx.1, Nat.lt_of_lt_of_le hx.2.1 hg.size, hx.2.2⟩
  have h2 : ∀ x, okPk w0 w wb tsv x → w'.heap[x]? = w.heap[x]? := fun x hx => hg.block x hx.2.1 (by simp)
  exact ⟨gx, gy, ls, ft, tt, nm, a1, a2, a0, a3.mono h1 h2, a4.mono h1 h2⟩
theorem LK.start (w : World) (l : LW w (w.alloc (.cells #[.slice none 0 0, .slice none 0 0] 66)) w.heap.size 0 (.slice none 0 0) []) : LK w (w.alloc (.cells #[.slice none 0 0, .slice none 0 0] 66)) w.heap.size 0 (.slice none 0 0) [] :=
  ⟨l, rfl, fun i hi => by omega⟩
theorem LK.push {w0 w w' : World} {o : Obj} {wb n g cap B gx gy : Nat} {tsv : Value} {xs : List Value} {ls : List (List St)} {ft : Txt} {tt : List (List RSt)} {nm : Nat → Bool} {ok : Nat → Prop} (l : LK w0 w wb n tsv xs) (hgrow : (w.alloc o).grownBy w' tsv.ownBlock) (hown : w'.ownsRow (wb + 1) 84 2 (.slice (some ⟨g, 0, none⟩) (n + 1) cap) (n + 1) (xs ++ [.pointer (some ⟨gx, 0, none⟩), .pointer (some ⟨gy, 0, none⟩)]))
    (hat : tsv.ownBlock = some g ∨ g = B) (hB : B = w.heap.size + 1) (hK : KPair ls ft tt nm) (hP : PK w ok gx ls ft) (hR : RK w ok gy tt nm) (hok : ∀ x, ok x → okPk w0 w wb tsv x) :
    LK w0 (w'.setCell ⟨wb, 0, none⟩ (.slice (some ⟨g, 0, none⟩) (n + 1) cap)) wb (n + 1) (.slice (some ⟨g, 0, none⟩) (n + 1) cap) (xs ++ [.pointer (some ⟨gx, 0, none⟩), .pointer (some ⟨gy, 0, none⟩)]) := by
  have s4 := hgrow.size
  simp only [World.size_alloc] at s4
  have h1 : ∀ x, okPk w0 w wb tsv x → okPk w0 (w'.setCell ⟨wb, 0, none⟩ (.slice (some ⟨g, 0, none⟩) (n + 1) cap)) wb (.slice (some ⟨g, 0, none⟩) (n + 1) cap) x := by
    intro x hx
    refine ⟨hx.1, by rw [size_set]; have := hx.2.1; omega, hx.2.2.1, ?_⟩
    show some g ≠ some x
    rcases hat with e | e
    · rw [← e]; exact hx.2.2.2
    · have := hx.2.1; simp; omega
  have h2 : ∀ x, okPk w0 w wb tsv x → (w'.setCell ⟨wb, 0, none⟩ (.slice (some ⟨g, 0, none⟩) (n + 1) cap)).heap[x]? = w.heap[x]? := fun x hx => by
    rw [Below.heap_setCell _ _ _ _ (by simpa using hx.2.2.1), hgrow.block x (by simp; have := hx.2.1; omega) (fun e => hx.2.2.2 e.symm), Below.heap_alloc _ _ _ hx.2.1]
  have hl := l.len
  refine ⟨l.lw.push hgrow hown, by simp [hl]; omega, fun i hi => ?_⟩
  by_cases hin : i < n
  · obtain ⟨gx', gy', ls', ft', tt', nm', a1, a2, a0, a3, a4⟩ := l.pr i hin
    exact ⟨gx', gy', ls', ft', tt', nm', by rw [List.getElem?_append_left (by omega)]; exact a1, by rw [List.getElem?_append_left (by omega)]; exact a2, a0, a3.mono h1 h2, a4.mono h1 h2⟩
  · obtain rfl : i = n := by omega
    exact ⟨gx, gy, ls, ft, tt, nm, by rw [List.getElem?_append_right (by omega), hl]; simp, by rw [List.getElem?_append_right (by omega), hl]; simp, hK, hP.mono (fun x hx => h1 x (hok x hx)) (fun x hx => h2 x (hok x hx)), hR.mono (fun x hx => h1 x (hok x hx)) (fun x hx => h2 x (hok x hx))⟩
end Go.Proofs.YtmpaeladhoomoaaGreatDoor

namespace Go.Proofs.YtmpaeladhoomoaaGreatDoor
open Go.RowKit

structure BothK : Prop where
  prog : ∀ (w : World) (s : ByteArray), s.size ≤ maxLen → Calls Tryz.prog 22 #[.string s] w fun e w' => PostRC w (TestK3 s w) (loadQ s) e w'
  ref : ∀ (w : World) (s : ByteArray), s.size ≤ maxLen → Calls Tryz.prog 66 #[.string s] w fun e w' => PostRC w (RTestK s w) (loadQ s) e w'
theorem load_smallK {s : ByteArray} (h : (loadQ s).1 = 0) : s.size ≤ 400 := by
  by_cases h4 : 400 < s.size
  · unfold loadQ at h; rw [if_pos h4] at h; simp at h
  · omega

set_option maxRecDepth 100000 in
set_option maxHeartbeats 2000000 in
theorem lkload_any (B : BothK) {w0 w : World} {wb n : Nat} {tsv : Value} {xs : List Value} (L : LK w0 w wb n tsv xs) (hn : (n + 1) * 16 ≤ 140737488355328) (k a b c d : Int) (s : ByteArray) (pa : Option Addr) (pl pc : Nat) (hs : s.size ≤ maxLen) :
    Calls Tryz.prog 42 #[.pointer (some ⟨wb, 0, none⟩), .agg #[.int .i64 k, .int .i64 a, .int .i64 b, .int .i64 c, .int .i64 d, .string s, .slice pa pl pc]] w fun e w' => e = .returned (.bool true) ∧ ∃ tsv' xs', LK w0 w' wb (grew (loadQ s).1 n) tsv' xs' := by
  have hwl := heap_lt L.lw.blk
  have HP : Hid (∀ wx, Calls Tryz.prog 22 #[.string s] wx fun e w' => PostRC wx (TestK3 s wx) (loadQ s) e w') := fun wx => B.prog wx s hs
  have HR : Hid (∀ wx, Calls Tryz.prog 66 #[.string s] wx fun e w' => PostRC wx (RTestK s wx) (loadQ s) e w') := fun wx => B.ref wx s hs
  have HSM : Hid ((loadQ s).1 = 0 → s.size ≤ 400) := load_smallK
  generalize loadQ s = q at HP HR HSM ⊢
  obtain ⟨q1, q2⟩ := q
  simp only
  clear B hs
  obtain ⟨ta, tcap, rfl⟩ := own_slice L.lw.own
  obtain ⟨i0, hi, hz0, hz1, hz2⟩ := info_parts infoTest
  go_enter Tryz.func42, Tryz.ntmps42
  go_wp2_with fail
  refine (HP.out _).mono ?_
  rintro e w1 ⟨hg1, o1, rfl, ho1⟩
  have x5 : w1.cell? ⟨w.heap.size, 5, none⟩ = some (.string s) := cell_of (heap_gb hg1 (heap_alloc_new w _) (by simp)) 5 _ rfl
  go_wp2_with fail
  refine (HR.out _).mono ?_
  rintro e w2 ⟨hg2, o2, rfl, ho2⟩
  simp only at ho1 ho2
  have L2 := L.grow (gb_trans (gb_trans (gb_alloc (gb_refl w none) _) hg1) hg2)
  have hs1 := hg1.size
  simp only [World.size_alloc] at hs1
  clear x5 HP HR
  have hw2 := heap_lt L2.lw.blk
  rcases ho2 with ⟨rfl, rfl, g2, rfl, _, _, HK2⟩ | ⟨hne, rfl⟩
  · rcases ho1 with ⟨_, _, g1, rfl, hgl1, hgl2, HK1⟩ | ⟨hne, _⟩
    · have HPR : Hid (∃ ls ft tt nm, KPair ls ft tt nm ∧ PK w2 (newB (w.alloc (.cells #[.int .i64 k, .int .i64 a, .int .i64 b, .int .i64 c, .int .i64 d, .string s, .slice pa pl pc] 27)) w2) g1 ls ft ∧ RK w2 (newB (w.alloc (.cells #[.int .i64 k, .int .i64 a, .int .i64 b, .int .i64 c, .int .i64 d, .string s, .slice pa pl pc] 27)) w2) g2 tt nm) := pair_k HK1.out ⟨hgl1, hgl2⟩ HK2.out hg2
      have HOB : Hid (∀ x, (Value.slice ta n tcap).ownBlock = some x → x < w.heap.size) := fun x hx => (L.lw.own.lt x hx).2
      have HB0 : Hid (w0.heap.size ≤ wb) := L.lw.hb
      clear HK1 HK2 hg1 hg2 L HSM
      have e0 := cell_of L2.lw.blk 0 _ rfl
      have ef := frozen_of L2.lw.blk
      go_wp2_with (at_builtin; go_must (refine wpList_append_lies _ (by rfl) _ _ 63 (by rfl) (wb + 1) 84 i0 _ 2 16 Tryz.underlying63 hi hz0 hz1 hz2 rfl (by decide) (.slice ta n tcap) n xs (by rfl) (L2.lw.own.alloc _) ⟨w2.heap.size, 0, none⟩ 1 1 [.pointer (some ⟨g1, 0, none⟩), .pointer (some ⟨g2, 0, none⟩)] (by rfl) (by rfl) (World.news_of_block (heap_alloc_new w2 _)) (fun u hu => by simp at hu; rcases hu with rfl | rfl <;> rfl) (by decide) (by unfold maxLen; omega) (by omega) (by simp; omega) (w2.heap.size + 1) (by simp) ?_; intro g cap w3 hown hgrow hat hlt3; have hT3 := heap_gb hgrow (heap_alloc_at L2.lw.blk _) (par_own L2.lw.own (Nat.lt_succ_self wb)); have f0 := cell_of hT3 0 _ rfl; have ff := frozen_of hT3))
      go_ret
      obtain ⟨ls, ft, tt, nm, hK, hX, hY⟩ := HPR.out
      refine ⟨rfl, _, _, L2.push hgrow hown hat rfl hK hX hY (fun x hx => ?_)⟩
      have a1 := hx.1
      have a2 := hx.2
      rw [World.size_alloc] at a1
      have := HB0.out
      exact ⟨by omega, a2, by omega, fun e => by have := HOB.out x e; omega⟩
    · exact absurd rfl hne
  · rcases ho1 with ⟨h0, _⟩ | ⟨_, rfl⟩
    · exact absurd h0 hne
    · have HNE : Hid (q1 ≠ 0) := hne
      clear hne hg1 hg2
      go_wp2_with fail
      go_ret
      rw [grew_ne HNE.out]
      exact ⟨rfl, _, _, L2⟩

set_option maxRecDepth 100000 in
set_option maxHeartbeats 1000000 in
theorem lkstep_load (B : BothK) {w0 w : World} {wb n : Nat} {tsv : Value} {xs : List Value} (L : LK w0 w wb n tsv xs) (hn : (n + 1) * 16 ≤ 140737488355328) (a b c d : Int) (s : ByteArray) (pa : Option Addr) (pl pc : Nat) (hs : s.size ≤ maxLen) :
    Calls Tryz.prog 30 #[.pointer (some ⟨wb, 0, none⟩), .agg #[.int .i64 1, .int .i64 a, .int .i64 b, .int .i64 c, .int .i64 d, .string s, .slice pa pl pc]] w fun e w' => e = .returned (.bool true) ∧ ∃ tsv' xs', LK w0 w' wb (grew (loadQ s).1 n) tsv' xs' := by
  have L1 := L.grow (gb_alloc (gb_refl w none) (.cells #[.int .i64 1, .int .i64 a, .int .i64 b, .int .i64 c, .int .i64 d, .string s, .slice pa pl pc] 27))
  go_enter Tryz.func30, Tryz.ntmps30
  go_wp2_with fail
  refine (lkload_any B L1 hn 1 a b c d s pa pl pc hs).mono ?_
  rintro e w1 ⟨rfl, tsv', xs', L2⟩
  go_wp2_with fail
  go_ret
  exact ⟨rfl, _, _, L2⟩

/-- Which of n things a raw number speaks of. -/
def pickK (a : Int) (n : Nat) : Nat := ((if a < 0 then -(a + 1) else a).tmod n).toNat
theorem pickK_lt (a : Int) {n : Nat} (h : 0 < n) : pickK a n < n := by
  unfold pickK
  have h1 := Int.tmod_lt_of_pos (if a < 0 then -(a + 1) else a) (show (0 : Int) < n by omega)
  omega
set_option maxRecDepth 100000 in
theorem pickK_any (w : World) (a : Int) (n : Nat) (h : (Lit.int .i64 a).wf = true) (hn : 0 < n) (hn2 : n ≤ 140737488355328) :
    Calls Tryz.prog 43 #[.int .i64 a, .int .i64 (n : Nat)] w fun e w' => e = .returned (.int .i64 (pickK a n : Nat)) ∧ w' = w := by
  have hb : -9223372036854775808 ≤ a ∧ a ≤ 9223372036854775807 := by
    simp only [Lit.wf, Bool.and_eq_true, decide_eq_true_eq] at h
    exact ⟨h.1, h.2⟩
  clear h
  have HN : Hid (∀ x : Int, 0 ≤ x → x.tmod (n : Int) = ((x.tmod (n : Int)).toNat : Int)) := fun x hx => by have h2 := Int.tmod_nonneg (n : Int) hx; omega
  have hn0 : ((n : Int) == 0) = false := by rw [beq_eq_false_iff_ne]; omega
  obtain ⟨hb1, hb2⟩ := hb
  by_cases ha : a < 0
  · have ha' : decide (a < 0) = true := by simpa using ha
    have HK : Hid (pickK a n = ((-(a + 1)).tmod n).toNat) := by show _ = _; unfold pickK; rw [if_pos ha]
    generalize pickK a n = k at HK ⊢
    go_enter Tryz.func43, Tryz.ntmps43
    go_wp2_with fail
    go_ret
    refine ⟨?_, rfl⟩
    show Ending.returned (.int .i64 (-((a + 1).tmod n))) = _
    rw [HK.out, ← HN.out (-(a + 1)) (by omega), Int.neg_tmod]
  · have ha' : decide (a < 0) = false := by simpa using ha
    have HK : Hid (pickK a n = (a.tmod n).toNat) := by show _ = _; unfold pickK; rw [if_neg ha]
    generalize pickK a n = k at HK ⊢
    go_enter Tryz.func43, Tryz.ntmps43
    go_wp2_with fail
    go_ret
    refine ⟨?_, rfl⟩
    show Ending.returned (.int .i64 (a % n)) = _
    rw [HK.out, ← HN.out a (by omega), Int.tmod_eq_emod_of_nonneg (by omega)]
end Go.Proofs.YtmpaeladhoomoaaGreatDoor

namespace Go.Proofs.YtmpaeladhoomoaaGreatDoor
open Go.RowKit

def iV (l : List Int) : List Value := l.map fun x => .int .i64 x
theorem iV_len (l : List Int) : (iV l).length = l.length := by simp [iV]
/-- What is lent, with k of its spare places written. -/
def lentL (l : List Int) (k : Nat) : List Value := iV l ++ List.replicate k (.int .i64 (-77)) ++ List.replicate (8 - k) (.int .i64 0)
theorem lentL_len (l : List Int) (k : Nat) (h : k ≤ 8) : (lentL l k).length = l.length + 8 := by simp [lentL, iV]; omega
theorem lentL_get (l : List Int) (k j : Nat) (x : Int) (h : l[j]? = some x) : (lentL l k)[j]? = some (.int .i64 x) := by
  have hj := (List.getElem?_eq_some_iff.1 h).1
  unfold lentL
  rw [List.append_assoc, List.getElem?_append_left (by rw [iV_len]; exact hj)]
  simp [iV, h]
theorem lentL_zero (l : List Int) (k : Nat) (h : k < 8) : (lentL l k)[l.length + k]? = some (.int .i64 0) := by
  unfold lentL
  rw [List.getElem?_append_right (by simp [iV])]
  rw [show l.length + k - (iV l ++ List.replicate k (Value.int .i64 (-77))).length = 0 by simp [iV], List.getElem?_replicate, if_pos (by omega)]
theorem lentL_spare (l : List Int) (k : Nat) (h : k < 8) : (lentL l 8)[l.length + k]? = some (.int .i64 (-77)) := by
  unfold lentL
  rw [List.append_assoc, List.getElem?_append_right (by simp [iV]), List.getElem?_append_left (by rw [iV_len, List.length_replicate]; omega), iV_len, List.getElem?_replicate, if_pos (by omega)]
theorem lentL_set (l : List Int) (k : Nat) (h : k < 8) : (lentL l k).toArray.setIfInBounds (l.length + k) (.int .i64 (-77)) = (lentL l (k + 1)).toArray := by
  rw [List.setIfInBounds_toArray]
  congr 1
  unfold lentL
  obtain ⟨m, hm⟩ : ∃ m, 8 - k = m + 1 := ⟨8 - k - 1, by omega⟩
  rw [hm, show 8 - (k + 1) = m by omega, List.replicate_succ, List.set_append_right _ _ (by simp [iV]), show l.length + k - (iV l ++ List.replicate k (Value.int .i64 (-77))).length = 0 by simp [iV], List.set_cons_zero, List.replicate_succ']
  simp
/-- What is written over, up to i. -/
def backL (l : List Int) (i : Nat) : List Value := List.replicate i (.int .i64 (-78)) ++ (lentL l 8).drop i
theorem backL_get (l : List Int) (i : Nat) : (backL l i)[i]? = (lentL l 8)[i]? := by
  unfold backL
  rw [List.getElem?_append_right (by simp)]
  simp
theorem backL_set (l : List Int) (i : Nat) (h : i < l.length + 8) : (backL l i).toArray.setIfInBounds i (.int .i64 (-78)) = (backL l (i + 1)).toArray := by
  rw [List.setIfInBounds_toArray]
  congr 1
  unfold backL
  have hl := lentL_len l 8 (by omega)
  rw [List.set_append_right _ _ (by simp), List.length_replicate, Nat.sub_self, List.drop_eq_getElem_cons (by omega), List.set_cons_zero, List.replicate_succ']
  simp

theorem nil_yes (w : World) : (binOp .eql 24 (.slice none 0 0) (.slice none 0 0)).run Tryz.prog w = .ok (.bool true) w := by kernel_rfl
theorem nil_no (w : World) (a : Addr) (n c : Nat) : (binOp .eql 24 (.slice (some a) n c) (.slice none 0 0)).run Tryz.prog w = .ok (.bool false) w := by kernel_rfl

set_option maxRecDepth 100000 in
theorem lent_none (w : World) : Calls Tryz.prog 45 #[.slice none 0 0] w fun e w' => e = .returned (.slice none 0 0) ∧ w' = w := by
  have hnil := nil_yes w
  go_enter Tryz.func45, Tryz.ntmps45
  go_wp2_with fail
  go_ret
  exact ⟨rfl, rfl⟩
set_option maxRecDepth 100000 in
theorem back_none (w : World) : Calls Tryz.prog 46 #[.slice none 0 0, .slice none 0 0] w fun e w' => e = .returned (.bool true) ∧ w' = w := by
  have hnil := nil_yes w
  go_enter Tryz.func46, Tryz.ntmps46
  go_wp2_with fail
  go_ret
  exact ⟨rfl, rfl⟩

set_option maxRecDepth 100000 in
theorem make_ints (w : World) (n : Nat) (hb : n * 8 ≤ 140737488351232) : (Instr.makeSlice 24 (.int .i64 ((n : Int) + 8)) (.int .i64 ((n : Int) + 8))).run Tryz.prog w = .ok (.slice (some ⟨w.heap.size, 0, none⟩) (n + 8) (n + 8)) (w.alloc (.cells (List.replicate (n + 8) (Value.int .i64 0)).toArray 3)) := by
  obtain ⟨i, hi, hz, hs, hby⟩ := info_parts infoInt
  have hr := run_make (P := Tryz.prog) w 24 3 i _ Tryz.underlying24 hi hz .i64 .i64 ((n : Int) + 8) ((n : Int) + 8) (by omega) (Int.le_refl _) (by rw [hby]; omega) (by omega)
  rw [hr]
  have e1 : ((n : Int) + 8).toNat = n + 8 := by omega
  rw [e1, hs, Nat.mul_one]
  congr 3
  have := toList_madeCells_one (.int .i64 0) (n + 8)
  apply Array.toList_inj.1
  rw [show (Value.int .i64 0).cells = #[.int .i64 0] from rfl, this]

set_option maxRecDepth 100000 in
set_option maxHeartbeats 2000000 in
theorem lent_some (w : World) (a : Addr) (pc : Nat) (l : List Int) (hc : ∀ (j : Nat) (x : Int), l[j]? = some x → w.cell? (a.add j) = some (.int .i64 x)) (hb : l.length * 8 ≤ 140737488351232) :
    Calls Tryz.prog 45 #[.slice (some a) l.length pc] w fun e w' => e = .returned (.slice (some ⟨w.heap.size, 0, none⟩) l.length (l.length + 8)) ∧ w.grownBy w' none ∧ w'.heap[w.heap.size]? = some (.cells (lentL l 8).toArray 3 (0, 0)) := by
  have hmk := make_ints w l.length hb
  have hnil := nil_no w a l.length pc
  obtain ⟨W, hW⟩ : ∃ W, W = w.alloc (.cells (List.replicate (l.length + 8) (Value.int .i64 0)).toArray 3) := ⟨_, rfl⟩
  have HB : Hid (W.heap[w.heap.size]? = some (.cells (List.replicate (l.length + 8) (Value.int .i64 0)).toArray 3 (0, 0))) := by show _ = _; rw [hW]; exact heap_alloc_new w _
  have HG : Hid (w.grownBy W none) := by show World.grownBy _ _ _; rw [hW]; exact gb_alloc (gb_refl _ _) _
  have HC : Hid (∀ (j : Nat) (x : Int), l[j]? = some x → W.cell? (a.add j) = some (.int .i64 x)) := fun j x hx => HG.out.cell (hc j x hx) (by simp)
  rw [← hW] at hmk
  clear hc hW
  obtain ⟨N, hN⟩ : ∃ N, N = l.length := ⟨_, rfl⟩
  have HN : Hid (N = l.length) := hN
  rw [← hN] at hmk hb HB hnil ⊢
  clear hN
  obtain ⟨cs, hcs⟩ : ∃ cs, cs = iV l := ⟨_, rfl⟩
  have HCS : Hid (cs = iV l) := hcs
  have hcl : cs.length = N := by rw [hcs, iV_len, HN.out]
  have HCL : Hid (∀ j v, cs[j]? = some v → W.cell? (a.add j) = some v) := fun j v hv => by
    rw [hcs] at hv
    simp only [iV, List.getElem?_map, Option.map_eq_some_iff] at hv
    obtain ⟨x, hx, rfl⟩ := hv
    exact HC.out j x hx
  have HC1 : Hid (∀ v ∈ cs, v.oneCell' = true) := fun v hv => by
    rw [hcs] at hv
    simp only [iV, List.mem_map] at hv
    obtain ⟨x, _, rfl⟩ := hv
    rfl
  have HSP : Hid (splice (List.replicate (N + 8) (Value.int .i64 0)) 0 cs = lentL l 0) := by
    show _ = _
    unfold splice lentL
    rw [List.take_zero, List.nil_append, List.drop_replicate, hcl, hcs, show 0 + N = N by omega, show N + 8 - N = 8 by omega]
    simp
  clear hcs
  obtain ⟨i0, hi0, hz0, hz1, hz2⟩ := info_parts infoInt
  have hsz1 : (Tryz.prog.info? 3).map (·.size) = some 1 := by rw [hi0]; simp [hz1]
  have hmin : cs.length = Nat.min N (N + 8) := by rw [hcl]; exact (Nat.min_eq_left (by omega)).symm
  have hfit : 0 + cs.length ≤ (List.replicate (N + 8) (Value.int .i64 0)).length := by rw [hcl]; simp
  have hcp := run_copy_row (P := Tryz.prog) W 24 24 3 3 w.heap.size 0 (N + 8) (N + 8) a N pc _ 3 cs Tryz.underlying24 hsz1 HB.out hmin HCL.out (by simpa using hfit) HC1.out
  rw [List.toList_toArray, hcl, Nat.zero_add, List.take_zero, List.nil_append] at hcp
  have HSP2 : Hid (cs ++ List.drop N (List.replicate (N + 8) (Value.int .i64 0)) = lentL l 0) := by
    show _ = _
    have := HSP.out
    unfold splice at this
    rwa [List.take_zero, List.nil_append, hcl, Nat.zero_add] at this
  rw [HSP2.out] at hcp
  obtain ⟨w2, hw2⟩ : ∃ w2, w2 = W.setRow w.heap.size (lentL l 0).toArray := ⟨_, rfl⟩
  have HB2 : Hid (w2.heap[w.heap.size]? = some (.cells (lentL l 0).toArray 3 (0, 0))) := by show _ = _; rw [hw2]; exact setRow_heap W _ _ _ _ _ HB.out
  have HGR : Hid (w.grownBy w2 none) := by
    show World.grownBy _ _ _
    rw [hw2]
    obtain ⟨b1, b2, b3, b4, b5⟩ := below_setRow (gb_below HG.out) (Nat.le_refl _) (lentL l 0).toArray
    exact ⟨b1, b2, b3, b4, fun k hk _ => b5 k hk⟩
  rw [← hw2] at hcp
  clear hw2
  go_enter Tryz.func45, Tryz.ntmps45
  go_wp2_with fail
  clear hmk hcp
  go_loopw [4] (fun v4 wr => ∃ j : Nat, v4 = .int .i64 (j : Nat) ∧ N ≤ j ∧ j ≤ N + 8 ∧ Hid (w.grownBy wr none) ∧ Hid (wr.heap[w.heap.size]? = some (.cells (lentL l (j - N)).toArray 3 (0, 0)))) (fun v4 _ => N + 8 - (intOf v4).toNat)
  case atStart => exact ⟨N, rfl, Nat.le_refl _, by omega, HGR, by rw [Nat.sub_self]; exact HB2.out⟩
  case round =>
    obtain ⟨j, rfl, hj1, hj2, HGw, HBw⟩ := hrel
    clear HB2 HGR
    have hTl := heap_lt HBw.out
    by_cases hj : j < N + 8
    · have hj' : decide ((j : Int) < ((N + 8 : Nat) : Int)) = true := decide_eq_true (by omega)
      have hj'' : decide ((j : Int) < (N : Int) + 8) = true := decide_eq_true (by omega)
      have m1 : (j : Int) < (N : Int) + 8 := by omega
      obtain ⟨k, rfl⟩ : ∃ k, j = N + k := ⟨j - N, by omega⟩
      rw [show N + k - N = k by omega] at HBw
      have e0 : wr.cell? ⟨w.heap.size, N + k, none⟩ = some (.int .i64 0) := cell_of HBw.out (N + k) _ (by rw [List.getElem?_toArray, HN.out]; exact lentL_zero l k (by omega))
      have ef := frozen_of HBw.out
      have HB3 : Hid ((wr.setCell ⟨w.heap.size, N + k, none⟩ (.int .i64 (-77))).heap[w.heap.size]? = some (.cells (lentL l (k + 1)).toArray 3 (0, 0))) := heap_set' HBw.out _ _ _ (by rw [HN.out]; exact lentL_set l k (by omega))
      have HG3 : Hid (w.grownBy (wr.setCell ⟨w.heap.size, N + k, none⟩ (.int .i64 (-77))) none) := gb_put_new HGw.out (Nat.le_refl _) _ _
      go_wp2_with fail
      refine ⟨⟨N + k + 1, by go_num, by omega, by omega, HG3, ?_⟩, by simp [intOf]; omega⟩
      rw [show N + k + 1 - N = k + 1 by omega]
      exact HB3
    · have hj' : decide ((j : Int) < ((N + 8 : Nat) : Int)) = false := decide_eq_false (by omega)
      have hj'' : decide ((j : Int) < (N : Int) + 8) = false := decide_eq_false (by omega)
      obtain rfl : j = N + 8 := by omega
      have m1 : (N : Int) ≤ (N : Int) + 8 := by omega
      go_wp2_with fail
      go_ret
      refine ⟨rfl, HGw.out, ?_⟩
      have := HBw.out
      rw [show N + 8 - N = 8 by omega] at this
      exact this

set_option maxRecDepth 100000 in
set_option maxHeartbeats 2000000 in
theorem back_some (w0 w : World) (a : Addr) (pc : Nat) (l : List Int) (g : Nat) (hg0 : w0.heap.size ≤ g) (hw : w0.grownBy w none) (hb : w.heap[g]? = some (.cells (lentL l 8).toArray 3 (0, 0))) (hc : ∀ (j : Nat) (x : Int), l[j]? = some x → w0.cell? (a.add j) = some (.int .i64 x)) (hbd : l.length * 8 ≤ 140737488351232) :
    Calls Tryz.prog 46 #[.slice (some ⟨g, 0, none⟩) l.length (l.length + 8), .slice (some a) l.length pc] w fun e w' => e = .returned (.bool true) ∧ w0.grownBy w' none := by
  obtain ⟨N, hN⟩ : ∃ N, N = l.length := ⟨_, rfl⟩
  have HN : Hid (N = l.length) := hN
  have HC : Hid (∀ (j : Nat) (x : Int), l[j]? = some x → w0.cell? (a.add j) = some (.int .i64 x)) := hc
  have HSP : Hid (0 < N → ∃ ab ao, a = ⟨ab, ao, none⟩) := fun h0 => by
    obtain ⟨x, hx⟩ : ∃ x, l[0]? = some x := ⟨l[0]'(by omega), List.getElem?_eq_getElem _⟩
    have h1 := World.cell?_spot (hc 0 x hx)
    obtain ⟨ab, ao, asp⟩ := a
    exact ⟨ab, ao, by simp [Addr.add] at h1; rw [h1]⟩
  have HB0 : Hid (w.heap[g]? = some (.cells (backL l 0).toArray 3 (0, 0))) := hb
  have HW : Hid (w0.grownBy w none) := hw
  have hgl := heap_lt hb
  have hnil := nil_no w ⟨g, 0, none⟩ l.length (l.length + 8)
  rw [← hN] at hbd hnil ⊢
  clear hN hc hb hw
  go_enter Tryz.func46, Tryz.ntmps46
  go_wp2_with fail
  go_loopw [6, 7] (fun v6 v7 wr => ∃ i : Nat, v6 = .bool true ∧ v7 = .int .i64 (i : Nat) ∧ i ≤ N + 8 ∧ Hid (w0.grownBy wr none) ∧ Hid (wr.heap[g]? = some (.cells (backL l i).toArray 3 (0, 0)))) (fun _ v7 _ => N + 8 - (intOf v7).toNat)
  case atStart => exact ⟨0, rfl, rfl, by omega, HW, HB0⟩
  case round =>
    obtain ⟨i, rfl, rfl, hi, HG, HB⟩ := hrel
    clear HB0 HW hgl
    have hgl := heap_lt HB.out
    by_cases hi8 : i < N + 8
    · have hi' : decide ((i : Int) < ((N + 8 : Nat) : Int)) = true := decide_eq_true (by omega)
      have hi'' : decide ((i : Int) < (N : Int) + 8) = true := decide_eq_true (by omega)
      have m1 : (i : Int) < (N : Int) + 8 := by omega
      have ef := frozen_of HB.out
      have HB3 : Hid ((wr.setCell ⟨g, i, none⟩ (.int .i64 (-78))).heap[g]? = some (.cells (backL l (i + 1)).toArray 3 (0, 0))) := heap_set' HB.out _ _ _ (backL_set l i (by rw [← HN.out]; exact hi8))
      have HG3 : Hid (w0.grownBy (wr.setCell ⟨g, i, none⟩ (.int .i64 (-78))) none) := gb_put_new HG.out hg0 _ _
      by_cases hiN : i < N
      · have hn1 : decide ((i : Int) < (N : Int)) = true := decide_eq_true (by omega)
        have m2 : (i : Int) < (N : Int) := by omega
        obtain ⟨x, hx⟩ : ∃ x, l[i]? = some x := ⟨l[i]'(by rw [← HN.out]; exact hiN), List.getElem?_eq_getElem _⟩
        have hsrc := HC.out i x hx
        obtain ⟨ab, ao, rfl⟩ := HSP.out (by omega)
        rw [addr_add2] at hsrc
        have q0 := gb_cell HG.out hsrc (by simp)
        have hab := World.block_lt_of_cell? wr ⟨ab, ao + i, none⟩ q0
        have hab0 := World.block_lt_of_cell? w0 ⟨ab, ao + i, none⟩ hsrc
        have e0 : wr.cell? ⟨g, i, none⟩ = some (.int .i64 x) := cell_of HB.out i _ (by rw [List.getElem?_toArray, backL_get]; exact lentL_get l 8 i x hx)
        clear hsrc hx
        go_wp2_with fail
        exact ⟨⟨i + 1, by simp, by go_num, by omega, HG3, HB3⟩, by simp [intOf]; omega⟩
      · have hn1 : decide ((i : Int) < (N : Int)) = false := decide_eq_false (by omega)
        have e0 : wr.cell? ⟨g, i, none⟩ = some (.int .i64 (-77)) := cell_of HB.out i _ (by
          rw [List.getElem?_toArray, backL_get]
          obtain ⟨k, hk⟩ : ∃ k, i = l.length + k := ⟨i - N, by rw [← HN.out]; omega⟩
          rw [hk]
          exact lentL_spare l k (by rw [← HN.out] at hk; omega))
        go_wp2_with fail
        exact ⟨⟨i + 1, by simp, by go_num, by omega, HG3, HB3⟩, by simp [intOf]; omega⟩
    · have hi' : decide ((i : Int) < ((N + 8 : Nat) : Int)) = false := decide_eq_false (by omega)
      have hi'' : decide ((i : Int) < (N : Int) + 8) = false := decide_eq_false (by omega)
      go_wp2_with fail
      go_ret
      exact ⟨rfl, HG.out⟩
end Go.Proofs.YtmpaeladhoomoaaGreatDoor

namespace Go.Proofs.YtmpaeladhoomoaaGreatDoor
open Go.RowKit

theorem hid_of {p : Prop} (h : p) : Hid p := h
/-- Picks of a script's step. -/
def PkAt (w : World) (pa : Option Addr) (pl pc : Nat) : Prop := ∃ picks : List Int, PicksAt w (.slice pa pl pc) picks ∧ (pa = none → pl = 0 ∧ pc = 0) ∧ pl * 8 ≤ 140737488351232
theorem PicksAt.grow {w w' : World} {pv : Value} {l : List Int} (h : PicksAt w pv l) (hg : w.grownBy w' none) : PicksAt w' pv l := by
  obtain ⟨a, cap, e, h1, h2⟩ := h
  refine ⟨a, cap, e, h1, fun j x hx => ?_⟩
  obtain ⟨g, o, b1, b2, b3⟩ := h2 j x hx
  exact ⟨g, o, b1, gb_cell hg b2 (by simp), b3⟩
theorem PkAt.grow {w w' : World} {pa : Option Addr} {pl pc : Nat} (h : PkAt w pa pl pc) (hg : w.grownBy w' none) : PkAt w' pa pl pc := by
  obtain ⟨picks, h1, h2⟩ := h
  exact ⟨picks, h1.grow hg, h2⟩

/-- What a step by Walk leans on: what is lent, the program's Walk, what is looked at behind it, the document's Walk. -/
def StepK (w : World) (gx gy : Nat) (m : Int) (pa : Option Addr) (pl pc : Nat) : Prop := ∃ (t : ByteArray) (er : Int) (pv : Value),
  Calls Tryz.prog 45 #[.slice pa pl pc] w fun e w1 => e = .returned pv ∧ w.grownBy w1 none ∧
    Calls Tryz.prog 24 #[.pointer (some ⟨gx, 0, none⟩), .int .i64 m, pv] w1 fun e w2 => e = .returned (.tuple #[.string t, .int .i64 er]) ∧ w1.grownBy w2 none ∧
      Calls Tryz.prog 46 #[pv, .slice pa pl pc] w2 fun e w3 => e = .returned (.bool true) ∧ w.grownBy w3 none ∧
        Calls Tryz.prog 47 #[.pointer (some ⟨gy, 0, none⟩), .int .i64 m, .slice pa pl pc] w3 fun e w4 => e = .returned (.tuple #[.string t, .int .i64 er]) ∧ w3.grownBy w4 none
theorem walkA_tuple (ls : List (List St)) (ft : Txt) (m : Int) (picks : List Int) : ∃ (t : ByteArray) (er : Int), walkA ls ft m picks = .tuple #[.string t, .int .i64 er] := by
  unfold walkA
  split
  · cases walkW m.toNat ls ft picks (firstW ls.length) with
    | none => exact ⟨_, _, rfl⟩
    | some t => exact ⟨_, _, rfl⟩
  · exact ⟨_, _, rfl⟩
theorem stepK_of {w0 w : World} {wb n : Nat} {tsv : Value} {xs : List Value} (L : LK w0 w wb n tsv xs) {k gx gy : Nat} (hk : k < n) (h1 : xs[k * 2]? = some (.pointer (some ⟨gx, 0, none⟩))) (h2 : xs[k * 2 + 1]? = some (.pointer (some ⟨gy, 0, none⟩))) (m : Int) {pa : Option Addr} {pl pc : Nat} (hp : PkAt w pa pl pc) : StepK w gx gy m pa pl pc := by
  obtain ⟨gx', gy', ls, ft, tt, nm, b1, b2, hK, b3, b4⟩ := L.pr k hk
  rw [h1] at b1
  rw [h2] at b2
  simp at b1 b2
  subst b1 b2
  obtain ⟨picks, hpk, hnone, hb⟩ := hp
  obtain ⟨t, er, hA⟩ := walkA_tuple ls ft m picks
  have hpl : picks.length ≤ 140737488355328 := by
    obtain ⟨_, _, he, _⟩ := hpk
    simp only [Value.slice.injEq] at he
    omega
  have hX : ∀ w' pv, w.grownBy w' none → PicksAt w' pv picks → Calls Tryz.prog 24 #[.pointer (some ⟨gx, 0, none⟩), .int .i64 m, pv] w' fun e w2 => e = .returned (.tuple #[.string t, .int .i64 er]) ∧ w'.grownBy w2 none := fun w' pv hg hp' => by
    rw [← hA]
    exact (b3.mono (fun x hx => hx) (fun x hx => hg.block x hx.2.1 (by simp))).walk (fun x hx => Nat.lt_of_lt_of_le hx.2.1 hg.size) hK.ok m picks pv hp'
  have hY : ∀ w', w.grownBy w' none → Calls Tryz.prog 47 #[.pointer (some ⟨gy, 0, none⟩), .int .i64 m, .slice pa pl pc] w' fun e w2 => e = .returned (.tuple #[.string t, .int .i64 er]) ∧ w'.grownBy w2 none := fun w' hg => by
    rw [← hA]
    exact (b4.mono (fun x hx => hx) (fun x hx => hg.block x hx.2.1 (by simp))).walk hK m picks _ (hpk.grow hg) hpl
  cases pa with
  | none =>
    obtain ⟨rfl, rfl⟩ := hnone rfl
    refine ⟨t, er, .slice none 0 0, (lent_none w).mono ?_⟩
    rintro e w1 ⟨rfl, rfl⟩
    refine ⟨rfl, gb_refl _ _, (hX _ _ (gb_refl _ _) hpk).mono ?_⟩
    rintro e w2 ⟨rfl, hg2⟩
    refine ⟨rfl, hg2, (back_none w2).mono ?_⟩
    rintro e w3 ⟨rfl, rfl⟩
    exact ⟨rfl, hg2, hY _ hg2⟩
  | some a =>
    obtain ⟨a', cap', he, hle, hc⟩ := hpk
    simp only [Value.slice.injEq] at he
    obtain ⟨rfl, rfl, rfl⟩ := he
    have hc' : ∀ w' : World, w.grownBy w' none → ∀ (j : Nat) (x : Int), picks[j]? = some x → w'.cell? (a.add j) = some (.int .i64 x) := fun w' hg j x hx => by
      obtain ⟨g, o, c1, c2, _⟩ := hc j x hx
      simp at c1
      subst c1
      rw [addr_add2]
      exact gb_cell hg c2 (by simp)
    refine ⟨t, er, .slice (some ⟨w.heap.size, 0, none⟩) picks.length (picks.length + 8), (lent_some w a pc picks (hc' w (gb_refl _ _)) hb).mono ?_⟩
    rintro e w1 ⟨rfl, hg1, hB1⟩
    refine ⟨rfl, hg1, (hX w1 _ hg1 ⟨_, _, rfl, by omega, fun j x hx => ⟨w.heap.size, 0, rfl, ?_, ?_⟩⟩).mono ?_⟩
    · rw [Nat.zero_add]
      exact cell_of hB1 j _ (by rw [List.getElem?_toArray]; exact lentL_get picks 8 j x hx)
    · obtain ⟨g, o, _, _, c3⟩ := hc j x hx
      exact c3
    rintro e w2 ⟨rfl, hg2⟩
    have hG2 := gb_trans hg1 hg2
    refine ⟨rfl, hg2, (back_some w w2 a pc picks w.heap.size (Nat.le_refl _) hG2 (heap_gb hg2 hB1 (by simp)) (hc' w (gb_refl _ _)) hb).mono ?_⟩
    rintro e w3 ⟨rfl, hg3⟩
    exact ⟨rfl, hg3, hY _ hg3⟩

set_option maxRecDepth 100000 in
set_option maxHeartbeats 2000000 in
theorem lkstep_walk {w0 w : World} {wb n : Nat} {tsv : Value} {xs : List Value} (L : LK w0 w wb n tsv xs) (hn : 0 < n) (hn2 : n * 16 ≤ 140737488355328) (a b c d : Int) (s : ByteArray) (pa : Option Addr) (pl pc : Nat) (ha : (Lit.int .i64 a).wf = true) (hp : PkAt w pa pl pc) :
    Calls Tryz.prog 30 #[.pointer (some ⟨wb, 0, none⟩), .agg #[.int .i64 3, .int .i64 a, .int .i64 b, .int .i64 c, .int .i64 d, .string s, .slice pa pl pc]] w fun e w' => e = .returned (.bool true) ∧ LK w0 w' wb n tsv xs := by
  have HP : Hid (∀ wx, Calls Tryz.prog 43 #[.int .i64 a, .int .i64 (n : Nat)] wx fun e w' => e = .returned (.int .i64 (pickK a n : Nat)) ∧ w' = wx) := fun wx => pickK_any wx a n ha hn (by omega)
  clear ha
  have hk := pickK_lt a hn
  generalize pickK a n = k at HP hk
  obtain ⟨ta, tcap, rfl⟩ := own_slice L.lw.own
  obtain ⟨tg, rfl⟩ : ∃ tg, ta = some ⟨tg, 0, none⟩ := by
    rcases L.lw.own.2 with ⟨_, h1⟩ | ⟨g', cap', cur, h1, _⟩
    · omega
    · simp at h1; exact ⟨g', h1.1⟩
  have hwl := heap_lt L.lw.blk
  have htl := (L.lw.own.lt tg rfl).2
  have c0 := cell_of L.lw.blk 0 _ rfl
  have hn0 : ((n : Int) == 0) = false := by rw [beq_eq_false_iff_ne]; omega
  obtain ⟨gx, gy, _, _, _, _, a1, a2, _, _, _⟩ := L.pr k hk
  have x0 : w.cell? ⟨tg, k * 2, none⟩ = some (.pointer (some ⟨gx, 0, none⟩)) := by rw [← addr_add]; exact L.lw.own.cells rfl _ _ a1
  have x1 : w.cell? ⟨tg, k * 2 + 1, none⟩ = some (.pointer (some ⟨gy, 0, none⟩)) := by rw [← addr_add]; exact L.lw.own.cells rfl _ _ a2
  have HX : Hid (∀ wx, w.grownBy wx none → StepK wx gx gy b pa pl pc) := fun wx hg => stepK_of (L.grow hg) hk a1 a2 b (hp.grow hg)
  have HLG : Hid (∀ wx, w.grownBy wx none → LK w0 wx wb n (.slice (some ⟨tg, 0, none⟩) n tcap) xs) := fun wx hg => L.grow hg
  clear a1 a2 L hp
  have m0 : (0 : Int) ≤ (k : Int) := by omega
  have m1 : (k : Int) < (n : Int) := by omega
  have y1 : ¬ wb = w.heap.size + 1 := by omega
  have y2 : ¬ tg = w.heap.size + 1 := by omega
  have y3 : ¬ wb = w.heap.size := by omega
  have y4 : ¬ tg = w.heap.size := by omega
  go_enter Tryz.func30, Tryz.ntmps30
  go_wp2_with fail
  go_region_held3 (fun w' => w'.cell? ⟨wb, 0, none⟩ = some (.slice (some ⟨tg, 0, none⟩) n tcap) ∧ w'.cell? ⟨w.heap.size, 1, none⟩ = some (.int .i64 a) ∧ w'.cell? ⟨tg, k * 2, none⟩ = some (.pointer (some ⟨gx, 0, none⟩)) ∧ w'.cell? ⟨tg, k * 2 + 1, none⟩ = some (.pointer (some ⟨gy, 0, none⟩))) (go_keep)
    (first | (go_at_call 43; refine (HP.out _).mono ?_; rintro e w2 ⟨rfl, rfl⟩))
  all_goals
    go_wp2_with fail
    obtain ⟨W, hW⟩ : ∃ W, W = ((w.alloc (.cells #[.int .i64 3, .int .i64 a, .int .i64 b, .int .i64 c, .int .i64 d, .string s, .slice pa pl pc] 27)).alloc (.cells #[.pointer (some ⟨gx, 0, none⟩), .pointer (some ⟨gy, 0, none⟩)] 84)).drew := ⟨_, rfl⟩
    have hG0 : w.grownBy W none := by rw [hW]; exact gb_drew (gb_alloc (gb_alloc (gb_refl _ _) _) _)
    have hO : W.heap[w.heap.size]? = some (.cells #[.int .i64 3, .int .i64 a, .int .i64 b, .int .i64 c, .int .i64 d, .string s, .slice pa pl pc] 27 (0, 0)) := by rw [hW]; exact heap_alloc_at (heap_alloc_new w _) _
    have hT : W.heap[w.heap.size + 1]? = some (.cells #[.pointer (some ⟨gx, 0, none⟩), .pointer (some ⟨gy, 0, none⟩)] 84 (0, 0)) := by rw [hW]; exact new_at (H := w.heap.size + 1) (by simp) _
    rw [← hW]
    clear hW x0 x1 c0
    obtain ⟨t, er, pv, hS⟩ := HX.out W hG0
    have HO : Hid (W.heap[w.heap.size]? = some (.cells #[.int .i64 3, .int .i64 a, .int .i64 b, .int .i64 c, .int .i64 d, .string s, .slice pa pl pc] 27 (0, 0))) := hO
    have HT : Hid (W.heap[w.heap.size + 1]? = some (.cells #[.pointer (some ⟨gx, 0, none⟩), .pointer (some ⟨gy, 0, none⟩)] 84 (0, 0))) := hT
    have HG0 : Hid (w.grownBy W none) := hG0
    have HS := hid_of hS
    clear hO hT hG0 hS HX
    refine HS.out.mono ?_
    rintro e w1 ⟨rfl, hg1, hS1⟩
    have HS1 := hid_of hS1
    have HG1 : Hid (W.grownBy w1 none) := hg1
    have o2 : w1.cell? ⟨w.heap.size, 2, none⟩ = some (.int .i64 b) := cell_of (heap_gb hg1 HO.out (by simp)) 2 _ rfl
    have t0 : w1.cell? ⟨w.heap.size + 1, 0, none⟩ = some (.pointer (some ⟨gx, 0, none⟩)) := cell_of (heap_gb hg1 HT.out (by simp)) 0 _ rfl
    clear hS1 hg1
    go_wp2_with fail
    clear o2 t0
    refine HS1.out.mono ?_
    rintro e w2 ⟨rfl, hg2, hS2⟩
    have HS2 := hid_of hS2
    have HG2 : Hid (W.grownBy w2 none) := gb_trans HG1.out hg2
    have o6 : w2.cell? ⟨w.heap.size, 6, none⟩ = some (.slice pa pl pc) := cell_of (heap_gb HG2.out HO.out (by simp)) 6 _ rfl
    clear hS2 hg2
    go_wp2_with fail
    clear o6
    refine HS2.out.mono ?_
    rintro e w3 ⟨rfl, hg3, hS3⟩
    have HS3 := hid_of hS3
    have HG3 : Hid (W.grownBy w3 none) := hg3
    have o2 : w3.cell? ⟨w.heap.size, 2, none⟩ = some (.int .i64 b) := cell_of (heap_gb hg3 HO.out (by simp)) 2 _ rfl
    have o6 : w3.cell? ⟨w.heap.size, 6, none⟩ = some (.slice pa pl pc) := cell_of (heap_gb hg3 HO.out (by simp)) 6 _ rfl
    have t1 : w3.cell? ⟨w.heap.size + 1, 1, none⟩ = some (.pointer (some ⟨gy, 0, none⟩)) := cell_of (heap_gb hg3 HT.out (by simp)) 1 _ rfl
    clear hS3 hg3
    go_wp2_with fail
    clear o2 o6 t1
    refine HS3.out.mono ?_
    rintro e w4 ⟨rfl, hg4⟩
    have HG4 : Hid (W.grownBy w4 none) := gb_trans HG3.out hg4
    clear hg4
    go_wp2_with fail
    go_ret
    exact ⟨by simp, HLG.out _ (gb_trans HG0.out HG4.out)⟩
end Go.Proofs.YtmpaeladhoomoaaGreatDoor

namespace Go.Proofs.YtmpaeladhoomoaaGreatDoor
open Go.RowKit

/-- A script whose numbers are numbers, and whose picks lie somewhere. -/
def WfK (w : World) (m : Nat) (ops : Nat → OpV) : Prop := ∀ i, i < m → (Lit.int .i64 (ops i).a).wf = true ∧ PkAt w (ops i).pa (ops i).pl (ops i).pc
theorem WfK.grow {w w' : World} {m : Nat} {ops : Nat → OpV} (h : WfK w m ops) (hg : w.grownBy w' none) : WfK w' m ops := fun i hi => ⟨(h i hi).1, (h i hi).2.grow hg⟩
theorem grown_geK {q n : Nat} (h : 0 < n) : 0 < grew q n := by unfold grew; split <;> omega
theorem take_any (ks : List Int) (k : Int) (j : Nat) (x : Int) (h : ks[j]? = some x) : (ks.take (j + 1)).any (fun y => k == y) = ((ks.take j).any (fun y => k == y) || k == x) := by
  rw [List.take_add_one, h]
  simp

set_option maxRecDepth 100000 in
set_option maxHeartbeats 4000000 in
theorem plays3_any (B : BothK) (h0 : (loadQ first).1 = 0) (w : World) (sa : Option Addr) (m cap : Nat) (ops : Nat → OpV) (S : Scr w sa m ops) (SW : WfK w m ops) (hm : m * 80 ≤ 140737488351232) (kb nk : Nat) (ks : List Int) (hkl0 : ks.length = nk) (hnk : 1 ≤ nk ∧ nk ≤ 2) (hks : ∀ x ∈ ks, x = 1 ∨ x = 3) (hkc : ∀ j x, ks[j]? = some x → w.cell? ⟨kb, j, none⟩ = some (.int .i64 x)) :
    Calls Tryz.prog 14 #[.slice sa m cap, .slice (some ⟨kb, 0, none⟩) nk nk] w fun e w' => e = .returned (.bool true) ∧ w.grownBy w' none := by
  have H0 : Hid ((loadQ first).1 = 0) := h0
  have HW : Hid (WfK w m ops) := SW
  have HKC : Hid (∀ j x, ks[j]? = some x → w.cell? ⟨kb, j, none⟩ = some (.int .i64 x)) := hkc
  have HKS : Hid (∀ x ∈ ks, x = 1 ∨ x = 3) := hks
  have HKL : Hid (ks.length = nk) := hkl0
  have hkl : kb < w.heap.size := by
    obtain ⟨x, hx⟩ : ∃ x, ks[0]? = some x := ⟨ks[0]'(by omega), List.getElem?_eq_getElem (by omega)⟩
    exact World.block_lt_of_cell? w ⟨kb, 0, none⟩ (hkc 0 x hx)
  clear h0 SW hkc hks hkl0
  go_enter Tryz.func14, Tryz.ntmps14
  go_wp2_with fail
  refine (lkstep_load B (LK.start w (LW.start w)) (by decide) 0 0 0 0 first none 0 0 (by decide)).mono ?_
  rintro e w1 ⟨rfl, tsv1, xs1, L1⟩
  rw [show grew (loadQ first).1 0 = 1 from by rw [H0.out]; rfl] at L1
  obtain ⟨ta1, tcap1, rfl⟩ := own_slice L1.lw.own
  have e0 := cell_of L1.lw.blk 0 _ rfl
  go_wp2_with fail
  clear e0
  go_loopw [7] (fun v7 wr => ∃ (i n : Nat) (tsv : Value) (xs : List Value), v7 = .int .i64 (i : Nat) ∧ i ≤ m ∧ n ≤ i + 1 ∧ 0 < n ∧ LK w wr w.heap.size n tsv xs) (fun v7 _ => m - (intOf v7).toNat)
  case atStart => exact ⟨0, 1, _, _, rfl, Nat.zero_le _, by omega, by omega, L1⟩
  case round =>
    obtain ⟨i, n, tsv, xs, rfl, him, hni, hn0, LR⟩ := hrel
    clear L1
    by_cases hi : i < m
    · have hi' : decide ((i : Int) < (m : Int)) = true := by simp; omega
      obtain ⟨sb, off, rfl, hc⟩ := S.at_ i hi
      have hsz := S.len i hi
      obtain ⟨hwf, hpk⟩ := HW.out i hi
      generalize ops i = o at hc hsz hwf hpk
      obtain ⟨k, a, b, c, d, s, pa, pl, pc⟩ := o
      have HC : Hid (∀ (j : Nat) (v : Value), (opC ⟨k, a, b, c, d, s, pa, pl, pc⟩)[j]? = some v → w.cell? ⟨sb, off + i * 7 + j, none⟩ = some v) := hc
      have HSZ : Hid (s.size ≤ maxLen) := hsz
      have HWF : Hid ((Lit.int .i64 a).wf = true) := hwf
      have HPK : Hid (PkAt w pa pl pc) := hpk
      clear hc hsz hwf hpk
      have HJ : Hid (∀ (wr2 : World) (j : Nat) (v : Value), wr.grownBy wr2 none → (opC ⟨k, a, b, c, d, s, pa, pl, pc⟩)[j]? = some v → wr2.cell? ⟨sb, off + i * 7 + j, none⟩ = some v) := fun wr2 j v hg hv => gb_cell (LR.grow hg).lw.gb (HC.out j v hv) (by simp)
      clear HC
      go_wp2_with fail
      go_loopw [9, 8] (fun v9 v8 wr2 => ∃ j : Nat, v9 = .int .i64 (j : Nat) ∧ j ≤ nk ∧ wr.grownBy wr2 none ∧ v8 = .bool ((ks.take j).any (fun y => k == y))) (fun v9 _ _ => nk - (intOf v9).toNat)
      case atStart => exact ⟨0, rfl, Nat.zero_le _, gb_refl _ _, rfl⟩
      case round =>
        obtain ⟨j, rfl, hj, hG, rfl⟩ := hrel
        have LQ := LR.grow hG
        have q0 := HJ.out _ 0 _ hG rfl
        have q1 := HJ.out _ 1 _ hG rfl
        have q2 := HJ.out _ 2 _ hG rfl
        have q3 := HJ.out _ 3 _ hG rfl
        have q4 := HJ.out _ 4 _ hG rfl
        have q5 := HJ.out _ 5 _ hG rfl
        have q6 := HJ.out _ 6 _ hG rfl
        simp only [Nat.add_zero] at q0
        obtain ⟨bo, hbo⟩ : ∃ bo, bo = (ks.take j).any (fun y => k == y) := ⟨_, rfl⟩
        by_cases hjn : j < nk
        · have hj' : decide ((j : Int) < (nk : Int)) = true := by simp; omega
          obtain ⟨x, hx⟩ : ∃ x, ks[j]? = some x := ⟨ks[j]'(by rw [HKL.out]; exact hjn), List.getElem?_eq_getElem _⟩
          have HT : Hid (_ = _) := take_any ks k j x hx
          have qk := gb_cell LQ.lw.gb (HKC.out j x hx) (by simp)
          rw [← hbo] at HT ⊢
          clear hx hbo
          have hkx : (k == x) = true ∨ (k == x) = false := by cases (k == x) <;> simp
          cases bo with
          | true =>
            go_wp2_with fail
            go_quiet (fail)
            go_wp2_with fail
            refine ⟨⟨j + 1, by go_num, by omega, gb_drewN hG _, ?_⟩, by simp [intOf]; omega⟩
            rw [HT.out]
            rfl
          | false =>
            rcases hkx with hkx | hkx
            · go_wp2_with fail
              go_quiet (fail)
              go_wp2_with fail
              refine ⟨⟨j + 1, by go_num, by omega, gb_drewN hG _, ?_⟩, by simp [intOf]; omega⟩
              rw [HT.out, hkx]
              rfl
            · go_wp2_with fail
              go_quiet (fail)
              go_wp2_with fail
              refine ⟨⟨j + 1, by go_num, by omega, gb_drewN hG _, ?_⟩, by simp [intOf]; omega⟩
              rw [HT.out, hkx]
              rfl
        · have hj' : decide ((j : Int) < (nk : Int)) = false := by simp; omega
          have HIN : Hid (bo = true → k = 1 ∨ k = 3) := fun hb => by
            rw [hbo, List.any_eq_true] at hb
            obtain ⟨y, hy, he⟩ := hb
            rw [beq_iff_eq] at he
            rw [he]
            exact HKS.out y (List.mem_of_mem_take hy)
          rw [← hbo]
          clear hbo
          cases bo with
          | true =>
            rcases HIN.out rfl with rfl | rfl
            · go_wp2_with fail
              refine (lkstep_load B LQ (by omega) a b c d s pa pl pc HSZ.out).mono ?_
              rintro e w3 ⟨rfl, tsv3, xs3, L3⟩
              go_wp2_with fail
              refine (looks_any L3.lw).mono ?_
              rintro e w4 ⟨rfl, rfl⟩
              go_wp2_with fail
              go_roundw
              case measure => simp [intOf]; omega
              case rel => exact ⟨i + 1, _, _, _, by go_num, by omega, grown_le hni, grown_geK hn0, L3⟩
            · go_wp2_with fail
              refine (lkstep_walk LQ hn0 (by omega) a b c d s pa pl pc HWF.out (HPK.out.grow LQ.lw.gb)).mono ?_
              rintro e w3 ⟨rfl, L3⟩
              go_wp2_with fail
              refine (looks_any L3.lw).mono ?_
              rintro e w4 ⟨rfl, rfl⟩
              go_wp2_with fail
              go_roundw
              case measure => simp [intOf]; omega
              case rel => exact ⟨i + 1, _, _, _, by go_num, by omega, by omega, hn0, L3⟩
          | false =>
            go_wp2_with fail
            go_roundw
            case measure => simp [intOf]; omega
            case rel => exact ⟨i + 1, _, _, _, by go_num, by omega, by omega, hn0, LQ⟩
    · have hi' : decide ((i : Int) < (m : Int)) = false := by simp; omega
      go_wp2_with fail
      go_ret
      exact ⟨rfl, LR.lw.gb⟩

/-- The script that Walks plays first. -/
def op1 (h : Nat) : OpV := ⟨3, 0, 2, 0, 0, ⟨#[]⟩, some ⟨h, 0, none⟩, 6, 6⟩
theorem first_scr {W : World} {h g : Nat} (h0 : W.heap[h]? = some (.cells #[.int .i64 0, .int .i64 0, .int .i64 0, .int .i64 0, .int .i64 0, .int .i64 0] 3 (0, 0))) (h1 : W.heap[g]? = some (.cells #[.int .i64 3, .int .i64 0, .int .i64 2, .int .i64 0, .int .i64 0, .string ⟨#[]⟩, .slice (some ⟨h, 0, none⟩) 6 6] 27 (0, 0))) :
    Scr W (some ⟨g, 0, none⟩) 1 (fun _ => op1 h) ∧ WfK W 1 (fun _ => op1 h) := by
  refine ⟨⟨fun i hi => ⟨g, 0, rfl, fun j v hv => ?_⟩, fun i hi => by show (0 : Nat) ≤ maxLen; exact Nat.zero_le _⟩, fun i hi => ⟨by rfl, [0, 0, 0, 0, 0, 0], ⟨some ⟨h, 0, none⟩, 6, rfl, by decide, fun j x hx => ⟨h, 0, rfl, ?_, ?_⟩⟩, (fun e => by simp [op1] at e), by show 6 * 8 ≤ 140737488351232; decide⟩⟩
  · obtain rfl : i = 0 := by omega
    rw [Nat.zero_mul, Nat.zero_add]
    refine cell_of h1 j v ?_
    have hj : j < 7 := (List.getElem?_eq_some_iff.1 hv).1
    have : j = 0 ∨ j = 1 ∨ j = 2 ∨ j = 3 ∨ j = 4 ∨ j = 5 ∨ j = 6 := by omega
    rcases this with rfl | rfl | rfl | rfl | rfl | rfl | rfl <;> exact hv
  · rw [Nat.zero_add]
    refine cell_of h0 j _ ?_
    have hj : j < 6 := (List.getElem?_eq_some_iff.1 hx).1
    have : j = 0 ∨ j = 1 ∨ j = 2 ∨ j = 3 ∨ j = 4 ∨ j = 5 := by omega
    rcases this with rfl | rfl | rfl | rfl | rfl | rfl <;> simp at hx <;> subst hx <;> rfl
  · have hj : j < 6 := (List.getElem?_eq_some_iff.1 hx).1
    have : j = 0 ∨ j = 1 ∨ j = 2 ∨ j = 3 ∨ j = 4 ∨ j = 5 := by omega
    rcases this with rfl | rfl | rfl | rfl | rfl | rfl <;> simp at hx <;> subst hx <;> omega

set_option maxRecDepth 100000 in
set_option maxHeartbeats 1000000 in
theorem walks_any (B : BothK) (h0 : (loadQ first).1 = 0) (w : World) (sa : Option Addr) (m cap : Nat) (ops : Nat → OpV) (S : Scr w sa m ops) (SW : WfK w m ops) (hm : m * 80 ≤ 140737488351232) :
    Calls Tryz.prog 5 #[.slice sa m cap] w fun e w' => e = .returned (.bool true) ∧ w.grownBy w' none := by
  have HB : Hid BothK := B
  have H0 : Hid ((loadQ first).1 = 0) := h0
  have HW : Hid (WfK w m ops) := SW
  have HS : Hid (Scr w sa m ops) := S
  clear B h0 SW S
  go_enter Tryz.func5, Tryz.ntmps5
  go_wp2_with fail
  obtain ⟨W, hW⟩ : ∃ W, W = ((w.alloc (.cells #[.int .i64 0, .int .i64 0, .int .i64 0, .int .i64 0, .int .i64 0, .int .i64 0] 3)).alloc (.cells #[.int .i64 3, .int .i64 0, .int .i64 2, .int .i64 0, .int .i64 0, .string ⟨#[]⟩, .slice (some ⟨w.heap.size, 0, none⟩) 6 6] 27)).alloc (.cells #[.int .i64 3] 3) := ⟨_, rfl⟩
  have hG : w.grownBy W none := by rw [hW]; exact gb_alloc (gb_alloc (gb_alloc (gb_refl _ _) _) _) _
  have b0 : W.heap[w.heap.size]? = some (.cells #[.int .i64 0, .int .i64 0, .int .i64 0, .int .i64 0, .int .i64 0, .int .i64 0] 3 (0, 0)) := by rw [hW]; exact heap_alloc_at (heap_alloc_at (heap_alloc_new w _) _) _
  have b1 : W.heap[w.heap.size + 1]? = some (.cells #[.int .i64 3, .int .i64 0, .int .i64 2, .int .i64 0, .int .i64 0, .string ⟨#[]⟩, .slice (some ⟨w.heap.size, 0, none⟩) 6 6] 27 (0, 0)) := by rw [hW]; exact heap_alloc_at (new_at (H := w.heap.size + 1) (by simp) _) _
  have b2 : W.heap[w.heap.size + 1 + 1]? = some (.cells #[.int .i64 3] 3 (0, 0)) := by rw [hW]; exact new_at (by simp) _
  rw [← hW]
  clear hW
  obtain ⟨S1, W1⟩ := first_scr b0 b1
  refine (plays3_any HB.out H0.out W _ 1 1 _ S1 W1 (by decide) (w.heap.size + 1 + 1) 1 [3] rfl (by decide) (fun x hx => by simp at hx; exact Or.inr hx) (fun j x hx => ?_)).mono ?_
  · have hj : j < 1 := (List.getElem?_eq_some_iff.1 hx).1
    obtain rfl : j = 0 := by omega
    simp at hx
    subst hx
    exact cell_of b2 0 _ rfl
  rintro e w1 ⟨rfl, hg1⟩
  have HG1 : Hid (w.grownBy w1 none) := gb_trans hG hg1
  clear S1 W1 b0 b1 b2 hg1 hG
  go_wp2_with fail
  have hg2 := gb_alloc HG1.out (.cells #[.int .i64 1, .int .i64 3] 3)
  refine (plays3_any HB.out H0.out _ sa m cap ops (HS.out.grow hg2) (HW.out.grow hg2) hm w1.heap.size 2 [1, 3] rfl (by decide) (fun x hx => by simp at hx; exact hx) (fun j x hx => ?_)).mono ?_
  · have hj : j < 2 := (List.getElem?_eq_some_iff.1 hx).1
    have : j = 0 ∨ j = 1 := by omega
    rcases this with rfl | rfl
    · simp at hx
      subst hx
      exact cell_of (heap_alloc_new w1 _) 0 _ rfl
    · simp at hx
      subst hx
      exact cell_of (heap_alloc_new w1 _) 1 _ rfl
  rintro e w2 ⟨rfl, hg3⟩
  go_wp2_with fail
  go_ret
  exact ⟨rfl, gb_trans hg2 hg3⟩
end Go.Proofs.YtmpaeladhoomoaaGreatDoor
