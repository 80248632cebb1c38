/-
  The statements' own functions: load, step, looks, walked.
-/
import Derived.Test.YtmpaeladhoomoaaGreatDoorRdN
import Derived.Deep.RegionLaw
import Derived.LoopN
namespace Go.Proofs.YtmpaeladhoomoaaGreatDoor
open Go.RowKit

theorem infoTest : (Tryz.prog.info? 84).map (fun i => (i.zero, i.size, i.bytes)) = some (some (.agg #[.pointer none, .pointer none]), 2, 16) := by kernel_rfl

/-- Both readers answer r. -/
structure Both (r : ByteArray → Nat × Nat) : Prop where
  prog : ∀ (w : World) (s : ByteArray), s.size ≤ maxLen → Calls Tryz.prog 22 #[.string s] w fun e w' => PostR w (r s) e w'
  ref : ∀ (w : World) (s : ByteArray), s.size ≤ maxLen → Calls Tryz.prog 66 #[.string s] w fun e w' => PostR w (r s) e w'

/-- The script's world (block wb): n tests, no lists that came out; all that lay in w0 lies as it lay. -/
structure LW (w0 w : World) (wb n : Nat) (tsv : Value) (xs : List Value) : Prop where
  gb : w0.grownBy w none
  hb : w0.heap.size ≤ wb
  blk : w.heap[wb]? = some (.cells #[tsv, .slice none 0 0] 66 (0, 0))
  own : w.ownsRow (wb + 1) 84 2 tsv n xs
theorem LW.grow {w0 w w' : World} {wb n : Nat} {tsv : Value} {xs : List Value} (l : LW w0 w wb n tsv xs) (hg : w.grownBy w' none) : LW w0 w' wb n tsv xs :=
  ⟨gb_trans l.gb hg, l.hb, heap_gb hg l.blk (by simp), own_par l.own (gb_any hg) (Nat.lt_succ_self wb)⟩
theorem LW.push {w0 w w' : World} {o : Obj} {wb n g cap : Nat} {tsv : Value} {xs ys : List Value} (l : LW w0 w wb n tsv xs) (hgrow : (w.alloc o).grownBy w' tsv.ownBlock) (hown : w'.ownsRow (wb + 1) 84 2 (.slice (some ⟨g, 0, none⟩) (n + 1) cap) (n + 1) ys) :
    LW w0 (w'.setCell ⟨wb, 0, none⟩ (.slice (some ⟨g, 0, none⟩) (n + 1) cap)) wb (n + 1) (.slice (some ⟨g, 0, none⟩) (n + 1) cap) ys := by
  have hT := heap_gb hgrow (heap_alloc_at l.blk o) (par_own l.own (Nat.lt_succ_self wb))
  refine ⟨gb_put_new (gb_new (gb_alloc l.gb o) hgrow (fun k hk => Or.inr ?_)) l.hb _ _, l.hb, heap_set' hT 0 _ _ rfl, ownsRow_setCell_below hown (by simp) _⟩
  have h1 := (l.own.lt k hk).1
  have h2 := l.hb
  omega

/-- How many tests there are behind a load that answered q. -/
def grew (q n : Nat) : Nat := if q = 0 then n + 1 else n
theorem grew_ne {q n : Nat} (h : q ≠ 0) : grew q n = n := if_neg h

set_option maxRecDepth 100000 in
set_option maxHeartbeats 2000000 in
theorem wload_any {r : ByteArray → Nat × Nat} (B : Both r) {w0 w : World} {wb n : Nat} {tsv : Value} {xs : List Value} (L : LW w0 w wb n tsv xs) (hn : (n + 1) * 16 ≤ 140737488355328) (k a b c d : Int) (s : ByteArray) (pa : Option Addr) (pl pc : Nat) (hs : s.size ≤ maxLen) :
    Calls Tryz.prog 42 #[.pointer (some ⟨wb, 0, none⟩), .agg #[.int .i64 k, .int .i64 a, .int .i64 b, .int .i64 c, .int .i64 d, .string s, .slice pa pl pc]] w fun e w' => e = .returned (.bool true) ∧ ∃ tsv' xs', LW w0 w' wb (grew (r s).1 n) tsv' xs' := by
  have hwl := heap_lt L.blk
  have HP : Hid (∀ wx, Calls Tryz.prog 22 #[.string s] wx fun e w' => PostR wx (r s) e w') := fun wx => B.prog wx s hs
  have HR : Hid (∀ wx, Calls Tryz.prog 66 #[.string s] wx fun e w' => PostR wx (r s) e w') := fun wx => B.ref wx s hs
  generalize r s = q at HP HR ⊢
  obtain ⟨q1, q2⟩ := q
  simp only
  clear B hs
  obtain ⟨ta, tcap, rfl⟩ := own_slice L.own
  obtain ⟨i0, hi, hz0, hz1, hz2⟩ := info_parts infoTest
  go_enter Tryz.func42, Tryz.ntmps42
  go_wp2_with fail
  refine (HP.out _).mono ?_
  rintro e w1 ⟨hg1, o1, rfl, ho1⟩
  have x5 : w1.cell? ⟨w.heap.size, 5, none⟩ = some (.string s) := cell_of (heap_gb hg1 (heap_alloc_new w _) (by simp)) 5 _ rfl
  go_wp2_with fail
  refine (HR.out _).mono ?_
  rintro e w2 ⟨hg2, o2, rfl, ho2⟩
  simp only at ho1 ho2
  have L2 := L.grow (gb_trans (gb_trans (gb_alloc (gb_refl w none) _) hg1) hg2)
  clear x5 hg1 hg2 HP HR L
  have hw2 := heap_lt L2.blk
  rcases ho2 with ⟨rfl, rfl, g2, rfl, _, _⟩ | ⟨hne, rfl⟩
  · rcases ho1 with ⟨_, _, g1, rfl, _, _⟩ | ⟨hne, _⟩
    · have e0 := cell_of L2.blk 0 _ rfl
      have ef := frozen_of L2.blk
      go_wp2_with (at_builtin; go_must (refine wpList_append_lies _ (by rfl) _ _ 63 (by rfl) (wb + 1) 84 i0 _ 2 16 Tryz.underlying63 hi hz0 hz1 hz2 rfl (by decide) (.slice ta n tcap) n xs (by rfl) (L2.own.alloc _) ⟨w2.heap.size, 0, none⟩ 1 1 [.pointer (some ⟨g1, 0, none⟩), .pointer (some ⟨g2, 0, none⟩)] (by rfl) (by rfl) (World.news_of_block (heap_alloc_new w2 _)) (fun u hu => by simp at hu; rcases hu with rfl | rfl <;> rfl) (by decide) (by unfold maxLen; omega) (by omega) (by simp; omega) (w2.heap.size + 1) (by simp) ?_; intro g cap w3 hown hgrow hat hlt3; have hT3 := heap_gb hgrow (heap_alloc_at L2.blk _) (par_own L2.own (Nat.lt_succ_self wb)); have f0 := cell_of hT3 0 _ rfl; have ff := frozen_of hT3))
      go_ret
      exact ⟨rfl, _, _, L2.push hgrow hown⟩
    · exact absurd rfl hne
  · rcases ho1 with ⟨h0, _⟩ | ⟨_, rfl⟩
    · exact absurd h0 hne
    · have HNE : Hid (q1 ≠ 0) := hne
      clear hne
      go_wp2_with fail
      go_ret
      rw [grew_ne HNE.out]
      exact ⟨rfl, _, _, L2⟩

set_option maxRecDepth 100000 in
set_option maxHeartbeats 1000000 in
theorem wstep_any {r : ByteArray → Nat × Nat} (B : Both r) {w0 w : World} {wb n : Nat} {tsv : Value} {xs : List Value} (L : LW w0 w wb n tsv xs) (hn : (n + 1) * 16 ≤ 140737488355328) (a b c d : Int) (s : ByteArray) (pa : Option Addr) (pl pc : Nat) (hs : s.size ≤ maxLen) :
    Calls Tryz.prog 30 #[.pointer (some ⟨wb, 0, none⟩), .agg #[.int .i64 1, .int .i64 a, .int .i64 b, .int .i64 c, .int .i64 d, .string s, .slice pa pl pc]] w fun e w' => e = .returned (.bool true) ∧ ∃ tsv' xs', LW w0 w' wb (grew (r s).1 n) tsv' xs' := by
  have L1 := L.grow (gb_alloc (gb_refl w none) (.cells #[.int .i64 1, .int .i64 a, .int .i64 b, .int .i64 c, .int .i64 d, .string s, .slice pa pl pc] 27))
  go_enter Tryz.func30, Tryz.ntmps30
  go_wp2_with fail
  refine (wload_any B L1 hn 1 a b c d s pa pl pc hs).mono ?_
  rintro e w1 ⟨rfl, tsv', xs', L2⟩
  go_wp2_with fail
  go_ret
  exact ⟨rfl, _, _, L2⟩

set_option maxRecDepth 100000 in
theorem looks_any {w0 w : World} {wb n : Nat} {tsv : Value} {xs : List Value} (L : LW w0 w wb n tsv xs) :
    Calls Tryz.prog 31 #[.pointer (some ⟨wb, 0, none⟩)] w fun e w' => e = .returned (.bool true) ∧ w' = w := by
  have e1 := cell_of L.blk 1 _ rfl
  go_enter Tryz.func31, Tryz.ntmps31
  go_wp2_with fail
  refine wp_loop_rounds 1 ?_
  rw [rounds_succ]
  go_wp2_with fail
  go_ret
  exact ⟨rfl, rfl⟩
end Go.Proofs.YtmpaeladhoomoaaGreatDoor
