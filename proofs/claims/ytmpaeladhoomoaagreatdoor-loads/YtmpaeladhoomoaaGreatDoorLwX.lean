/-
  A contract over one goroutine gives the row that says 'leaving' and lets time pass, and its tied card: for a law whose text can come to a go statement, where no run of hers does.
  The statements' own functions: load, step, looks, walked.
  The statements' own functions: plays, for loads alone, and Loads, walked.
  A script that comes in as an argument, opened; the row of Loads: what its walk gives for every script.
  For every script the statement Loads answers true and leaves its argument as it was, if both readers answer alike at every text: the row and its card, both forms.
-/
import Derived.Conc.HoldsTime
import Derived.Deep.DeepHandedRow
import Derived.SevenTiedAt
import Derived.Test.YtmpaeladhoomoaaGreatDoorRdN
import Derived.Deep.RegionLaw
import Derived.LoopN
import Derived.Test.YtmpaeladhoomoaaGreatDoorRows
import Derived.WalkKit
import Derived.ProofKit
import Derived.OpenShut
import Derived.Deep.Slices
import Derived.Carry
import Derived.SizedLaws
import Derived.Test.YtmpaeladhoomoaaGreatDoorCards
import Derived.Test.YtmpaeladhoomoaaGreatDoorTie
namespace Go.Proofs.YtmpaeladhoomoaaGreatDoor
open Go.Conc Go.ConcM

theorem only_leaving_of_quiet {P : Program} {m : Machine} (h : m.quiet) : m.OnlyLeaving P := by
  refine ⟨fun g hg => ⟨0, ?_⟩, h.2⟩
  have h1 := h.1
  unfold Machine.othersDone at h1
  rw [List.all_eq_true] at h1
  have h2 := h1 g hg
  show g.status = _
  simpa using h2

theorem leaving_of_handed {a : Assume} {C : Checked} {os : Os} {f : FuncId} {r : Reach} {Pre : World → Array Value → Prop} {Post Post' : World → Array Value → Value → World → Prop}
    (hp : ∀ w args v w', Post w args v w' → Post' w args v w') (h : ReturnsInHanded a C os f r Pre Post) : ReturnsInLeavingWide a C os f r Pre Post' := fun enter => by
  obtain ⟨h1, h2, h3, h4, h5⟩ := h enter
  refine ⟨h1, h2, h3, h4, fun w tape i hf => ?_⟩
  obtain ⟨n, v, w', e1, e2, e3, e4, ⟨j, last, e5, e6, e7⟩, e8⟩ := h5 w tape i hf
  exact ⟨n, v, w', e1, e2, e3, hp _ _ _ _ e4, ⟨j, last, e5, e6, e7.2.1, only_leaving_of_quiet e7.1, e7.2.2⟩, e8⟩

theorem post_with_time {H : Type} {enc : TypeId × Value → H} {P : Program} {f : Func} {s : ChangeSpec} {F : Stop.Interp} {apart fresh handsOn : Bool} (w : World) (args : Array Value) (v : Value) (w' : World)
    (h : ((OpenSpec.ofChange s).at F).post enc P f apart fresh handsOn false w args v w') : (OpenSpec.ofChange s).postWith enc P f F (outsideKept [.timePasses]) apart fresh handsOn w args v w' := by
  obtain ⟨ds, gs, before, pr, pa, pv, h1, h2, h3, h4, h5, _⟩ := h
  exact ⟨ds, gs, before, pr, pa, pv, h1, h2, h3, h4, leftAs_later (by rw [h5.1]; exact OsLater.refl _), h5.2⟩

/-- The witness at the tape of noughts is calm. -/
theorem witness_calm {H : Type} {enc : TypeId × Value → H} {C : Checked} {os : Os} {f : FuncId} {fn : Func} {s : OpenSpec} {conds : List PathCond} {apart : Bool} {laid : List (String × DataW Unit)} (w0 : World) (args : Array Value) (hos : w0.os = os)
    (hv : (w0.forCall (fun _ _ => 0) ⟨#[], args, []⟩).variablesB C.prog = true)
    (hr : ((w0.forCall (fun _ _ => 0) ⟨#[], args, []⟩).heap.toList.drop C.prog.globals.size).take ((begin C.prog (fun _ _ => 0) default).world.heap.size - C.prog.globals.size) =
      (begin C.prog (fun _ _ => 0) default).world.heap.toList.drop C.prog.globals.size)
    (hok : Input.okWideB C.prog (w0.forCall (fun _ _ => 0) ⟨#[], args, []⟩) f ⟨#[], args, []⟩ = true)
    (hrow : s.preRow enc C.prog fn conds apart laid (w0.forCall (fun _ _ => 0) ⟨#[], args, []⟩).memory args) :
    ∃ (w : World) (tape : Tape) (i : Input), w.os = os ∧ (w.forCall tape i).Shaped C.prog ∧ i.vars = [] ∧ Input.okWide C.prog (w.forCall tape i) .any w.heap.size f i ∧
      s.preRow enc C.prog fn conds apart laid (w.forCall tape i).memory i.args ∧ ({ calm := true } : Assume).holds C.prog (lone (Frame.enter C.prog f i.args .normal) [] (w.forCall tape i)) :=
  ⟨w0, fun _ _ => 0, ⟨#[], args, []⟩, hos, World.shaped_of_B hv hr, rfl, (Input.okWide_of_okWideB hok).2, hrow, by
    simp only [Assume.holds]
    exact ⟨by simp, fun _ _ _ _ => rfl, by simp, by simp, by simp⟩⟩

/-- A tied card, 'goes' on. -/
theorem holds_tied_goes (Lk : Looks) {p : Pinned} {s : OpenSpec} {c : OpenClaim} (kinds : List LaidKind) (tests : Bool) (har : Bool × String) (lk : Bool)
    (hc : c.holds p s) (hw : c.wfByText s = true)
    (htie : c.laidByTextAt Lk p kinds tests)
    (hst : c.start = .entering) (hnb : c.noBlocks = false ∧ c.again = false) (hm : p.checked.prog.mainIs = some (har.1, har.2.toList)) (hn : (!har.1 && har.2.isEmpty && !lk) = false)
    (hl : ∀ f fn, p.checked.prog.funcNamed c.func = some f → p.checked.prog.funcs[f]? = some fn → lk = p.checked.prog.looks [] ∧ ∀ (j : Nat) t, fn.params[j]? = some t → p.checked.prog.wantsStandIn t = false)
    (hg : true = c.goesBy p.checked.prog) :
    Claim7.holds p (.plain s) { stood := { row := c, standIns := [], harness := har, looks := lk }, kinds := [], alts := [], goes := true, laidByText := true, laidKinds := kinds, laidTests := tests, laidLooks := Lk } := by
  have h6 : Claim7.isSixth { stood := { row := c, standIns := [], harness := har, looks := lk }, kinds := [] } = false := by simpa [Claim7.isSixth] using hn
  refine ⟨Claim7.tied_new_at Lk kinds tests (Claim7.new_of_sixth hc har lk hst hnb hm h6 hl) hw, ?_, htie, (fun h => by cases h), hg⟩
  intro D hD
  cases hD
end Go.Proofs.YtmpaeladhoomoaaGreatDoor

namespace Go.Proofs.YtmpaeladhoomoaaGreatDoor
open Go.RowKit

theorem infoTest : (Tryz.prog.info? 84).map (fun i => (i.zero, i.size, i.bytes)) = some (some (.agg #[.pointer none, .pointer none]), 2, 16) := by kernel_rfl

/-- Both readers answer r. -/
structure Both (r : ByteArray → Nat × Nat) : Prop where
  prog : ∀ (w : World) (s : ByteArray), s.size ≤ maxLen → Calls Tryz.prog 22 #[.string s] w fun e w' => PostR w (r s) e w'
  ref : ∀ (w : World) (s : ByteArray), s.size ≤ maxLen → Calls Tryz.prog 66 #[.string s] w fun e w' => PostR w (r s) e w'

/-- The script's world (block wb): n tests, no lists that came out; all that lay in w0 lies as it lay. -/
structure LW (w0 w : World) (wb n : Nat) (tsv : Value) (xs : List Value) : Prop where
  gb : w0.grownBy w none
  hb : w0.heap.size ≤ wb
  blk : w.heap[wb]? = some (.cells #[tsv, .slice none 0 0] 66 (0, 0))
  own : w.ownsRow (wb + 1) 84 2 tsv n xs
theorem LW.grow {w0 w w' : World} {wb n : Nat} {tsv : Value} {xs : List Value} (l : LW w0 w wb n tsv xs) (hg : w.grownBy w' none) : LW w0 w' wb n tsv xs :=
  ⟨gb_trans l.gb hg, l.hb, heap_gb hg l.blk (by simp), own_par l.own (gb_any hg) (Nat.lt_succ_self wb)⟩
theorem LW.push {w0 w w' : World} {o : Obj} {wb n g cap : Nat} {tsv : Value} {xs ys : List Value} (l : LW w0 w wb n tsv xs) (hgrow : (w.alloc o).grownBy w' tsv.ownBlock) (hown : w'.ownsRow (wb + 1) 84 2 (.slice (some ⟨g, 0, none⟩) (n + 1) cap) (n + 1) ys) :
    LW w0 (w'.setCell ⟨wb, 0, none⟩ (.slice (some ⟨g, 0, none⟩) (n + 1) cap)) wb (n + 1) (.slice (some ⟨g, 0, none⟩) (n + 1) cap) ys := by
  have hT := heap_gb hgrow (heap_alloc_at l.blk o) (par_own l.own (Nat.lt_succ_self wb))
  refine ⟨gb_put_new (gb_new (gb_alloc l.gb o) hgrow (fun k hk => Or.inr ?_)) l.hb _ _, l.hb, heap_set' hT 0 _ _ rfl, ownsRow_setCell_below hown (by simp) _⟩
  have h1 := (l.own.lt k hk).1
  have h2 := l.hb
  omega

/-- How many tests there are behind a load that answered q. -/
def grew (q n : Nat) : Nat := if q = 0 then n + 1 else n
theorem grew_ne {q n : Nat} (h : q ≠ 0) : grew q n = n := if_neg h

set_option maxRecDepth 100000 in
set_option maxHeartbeats 2000000 in
theorem wload_any {r : ByteArray → Nat × Nat} (B : Both r) {w0 w : World} {wb n : Nat} {tsv : Value} {xs : List Value} (L : LW w0 w wb n tsv xs) (hn : (n + 1) * 16 ≤ 140737488355328) (k a b c d : Int) (s : ByteArray) (pa : Option Addr) (pl pc : Nat) (hs : s.size ≤ maxLen) :
    Calls Tryz.prog 42 #[.pointer (some ⟨wb, 0, none⟩), .agg #[.int .i64 k, .int .i64 a, .int .i64 b, .int .i64 c, .int .i64 d, .string s, .slice pa pl pc]] w fun e w' => e = .returned (.bool true) ∧ ∃ tsv' xs', LW w0 w' wb (grew (r s).1 n) tsv' xs' := by
  have hwl := heap_lt L.blk
  have HP : Hid (∀ wx, Calls Tryz.prog 22 #[.string s] wx fun e w' => PostR wx (r s) e w') := fun wx => B.prog wx s hs
  have HR : Hid (∀ wx, Calls Tryz.prog 66 #[.string s] wx fun e w' => PostR wx (r s) e w') := fun wx => B.ref wx s hs
  generalize r s = q at HP HR ⊢
  obtain ⟨q1, q2⟩ := q
  simp only
  clear B hs
  obtain ⟨ta, tcap, rfl⟩ := own_slice L.own
  obtain ⟨i0, hi, hz0, hz1, hz2⟩ := info_parts infoTest
  go_enter Tryz.func42, Tryz.ntmps42
  go_wp2_with fail
  refine (HP.out _).mono ?_
  rintro e w1 ⟨hg1, o1, rfl, ho1⟩
  have x5 : w1.cell? ⟨w.heap.size, 5, none⟩ = some (.string s) := cell_of (heap_gb hg1 (heap_alloc_new w _) (by simp)) 5 _ rfl
  go_wp2_with fail
  refine (HR.out _).mono ?_
  rintro e w2 ⟨hg2, o2, rfl, ho2⟩
  simp only at ho1 ho2
  have L2 := L.grow (gb_trans (gb_trans (gb_alloc (gb_refl w none) _) hg1) hg2)
  clear x5 hg1 hg2 HP HR L
  have hw2 := heap_lt L2.blk
  rcases ho2 with ⟨rfl, rfl, g2, rfl, _, _⟩ | ⟨hne, rfl⟩
  · rcases ho1 with ⟨_, _, g1, rfl, _, _⟩ | ⟨hne, _⟩
    · have e0 := cell_of L2.blk 0 _ rfl
      have ef := frozen_of L2.blk
      go_wp2_with (at_builtin; go_must (refine wpList_append_lies _ (by rfl) _ _ 63 (by rfl) (wb + 1) 84 i0 _ 2 16 Tryz.underlying63 hi hz0 hz1 hz2 rfl (by decide) (.slice ta n tcap) n xs (by rfl) (L2.own.alloc _) ⟨w2.heap.size, 0, none⟩ 1 1 [.pointer (some ⟨g1, 0, none⟩), .pointer (some ⟨g2, 0, none⟩)] (by rfl) (by rfl) (World.news_of_block (heap_alloc_new w2 _)) (fun u hu => by simp at hu; rcases hu with rfl | rfl <;> rfl) (by decide) (by unfold maxLen; omega) (by omega) (by simp; omega) (w2.heap.size + 1) (by simp) ?_; intro g cap w3 hown hgrow hat hlt3; have hT3 := heap_gb hgrow (heap_alloc_at L2.blk _) (par_own L2.own (Nat.lt_succ_self wb)); have f0 := cell_of hT3 0 _ rfl; have ff := frozen_of hT3))
      go_ret
      exact ⟨rfl, _, _, L2.push hgrow hown⟩
    · exact absurd rfl hne
  · rcases ho1 with ⟨h0, _⟩ | ⟨_, rfl⟩
    · exact absurd h0 hne
    · have HNE : Hid (q1 ≠ 0) := hne
      clear hne
      go_wp2_with fail
      go_ret
      rw [grew_ne HNE.out]
      exact ⟨rfl, _, _, L2⟩

set_option maxRecDepth 100000 in
set_option maxHeartbeats 1000000 in
theorem wstep_any {r : ByteArray → Nat × Nat} (B : Both r) {w0 w : World} {wb n : Nat} {tsv : Value} {xs : List Value} (L : LW w0 w wb n tsv xs) (hn : (n + 1) * 16 ≤ 140737488355328) (a b c d : Int) (s : ByteArray) (pa : Option Addr) (pl pc : Nat) (hs : s.size ≤ maxLen) :
    Calls Tryz.prog 30 #[.pointer (some ⟨wb, 0, none⟩), .agg #[.int .i64 1, .int .i64 a, .int .i64 b, .int .i64 c, .int .i64 d, .string s, .slice pa pl pc]] w fun e w' => e = .returned (.bool true) ∧ ∃ tsv' xs', LW w0 w' wb (grew (r s).1 n) tsv' xs' := by
  have L1 := L.grow (gb_alloc (gb_refl w none) (.cells #[.int .i64 1, .int .i64 a, .int .i64 b, .int .i64 c, .int .i64 d, .string s, .slice pa pl pc] 27))
  go_enter Tryz.func30, Tryz.ntmps30
  go_wp2_with fail
  refine (wload_any B L1 hn 1 a b c d s pa pl pc hs).mono ?_
  rintro e w1 ⟨rfl, tsv', xs', L2⟩
  go_wp2_with fail
  go_ret
  exact ⟨rfl, _, _, L2⟩

set_option maxRecDepth 100000 in
theorem looks_any {w0 w : World} {wb n : Nat} {tsv : Value} {xs : List Value} (L : LW w0 w wb n tsv xs) :
    Calls Tryz.prog 31 #[.pointer (some ⟨wb, 0, none⟩)] w fun e w' => e = .returned (.bool true) ∧ w' = w := by
  have e1 := cell_of L.blk 1 _ rfl
  go_enter Tryz.func31, Tryz.ntmps31
  go_wp2_with fail
  refine wp_loop_rounds 1 ?_
  rw [rounds_succ]
  go_wp2_with fail
  go_ret
  exact ⟨rfl, rfl⟩
end Go.Proofs.YtmpaeladhoomoaaGreatDoor

namespace Go.Proofs.YtmpaeladhoomoaaGreatDoor
open Go.RowKit

/-- The test that must be taken. -/
def first : ByteArray := ⟨#[116, 104, 114, 101, 97, 100, 32, 120, 32, 58, 61, 32, 49, 59, 32, 114, 48, 32, 58, 61, 32, 121, 59, 32, 116, 104, 114, 101, 97, 100, 32, 121, 32, 58, 61, 32, 49, 59, 32, 114, 48, 32, 58, 61, 32, 120, 59, 32, 101, 120, 105, 115, 116, 115, 32, 48, 58, 114, 48, 32, 61, 32, 48, 32, 97, 110, 100, 32, 49, 58, 114, 48, 32, 61, 32, 48]⟩

/-- A step of a script. -/
structure OpV where
  k : Int
  a : Int
  b : Int
  c : Int
  d : Int
  s : ByteArray
  pa : Option Addr
  pl : Nat
  pc : Nat
def opC (o : OpV) : List Value := [.int .i64 o.k, .int .i64 o.a, .int .i64 o.b, .int .i64 o.c, .int .i64 o.d, .string o.s, .slice o.pa o.pl o.pc]
structure Scr (w : World) (sa : Option Addr) (m : Nat) (ops : Nat → OpV) : Prop where
  at_ : ∀ i, i < m → ∃ sb off, sa = some ⟨sb, off, none⟩ ∧ ∀ j v, (opC (ops i))[j]? = some v → w.cell? ⟨sb, off + i * 7 + j, none⟩ = some v
  len : ∀ i, i < m → (ops i).s.size ≤ maxLen
theorem Scr.grow {w w' : World} {sa : Option Addr} {m : Nat} {ops : Nat → OpV} (h : Scr w sa m ops) (hg : w.grownBy w' none) : Scr w' sa m ops :=
  ⟨fun i hi => by obtain ⟨sb, off, h1, h2⟩ := h.at_ i hi; exact ⟨sb, off, h1, fun j v hv => gb_cell hg (h2 j v hv) (by simp)⟩, h.len⟩
theorem LW.start (w : World) : LW w (w.alloc (.cells #[.slice none 0 0, .slice none 0 0] 66)) w.heap.size 0 (.slice none 0 0) [] :=
  ⟨gb_alloc (gb_refl w none) _, Nat.le_refl _, heap_alloc_new w _, World.ownsRow_nil _ _ _ _⟩
theorem grown_le {q n i : Nat} (h : n ≤ i + 1) : grew q n ≤ i + 1 + 1 := by unfold grew; split <;> omega

set_option maxRecDepth 100000 in
set_option maxHeartbeats 4000000 in
theorem plays_any {r : ByteArray → Nat × Nat} (B : Both r) (h0 : (r first).1 = 0) (w : World) (sa : Option Addr) (m cap : Nat) (ops : Nat → OpV) (S : Scr w sa m ops) (hm : m * 80 ≤ 140737488351232) (kb : Nat) (hk : w.cell? ⟨kb, 0, none⟩ = some (.int .i64 1)) :
    Calls Tryz.prog 14 #[.slice sa m cap, .slice (some ⟨kb, 0, none⟩) 1 1] w fun e w' => e = .returned (.bool true) ∧ w.grownBy w' none := by
  have H0 : Hid ((r first).1 = 0) := h0
  clear h0
  have hkl : kb < w.heap.size := World.block_lt_of_cell? w ⟨kb, 0, none⟩ hk
  go_enter Tryz.func14, Tryz.ntmps14
  go_wp2_with fail
  refine (wstep_any B (LW.start w) (by decide) 0 0 0 0 first none 0 0 (by decide)).mono ?_
  rintro e w1 ⟨rfl, tsv1, xs1, L1⟩
  rw [show grew (r first).1 0 = 1 from by rw [H0.out]; rfl] at L1
  obtain ⟨ta1, tcap1, rfl⟩ := own_slice L1.own
  have e0 := cell_of L1.blk 0 _ rfl
  go_wp2_with fail
  clear e0
  go_loopw [7] (fun v7 wr => ∃ (i n : Nat) (tsv : Value) (xs : List Value), v7 = .int .i64 (i : Nat) ∧ i ≤ m ∧ n ≤ i + 1 ∧ LW w wr w.heap.size n tsv xs) (fun v7 _ => m - (intOf v7).toNat)
  case atStart => exact ⟨0, 1, _, _, rfl, Nat.zero_le _, by omega, L1⟩
  case round =>
    obtain ⟨i, n, tsv, xs, rfl, him, hni, LR⟩ := hrel
    clear L1
    by_cases hi : i < m
    · have hi' : decide ((i : Int) < (m : Int)) = true := by simp; omega
      obtain ⟨sb, off, rfl, hc⟩ := S.at_ i hi
      have hsz := S.len i hi
      generalize ops i = o at hc hsz
      obtain ⟨k, a, b, c, d, s, pa, pl, pc⟩ := o
      have HC : Hid (∀ (j : Nat) (v : Value), (opC ⟨k, a, b, c, d, s, pa, pl, pc⟩)[j]? = some v → w.cell? ⟨sb, off + i * 7 + j, none⟩ = some v) := hc
      clear hc
      have HSZ : Hid (s.size ≤ maxLen) := hsz
      clear hsz
      by_cases hk1 : k = 1
      · subst hk1
        go_wp2_with fail
        go_loopw [9, 8] (fun v9 v8 wr2 => ∃ j : Nat, v9 = .int .i64 (j : Nat) ∧ j ≤ 1 ∧ wr.grownBy wr2 none ∧ ((j = 0 ∧ v8 = .bool false) ∨ (j = 1 ∧ v8 = .bool true))) (fun v9 _ _ => 1 - (intOf v9).toNat)
        case atStart => exact ⟨0, rfl, by omega, gb_refl _ _, Or.inl ⟨rfl, rfl⟩⟩
        case round =>
          obtain ⟨j, rfl, hj, hG, hv⟩ := hrel
          have LQ := LR.grow hG
          have q0 := gb_cell LQ.gb (HC.out 0 _ rfl) (by simp)
          have q1 := gb_cell LQ.gb (HC.out 1 _ rfl) (by simp)
          have q2 := gb_cell LQ.gb (HC.out 2 _ rfl) (by simp)
          have q3 := gb_cell LQ.gb (HC.out 3 _ rfl) (by simp)
          have q4 := gb_cell LQ.gb (HC.out 4 _ rfl) (by simp)
          have q5 := gb_cell LQ.gb (HC.out 5 _ rfl) (by simp)
          have q6 := gb_cell LQ.gb (HC.out 6 _ rfl) (by simp)
          simp only [Nat.add_zero] at q0
          have qk := gb_cell LQ.gb hk (by simp)
          rcases hv with ⟨rfl, rfl⟩ | ⟨rfl, rfl⟩
          · go_wp2_with fail
            go_quiet (fail)
            go_wp2_with fail
            exact ⟨⟨1, by go_num, by omega, gb_drewN hG _, Or.inr ⟨rfl, rfl⟩⟩, by simp [intOf]⟩
          · go_wp2_with fail
            refine (wstep_any B LQ (by omega) a b c d s pa pl pc HSZ.out).mono ?_
            rintro e w3 ⟨rfl, tsv3, xs3, L3⟩
            go_wp2_with fail
            refine (looks_any L3).mono ?_
            rintro e w4 ⟨rfl, rfl⟩
            go_wp2_with fail
            go_roundw
            case measure => simp [intOf]; omega
            case rel => exact ⟨i + 1, _, _, _, by go_num, by omega, grown_le hni, L3⟩
      · have hkb : (k == 1) = false := by rw [beq_eq_false_iff_ne]; exact hk1
        clear hk1
        go_wp2_with fail
        go_loopw [9, 8] (fun v9 v8 wr2 => ∃ j : Nat, v9 = .int .i64 (j : Nat) ∧ j ≤ 1 ∧ wr.grownBy wr2 none ∧ v8 = .bool false) (fun v9 _ _ => 1 - (intOf v9).toNat)
        case atStart => exact ⟨0, rfl, by omega, gb_refl _ _, rfl⟩
        case round =>
          obtain ⟨j, rfl, hj, hG, rfl⟩ := hrel
          have LQ := LR.grow hG
          have q0 := gb_cell LQ.gb (HC.out 0 _ rfl) (by simp)
          simp only [Nat.add_zero] at q0
          have qk := gb_cell LQ.gb hk (by simp)
          by_cases hj0 : j = 0
          · subst hj0
            go_wp2_with fail
            go_quiet (fail)
            go_wp2_with fail
            exact ⟨⟨1, by go_num, by omega, gb_drewN hG _, rfl⟩, by simp [intOf]⟩
          · obtain rfl : j = 1 := by omega
            go_wp2_with fail
            go_roundw
            case measure => simp [intOf]; omega
            case rel => exact ⟨i + 1, _, _, _, by go_num, by omega, by omega, LQ⟩
    · have hi' : decide ((i : Int) < (m : Int)) = false := by simp; omega
      go_wp2_with fail
      go_ret
      exact ⟨rfl, LR.gb⟩

set_option maxRecDepth 100000 in
theorem loads_any {r : ByteArray → Nat × Nat} (B : Both r) (h0 : (r first).1 = 0) (w : World) (sa : Option Addr) (m cap : Nat) (ops : Nat → OpV) (S : Scr w sa m ops) (hm : m * 80 ≤ 140737488351232) :
    Calls Tryz.prog 3 #[.slice sa m cap] w fun e w' => e = .returned (.bool true) ∧ w.grownBy w' none := by
  have HB : Hid (Both r) := B
  have H0 : Hid ((r first).1 = 0) := h0
  clear B h0
  go_enter Tryz.func3, Tryz.ntmps3
  go_wp2_with fail
  refine (plays_any HB.out H0.out _ sa m cap ops (S.grow (gb_alloc (gb_refl w none) _)) hm w.heap.size (cell_of (heap_alloc_new w _) 0 _ rfl)).mono ?_
  rintro e w1 ⟨rfl, hg⟩
  go_wp2_with fail
  go_ret
  exact ⟨rfl, gb_trans (gb_alloc (gb_refl w none) _) hg⟩
end Go.Proofs.YtmpaeladhoomoaaGreatDoor

namespace Go.Proofs.YtmpaeladhoomoaaGreatDoor
open Go.ChangeShapes Go.WideShapes Go.ChangeAt Go.RowKit Go.Deep

theorem lawOwn : ownKnob Tryz.prog.godebug = none := by kernel_rfl
theorem lawLaidOut : laidOutB Tryz.prog = true := by kernel_rfl
theorem cellsOp : Tryz.prog.cellsOf 27 = 7 := by kernel_rfl
theorem bytesOp : Tryz.prog.bytesOf 27 = 80 := by kernel_rfl
theorem cellsInt : Tryz.prog.cellsOf 3 = 1 := by kernel_rfl
theorem cellsStr : Tryz.prog.cellsOf 9 = 1 := by kernel_rfl
theorem cellsInts : Tryz.prog.cellsOf 24 = 1 := by kernel_rfl

section
variable {H : Type} {enc : TypeId × Value → H}

set_option maxRecDepth 100000 in
theorem op_open {w : World} {base : Nat} {spare : Nat → Bool} {held : Bool} {fuel : Nat} {cs : List Value} {x : DataW H × List MemPlace} (h : DataW.trod enc Tryz.prog w base spare held fuel 27 cs = some x) :
    ∃ o : OpV, cs = opC o ∧ o.s.size ≤ maxLen := by
  obtain ⟨ys, n, _, rfl, hl, hlen, hf⟩ := DataW.trod_struct Tryz.underlying27 h
  rw [cellsOp] at hl
  match cs, hl, ys, hlen with
  | [c0, c1, c2, c3, c4, c5, c6], _, [y0, y1, y2, y3, y4, y5, y6], _ =>
    have g0 : DataW.trod enc Tryz.prog w base spare held n 3 (([c0, c1, c2, c3, c4, c5, c6].drop 0).take (Tryz.prog.cellsOf 3)) = some y0 := hf 0 _ rfl
    rw [cellsInt] at g0
    have g1 : DataW.trod enc Tryz.prog w base spare held n 3 (([c0, c1, c2, c3, c4, c5, c6].drop 1).take (Tryz.prog.cellsOf 3)) = some y1 := hf 1 _ rfl
    rw [cellsInt] at g1
    have g2 : DataW.trod enc Tryz.prog w base spare held n 3 (([c0, c1, c2, c3, c4, c5, c6].drop 2).take (Tryz.prog.cellsOf 3)) = some y2 := hf 2 _ rfl
    rw [cellsInt] at g2
    have g3 : DataW.trod enc Tryz.prog w base spare held n 3 (([c0, c1, c2, c3, c4, c5, c6].drop 3).take (Tryz.prog.cellsOf 3)) = some y3 := hf 3 _ rfl
    rw [cellsInt] at g3
    have g4 : DataW.trod enc Tryz.prog w base spare held n 3 (([c0, c1, c2, c3, c4, c5, c6].drop 4).take (Tryz.prog.cellsOf 3)) = some y4 := hf 4 _ rfl
    rw [cellsInt] at g4
    have g5 : DataW.trod enc Tryz.prog w base spare held n 9 (([c0, c1, c2, c3, c4, c5, c6].drop 5).take (Tryz.prog.cellsOf 9)) = some y5 := hf 5 _ rfl
    rw [cellsStr] at g5
    have g6 : DataW.trod enc Tryz.prog w base spare held n 24 (([c0, c1, c2, c3, c4, c5, c6].drop 6).take (Tryz.prog.cellsOf 24)) = some y6 := hf 6 _ rfl
    rw [cellsInts] at g6
    obtain ⟨k, e0, _, _⟩ := DataW.trod_int Tryz.underlying3 g0
    obtain ⟨a, e1, _, _⟩ := DataW.trod_int Tryz.underlying3 g1
    obtain ⟨b, e2, _, _⟩ := DataW.trod_int Tryz.underlying3 g2
    obtain ⟨c, e3, _, _⟩ := DataW.trod_int Tryz.underlying3 g3
    obtain ⟨d, e4, _, _⟩ := DataW.trod_int Tryz.underlying3 g4
    obtain ⟨s, e5, _, hs⟩ := DataW.trod_string Tryz.underlying9 g5
    simp at e0 e1 e2 e3 e4 e5
    rcases open_slice Tryz.underlying24 g6 with ⟨e6, _⟩ | ⟨pa, pl, pc, _, _, _, _, e6, _⟩
    · simp at e6
      exact ⟨⟨k, a, b, c, d, s, none, 0, 0⟩, by rw [e0, e1, e2, e3, e4, e5, e6]; rfl, hs⟩
    · simp at e6
      exact ⟨⟨k, a, b, c, d, s, some pa, pl, pc⟩, by rw [e0, e1, e2, e3, e4, e5, e6]; rfl, hs⟩

theorem opC_len (o : OpV) : (opC o).length = 7 := rfl

/-- A script that came in: its steps, and that they fit. -/
theorem script_open {W : World} {sa : Option Addr} {m cap : Nat} {d : DataW H} {p : List MemPlace} (h : DataW.Trod enc Tryz.prog W 0 (fun _ => true) true 22 (.slice sa m cap) d p) :
    (∃ ops, Scr W sa m ops) ∧ (m = 0 ∨ ∃ es sp, d = .slice es sp ∧ m ≤ es.length + sp.length) := by
  obtain ⟨fuel, hf⟩ := h
  rcases open_slice Tryz.underlying22 hf with ⟨hcs, _⟩ | ⟨a, len, cap', mm, n, D, Pl, hcs, _, hl, _, hmm, hx, hel⟩
  · simp [Value.cells] at hcs
    obtain ⟨rfl, rfl, rfl⟩ := hcs
    exact ⟨⟨fun _ => ⟨0, 0, 0, 0, 0, ⟨#[]⟩, none, 0, 0⟩, ⟨fun i hi => by omega, fun i hi => by omega⟩⟩, Or.inl rfl⟩
  · simp [Value.cells] at hcs
    obtain ⟨rfl, rfl, rfl⟩ := hcs
    simp at hmm
    subst hmm
    rw [cellsOp] at hel
    simp only [Prod.mk.injEq] at hx
    refine ⟨?_, Or.inr ⟨_, _, hx.1, by simp⟩⟩
    by_cases hm0 : mm = 0
    · exact ⟨fun _ => ⟨0, 0, 0, 0, 0, ⟨#[]⟩, none, 0, 0⟩, ⟨fun i hi => by omega, fun i hi => by omega⟩⟩
    obtain ⟨sb, off, spot⟩ := a
    obtain rfl : spot = none := by
      obtain ⟨cs', h1, h2⟩ := hel 0 (by omega)
      obtain ⟨o, rfl, _⟩ := op_open h2
      have h3 := (World.cells?_some h1).2.2 0 (by omega)
      simpa [Addr.add] using World.cell?_spot h3
    have hop : ∀ i, i < mm → ∃ o : OpV, (∀ j v, (opC o)[j]? = some v → W.cell? ⟨sb, off + i * 7 + j, none⟩ = some v) ∧ o.s.size ≤ maxLen := by
      intro i hi
      obtain ⟨cs', h1, h2⟩ := hel i hi
      obtain ⟨o, rfl, hs⟩ := op_open h2
      refine ⟨o, fun j v hv => ?_, hs⟩
      have hj : j < 7 := by rw [← opC_len o]; exact (List.getElem?_eq_some_iff.1 hv).1
      have h3 := (World.cells?_some h1).2.2 j hj
      rw [hv, add_plain, add_plain] at h3
      exact h3
    haveI : Inhabited OpV := ⟨⟨0, 0, 0, 0, 0, ⟨#[]⟩, none, 0, 0⟩⟩
    obtain ⟨ops, hops⟩ := choose_lt (α := OpV) hop
    exact ⟨ops, ⟨fun i hi => ⟨sb, off, rfl, (hops i (by omega)).1⟩, fun i hi => (hops i (by omega)).2⟩⟩

set_option maxRecDepth 100000 in
/-- What the walk gives, for every script. -/
theorem loads_contract {r : ByteArray → Nat × Nat} (B : Both r) (hr : (r first).1 = 0) (W : World) (base : Nat) (args : Array Value) (ds gs : List (DataW H)) (before : List MemPlace)
    (hval : ∀ (j : Nat) t v, Tryz.f3.params[j]? = some t → args[j]? = some v → Value.okWide Tryz.prog W .any base t v)
    (hW : DataW.Whole enc Tryz.prog Tryz.f3.params.toList Rows.loadsSpec.vars false W args.toList ds gs before)
    (hsz : (DataW.weightsEach Tryz.prog (Tryz.f3.params.toList ++ Rows.loadsSpec.plain.varTypes Tryz.prog) (ds ++ gs)).all (· ≤ reachBytes) = true) :
    Calls Tryz.prog 3 args W fun e W' => ∃ v, e = .returned v ∧ Rows.loadsSpec.post enc Tryz.prog Tryz.f3 false true false false W args v W' := by
  have hW' := hW
  obtain ⟨p, q, hA0, hV, rfl, hfz, hnd⟩ := hW
  have hA : DataW.TrodAll enc Tryz.prog W 0 (fun _ => true) true Tryz.f3.params.toList args.toList ds p := hA0
  rw [Tryz.params3] at hA hval hsz
  obtain ⟨v0, vs0, d0, ds0, p0, q0, hargs, rfl, rfl, h0, r0⟩ := trodAll_cons hA
  obtain ⟨rfl, rfl, rfl⟩ := trodAll_nil r0
  obtain rfl : args = #[v0] := by cases args; simp_all
  obtain ⟨rfl, rfl⟩ := trodVars_none hV
  clear hA0
  simp only [List.append_nil] at hW'
  obtain ⟨sa, m, cap, rfl⟩ := okWide_slice Tryz.underlying22 (hval 0 22 v0 rfl rfl)
  obtain ⟨⟨ops, S⟩, hlen⟩ := script_open h0
  have hm : m * 80 ≤ 140737488351232 := by
    rcases hlen with rfl | ⟨es, sp, rfl, hle⟩
    · decide
    · have := sized_slice hsz (j := 0) (t := 22) (e := 27) rfl rfl Tryz.underlying22
      rw [bytesOp] at this
      simp only [reachBytes] at this
      omega
  refine (loads_any B hr W sa m cap ops S hm).mono fun e W' ⟨he, hg⟩ => ?_
  subst he
  have hB := gb_below hg
  have hlt : ∀ x ∈ p0, x.block < W.heap.size := fun x hx => hW'.lt x (by simpa using hx)
  refine ⟨_, rfl, _, _, _, [], p0 ++ [], [], hW', ?_, ?_, rfl, hB.frame _, fun h => by cases h⟩
  · exact trodAll_cons_mk (shut_bool Tryz.underlying4 _) trodAll_mk0
  · exact trodAll_cons_mk (Below.trod lawLaidOut (by kernel_rfl) (of_decide_eq_true (by kernel_rfl)) h0 hB hlt) trodAll_mk0
end
end Go.Proofs.YtmpaeladhoomoaaGreatDoor

namespace Go.Proofs.YtmpaeladhoomoaaGreatDoor
open Go.ChangeShapes Go.WideShapes Go.ChangeAt Go.RowKit

/-- A listed number as a cell. -/
def laidCell : DataW Unit → Value
  | .lit (.int k n) => .int k n
  | _ => .bool false
def laidCells : DataW Unit → Array Value
  | .agg l => (l.map laidCell).toArray
  | _ => #[]
def laidObj (d : DataW Unit) : Obj → Obj
  | .cells _ t frozen => .cells (laidCells d) t frozen
  | o => o
/-- A world for the witness: the settled one, the three tables holding what their initialisers lay. -/
theorem loads_laid_met (os : Os) : laidMet Tryz.prog Rows.loadsRow.laid (({ World.holding Tryz.prog os ⟨#[], #[], []⟩ with heap := (((World.holding Tryz.prog os ⟨#[], #[], []⟩).heap.modify 0 (laidObj Rows.laid_internal_strconv_uint64pow10)).modify 2 (laidObj Rows.laid_math_bits_deBruijn32tab)).modify 3 (laidObj Rows.laid_math_bits_deBruijn64tab) } : World).forCall (fun _ _ => 0) ⟨#[], #[.slice none 0 0], []⟩).memory :=
  laidMet_of_run' 8 (by kernel_rfl) (by kernel_rfl)
theorem loads_reads (os : Os) {H : Type} (enc : TypeId × Value → H) : ∃ places, DataW.whole enc Tryz.prog (({ World.holding Tryz.prog os ⟨#[], #[], []⟩ with heap := (((World.holding Tryz.prog os ⟨#[], #[], []⟩).heap.modify 0 (laidObj Rows.laid_internal_strconv_uint64pow10)).modify 2 (laidObj Rows.laid_math_bits_deBruijn32tab)).modify 3 (laidObj Rows.laid_math_bits_deBruijn64tab) } : World).forCall (fun _ _ => 0) ⟨#[], #[.slice none 0 0], []⟩).memory Tryz.f3.params.toList Rows.loadsSpec.vars false #[Value.slice none 0 0].toList 8 = some ([.nil], [], places) :=
  ⟨[], by kernel_rfl⟩

set_option maxRecDepth 100000 in
theorem loads_lifted {r : ByteArray → Nat × Nat} (B : Both r) (hr : (r first).1 = 0) (os : Os) (started : os.Started) (H : Type) (enc : TypeId × Value → H) (F : Stop.Interp) :
    ReturnsInHanded { calm := true } Tryz.checked os 3 .any ((OpenSpec.ofChange Rows.loadsSpec).preRow enc Tryz.prog Tryz.f3 Rows.loadsRow.domain false Rows.loadsRow.laid) (((OpenSpec.ofChange Rows.loadsSpec).at F).post enc Tryz.prog Tryz.f3 false true false false) := by
  obtain ⟨places, hx⟩ := loads_reads os enc
  refine returnsInHanded_of_row (C := Tryz.checked) (s := OpenSpec.ofChange Rows.loadsSpec) lawOwn started (by kernel_rfl) Tryz.func3
    (witness_calm (enc := enc) (C := Tryz.checked) ({ World.holding Tryz.prog os ⟨#[], #[], []⟩ with heap := (((World.holding Tryz.prog os ⟨#[], #[], []⟩).heap.modify 0 (laidObj Rows.laid_internal_strconv_uint64pow10)).modify 2 (laidObj Rows.laid_math_bits_deBruijn32tab)).modify 3 (laidObj Rows.laid_math_bits_deBruijn64tab) } : World) #[.slice none 0 0] rfl (by kernel_rfl) (by kernel_rfl) (by kernel_rfl)
      (OpenSpec.preRow_of_cond 8 hx (by kernel_rfl) (fun k hk => by cases hk) (by kernel_rfl) (loads_laid_met os))) ?_
  intro W base args ds gs before hval hW _ _ hsz _ _ _
  exact loads_contract B hr W base args ds gs before hval hW hsz

theorem loads_said {r : ByteArray → Nat × Nat} (B : Both r) (hr : (r first).1 = 0) : Rows.LoadsSaid :=
  OpenClaim.holds_of_wide_leaving_time 3 Tryz.f3 rfl rfl rfl rfl rfl rfl rfl ⟨rfl, rfl, rfl, rfl, rfl⟩ rfl rfl rfl rfl rfl (by kernel_rfl) Tryz.func3 (by kernel_rfl)
    (of_decide_eq_true (by kernel_rfl)) (by unfold Func.isWrapper; first | (rw [if_pos (by decide +kernel)]; kernel_rfl) | (rw [if_neg (by decide +kernel)]; exact ⟨rfl, rfl⟩))
    (fun os started H enc _ F => by rw [OpenClaim.pre_eq_preRow]; exact leaving_of_handed post_with_time (loads_lifted B hr os started H enc F))

/-- No parameter wants a stand-in; the program's own looks are off: what the card asks. -/
theorem loads_plain (f : FuncId) (fn : Func) (hf : Tryz.pinned.checked.prog.funcNamed Rows.loadsRow.func = some f) (hfn : Tryz.pinned.checked.prog.funcs[f]? = some fn) :
    false = Tryz.pinned.checked.prog.looks [] ∧ ∀ (j : Nat) t, fn.params[j]? = some t → Tryz.pinned.checked.prog.wantsStandIn t = false := by
  obtain rfl : f = 3 := Option.some.inj ((show Tryz.prog.funcNamed Rows.loadsRow.func = some 3 by kernel_rfl).symm.trans hf) |>.symm
  obtain rfl : fn = Tryz.f3 := (Option.some.inj (Tryz.func3.symm.trans hfn)).symm
  refine ⟨by kernel_rfl, fun j t ht => ?_⟩
  rw [Tryz.params3] at ht
  obtain rfl : t = 22 := by simpa using Array.mem_of_getElem? ht
  exact (show Tryz.prog.wantsStandIn 22 = false by kernel_rfl)

theorem loads_card {r : ByteArray → Nat × Nat} (B : Both r) (hr : (r first).1 = 0) : Rows.LoadsCardSaid :=
  holds_tied_goes .later _ _ _ _ (loads_said B hr) (by kernel_rfl) loads_row_tie rfl ⟨rfl, rfl⟩ (by kernel_rfl) rfl loads_plain (by kernel_rfl)
end Go.Proofs.YtmpaeladhoomoaaGreatDoor
