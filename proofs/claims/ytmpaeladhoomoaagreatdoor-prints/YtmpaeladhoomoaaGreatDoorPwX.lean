/-
  The program's reader: a whole test, with what it lays and where its question stands.
  The program's Load, with what it lays.
  Plain: both print the same text of a test that was read.
  The program's reader: a whole test, with what it lays, where its question stands, and the list of its threads.
  The program's Load, with what it lays.
-/
import Derived.Test.YtmpaeladhoomoaaGreatDoorRdN
import Derived.Test.YtmpaeladhoomoaaGreatDoorEqX
namespace Go.Proofs.YtmpaeladhoomoaaGreatDoor
open Go.RowKit

/-- The text is a test: its threads, where they end, what is asked. -/
def Said2 (s : ByteArray) (p : PS) (ls : List (List St)) (fa : Bool) (ft : Txt) (e : Nat) : Prop :=
  ∃ n1 p1, threadsS s 6 p = .ok p1 ∧ pos s p.i n1 = p1.i ∧ ThreadsTok ls (toks s p.i n1) ∧ ls ≠ [] ∧ ls.length ≤ 4 ∧ (tk s (pos s p.i n1)).kind = (if fa = true then 11 else 10) ∧ Ren s (tk s (pos s p.i n1)).end_ e ft ∧ (tk s e).kind = 1
theorem TP.finish2 {w wr w1 w2 w' : World} {b n cap : Nat} {ta : Option Addr} {xs : List Value} {s : ByteArray} {p q p1 p2 : PS} {fa : Bool} {u r0 r1 r2 r3 r4 r5 : Value} {n0 : Int} {a : Option Addr} {k c : Nat} {n2 n3 n4 n5 : Int} (ht : threadsS s 6 p = .ok q) (hn4 : n ≤ 4) (h : TP w wr (.slice ta n cap) xs s p.i q.i n) (hn : n ≠ 0) (own : wr.ownsRow (w.heap.size + 1) 100 1 (.slice ta n cap) n xs) (hb : b < w.heap.size) (hw : w.heap.size < wr.heap.size)
    (hg1 : wr.grownBy w1 (some b)) (hg2 : (w1.setCell ⟨w.heap.size, 1, none⟩ u).grownBy w2 (some b)) (hq : questionS s q = .ok (fa, p1))
    (hF : ∃ d t, FRep d w2 (newB (w1.setCell ⟨w.heap.size, 1, none⟩ u) w2) [.int .i64 n0, .slice a k c, .int .i64 n2, .int .i64 n3, .int .i64 n4, .int .i64 n5] t ∧ Ren s p1.i p2.i t) (h1 : kd s p2 = 1)
    (hblk : w'.heap[w.heap.size]? = some (.cells #[.slice ta n cap, .bool fa, .int .i64 n0, .slice a k c, .int .i64 n2, .int .i64 n3, .int .i64 n4, .int .i64 n5] 99 (0, 0)))
    (hw' : w'.heap = ((((((w2.setCell ⟨w.heap.size, 2, none⟩ r0).setCell ⟨w.heap.size, 3, none⟩ r1).setCell ⟨w.heap.size, 4, none⟩ r2).setCell ⟨w.heap.size, 5, none⟩ r3).setCell ⟨w.heap.size, 6, none⟩ r4).setCell ⟨w.heap.size, 7, none⟩ r5).heap) :
    ∃ ls fa ft, ProgRep w' (newB w w') w.heap.size ls fa ft ∧ Said2 s p ls fa ft p2.i := by
  obtain ⟨d, t, hF, hR⟩ := hF
  obtain ⟨e1, e2⟩ := question_tok hq
  have s1 := hg1.size
  have s2 := hg2.size
  rw [size_set] at s2
  have sz : w'.heap.size = w2.heap.size := by rw [hw', six_size]
  have hF' : FRep d w' (newB w w') [.int .i64 n0, .slice a k c, .int .i64 n2, .int .i64 n3, .int .i64 n4, .int .i64 n5] t := hF.mono (fun x hx => by
    have a1 := hx.1
    have a2 := hx.2
    rw [size_set] at a1
    exact ⟨by omega, by omega⟩) (fun x hx => by
    have a1 := hx.1
    rw [size_set] at a1
    rw [hw', six_heap _ _ _ _ _ _ _ _ x (by omega)])
  obtain ⟨ls, k1, g1, g2, g3, g4⟩ := h.ex
  have hb' : ∀ x, w.heap.size < x → x < wr.heap.size → w'.heap[x]? = wr.heap[x]? := fun x x1 x2 => by
    rw [hw', six_heap _ _ _ _ _ _ _ _ x (by omega), hg2.block x (by rw [size_set]; omega) (by simp; omega), Below.heap_setCell _ _ _ _ (by simp; omega), hg1.block x x2 (by simp; omega)]
  subst g2
  refine ⟨ls, fa, t, ⟨ta, cap, xs, n0, a, k, c, n2, n3, n4, n5, d, hblk, ⟨Nat.le_refl _, heap_lt hblk⟩, fun i v hv => ?_, ?_, hF'⟩, k1, q, ht, g3, g4, fun e => hn (by rw [e]; rfl), hn4, by rw [g3]; exact e1, by rw [g3, ← e2]; exact hR, h1⟩
  · rcases own.2 with ⟨_, h3⟩ | ⟨g, cap', cur, h3, _⟩
    · exact (hn h3).elim
    · simp at h3
      obtain ⟨rfl, _⟩ := h3
      have hl := own.lt g rfl
      refine ⟨g, rfl, ⟨by omega, by omega⟩, ?_⟩
      rw [cell_same (hb' g (by omega) hl.2), ← addr_add]
      exact own.cells rfl i v hv
  · exact g1.mono (fun x hx => ⟨by have := hx.1; omega, by have := hx.2.1; omega⟩) (fun x hx => hb' x hx.1 hx.2.1)

def PostT2 (w : World) (b : Nat) (s : ByteArray) (p : PS) (r : Except Nat PS) (e : Ending) (w' : World) : Prop :=
  w.grownBy w' (some b) ∧ match r with
  | .ok p' => (∃ g, e = .returned (.tuple #[.pointer (some ⟨g, 0, none⟩), .bool true]) ∧ w.heap.size ≤ g ∧ g < w'.heap.size ∧ Hid (∃ ls fa ft, ProgRep w' (newB w w') g ls fa ft ∧ Said2 s p ls fa ft p'.i)) ∧ PAt w' b s p'
  | .error q => (∃ o, e = .returned (.tuple #[.pointer o, .bool false])) ∧ ∃ p', PAt w' b s p' ∧ pl s p' = q

set_option maxRecDepth 100000 in
set_option maxHeartbeats 4000000 in
theorem test_any2 (w : World) (b : Nat) (s : ByteArray) (p : PS) (h : PAt w b s p) (h0 : p.thr = 0) (ho0 : p.opn = 0) :
    Calls Tryz.prog 61 #[.pointer (some ⟨b, 0, none⟩)] w fun e w' => PostT2 w b s p (testS s p) e w' := by
  obtain ⟨i0, hi, hz0, hz1, hz2⟩ := info_parts infoSteps
  have hlt := heap_lt h.blk
  have H0 : Hid (p.thr = 0 ∧ p.opn = 0) := ⟨h0, ho0⟩
  clear h0 ho0
  have L0 := L1.start h 99 #[.slice none 0 0, .bool false, .int .i64 0, .slice none 0 0, .int .i64 0, .int .i64 0, .int .i64 0, .int .i64 0]
  go_enter Tryz.func61, Tryz.ntmps61
  go_wp2_with fail
  go_loopg [6] 6 (fun k _ wr => ∃ (q : PS) (n : Nat) (v : Value) (xs : List Value), L1 w wr b s q w.heap.size 99 #[v, .bool false, .int .i64 0, .slice none 0 0, .int .i64 0, .int .i64 0, .int .i64 0, .int .i64 0] ∧ wr.ownsRow (w.heap.size + 1) 100 1 v n xs ∧ Hid (TP w wr v xs s p.i q.i n) ∧ n = q.thr ∧ k + q.thr = 6 ∧ Hid (threadsS s k q = threadsS s 6 p) ∧ Hid (q.opn = 0))
  case atStart => exact ⟨p, 0, _, [], L0, World.ownsRow_nil _ _ _ _, TP.start _ _ _ _ _, H0.out.1.symm, by rw [H0.out.1], rfl, H0.out.2⟩
  case round =>
    obtain ⟨q, n, v, xs, LQ, own, HTP, hnq, hkq, HSP, HOQ⟩ := hrel
    have HN : Hid (n = q.thr) := hnq
    have hn4 : n ≤ 4 := by have := LQ.pa.tsz; omega
    have hkp : 0 < gk := by have := LQ.pa.tsz; omega
    have HK : Hid (gk + q.thr = 6) := hkq
    clear hnq hkq
    obtain ⟨a1, cap1, rfl⟩ := own_slice own
    obtain ⟨b0, b1, b2, b3, b4, b5, b6, b7, bf⟩ := loc8 LQ.res
    obtain ⟨c0, c1, c2, c3, c4, c5, c6, c7, c8, hf, hbl⟩ := LQ.pa.get
    have hRl := heap_lt LQ.res
    by_cases hc : kd s q = 5 ∨ q.thr = 0
    · have HTY : Hid (threadsS s 6 p = (match threadS s q with | .error e => .error e | .ok (_, p1) => threadsS s (gk - 1) p1)) := by show _ = _; rw [← HSP.out, threads_yes s gk q hkp hc]; cases threadS s q <;> rfl
      --BODY
      by_cases hk5 : kd s q = 5
      · have e5 : (((tk s q.i).kind : Int) == 5) = true := by show ((kd s q : Int) == 5) = true; rw [hk5]; rfl
        clear hc
        go_wp2_with fail
        have hin := thread_any _ b s q LQ.pa
        refine hin.mono ?_
        clear hin
        rintro e w1 ⟨hg1, hr1⟩
        cases hs : threadS s q with
        | error eq =>
          rw [hs] at hr1
          obtain ⟨rfl, p1, hp1, hq1⟩ := hr1
          have HS : Hid (testS s p = .error eq) := by show _ = _; unfold testS; rw [HTY.out, hs]
          clear hs
          go_wp2_with fail
          go_ret2
          refine ⟨gb_trans LQ.g hg1, ?_⟩
          rw [HS.out]
          exact ⟨⟨_, rfl⟩, p1, hp1, hq1⟩
        | ok r =>
          obtain ⟨l, p1⟩ := r
          rw [hs] at hr1
          obtain ⟨v1, rfl, hp1, own1⟩ := hr1
          have hkp1 := threadS_kept hs
          have HTS : Hid (threadS s q = .ok (l, p1)) := hs
          have HKP : Hid (p1.opn = q.opn ∧ p1.thr = q.thr + 1 ∧ q.thr ≠ 4) := hkp1
          have HS : Hid (threadsS s 6 p = threadsS s (gk - 1) p1) := by show _ = _; rw [HTY.out, hs]
          clear hs hkp1
          obtain ⟨sa, scap, rfl⟩ := own_slice own1
          have LA := LQ.call hg1 hp1
          have ownA := own_par own hg1 (by omega)
          clear b0 b1 b2 b3 b4 b5 b6 b7 bf c0 c1 c2 c3 c4 c5 c6 c7 c8 hf
          obtain ⟨b0, b1, b2, b3, b4, b5, b6, b7, bf⟩ := loc8 LA.res
          have hAl := heap_lt LA.res
          go_wp2_with (at_builtin; go_must (refine wpList_append_lies _ (by rfl) _ _ 93 (by rfl) (w.heap.size + 1) 100 i0 _ 1 24 Tryz.underlying93 hi hz0 hz1 hz2 rfl (by decide) (.slice a1 n cap1) n xs (by rfl) (ownA.alloc _) ⟨w1.heap.size, 0, none⟩ 1 1 [.slice sa l.length scap] (by rfl) (by rfl) (World.news_of_block (heap_alloc_new w1 _)) (fun u hu => by simp at hu; subst hu; rfl) (by decide) (by unfold maxLen; omega) (by omega) (by simp; omega) (w1.heap.size + 1) (by simp) ?_; intro g4 cap4 w4 hown hgrow hat hlt4; clear b0 b1 b2 b3 b4 b5 b6 b7 bf; have LB := (LA.alloc _).grow hgrow (par_own ownA (by omega)) (par_own ownA (by omega)) (fun k e => by have := (ownA.lt k e).1; omega); obtain ⟨b0, b1, b2, b3, b4, b5, b6, b7, bf⟩ := loc8 LB.res))
          have LC := LB.ret 0 (.slice (some ⟨g4, 0, none⟩) (n + 1) cap4)
          have hg4 : w.heap.size + 1 ≤ g4 := (hown.lt g4 rfl).1
          have ownC := own_setCell hown ⟨w.heap.size, 0, none⟩ (.slice (some ⟨g4, 0, none⟩) (n + 1) cap4) (by simp; omega)
          go_roundg (gk - 1)
          case measure => omega
          case rel => exact ⟨p1, n + 1, _, _, LC, ownC, HTP.out.round hlt hRl (fun g e => (own.lt g e).2) hg1 HTS.out (threadS_len HTS.out) own1 hgrow hat rfl _ rfl, by have := HN.out; have := HKP.out.2.1; omega, by have := HK.out; have := HKP.out.2.1; omega, HS.out.symm, HKP.out.1.trans HOQ.out⟩
      · have e5 : (((tk s q.i).kind : Int) == 5) = false := by show ((kd s q : Int) == 5) = false; rw [beq_eq_false_iff_ne]; omega
        have et : ((q.thr : Int) == 0) = true := by rw [beq_iff_eq]; omega
        clear hc
        go_wp2_with fail
        have hin := thread_any _ b s q LQ.pa
        refine hin.mono ?_
        clear hin
        rintro e w1 ⟨hg1, hr1⟩
        cases hs : threadS s q with
        | error eq =>
          rw [hs] at hr1
          obtain ⟨rfl, p1, hp1, hq1⟩ := hr1
          have HS : Hid (testS s p = .error eq) := by show _ = _; unfold testS; rw [HTY.out, hs]
          clear hs
          go_wp2_with fail
          go_ret2
          refine ⟨gb_trans LQ.g hg1, ?_⟩
          rw [HS.out]
          exact ⟨⟨_, rfl⟩, p1, hp1, hq1⟩
        | ok r =>
          obtain ⟨l, p1⟩ := r
          rw [hs] at hr1
          obtain ⟨v1, rfl, hp1, own1⟩ := hr1
          have hkp1 := threadS_kept hs
          have HTS : Hid (threadS s q = .ok (l, p1)) := hs
          have HKP : Hid (p1.opn = q.opn ∧ p1.thr = q.thr + 1 ∧ q.thr ≠ 4) := hkp1
          have HS : Hid (threadsS s 6 p = threadsS s (gk - 1) p1) := by show _ = _; rw [HTY.out, hs]
          clear hs hkp1
          obtain ⟨sa, scap, rfl⟩ := own_slice own1
          have LA := LQ.call hg1 hp1
          have ownA := own_par own hg1 (by omega)
          clear b0 b1 b2 b3 b4 b5 b6 b7 bf c0 c1 c2 c3 c4 c5 c6 c7 c8 hf
          obtain ⟨b0, b1, b2, b3, b4, b5, b6, b7, bf⟩ := loc8 LA.res
          have hAl := heap_lt LA.res
          go_wp2_with (at_builtin; go_must (refine wpList_append_lies _ (by rfl) _ _ 93 (by rfl) (w.heap.size + 1) 100 i0 _ 1 24 Tryz.underlying93 hi hz0 hz1 hz2 rfl (by decide) (.slice a1 n cap1) n xs (by rfl) (ownA.alloc _) ⟨w1.heap.size, 0, none⟩ 1 1 [.slice sa l.length scap] (by rfl) (by rfl) (World.news_of_block (heap_alloc_new w1 _)) (fun u hu => by simp at hu; subst hu; rfl) (by decide) (by unfold maxLen; omega) (by omega) (by simp; omega) (w1.heap.size + 1) (by simp) ?_; intro g4 cap4 w4 hown hgrow hat hlt4; clear b0 b1 b2 b3 b4 b5 b6 b7 bf; have LB := (LA.alloc _).grow hgrow (par_own ownA (by omega)) (par_own ownA (by omega)) (fun k e => by have := (ownA.lt k e).1; omega); obtain ⟨b0, b1, b2, b3, b4, b5, b6, b7, bf⟩ := loc8 LB.res))
          have LC := LB.ret 0 (.slice (some ⟨g4, 0, none⟩) (n + 1) cap4)
          have hg4 : w.heap.size + 1 ≤ g4 := (hown.lt g4 rfl).1
          have ownC := own_setCell hown ⟨w.heap.size, 0, none⟩ (.slice (some ⟨g4, 0, none⟩) (n + 1) cap4) (by simp; omega)
          go_roundg (gk - 1)
          case measure => omega
          case rel => exact ⟨p1, n + 1, _, _, LC, ownC, HTP.out.round hlt hRl (fun g e => (own.lt g e).2) hg1 HTS.out (threadS_len HTS.out) own1 hgrow hat rfl _ rfl, by have := HN.out; have := HKP.out.2.1; omega, by have := HK.out; have := HKP.out.2.1; omega, HS.out.symm, HKP.out.1.trans HOQ.out⟩
    · have e5 : (((tk s q.i).kind : Int) == 5) = false := by show ((kd s q : Int) == 5) = false; rw [beq_eq_false_iff_ne]; omega
      have et : ((q.thr : Int) == 0) = false := by rw [beq_eq_false_iff_ne]; omega
      have HN0 : Hid (n ≠ 0) := by show n ≠ 0; have := HN.out; omega
      have HTN : Hid (threadsS s 6 p = .ok q) := by show _ = _; rw [← HSP.out, threads_no s gk q hkp hc]
      clear hc
      go_wp2_with fail
      have hin := question_any _ b s q LQ.pa
      refine hin.mono ?_
      clear hin
      rintro e w1 ⟨hg1, hr1⟩
      cases hs : questionS s q with
      | error eq =>
        rw [hs] at hr1
        obtain ⟨rfl, p1, hp1, hq1⟩ := hr1
        have HS : Hid (testS s p = .error eq) := by show _ = _; unfold testS; rw [HTN.out]; simp only; rw [hs]
        clear hs
        have LA := LQ.call hg1 hp1
        clear b0 b1 b2 b3 b4 b5 b6 b7 bf c0 c1 c2 c3 c4 c5 c6 c7 c8 hf
        obtain ⟨b0, b1, b2, b3, b4, b5, b6, b7, bf⟩ := loc8 LA.res
        go_wp2_with fail
        have LD := LA.ret 1 (.bool false)
        go_ret2
        refine ⟨LD.g, ?_⟩
        rw [HS.out]
        exact ⟨⟨_, rfl⟩, p1, LD.pa, hq1⟩
      | ok r =>
        obtain ⟨fa, p1⟩ := r
        rw [hs] at hr1
        obtain ⟨rfl, hp1⟩ := hr1
        have HO1 : Hid (p1.opn = 0) := (questionS_kept hs).trans HOQ.out
        have HQS : Hid (questionS s q = .ok (fa, p1)) := hs
        have HS : Hid (testS s p = match formS s 7 p1 with | .error q => .error q | .ok p3 => if kd s p3 = 1 then .ok p3 else .error (pl s p3)) := by show _ = _; unfold testS; rw [HTN.out]; simp only; rw [hs]; cases hfm : formS s 7 p1 <;> simp only [hfm]
        clear hs
        have LA := LQ.call hg1 hp1
        clear b0 b1 b2 b3 b4 b5 b6 b7 bf c0 c1 c2 c3 c4 c5 c6 c7 c8 hf
        obtain ⟨b0, b1, b2, b3, b4, b5, b6, b7, bf⟩ := loc8 LA.res
        go_wp2_with fail
        have LB := LA.ret 1 (.bool fa)
        have hin := form_all 7 _ b s p1 LB.pa (by rw [HO1.out])
        refine hin.mono ?_
        clear hin
        rintro e w2 ⟨hg2, hr2⟩
        cases hs : formS s 7 p1 with
        | error eq =>
          rw [hs] at hr2
          obtain ⟨⟨n0, a, kk, c, n2, n3, n4, n5, rfl⟩, p2, hp2, hq2, _⟩ := hr2
          have HS2 : Hid (testS s p = .error eq) := by show _ = _; rw [HS.out, hs]
          clear hs
          have LC := LB.call hg2 hp2
          clear b0 b1 b2 b3 b4 b5 b6 b7 bf
          obtain ⟨b0, b1, b2, b3, b4, b5, b6, b7, bf⟩ := loc8 LC.res
          unfold fmV
          go_wp2_with fail
          have LD := (((((LC.ret 2 (.int .i64 n0)).ret 3 (.slice a kk c)).ret 4 (.int .i64 n2)).ret 5 (.int .i64 n3)).ret 6 (.int .i64 n4)).ret 7 (.int .i64 n5)
          go_ret2
          refine ⟨LD.g, ?_⟩
          rw [HS2.out]
          exact ⟨⟨_, rfl⟩, p2, LD.pa, hq2⟩
        | ok p2 =>
          rw [hs] at hr2
          obtain ⟨⟨n0, a, kk, c, n2, n3, n4, n5, rfl, HF2⟩, hp2, _, _⟩ := hr2
          have HS2 : Hid (testS s p = if kd s p2 = 1 then .ok p2 else .error (pl s p2)) := by show _ = _; rw [HS.out, hs]
          clear hs
          have LC := LB.call hg2 hp2
          clear b0 b1 b2 b3 b4 b5 b6 b7 bf
          obtain ⟨b0, b1, b2, b3, b4, b5, b6, b7, bf⟩ := loc8 LC.res
          unfold fmV
          have LD := (((((LC.ret 2 (.int .i64 n0)).ret 3 (.slice a kk c)).ret 4 (.int .i64 n2)).ret 5 (.int .i64 n3)).ret 6 (.int .i64 n4)).ret 7 (.int .i64 n5)
          obtain ⟨c0, c1, c2, c3, c4, c5, c6, c7, c8, hf, _⟩ := hp2.get
          by_cases k1 : kd s p2 = 1
          · have e1 : (((tk s p2.i).kind : Int) == 1) = true := by show ((kd s p2 : Int) == 1) = true; rw [k1]; rfl
            go_wp2_with fail
            go_quiet (fail)
            go_wp2_with fail
            go_ret2
            have LE := LD.drewN nq
            have hLE := heap_lt LE.res
            refine ⟨LE.g, ?_⟩
            rw [HS2.out, if_pos k1]
            have HPR := TP.finish2 HTN.out hn4 HTP.out HN0.out own hlt hRl hg1 hg2 HQS.out HF2.out k1 LE.res (drewN_heap _ nq).1
            exact ⟨⟨w.heap.size, rfl, Nat.le_refl _, hLE, HPR⟩, LE.pa⟩
          · have e1 : (((tk s p2.i).kind : Int) == 1) = false := by show ((kd s p2 : Int) == 1) = false; rw [beq_eq_false_iff_ne]; omega
            go_wp2_with fail
            go_quiet (fail)
            go_wp2_with fail
            go_ret2
            have LE := LD.drewN nq
            have hLE := heap_lt LE.res
            refine ⟨LE.g, ?_⟩
            rw [HS2.out, if_neg k1]
            exact ⟨⟨_, rfl⟩, p2, LE.pa, rfl⟩
end Go.Proofs.YtmpaeladhoomoaaGreatDoor

namespace Go.Proofs.YtmpaeladhoomoaaGreatDoor
open Go.RowKit

def ProgK2 (s : ByteArray) (w w' : World) (g : Nat) : Prop := ∃ ls fa ft p', testS s ps0 = .ok p' ∧ ProgRep w' (newB w w') g ls fa ft ∧ Said2 s ps0 ls fa ft p'.i
def TestK2 (s : ByteArray) (w w' : World) (g : Nat) : Prop := ∃ pg, w'.heap[g]? = some (.cells #[.pointer (some ⟨pg, 0, none⟩)] 71 (0, 0)) ∧ ProgK2 s w w' pg

set_option maxRecDepth 100000 in
set_option maxHeartbeats 1000000 in
theorem read_any2 (w : World) (s : ByteArray) (hs : s.size ≤ maxLen) :
    Calls Tryz.prog 40 #[.string s] w fun e w' => PostRC w (ProgK2 s w) (readS s) e w' := by
  unfold maxLen at hs
  by_cases hl : (400 : Int) < (s.size : Int)
  · have HS : Hid (readS s = (1, 0)) := readS_long s (by omega)
    go_enter Tryz.func40, Tryz.ntmps40
    go_wp2_with fail
    go_ret3
    refine ⟨gb_refl _ _, ?_⟩
    rw [HS.out]
    exact ⟨none, rfl, Or.inr ⟨by simp, rfl⟩⟩
  · go_enter Tryz.func40, Tryz.ntmps40
    go_wp2_with fail
    refine (advance_raw _ w.heap.size s 0 _ _ _ _ _ _ _ (by omega) (Nat.zero_le _) (heap_alloc_new w _)).mono ?_
    rintro e w1 ⟨rfl, hg1, hb1⟩
    have hp1 : PAt w1 w.heap.size s ps0 := ⟨hb1, by omega, Nat.zero_le _, by simp [ps0], by simp [ps0], by simp [ps0], by simp [ps0], by simp [ps0]⟩
    clear hb1
    go_wp2_with fail
    have hin := test_any2 _ w.heap.size s ps0 hp1 rfl rfl
    refine hin.mono ?_
    clear hin
    rintro e w2 ⟨hg2, hr2⟩
    have hG : w.grownBy w2 none := gb_own (gb_own (gb_alloc (gb_refl w none) _) hg1 (Nat.le_refl _)) hg2 (Nat.le_refl _)
    have hsz1 := hg1.size
    simp only [World.size_alloc] at hsz1
    cases ht : testS s ps0 with
    | error q =>
      rw [ht] at hr2
      obtain ⟨⟨o, rfl⟩, p2, hp2, hq2⟩ := hr2
      have HS : Hid (readS s = (2, pl s p2)) := by show _ = _; rw [hq2]; exact readS_err s q (by omega) ht
      clear ht hq2
      obtain ⟨c0, c1, c2, c3, c4, c5, c6, c7, c8, hf, hbl⟩ := hp2.get
      go_wp2_with fail
      go_quiet (fail)
      go_wp2_with fail
      go_ret3
      refine ⟨gb_drewN hG _, ?_⟩
      rw [HS.out]
      exact ⟨none, rfl, Or.inr ⟨by simp, rfl⟩⟩
    | ok p2 =>
      rw [ht] at hr2
      obtain ⟨⟨g, rfl, hg, hgl, HPR⟩, hp2⟩ := hr2
      have HTS : Hid (testS s ps0 = .ok p2) := ht
      obtain ⟨c0, c1, c2, c3, c4, c5, c6, c7, c8, hf, hbl⟩ := hp2.get
      have hj1 := hp2.jlo
      have hj2 := hp2.jhi
      by_cases hj : 0 ≤ p2.jmp
      · have HS : Hid (readS s = (3, p2.jmp.toNat)) := readS_jump s p2 (by omega) ht hj
        clear ht
        go_wp2_with fail
        go_quiet (fail)
        go_wp2_with fail
        go_ret3
        refine ⟨gb_drewN hG _, ?_⟩
        rw [HS.out]
        refine ⟨none, ?_, Or.inr ⟨by simp, rfl⟩⟩
        rw [show ((p2.jmp.toNat : Nat) : Int) = p2.jmp from by omega]
        rfl
      · have HS : Hid (readS s = (0, 0)) := readS_ok s p2 (by omega) ht hj
        clear ht
        go_wp2_with fail
        go_ret3
        refine ⟨hG, ?_⟩
        rw [HS.out]
        obtain ⟨ls, fa, ft, a1, a2⟩ := HPR.out
        exact ⟨some ⟨g, 0, none⟩, rfl, Or.inl ⟨rfl, rfl, g, rfl, by omega, hgl, ls, fa, ft, p2, HTS.out, a1.mono (fun x hx => ⟨by have := hx.1; omega, hx.2⟩) (fun x _ => rfl), a2⟩⟩

set_option maxHeartbeats 1000000 in
theorem load_any2 (w : World) (s : ByteArray) (hs : s.size ≤ maxLen) :
    Calls Tryz.prog 22 #[.string s] w fun e w' => PostRC w (TestK2 s w) (readS s) e w' := by
  have hrd := fun wx => read_any2 wx s hs
  generalize readS s = r at hrd ⊢
  obtain ⟨r1, r2⟩ := r
  have HRD : Hid (∀ wx, Calls Tryz.prog 40 #[.string s] wx fun e w' => PostRC wx (ProgK2 s wx) (r1, r2) e w') := hrd
  clear hrd
  go_enter Tryz.func22, Tryz.ntmps22
  go_wp2_with fail
  refine (HRD.out _).mono ?_
  rintro e w1 ⟨hg1, o, rfl, hr⟩
  simp only at hr
  rcases hr with ⟨rfl, rfl, g, rfl, h1, h2, HK⟩ | ⟨hne, rfl⟩
  · go_wp2_with fail
    go_ret3
    have hsz := hg1.size
    refine ⟨gb_alloc hg1 _, _, rfl, Or.inl ⟨rfl, rfl, _, rfl, by omega, by simp, g, heap_alloc_new w1 _, ?_⟩⟩
    obtain ⟨ls, fa, ft, p2, a0, a1, a2⟩ := HK.out
    exact ⟨ls, fa, ft, p2, a0, a1.mono (fun x hx => ⟨hx.1, by have := hx.2; simp; omega⟩) (fun x hx => Below.heap_alloc _ _ _ hx.2), a2⟩
  · have hne' : ((r1 : Int) != 0) = true := by rw [bne_iff_ne]; omega
    have HNE : Hid (r1 ≠ 0) := hne
    clear hne
    go_wp2_with fail
    go_ret3
    exact ⟨hg1, _, rfl, Or.inr ⟨HNE.out, rfl⟩⟩
end Go.Proofs.YtmpaeladhoomoaaGreatDoor

namespace Go.Proofs.YtmpaeladhoomoaaGreatDoor
open Go.RowKit

theorem pos_le (s : ByteArray) : ∀ (n i : Nat), i ≤ s.size → pos s i n ≤ s.size := by
  intro n
  induction n with
  | zero => intro i h; exact h
  | succ n ih => intro i h; rw [pos]; exact ih _ (tk_bounds s i h).2.2.2
theorem pos_ge (s : ByteArray) : ∀ (n i : Nat), i ≤ s.size → (∀ y ∈ toks s i n, 2 ≤ y.1) → i + n ≤ pos s i n := by
  intro n
  induction n with
  | zero => intro i _ _; simp [pos]
  | succ n ih =>
    intro i h hk
    have hb := tk_bounds s i h
    have h2 : 2 ≤ (tk s i).kind := hk ((tk s i).kind, (tk s i).num) (by simp [toks])
    have hl := tk_lt s i (by omega)
    have := ih (tk s i).end_ hb.2.2.2 (fun y hy => hk y (by rw [toks]; exact List.mem_cons_of_mem _ hy))
    rw [pos]; omega
theorem pos_inj {s : ByteArray} {N M : Nat} (hN : ∀ y ∈ toks s 0 N, 2 ≤ y.1) (hM : ∀ y ∈ toks s 0 M, 2 ≤ y.1) (h : pos s 0 N = pos s 0 M) : N = M := by
  have key : ∀ {A B : Nat}, (∀ y ∈ toks s 0 B, 2 ≤ y.1) → A < B → pos s 0 A < pos s 0 B := by
    intro A B hB hAB
    obtain ⟨k, rfl⟩ : ∃ k, B = A + k := ⟨B - A, by omega⟩
    rw [pos_add]
    have := pos_ge s k (pos s 0 A) (pos_le s A 0 (Nat.zero_le _)) (fun y hy => hB y (by rw [toks_add]; exact List.mem_append_right _ hy))
    omega
  rcases Nat.lt_trichotomy N M with h1 | h1 | h1
  · have := key hM h1; omega
  · exact h1
  · have := key hN h1; omega
theorem toks_le (s : ByteArray) : ∀ (n i : Nat), ∀ y ∈ toks s i n, y.1 ≤ 20 ∧ y.2 ≤ 9 := by
  intro n
  induction n with
  | zero => intro i y hy; simp [toks] at hy
  | succ n ih =>
    intro i y hy
    rw [toks] at hy
    rcases List.mem_cons.1 hy with rfl | hy
    · exact tk_le s i
    · exact ih _ y hy
theorem canon_len2 : ∀ k, k < 21 → ∀ n, n < 10 → (canon k n).length ≤ 6 := by decide +kernel
theorem runT_len : ∀ (l : List (Nat × Nat)) (a : Nat × Nat), (∀ y ∈ l, y.1 ≤ 20 ∧ y.2 ≤ 9) → (runT a l).length ≤ 7 * l.length := by
  intro l
  induction l with
  | nil => intro a _; simp [runT]
  | cons y r ih =>
    intro a h
    have h1 := h y (by simp)
    have h2 := ih y (fun z hz => h z (by simp [hz]))
    have h3 : (tokT y).length ≤ 6 := canon_len2 y.1 (by omega) y.2 (by omega)
    have h4 : (sepT a y).length ≤ 1 := by unfold sepT; split <;> simp
    rw [runT]; simp; omega
theorem Ren.len {s : ByteArray} {i e : Nat} {t : Txt} (h : Ren s i e t) (hi : i ≤ s.size) (hs : s.size ≤ 400) : t.length ≤ 1000000 := by
  obtain ⟨n, x, l, r⟩ := h
  have h1 : ∀ y ∈ x :: l, y.1 ≤ 20 ∧ y.2 ≤ 9 := fun y hy => toks_le s n i y (by rw [r.toks]; exact hy)
  have h2 := pos_ge s n i hi (fun y hy => (r.inner y (by rw [← r.toks]; exact hy)).1)
  have h3 := pos_le s n i hi
  have h4 : (x :: l).length = n := by rw [← r.toks]; exact toks_len s n i
  have h5 := runT_len l x (fun y hy => h1 y (by simp [hy]))
  have h6 := h1 x (by simp)
  have h7 : (tokT x).length ≤ 6 := canon_len2 x.1 (by omega) x.2 (by omega)
  rw [r.txt]; simp at h4 ⊢; omega
theorem ThreadsTok.ge : ∀ {ls : List (List St)} {T : List (Nat × Nat)}, ThreadsTok ls T → ∀ y ∈ T, 2 ≤ y.1 := by
  intro ls
  induction ls with
  | nil => intro T h y hy; have h : T = [] := h; subst h; simp at hy
  | cons l r ih =>
    intro T h y hy
    obtain ⟨k, T1, T2, rfl, h2, h3⟩ := h
    rcases List.mem_cons.1 hy with rfl | hy
    · simp
    · rcases List.mem_append.1 hy with hy | hy
      · exact (h2.inner y hy).1
      · exact ih h3 y hy
theorem test_pos {s : ByteArray} {p' p1 : PS} (ht : testS s ps0 = .ok p') (h1 : threadsS s 6 ps0 = .ok p1) : (fmQ s).2.j = p'.i ∧ (thrQ s).2.j = p1.i := by
  have h0 : SS ps0 q0 q0 := ⟨rfl, rfl, rfl, by decide⟩
  have hth := threads_sim (s := s) 5 [] ps0 q0 h0 rfl rfl rfl (by decide) (Or.inr rfl)
  rw [h1] at hth
  obtain ⟨x, p2, e2, a1, a2, a3, a4⟩ := ask_ok hth
  have a4 : p2.opn = 0 := a4
  have hi : p2.i ≤ s.size := by
    rw [← a1.2.1]
    exact inn.ask (inn.threads 5 [] (Nat.zero_le _))
  have hq : (askQ s (threadsQ s 5 [] q0).2).opn = (p2.opn : Int) := by rw [a1.2.2.1, a4]; rfl
  unfold testS at ht
  rw [h1] at ht
  simp only [e2] at ht
  cases hf : formS s 7 p2 with
  | error e => rw [hf] at ht; simp at ht
  | ok p3 =>
    obtain ⟨b1, _⟩ := (form_sim s).ok a1.self hq (by omega) hi hf
    have c1 : SS p3 q0 (fmQ s).2 := a1.trans b1
    rw [hf] at ht
    simp only at ht
    split at ht
    · simp only [Except.ok.injEq] at ht
      subst ht
      exact ⟨c1.2.1, hth.1.2.1⟩
    · simp at ht
/-- The document's text of its tokens is the program's text of its test. -/
theorem print_same {s : ByteArray} {ls : List (List St)} {fa : Bool} {ft : Txt} {p' : PS} (ht : testS s ps0 = .ok p') (h : Said2 s ps0 ls fa ft p'.i) (h7 : Tks s (fmQ s).2) (h5 : Tks s (thrQ s).2) :
    rprint (thrQ s).2.n (toks s 0 (fmQ s).2.n) = testT ls fa ft := by
  obtain ⟨n1, p1, e1, e2, e3, e4, _, e5, ⟨n2, f, F, r⟩, _⟩ := h
  have e2 : pos s 0 n1 = p1.i := e2
  have e3 : ThreadsTok ls (toks s 0 n1) := e3
  have e5 : (tk s (pos s 0 n1)).kind = (if fa = true then 11 else 10) := e5
  have r : RenN s (tk s (pos s 0 n1)).end_ p'.i n2 ft f F := r
  obtain ⟨j1, j2⟩ := test_pos ht e1
  have hq : toks s (pos s 0 n1) 1 = [(if fa = true then 11 else 10, (tk s (pos s 0 n1)).num)] := by rw [← e5]; rfl
  have hT : toks s 0 (n1 + (1 + n2)) = toks s 0 n1 ++ (if fa = true then 11 else 10, (tk s (pos s 0 n1)).num) :: f :: F := by
    rw [toks_add, toks_add, hq, show Go.Proofs.YtmpaeladhoomoaaGreatDoor.pos s (pos s 0 n1) 1 = (tk s (pos s 0 n1)).end_ from rfl, r.toks]; rfl
  have hP : pos s 0 (n1 + (1 + n2)) = p'.i := by
    rw [pos_add, pos_add, show Go.Proofs.YtmpaeladhoomoaaGreatDoor.pos s (pos s 0 n1) 1 = (tk s (pos s 0 n1)).end_ from rfl, r.pos]
  have g1 : ∀ y ∈ toks s 0 n1, 2 ≤ y.1 := e3.ge
  have g2 : ∀ y ∈ toks s 0 (n1 + (1 + n2)), 2 ≤ y.1 := by
    intro y hy
    rw [hT] at hy
    rcases List.mem_append.1 hy with hy | hy
    · exact g1 y hy
    · rcases List.mem_cons.1 hy with rfl | hy
      · cases fa <;> simp
      · exact (r.inner y hy).1
  have hn : n1 + (1 + n2) = (fmQ s).2.n := pos_inj g2 h7.2 (by rw [hP, ← j1, h7.1])
  have hm : n1 = (thrQ s).2.n := pos_inj g1 h5.2 (by rw [e2, ← j2, h5.1])
  rw [← hn, hT, ← hm]
  have := print_eq (k := (tk s (pos s 0 n1)).num) (fa := fa) e3 e4 r.txt r.hd r.inner
  rwa [toks_len] at this
end Go.Proofs.YtmpaeladhoomoaaGreatDoor

namespace Go.Proofs.YtmpaeladhoomoaaGreatDoor
open Go.RowKit

/-- The same, with the threads' list as the plain reader has it. -/
def Said3 (s : ByteArray) (p : PS) (ls : List (List St)) (fa : Bool) (ft : Txt) (e : Nat) : Prop :=
  Said2 s p ls fa ft e ∧ (∀ l ∈ ls, l.length ≤ 8) ∧ ∃ p1, threadsL s 6 [] p = .ok (ls, p1)
structure TP3 (w wr : World) (v : Value) (xs : List Value) (s : ByteArray) (p q : PS) (n : Nat) : Prop where
  ex : ∃ (ls : List (List St)) (k : Nat), ThP wr (okM w wr v) ls xs ∧ ls.length = n ∧ pos s p.i k = q.i ∧ ThreadsTok ls (toks s p.i k) ∧ threadsL s (6 - n) ls q = threadsL s 6 [] p
theorem TP3.start (w wr : World) (v : Value) (s : ByteArray) (p : PS) : TP3 w wr v [] s p p 0 := ⟨[], 0, ⟨rfl, fun i l h => by simp at h⟩, rfl, rfl, rfl, rfl⟩
theorem TP3.grow {w wr w' : World} {v : Value} {xs : List Value} {s : ByteArray} {p q : PS} {n : Nat} {row : Option Nat} (h : TP3 w wr v xs s p q n) (hg : wr.grownBy w' row) (hr : ∀ x, row = some x → ¬ okM w wr v x) : TP3 w w' v xs s p q n := by
  obtain ⟨ls, k, h1, h2⟩ := h.ex
  exact ⟨ls, k, h1.mono (fun x hx => ⟨hx.1, Nat.lt_of_lt_of_le hx.2.1 hg.size, hx.2.2⟩) (fun x hx => hg.block x hx.2.1 (fun e => hr x e.symm hx)), h2⟩
theorem threadsL_yes {s : ByteArray} {n : Nat} {ls : List (List St)} {q p1 : PS} {l : List St} (hc : kd s q = 5 ∨ q.thr = 0) (hs : threadS s q = .ok (l, p1)) (hn : n ≤ 4) : threadsL s (6 - n) ls q = threadsL s (6 - (n + 1)) (ls ++ [l]) p1 := by
  rw [show 6 - n = (6 - (n + 1)) + 1 by omega, threadsL, if_pos hc, hs]
theorem threadsL_no {s : ByteArray} {n : Nat} {ls : List (List St)} {q : PS} (hc : ¬ (kd s q = 5 ∨ q.thr = 0)) (hn : n ≤ 4) : threadsL s (6 - n) ls q = .ok (ls, q) := by
  rw [show 6 - n = (6 - (n + 1)) + 1 by omega, threadsL, if_neg hc]
theorem ThP.len8 {w : World} {ok : Nat → Prop} {ls : List (List St)} {xs : List Value} (h : ThP w ok ls xs) : ∀ l ∈ ls, l.length ≤ 8 := by
  intro l hl
  obtain ⟨i, hi⟩ := List.mem_iff_getElem?.1 hl
  obtain ⟨_, _, _, h8, _⟩ := h.2 i l hi
  exact h8
theorem TP3.round {w wr w1 w4 : World} {b n g4 cap4 H scap : Nat} {v : Value} {xs ys : List Value} {s : ByteArray} {p q p1 : PS} {l : List St} {sa : Option Addr} {o : Obj} (h : TP3 w wr v xs s p q n) (hb : b < w.heap.size) (hw : w.heap.size < wr.heap.size) (hv : ∀ g, v.ownBlock = some g → g < wr.heap.size) (hg1 : wr.grownBy w1 (some b)) (hs : threadS s q = .ok (l, p1)) (h8 : l.length ≤ 8)
    (own1 : w1.ownsRow wr.heap.size 107 5 (.slice sa l.length scap) l.length (l.flatMap stCells)) (hgrow : (w1.alloc o).grownBy w4 v.ownBlock) (hat : v.ownBlock = some g4 ∨ g4 = H) (hH : H = w1.heap.size + 1) (u : Value) (hys : ys = xs ++ [.slice sa l.length scap]) (hc : kd s q = 5 ∨ q.thr = 0) (hn4 : n ≤ 4) :
    TP3 w (w4.setCell ⟨w.heap.size, 0, none⟩ u) (.slice (some ⟨g4, 0, none⟩) (n + 1) cap4) ys s p p1 (n + 1) := by
  subst hys
  obtain ⟨ls, k, h1, h2, h3, h4, h5⟩ := (h.grow hg1 (fun x e hx => by simp at e; have := hx.1; omega)).ex
  obtain ⟨m, k5, T, e1, e2, e3⟩ := thread_tok hs
  have s1 := hg1.size
  have s4 := hgrow.size
  simp only [World.size_alloc] at s4
  have h1' : ThP w1 (okM w w1 v) (ls ++ [l]) (xs ++ [.slice sa l.length scap]) := h1.snoc own1 h8 (fun g e => by
    subst e
    have hl := own1.lt g rfl
    refine ⟨by omega, hl.2, fun e => ?_⟩
    have := hv g e
    omega)
  refine ⟨ls ++ [l], k + m, h1'.mono (fun x hx => ?_) (fun x hx => ?_), by simp [h2], by rw [pos_add, h3, e2], by rw [toks_add, h3, e1]; exact ThreadsTok.snoc e3 h4, by rw [← h5]; exact (threadsL_yes hc hs hn4).symm⟩
  · refine ⟨hx.1, by rw [size_set]; have := hx.2.1; omega, ?_⟩
    rcases hat with e | e
    · show some g4 ≠ some x
      rw [← e]; exact hx.2.2
    · have := hx.2.1
      intro e'
      simp [Value.ownBlock] at e'
      omega
  · rw [Below.heap_setCell _ _ _ _ (by have := hx.1; simp; omega), hgrow.block x (by simp; have := hx.2.1; omega) (fun e => hx.2.2 e.symm), Below.heap_alloc _ _ _ hx.2.1]
theorem TP3.finish {w wr w1 w2 w' : World} {b n cap : Nat} {ta : Option Addr} {xs : List Value} {s : ByteArray} {p q p1 p2 : PS} {fa : Bool} {u r0 r1 r2 r3 r4 r5 : Value} {n0 : Int} {a : Option Addr} {k c : Nat} {n2 n3 n4 n5 : Int} (ht : threadsS s 6 p = .ok q) (hn4 : n ≤ 4) (h : TP3 w wr (.slice ta n cap) xs s p q n) (hno : ¬ (kd s q = 5 ∨ q.thr = 0)) (hn : n ≠ 0) (own : wr.ownsRow (w.heap.size + 1) 100 1 (.slice ta n cap) n xs) (hb : b < w.heap.size) (hw : w.heap.size < wr.heap.size)
    (hg1 : wr.grownBy w1 (some b)) (hg2 : (w1.setCell ⟨w.heap.size, 1, none⟩ u).grownBy w2 (some b)) (hq : questionS s q = .ok (fa, p1))
    (hF : ∃ d t, FRep d w2 (newB (w1.setCell ⟨w.heap.size, 1, none⟩ u) w2) [.int .i64 n0, .slice a k c, .int .i64 n2, .int .i64 n3, .int .i64 n4, .int .i64 n5] t ∧ Ren s p1.i p2.i t) (h1 : kd s p2 = 1)
    (hblk : w'.heap[w.heap.size]? = some (.cells #[.slice ta n cap, .bool fa, .int .i64 n0, .slice a k c, .int .i64 n2, .int .i64 n3, .int .i64 n4, .int .i64 n5] 99 (0, 0)))
    (hw' : w'.heap = ((((((w2.setCell ⟨w.heap.size, 2, none⟩ r0).setCell ⟨w.heap.size, 3, none⟩ r1).setCell ⟨w.heap.size, 4, none⟩ r2).setCell ⟨w.heap.size, 5, none⟩ r3).setCell ⟨w.heap.size, 6, none⟩ r4).setCell ⟨w.heap.size, 7, none⟩ r5).heap) :
    ∃ ls fa ft, ProgRep w' (newB w w') w.heap.size ls fa ft ∧ Said3 s p ls fa ft p2.i := by
  obtain ⟨d, t, hF, hR⟩ := hF
  obtain ⟨e1, e2⟩ := question_tok hq
  have s1 := hg1.size
  have s2 := hg2.size
  rw [size_set] at s2
  have sz : w'.heap.size = w2.heap.size := by rw [hw', six_size]
  have hF' : FRep d w' (newB w w') [.int .i64 n0, .slice a k c, .int .i64 n2, .int .i64 n3, .int .i64 n4, .int .i64 n5] t := hF.mono (fun x hx => by
    have a1 := hx.1
    have a2 := hx.2
    rw [size_set] at a1
    exact ⟨by omega, by omega⟩) (fun x hx => by
    have a1 := hx.1
    rw [size_set] at a1
    rw [hw', six_heap _ _ _ _ _ _ _ _ x (by omega)])
  obtain ⟨ls, k1, g1, g2, g3, g4, g5⟩ := h.ex
  have hb' : ∀ x, w.heap.size < x → x < wr.heap.size → w'.heap[x]? = wr.heap[x]? := fun x x1 x2 => by
    rw [hw', six_heap _ _ _ _ _ _ _ _ x (by omega), hg2.block x (by rw [size_set]; omega) (by simp; omega), Below.heap_setCell _ _ _ _ (by simp; omega), hg1.block x x2 (by simp; omega)]
  subst g2
  refine ⟨ls, fa, t, ⟨ta, cap, xs, n0, a, k, c, n2, n3, n4, n5, d, hblk, ⟨Nat.le_refl _, heap_lt hblk⟩, fun i v hv => ?_, ?_, hF'⟩, ⟨k1, q, ht, g3, g4, fun e => hn (by rw [e]; rfl), hn4, by rw [g3]; exact e1, by rw [g3, ← e2]; exact hR, h1⟩, g1.len8, q, by rw [← g5]; exact threadsL_no hno hn4⟩
  · rcases own.2 with ⟨_, h3⟩ | ⟨g, cap', cur, h3, _⟩
    · exact (hn h3).elim
    · simp at h3
      obtain ⟨rfl, _⟩ := h3
      have hl := own.lt g rfl
      refine ⟨g, rfl, ⟨by omega, by omega⟩, ?_⟩
      rw [cell_same (hb' g (by omega) hl.2), ← addr_add]
      exact own.cells rfl i v hv
  · exact g1.mono (fun x hx => ⟨by have := hx.1; omega, by have := hx.2.1; omega⟩) (fun x hx => hb' x hx.1 hx.2.1)

def PostT3 (w : World) (b : Nat) (s : ByteArray) (p : PS) (r : Except Nat PS) (e : Ending) (w' : World) : Prop :=
  w.grownBy w' (some b) ∧ match r with
  | .ok p' => (∃ g, e = .returned (.tuple #[.pointer (some ⟨g, 0, none⟩), .bool true]) ∧ w.heap.size ≤ g ∧ g < w'.heap.size ∧ Hid (∃ ls fa ft, ProgRep w' (newB w w') g ls fa ft ∧ Said3 s p ls fa ft p'.i)) ∧ PAt w' b s p'
  | .error q => (∃ o, e = .returned (.tuple #[.pointer o, .bool false])) ∧ ∃ p', PAt w' b s p' ∧ pl s p' = q

set_option maxRecDepth 100000 in
set_option maxHeartbeats 4000000 in
theorem test_any3 (w : World) (b : Nat) (s : ByteArray) (p : PS) (h : PAt w b s p) (h0 : p.thr = 0) (ho0 : p.opn = 0) :
    Calls Tryz.prog 61 #[.pointer (some ⟨b, 0, none⟩)] w fun e w' => PostT3 w b s p (testS s p) e w' := by
  obtain ⟨i0, hi, hz0, hz1, hz2⟩ := info_parts infoSteps
  have hlt := heap_lt h.blk
  have H0 : Hid (p.thr = 0 ∧ p.opn = 0) := ⟨h0, ho0⟩
  clear h0 ho0
  have L0 := L1.start h 99 #[.slice none 0 0, .bool false, .int .i64 0, .slice none 0 0, .int .i64 0, .int .i64 0, .int .i64 0, .int .i64 0]
  go_enter Tryz.func61, Tryz.ntmps61
  go_wp2_with fail
  go_loopg [6] 6 (fun k _ wr => ∃ (q : PS) (n : Nat) (v : Value) (xs : List Value), L1 w wr b s q w.heap.size 99 #[v, .bool false, .int .i64 0, .slice none 0 0, .int .i64 0, .int .i64 0, .int .i64 0, .int .i64 0] ∧ wr.ownsRow (w.heap.size + 1) 100 1 v n xs ∧ Hid (TP3 w wr v xs s p q n) ∧ n = q.thr ∧ k + q.thr = 6 ∧ Hid (threadsS s k q = threadsS s 6 p) ∧ Hid (q.opn = 0))
  case atStart => exact ⟨p, 0, _, [], L0, World.ownsRow_nil _ _ _ _, TP3.start _ _ _ _ _, H0.out.1.symm, by rw [H0.out.1], rfl, H0.out.2⟩
  case round =>
    obtain ⟨q, n, v, xs, LQ, own, HTP, hnq, hkq, HSP, HOQ⟩ := hrel
    have HN : Hid (n = q.thr) := hnq
    have hn4 : n ≤ 4 := by have := LQ.pa.tsz; omega
    have hkp : 0 < gk := by have := LQ.pa.tsz; omega
    have HK : Hid (gk + q.thr = 6) := hkq
    clear hnq hkq
    obtain ⟨a1, cap1, rfl⟩ := own_slice own
    obtain ⟨b0, b1, b2, b3, b4, b5, b6, b7, bf⟩ := loc8 LQ.res
    obtain ⟨c0, c1, c2, c3, c4, c5, c6, c7, c8, hf, hbl⟩ := LQ.pa.get
    have hRl := heap_lt LQ.res
    by_cases hc : kd s q = 5 ∨ q.thr = 0
    · have HTY : Hid (threadsS s 6 p = (match threadS s q with | .error e => .error e | .ok (_, p1) => threadsS s (gk - 1) p1)) := by show _ = _; rw [← HSP.out, threads_yes s gk q hkp hc]; cases threadS s q <;> rfl
      have HC5 : Hid (kd s q = 5 ∨ q.thr = 0) := hc
      by_cases hk5 : kd s q = 5
      · have e5 : (((tk s q.i).kind : Int) == 5) = true := by show ((kd s q : Int) == 5) = true; rw [hk5]; rfl
        clear hc
        go_wp2_with fail
        have hin := thread_any _ b s q LQ.pa
        refine hin.mono ?_
        clear hin
        rintro e w1 ⟨hg1, hr1⟩
        cases hs : threadS s q with
        | error eq =>
          rw [hs] at hr1
          obtain ⟨rfl, p1, hp1, hq1⟩ := hr1
          have HS : Hid (testS s p = .error eq) := by show _ = _; unfold testS; rw [HTY.out, hs]
          clear hs
          go_wp2_with fail
          go_ret2
          refine ⟨gb_trans LQ.g hg1, ?_⟩
          rw [HS.out]
          exact ⟨⟨_, rfl⟩, p1, hp1, hq1⟩
        | ok r =>
          obtain ⟨l, p1⟩ := r
          rw [hs] at hr1
          obtain ⟨v1, rfl, hp1, own1⟩ := hr1
          have hkp1 := threadS_kept hs
          have HTS : Hid (threadS s q = .ok (l, p1)) := hs
          have HKP : Hid (p1.opn = q.opn ∧ p1.thr = q.thr + 1 ∧ q.thr ≠ 4) := hkp1
          have HS : Hid (threadsS s 6 p = threadsS s (gk - 1) p1) := by show _ = _; rw [HTY.out, hs]
          clear hs hkp1
          obtain ⟨sa, scap, rfl⟩ := own_slice own1
          have LA := LQ.call hg1 hp1
          have ownA := own_par own hg1 (by omega)
          clear b0 b1 b2 b3 b4 b5 b6 b7 bf c0 c1 c2 c3 c4 c5 c6 c7 c8 hf
          obtain ⟨b0, b1, b2, b3, b4, b5, b6, b7, bf⟩ := loc8 LA.res
          have hAl := heap_lt LA.res
          go_wp2_with (at_builtin; go_must (refine wpList_append_lies _ (by rfl) _ _ 93 (by rfl) (w.heap.size + 1) 100 i0 _ 1 24 Tryz.underlying93 hi hz0 hz1 hz2 rfl (by decide) (.slice a1 n cap1) n xs (by rfl) (ownA.alloc _) ⟨w1.heap.size, 0, none⟩ 1 1 [.slice sa l.length scap] (by rfl) (by rfl) (World.news_of_block (heap_alloc_new w1 _)) (fun u hu => by simp at hu; subst hu; rfl) (by decide) (by unfold maxLen; omega) (by omega) (by simp; omega) (w1.heap.size + 1) (by simp) ?_; intro g4 cap4 w4 hown hgrow hat hlt4; clear b0 b1 b2 b3 b4 b5 b6 b7 bf; have LB := (LA.alloc _).grow hgrow (par_own ownA (by omega)) (par_own ownA (by omega)) (fun k e => by have := (ownA.lt k e).1; omega); obtain ⟨b0, b1, b2, b3, b4, b5, b6, b7, bf⟩ := loc8 LB.res))
          have LC := LB.ret 0 (.slice (some ⟨g4, 0, none⟩) (n + 1) cap4)
          have hg4 : w.heap.size + 1 ≤ g4 := (hown.lt g4 rfl).1
          have ownC := own_setCell hown ⟨w.heap.size, 0, none⟩ (.slice (some ⟨g4, 0, none⟩) (n + 1) cap4) (by simp; omega)
          go_roundg (gk - 1)
          case measure => omega
          case rel => exact ⟨p1, n + 1, _, _, LC, ownC, HTP.out.round hlt hRl (fun g e => (own.lt g e).2) hg1 HTS.out (threadS_len HTS.out) own1 hgrow hat rfl _ rfl HC5.out hn4, by have := HN.out; have := HKP.out.2.1; omega, by have := HK.out; have := HKP.out.2.1; omega, HS.out.symm, HKP.out.1.trans HOQ.out⟩
      · have e5 : (((tk s q.i).kind : Int) == 5) = false := by show ((kd s q : Int) == 5) = false; rw [beq_eq_false_iff_ne]; omega
        have et : ((q.thr : Int) == 0) = true := by rw [beq_iff_eq]; omega
        clear hc
        go_wp2_with fail
        have hin := thread_any _ b s q LQ.pa
        refine hin.mono ?_
        clear hin
        rintro e w1 ⟨hg1, hr1⟩
        cases hs : threadS s q with
        | error eq =>
          rw [hs] at hr1
          obtain ⟨rfl, p1, hp1, hq1⟩ := hr1
          have HS : Hid (testS s p = .error eq) := by show _ = _; unfold testS; rw [HTY.out, hs]
          clear hs
          go_wp2_with fail
          go_ret2
          refine ⟨gb_trans LQ.g hg1, ?_⟩
          rw [HS.out]
          exact ⟨⟨_, rfl⟩, p1, hp1, hq1⟩
        | ok r =>
          obtain ⟨l, p1⟩ := r
          rw [hs] at hr1
          obtain ⟨v1, rfl, hp1, own1⟩ := hr1
          have hkp1 := threadS_kept hs
          have HTS : Hid (threadS s q = .ok (l, p1)) := hs
          have HKP : Hid (p1.opn = q.opn ∧ p1.thr = q.thr + 1 ∧ q.thr ≠ 4) := hkp1
          have HS : Hid (threadsS s 6 p = threadsS s (gk - 1) p1) := by show _ = _; rw [HTY.out, hs]
          clear hs hkp1
          obtain ⟨sa, scap, rfl⟩ := own_slice own1
          have LA := LQ.call hg1 hp1
          have ownA := own_par own hg1 (by omega)
          clear b0 b1 b2 b3 b4 b5 b6 b7 bf c0 c1 c2 c3 c4 c5 c6 c7 c8 hf
          obtain ⟨b0, b1, b2, b3, b4, b5, b6, b7, bf⟩ := loc8 LA.res
          have hAl := heap_lt LA.res
          go_wp2_with (at_builtin; go_must (refine wpList_append_lies _ (by rfl) _ _ 93 (by rfl) (w.heap.size + 1) 100 i0 _ 1 24 Tryz.underlying93 hi hz0 hz1 hz2 rfl (by decide) (.slice a1 n cap1) n xs (by rfl) (ownA.alloc _) ⟨w1.heap.size, 0, none⟩ 1 1 [.slice sa l.length scap] (by rfl) (by rfl) (World.news_of_block (heap_alloc_new w1 _)) (fun u hu => by simp at hu; subst hu; rfl) (by decide) (by unfold maxLen; omega) (by omega) (by simp; omega) (w1.heap.size + 1) (by simp) ?_; intro g4 cap4 w4 hown hgrow hat hlt4; clear b0 b1 b2 b3 b4 b5 b6 b7 bf; have LB := (LA.alloc _).grow hgrow (par_own ownA (by omega)) (par_own ownA (by omega)) (fun k e => by have := (ownA.lt k e).1; omega); obtain ⟨b0, b1, b2, b3, b4, b5, b6, b7, bf⟩ := loc8 LB.res))
          have LC := LB.ret 0 (.slice (some ⟨g4, 0, none⟩) (n + 1) cap4)
          have hg4 : w.heap.size + 1 ≤ g4 := (hown.lt g4 rfl).1
          have ownC := own_setCell hown ⟨w.heap.size, 0, none⟩ (.slice (some ⟨g4, 0, none⟩) (n + 1) cap4) (by simp; omega)
          go_roundg (gk - 1)
          case measure => omega
          case rel => exact ⟨p1, n + 1, _, _, LC, ownC, HTP.out.round hlt hRl (fun g e => (own.lt g e).2) hg1 HTS.out (threadS_len HTS.out) own1 hgrow hat rfl _ rfl HC5.out hn4, by have := HN.out; have := HKP.out.2.1; omega, by have := HK.out; have := HKP.out.2.1; omega, HS.out.symm, HKP.out.1.trans HOQ.out⟩
    · have e5 : (((tk s q.i).kind : Int) == 5) = false := by show ((kd s q : Int) == 5) = false; rw [beq_eq_false_iff_ne]; omega
      have et : ((q.thr : Int) == 0) = false := by rw [beq_eq_false_iff_ne]; omega
      have HCN : Hid (¬ (kd s q = 5 ∨ q.thr = 0)) := hc
      have HN0 : Hid (n ≠ 0) := by show n ≠ 0; have := HN.out; omega
      have HTN : Hid (threadsS s 6 p = .ok q) := by show _ = _; rw [← HSP.out, threads_no s gk q hkp hc]
      clear hc
      go_wp2_with fail
      have hin := question_any _ b s q LQ.pa
      refine hin.mono ?_
      clear hin
      rintro e w1 ⟨hg1, hr1⟩
      cases hs : questionS s q with
      | error eq =>
        rw [hs] at hr1
        obtain ⟨rfl, p1, hp1, hq1⟩ := hr1
        have HS : Hid (testS s p = .error eq) := by show _ = _; unfold testS; rw [HTN.out]; simp only; rw [hs]
        clear hs
        have LA := LQ.call hg1 hp1
        clear b0 b1 b2 b3 b4 b5 b6 b7 bf c0 c1 c2 c3 c4 c5 c6 c7 c8 hf
        obtain ⟨b0, b1, b2, b3, b4, b5, b6, b7, bf⟩ := loc8 LA.res
        go_wp2_with fail
        have LD := LA.ret 1 (.bool false)
        go_ret2
        refine ⟨LD.g, ?_⟩
        rw [HS.out]
        exact ⟨⟨_, rfl⟩, p1, LD.pa, hq1⟩
      | ok r =>
        obtain ⟨fa, p1⟩ := r
        rw [hs] at hr1
        obtain ⟨rfl, hp1⟩ := hr1
        have HO1 : Hid (p1.opn = 0) := (questionS_kept hs).trans HOQ.out
        have HQS : Hid (questionS s q = .ok (fa, p1)) := hs
        have HS : Hid (testS s p = match formS s 7 p1 with | .error q => .error q | .ok p3 => if kd s p3 = 1 then .ok p3 else .error (pl s p3)) := by show _ = _; unfold testS; rw [HTN.out]; simp only; rw [hs]; cases hfm : formS s 7 p1 <;> simp only [hfm]
        clear hs
        have LA := LQ.call hg1 hp1
        clear b0 b1 b2 b3 b4 b5 b6 b7 bf c0 c1 c2 c3 c4 c5 c6 c7 c8 hf
        obtain ⟨b0, b1, b2, b3, b4, b5, b6, b7, bf⟩ := loc8 LA.res
        go_wp2_with fail
        have LB := LA.ret 1 (.bool fa)
        have hin := form_all 7 _ b s p1 LB.pa (by rw [HO1.out])
        refine hin.mono ?_
        clear hin
        rintro e w2 ⟨hg2, hr2⟩
        cases hs : formS s 7 p1 with
        | error eq =>
          rw [hs] at hr2
          obtain ⟨⟨n0, a, kk, c, n2, n3, n4, n5, rfl⟩, p2, hp2, hq2, _⟩ := hr2
          have HS2 : Hid (testS s p = .error eq) := by show _ = _; rw [HS.out, hs]
          clear hs
          have LC := LB.call hg2 hp2
          clear b0 b1 b2 b3 b4 b5 b6 b7 bf
          obtain ⟨b0, b1, b2, b3, b4, b5, b6, b7, bf⟩ := loc8 LC.res
          unfold fmV
          go_wp2_with fail
          have LD := (((((LC.ret 2 (.int .i64 n0)).ret 3 (.slice a kk c)).ret 4 (.int .i64 n2)).ret 5 (.int .i64 n3)).ret 6 (.int .i64 n4)).ret 7 (.int .i64 n5)
          go_ret2
          refine ⟨LD.g, ?_⟩
          rw [HS2.out]
          exact ⟨⟨_, rfl⟩, p2, LD.pa, hq2⟩
        | ok p2 =>
          rw [hs] at hr2
          obtain ⟨⟨n0, a, kk, c, n2, n3, n4, n5, rfl, HF2⟩, hp2, _, _⟩ := hr2
          have HS2 : Hid (testS s p = if kd s p2 = 1 then .ok p2 else .error (pl s p2)) := by show _ = _; rw [HS.out, hs]
          clear hs
          have LC := LB.call hg2 hp2
          clear b0 b1 b2 b3 b4 b5 b6 b7 bf
          obtain ⟨b0, b1, b2, b3, b4, b5, b6, b7, bf⟩ := loc8 LC.res
          unfold fmV
          have LD := (((((LC.ret 2 (.int .i64 n0)).ret 3 (.slice a kk c)).ret 4 (.int .i64 n2)).ret 5 (.int .i64 n3)).ret 6 (.int .i64 n4)).ret 7 (.int .i64 n5)
          obtain ⟨c0, c1, c2, c3, c4, c5, c6, c7, c8, hf, _⟩ := hp2.get
          by_cases k1 : kd s p2 = 1
          · have e1 : (((tk s p2.i).kind : Int) == 1) = true := by show ((kd s p2 : Int) == 1) = true; rw [k1]; rfl
            go_wp2_with fail
            go_quiet (fail)
            go_wp2_with fail
            go_ret2
            have LE := LD.drewN nq
            have hLE := heap_lt LE.res
            refine ⟨LE.g, ?_⟩
            rw [HS2.out, if_pos k1]
            have HPR := TP3.finish HTN.out hn4 HTP.out HCN.out HN0.out own hlt hRl hg1 hg2 HQS.out HF2.out k1 LE.res (drewN_heap _ nq).1
            exact ⟨⟨w.heap.size, rfl, Nat.le_refl _, hLE, HPR⟩, LE.pa⟩
          · have e1 : (((tk s p2.i).kind : Int) == 1) = false := by show ((kd s p2 : Int) == 1) = false; rw [beq_eq_false_iff_ne]; omega
            go_wp2_with fail
            go_quiet (fail)
            go_wp2_with fail
            go_ret2
            have LE := LD.drewN nq
            have hLE := heap_lt LE.res
            refine ⟨LE.g, ?_⟩
            rw [HS2.out, if_neg k1]
            exact ⟨⟨_, rfl⟩, p2, LE.pa, rfl⟩
end Go.Proofs.YtmpaeladhoomoaaGreatDoor

namespace Go.Proofs.YtmpaeladhoomoaaGreatDoor
open Go.RowKit

def ProgK3 (s : ByteArray) (w w' : World) (g : Nat) : Prop := ∃ ls fa ft p', testS s ps0 = .ok p' ∧ ProgRep w' (newB w w') g ls fa ft ∧ Said3 s ps0 ls fa ft p'.i
def TestK3 (s : ByteArray) (w w' : World) (g : Nat) : Prop := ∃ pg, w'.heap[g]? = some (.cells #[.pointer (some ⟨pg, 0, none⟩)] 71 (0, 0)) ∧ ProgK3 s w w' pg

set_option maxRecDepth 100000 in
set_option maxHeartbeats 1000000 in
theorem read_any3 (w : World) (s : ByteArray) (hs : s.size ≤ maxLen) :
    Calls Tryz.prog 40 #[.string s] w fun e w' => PostRC w (ProgK3 s w) (readS s) e w' := by
  unfold maxLen at hs
  by_cases hl : (400 : Int) < (s.size : Int)
  · have HS : Hid (readS s = (1, 0)) := readS_long s (by omega)
    go_enter Tryz.func40, Tryz.ntmps40
    go_wp2_with fail
    go_ret3
    refine ⟨gb_refl _ _, ?_⟩
    rw [HS.out]
    exact ⟨none, rfl, Or.inr ⟨by simp, rfl⟩⟩
  · go_enter Tryz.func40, Tryz.ntmps40
    go_wp2_with fail
    refine (advance_raw _ w.heap.size s 0 _ _ _ _ _ _ _ (by omega) (Nat.zero_le _) (heap_alloc_new w _)).mono ?_
    rintro e w1 ⟨rfl, hg1, hb1⟩
    have hp1 : PAt w1 w.heap.size s ps0 := ⟨hb1, by omega, Nat.zero_le _, by simp [ps0], by simp [ps0], by simp [ps0], by simp [ps0], by simp [ps0]⟩
    clear hb1
    go_wp2_with fail
    have hin := test_any3 _ w.heap.size s ps0 hp1 rfl rfl
    refine hin.mono ?_
    clear hin
    rintro e w2 ⟨hg2, hr2⟩
    have hG : w.grownBy w2 none := gb_own (gb_own (gb_alloc (gb_refl w none) _) hg1 (Nat.le_refl _)) hg2 (Nat.le_refl _)
    have hsz1 := hg1.size
    simp only [World.size_alloc] at hsz1
    cases ht : testS s ps0 with
    | error q =>
      rw [ht] at hr2
      obtain ⟨⟨o, rfl⟩, p2, hp2, hq2⟩ := hr2
      have HS : Hid (readS s = (2, pl s p2)) := by show _ = _; rw [hq2]; exact readS_err s q (by omega) ht
      clear ht hq2
      obtain ⟨c0, c1, c2, c3, c4, c5, c6, c7, c8, hf, hbl⟩ := hp2.get
      go_wp2_with fail
      go_quiet (fail)
      go_wp2_with fail
      go_ret3
      refine ⟨gb_drewN hG _, ?_⟩
      rw [HS.out]
      exact ⟨none, rfl, Or.inr ⟨by simp, rfl⟩⟩
    | ok p2 =>
      rw [ht] at hr2
      obtain ⟨⟨g, rfl, hg, hgl, HPR⟩, hp2⟩ := hr2
      have HTS : Hid (testS s ps0 = .ok p2) := ht
      obtain ⟨c0, c1, c2, c3, c4, c5, c6, c7, c8, hf, hbl⟩ := hp2.get
      have hj1 := hp2.jlo
      have hj2 := hp2.jhi
      by_cases hj : 0 ≤ p2.jmp
      · have HS : Hid (readS s = (3, p2.jmp.toNat)) := readS_jump s p2 (by omega) ht hj
        clear ht
        go_wp2_with fail
        go_quiet (fail)
        go_wp2_with fail
        go_ret3
        refine ⟨gb_drewN hG _, ?_⟩
        rw [HS.out]
        refine ⟨none, ?_, Or.inr ⟨by simp, rfl⟩⟩
        rw [show ((p2.jmp.toNat : Nat) : Int) = p2.jmp from by omega]
        rfl
      · have HS : Hid (readS s = (0, 0)) := readS_ok s p2 (by omega) ht hj
        clear ht
        go_wp2_with fail
        go_ret3
        refine ⟨hG, ?_⟩
        rw [HS.out]
        obtain ⟨ls, fa, ft, a1, a2⟩ := HPR.out
        exact ⟨some ⟨g, 0, none⟩, rfl, Or.inl ⟨rfl, rfl, g, rfl, by omega, hgl, ls, fa, ft, p2, HTS.out, a1.mono (fun x hx => ⟨by have := hx.1; omega, hx.2⟩) (fun x _ => rfl), a2⟩⟩

set_option maxHeartbeats 1000000 in
theorem load_any3 (w : World) (s : ByteArray) (hs : s.size ≤ maxLen) :
    Calls Tryz.prog 22 #[.string s] w fun e w' => PostRC w (TestK3 s w) (readS s) e w' := by
  have hrd := fun wx => read_any3 wx s hs
  generalize readS s = r at hrd ⊢
  obtain ⟨r1, r2⟩ := r
  have HRD : Hid (∀ wx, Calls Tryz.prog 40 #[.string s] wx fun e w' => PostRC wx (ProgK3 s wx) (r1, r2) e w') := hrd
  clear hrd
  go_enter Tryz.func22, Tryz.ntmps22
  go_wp2_with fail
  refine (HRD.out _).mono ?_
  rintro e w1 ⟨hg1, o, rfl, hr⟩
  simp only at hr
  rcases hr with ⟨rfl, rfl, g, rfl, h1, h2, HK⟩ | ⟨hne, rfl⟩
  · go_wp2_with fail
    go_ret3
    have hsz := hg1.size
    refine ⟨gb_alloc hg1 _, _, rfl, Or.inl ⟨rfl, rfl, _, rfl, by omega, by simp, g, heap_alloc_new w1 _, ?_⟩⟩
    obtain ⟨ls, fa, ft, p2, a0, a1, a2⟩ := HK.out
    exact ⟨ls, fa, ft, p2, a0, a1.mono (fun x hx => ⟨hx.1, by have := hx.2; simp; omega⟩) (fun x hx => Below.heap_alloc _ _ _ hx.2), a2⟩
  · have hne' : ((r1 : Int) != 0) = true := by rw [bne_iff_ne]; omega
    have HNE : Hid (r1 ≠ 0) := hne
    clear hne
    go_wp2_with fail
    go_ret3
    exact ⟨hg1, _, rfl, Or.inr ⟨HNE.out, rfl⟩⟩
end Go.Proofs.YtmpaeladhoomoaaGreatDoor
