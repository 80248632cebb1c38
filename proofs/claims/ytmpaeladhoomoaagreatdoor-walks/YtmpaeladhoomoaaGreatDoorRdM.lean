/-
  The program's reader: a whole test.
-/
import Derived.Test.YtmpaeladhoomoaaGreatDoorRdL
import Derived.Test.YtmpaeladhoomoaaGreatDoorPrD
namespace Go.Proofs.YtmpaeladhoomoaaGreatDoor
open Go.RowKit

def threadsS (s : ByteArray) : Nat → PS → Except Nat PS
  | 0, p => .error (pl s p)
  | n + 1, p => if kd s p = 5 ∨ p.thr = 0 then (match threadS s p with | .error q => .error q | .ok (_, p1) => threadsS s n p1) else .ok p
def testS (s : ByteArray) (p : PS) : Except Nat PS :=
  match threadsS s 6 p with
  | .error q => .error q
  | .ok p1 => match questionS s p1 with
    | .error q => .error q
    | .ok (_, p2) => match formS s 7 p2 with
      | .error q => .error q
      | .ok p3 => if kd s p3 = 1 then .ok p3 else .error (pl s p3)

theorem skipsS_kept : ∀ (l : List (St × Nat)) (p : PS), (skipsS l p).opn = p.opn ∧ (skipsS l p).thr = p.thr := by
  intro l
  induction l with
  | nil => intro p; exact ⟨rfl, rfl⟩
  | cons y r ih =>
    intro p
    obtain ⟨x, d⟩ := y
    rw [skipsS]
    split
    · have h1 := ih (jumped p d)
      have h2 : (jumped p d).opn = p.opn ∧ (jumped p d).thr = p.thr := by unfold jumped; split <;> exact ⟨rfl, rfl⟩
      exact ⟨h1.1.trans h2.1, h1.2.trans h2.2⟩
    · exact ih p
theorem stepsS_kept (s : ByteArray) : ∀ (n : Nat) (acc : List (St × Nat)) (p : PS) (l : List (St × Nat)) (p' : PS), stepsS s n acc p = .ok (l, p') → p'.opn = p.opn ∧ p'.thr = p.thr := by
  intro n
  induction n with
  | zero => intro acc p l p' h; simp [stepsS] at h
  | succ n ih =>
    intro acc p l p' h
    rw [stepsS] at h
    split at h
    · split at h
      · simp at h
      · cases hs : stepS s p with
        | error q => rw [hs] at h; simp at h
        | ok r =>
          obtain ⟨x, p1⟩ := r
          rw [hs] at h
          simp only at h
          have hk := (stepS_kept hs).1
          split at h
          · have h1 := ih _ _ _ _ h
            have h2 := nxt_thr s p1 18
            exact ⟨h1.1.trans (h2.2.1.trans hk.2.1), h1.2.trans (h2.1.trans hk.1)⟩
          · simp at h
    · simp only [Except.ok.injEq, Prod.mk.injEq] at h; obtain ⟨_, rfl⟩ := h; exact ⟨rfl, rfl⟩
theorem threadS_kept {s : ByteArray} {p p' : PS} {l : List St} (h : threadS s p = .ok (l, p')) : p'.opn = p.opn ∧ p'.thr = p.thr + 1 ∧ p.thr ≠ 4 := by
  unfold threadS at h
  split at h
  · simp at h
  · rename_i h4
    split at h
    · cases hs : stepsS s 9 [] (nxt s p 5) with
      | error q => rw [hs] at h; simp at h
      | ok r =>
        obtain ⟨l1, p1⟩ := r
        rw [hs] at h
        simp only [Except.ok.injEq, Prod.mk.injEq] at h
        obtain ⟨_, rfl⟩ := h
        have h1 := stepsS_kept s _ _ _ _ _ hs
        have h2 := skipsS_kept l1 { p1 with thr := p1.thr + 1 }
        have h3 := nxt_thr s p 5
        refine ⟨h2.1.trans (h1.1.trans h3.2.1), h2.2.trans ?_, h4⟩
        show p1.thr + 1 = p.thr + 1
        rw [h1.2, h3.1]
    · simp at h

theorem questionS_kept {s : ByteArray} {p p' : PS} {d : Bool} (h : questionS s p = .ok (d, p')) : p'.opn = p.opn := by
  unfold questionS at h
  repeat' split at h
  all_goals first
    | (simp at h; done)
    | (simp only [Except.ok.injEq, Prod.mk.injEq] at h; obtain ⟨_, rfl⟩ := h; exact (nxt_thr _ _ _).2.1)
theorem L1.drewN {w0 w : World} {b : Nat} {s : ByteArray} {p : PS} {R : Nat} {t : TypeId} {rs : Array Value} (l : L1 w0 w b s p R t rs) (n : Nat) : L1 w0 (w.drewN n) b s p R t rs :=
  ⟨gb_drewN l.g n, ⟨l.pa.blk, l.pa.ssz, l.pa.isz, l.pa.dsz, l.pa.tsz, l.pa.osz, l.pa.jlo, l.pa.jhi⟩, l.res, l.hR, l.hb⟩
theorem L1.grow {w0 w w' : World} {b : Nat} {s : ByteArray} {p : PS} {R : Nat} {t : TypeId} {rs : Array Value} {row : Option Nat} (l : L1 w0 w b s p R t rs) (hg : w.grownBy w' row) (h1 : some b ≠ row) (h2 : some R ≠ row) (h4 : ∀ g, row = some g → w0.heap.size ≤ g) : L1 w0 w' b s p R t rs :=
  ⟨gb_new l.g hg (fun g e => Or.inr (h4 g e)), l.pa.kept hg h1, heap_gb hg l.res h2, l.hR, l.hb⟩

def PostT (w : World) (b : Nat) (s : ByteArray) (i : Nat) (r : Except Nat PS) (e : Ending) (w' : World) : Prop :=
  w.grownBy w' (some b) ∧ match r with
  | .ok p' => (∃ g, e = .returned (.tuple #[.pointer (some ⟨g, 0, none⟩), .bool true]) ∧ w.heap.size ≤ g ∧ g < w'.heap.size ∧ Hid (∃ ls fa ft, ProgRep w' (newB w w') g ls fa ft ∧ Said s i ls fa ft p'.i)) ∧ PAt w' b s p'
  | .error q => (∃ o, e = .returned (.tuple #[.pointer o, .bool false])) ∧ ∃ p', PAt w' b s p' ∧ pl s p' = q

theorem infoSteps : (Tryz.prog.info? 100).map (fun i => (i.zero, i.size, i.bytes)) = some (some (.slice none 0 0), 1, 24) := by kernel_rfl
theorem loc8 {w : World} {B : Nat} {t : TypeId} {a0 a1 a2 a3 a4 a5 a6 a7 : Value} (h : w.heap[B]? = some (.cells #[a0, a1, a2, a3, a4, a5, a6, a7] t (0, 0))) :
    w.cell? ⟨B, 0, none⟩ = some a0 ∧ w.cell? ⟨B, 1, none⟩ = some a1 ∧ w.cell? ⟨B, 2, none⟩ = some a2 ∧ w.cell? ⟨B, 3, none⟩ = some a3 ∧ w.cell? ⟨B, 4, none⟩ = some a4 ∧ w.cell? ⟨B, 5, none⟩ = some a5 ∧ w.cell? ⟨B, 6, none⟩ = some a6 ∧ w.cell? ⟨B, 7, none⟩ = some a7 ∧ (∀ o, w.frozen? ⟨B, o, none⟩ = false) :=
  ⟨cell_of h 0 _ rfl, cell_of h 1 _ rfl, cell_of h 2 _ rfl, cell_of h 3 _ rfl, cell_of h 4 _ rfl, cell_of h 5 _ rfl, cell_of h 6 _ rfl, cell_of h 7 _ rfl, frozen_of h⟩
theorem threads_yes (s : ByteArray) (k : Nat) (q : PS) (hk : 0 < k) (hb : kd s q = 5 ∨ q.thr = 0) : threadsS s k q = (match threadS s q with | .error e => .error e | .ok (_, p1) => threadsS s (k - 1) p1) := by
  obtain ⟨m, rfl⟩ : ∃ m, k = m + 1 := ⟨k - 1, by omega⟩
  rw [threadsS, if_pos hb]
  cases threadS s q with
  | error e => rfl
  | ok r => obtain ⟨l, p1⟩ := r; rfl
theorem threads_no (s : ByteArray) (k : Nat) (q : PS) (hk : 0 < k) (hb : ¬ (kd s q = 5 ∨ q.thr = 0)) : threadsS s k q = .ok q := by
  obtain ⟨m, rfl⟩ : ∃ m, k = m + 1 := ⟨k - 1, by omega⟩
  rw [threadsS, if_neg hb]

set_option maxRecDepth 100000 in
set_option maxHeartbeats 4000000 in
theorem test_any (w : World) (b : Nat) (s : ByteArray) (p : PS) (h : PAt w b s p) (h0 : p.thr = 0) (ho0 : p.opn = 0) :
    Calls Tryz.prog 61 #[.pointer (some ⟨b, 0, none⟩)] w fun e w' => PostT w b s p.i (testS s p) e w' := by
  obtain ⟨i0, hi, hz0, hz1, hz2⟩ := info_parts infoSteps
  have hlt := heap_lt h.blk
  have H0 : Hid (p.thr = 0 ∧ p.opn = 0) := ⟨h0, ho0⟩
  clear h0 ho0
  have L0 := L1.start h 99 #[.slice none 0 0, .bool false, .int .i64 0, .slice none 0 0, .int .i64 0, .int .i64 0, .int .i64 0, .int .i64 0]
  go_enter Tryz.func61, Tryz.ntmps61
  go_wp2_with fail
  go_loopg [6] 6 (fun k _ wr => ∃ (q : PS) (n : Nat) (v : Value) (xs : List Value), L1 w wr b s q w.heap.size 99 #[v, .bool false, .int .i64 0, .slice none 0 0, .int .i64 0, .int .i64 0, .int .i64 0, .int .i64 0] ∧ wr.ownsRow (w.heap.size + 1) 100 1 v n xs ∧ Hid (TP w wr v xs s p.i q.i n) ∧ n = q.thr ∧ k + q.thr = 6 ∧ Hid (threadsS s k q = threadsS s 6 p) ∧ Hid (q.opn = 0))
  case atStart => exact ⟨p, 0, _, [], L0, World.ownsRow_nil _ _ _ _, TP.start _ _ _ _ _, H0.out.1.symm, by rw [H0.out.1], rfl, H0.out.2⟩
  case round =>
    obtain ⟨q, n, v, xs, LQ, own, HTP, hnq, hkq, HSP, HOQ⟩ := hrel
    have HN : Hid (n = q.thr) := hnq
    have hn4 : n ≤ 4 := by have := LQ.pa.tsz; omega
    have hkp : 0 < gk := by have := LQ.pa.tsz; omega
    have HK : Hid (gk + q.thr = 6) := hkq
    clear hnq hkq
    obtain ⟨a1, cap1, rfl⟩ := own_slice own
    obtain ⟨b0, b1, b2, b3, b4, b5, b6, b7, bf⟩ := loc8 LQ.res
    obtain ⟨c0, c1, c2, c3, c4, c5, c6, c7, c8, hf, hbl⟩ := LQ.pa.get
    have hRl := heap_lt LQ.res
    by_cases hc : kd s q = 5 ∨ q.thr = 0
    · have HTY : Hid (threadsS s 6 p = (match threadS s q with | .error e => .error e | .ok (_, p1) => threadsS s (gk - 1) p1)) := by show _ = _; rw [← HSP.out, threads_yes s gk q hkp hc]
      --BODY
      by_cases hk5 : kd s q = 5
      · have e5 : (((tk s q.i).kind : Int) == 5) = true := by show ((kd s q : Int) == 5) = true; rw [hk5]; rfl
        clear hc
        go_wp2_with fail
        have hin := thread_any _ b s q LQ.pa
        refine hin.mono ?_
        clear hin
        rintro e w1 ⟨hg1, hr1⟩
        cases hs : threadS s q with
        | error eq =>
          rw [hs] at hr1
          obtain ⟨rfl, p1, hp1, hq1⟩ := hr1
          have HS : Hid (testS s p = .error eq) := by show _ = _; unfold testS; rw [HTY.out, hs]
          clear hs
          go_wp2_with fail
          go_ret2
          refine ⟨gb_trans LQ.g hg1, ?_⟩
          rw [HS.out]
          exact ⟨⟨_, rfl⟩, p1, hp1, hq1⟩
        | ok r =>
          obtain ⟨l, p1⟩ := r
          rw [hs] at hr1
          obtain ⟨v1, rfl, hp1, own1⟩ := hr1
          have hkp1 := threadS_kept hs
          have HTS : Hid (threadS s q = .ok (l, p1)) := hs
          have HKP : Hid (p1.opn = q.opn ∧ p1.thr = q.thr + 1 ∧ q.thr ≠ 4) := hkp1
          have HS : Hid (threadsS s 6 p = threadsS s (gk - 1) p1) := by show _ = _; rw [HTY.out, hs]
          clear hs hkp1
          obtain ⟨sa, scap, rfl⟩ := own_slice own1
          have LA := LQ.call hg1 hp1
          have ownA := own_par own hg1 (by omega)
          clear b0 b1 b2 b3 b4 b5 b6 b7 bf c0 c1 c2 c3 c4 c5 c6 c7 c8 hf
          obtain ⟨b0, b1, b2, b3, b4, b5, b6, b7, bf⟩ := loc8 LA.res
          have hAl := heap_lt LA.res
          go_wp2_with (at_builtin; go_must (refine wpList_append_lies _ (by rfl) _ _ 93 (by rfl) (w.heap.size + 1) 100 i0 _ 1 24 Tryz.underlying93 hi hz0 hz1 hz2 rfl (by decide) (.slice a1 n cap1) n xs (by rfl) (ownA.alloc _) ⟨w1.heap.size, 0, none⟩ 1 1 [.slice sa l.length scap] (by rfl) (by rfl) (World.news_of_block (heap_alloc_new w1 _)) (fun u hu => by simp at hu; subst hu; rfl) (by decide) (by unfold maxLen; omega) (by omega) (by simp; omega) (w1.heap.size + 1) (by simp) ?_; intro g4 cap4 w4 hown hgrow hat hlt4; clear b0 b1 b2 b3 b4 b5 b6 b7 bf; have LB := (LA.alloc _).grow hgrow (par_own ownA (by omega)) (par_own ownA (by omega)) (fun k e => by have := (ownA.lt k e).1; omega); obtain ⟨b0, b1, b2, b3, b4, b5, b6, b7, bf⟩ := loc8 LB.res))
          have LC := LB.ret 0 (.slice (some ⟨g4, 0, none⟩) (n + 1) cap4)
          have hg4 : w.heap.size + 1 ≤ g4 := (hown.lt g4 rfl).1
          have ownC := own_setCell hown ⟨w.heap.size, 0, none⟩ (.slice (some ⟨g4, 0, none⟩) (n + 1) cap4) (by simp; omega)
          go_roundg (gk - 1)
          case measure => omega
          case rel => exact ⟨p1, n + 1, _, _, LC, ownC, HTP.out.round hlt hRl (fun g e => (own.lt g e).2) hg1 HTS.out (threadS_len HTS.out) own1 hgrow hat rfl _ rfl, by have := HN.out; have := HKP.out.2.1; omega, by have := HK.out; have := HKP.out.2.1; omega, HS.out.symm, HKP.out.1.trans HOQ.out⟩
      · have e5 : (((tk s q.i).kind : Int) == 5) = false := by show ((kd s q : Int) == 5) = false; rw [beq_eq_false_iff_ne]; omega
        have et : ((q.thr : Int) == 0) = true := by rw [beq_iff_eq]; omega
        clear hc
        go_wp2_with fail
        have hin := thread_any _ b s q LQ.pa
        refine hin.mono ?_
        clear hin
        rintro e w1 ⟨hg1, hr1⟩
        cases hs : threadS s q with
        | error eq =>
          rw [hs] at hr1
          obtain ⟨rfl, p1, hp1, hq1⟩ := hr1
          have HS : Hid (testS s p = .error eq) := by show _ = _; unfold testS; rw [HTY.out, hs]
          clear hs
          go_wp2_with fail
          go_ret2
          refine ⟨gb_trans LQ.g hg1, ?_⟩
          rw [HS.out]
          exact ⟨⟨_, rfl⟩, p1, hp1, hq1⟩
        | ok r =>
          obtain ⟨l, p1⟩ := r
          rw [hs] at hr1
          obtain ⟨v1, rfl, hp1, own1⟩ := hr1
          have hkp1 := threadS_kept hs
          have HTS : Hid (threadS s q = .ok (l, p1)) := hs
          have HKP : Hid (p1.opn = q.opn ∧ p1.thr = q.thr + 1 ∧ q.thr ≠ 4) := hkp1
          have HS : Hid (threadsS s 6 p = threadsS s (gk - 1) p1) := by show _ = _; rw [HTY.out, hs]
          clear hs hkp1
          obtain ⟨sa, scap, rfl⟩ := own_slice own1
          have LA := LQ.call hg1 hp1
          have ownA := own_par own hg1 (by omega)
          clear b0 b1 b2 b3 b4 b5 b6 b7 bf c0 c1 c2 c3 c4 c5 c6 c7 c8 hf
          obtain ⟨b0, b1, b2, b3, b4, b5, b6, b7, bf⟩ := loc8 LA.res
          have hAl := heap_lt LA.res
          go_wp2_with (at_builtin; go_must (refine wpList_append_lies _ (by rfl) _ _ 93 (by rfl) (w.heap.size + 1) 100 i0 _ 1 24 Tryz.underlying93 hi hz0 hz1 hz2 rfl (by decide) (.slice a1 n cap1) n xs (by rfl) (ownA.alloc _) ⟨w1.heap.size, 0, none⟩ 1 1 [.slice sa l.length scap] (by rfl) (by rfl) (World.news_of_block (heap_alloc_new w1 _)) (fun u hu => by simp at hu; subst hu; rfl) (by decide) (by unfold maxLen; omega) (by omega) (by simp; omega) (w1.heap.size + 1) (by simp) ?_; intro g4 cap4 w4 hown hgrow hat hlt4; clear b0 b1 b2 b3 b4 b5 b6 b7 bf; have LB := (LA.alloc _).grow hgrow (par_own ownA (by omega)) (par_own ownA (by omega)) (fun k e => by have := (ownA.lt k e).1; omega); obtain ⟨b0, b1, b2, b3, b4, b5, b6, b7, bf⟩ := loc8 LB.res))
          have LC := LB.ret 0 (.slice (some ⟨g4, 0, none⟩) (n + 1) cap4)
          have hg4 : w.heap.size + 1 ≤ g4 := (hown.lt g4 rfl).1
          have ownC := own_setCell hown ⟨w.heap.size, 0, none⟩ (.slice (some ⟨g4, 0, none⟩) (n + 1) cap4) (by simp; omega)
          go_roundg (gk - 1)
          case measure => omega
          case rel => exact ⟨p1, n + 1, _, _, LC, ownC, HTP.out.round hlt hRl (fun g e => (own.lt g e).2) hg1 HTS.out (threadS_len HTS.out) own1 hgrow hat rfl _ rfl, by have := HN.out; have := HKP.out.2.1; omega, by have := HK.out; have := HKP.out.2.1; omega, HS.out.symm, HKP.out.1.trans HOQ.out⟩
    · have e5 : (((tk s q.i).kind : Int) == 5) = false := by show ((kd s q : Int) == 5) = false; rw [beq_eq_false_iff_ne]; omega
      have et : ((q.thr : Int) == 0) = false := by rw [beq_eq_false_iff_ne]; omega
      have HN0 : Hid (n ≠ 0) := by show n ≠ 0; have := HN.out; omega
      have HTN : Hid (threadsS s 6 p = .ok q) := by show _ = _; rw [← HSP.out, threads_no s gk q hkp hc]
      clear hc
      go_wp2_with fail
      have hin := question_any _ b s q LQ.pa
      refine hin.mono ?_
      clear hin
      rintro e w1 ⟨hg1, hr1⟩
      cases hs : questionS s q with
      | error eq =>
        rw [hs] at hr1
        obtain ⟨rfl, p1, hp1, hq1⟩ := hr1
        have HS : Hid (testS s p = .error eq) := by show _ = _; unfold testS; rw [HTN.out]; simp only; rw [hs]
        clear hs
        have LA := LQ.call hg1 hp1
        clear b0 b1 b2 b3 b4 b5 b6 b7 bf c0 c1 c2 c3 c4 c5 c6 c7 c8 hf
        obtain ⟨b0, b1, b2, b3, b4, b5, b6, b7, bf⟩ := loc8 LA.res
        go_wp2_with fail
        have LD := LA.ret 1 (.bool false)
        go_ret2
        refine ⟨LD.g, ?_⟩
        rw [HS.out]
        exact ⟨⟨_, rfl⟩, p1, LD.pa, hq1⟩
      | ok r =>
        obtain ⟨fa, p1⟩ := r
        rw [hs] at hr1
        obtain ⟨rfl, hp1⟩ := hr1
        have HO1 : Hid (p1.opn = 0) := (questionS_kept hs).trans HOQ.out
        have HQS : Hid (questionS s q = .ok (fa, p1)) := hs
        have HS : Hid (testS s p = match formS s 7 p1 with | .error q => .error q | .ok p3 => if kd s p3 = 1 then .ok p3 else .error (pl s p3)) := by show _ = _; unfold testS; rw [HTN.out]; simp only; rw [hs]
        clear hs
        have LA := LQ.call hg1 hp1
        clear b0 b1 b2 b3 b4 b5 b6 b7 bf c0 c1 c2 c3 c4 c5 c6 c7 c8 hf
        obtain ⟨b0, b1, b2, b3, b4, b5, b6, b7, bf⟩ := loc8 LA.res
        go_wp2_with fail
        have LB := LA.ret 1 (.bool fa)
        have hin := form_all 7 _ b s p1 LB.pa (by rw [HO1.out])
        refine hin.mono ?_
        clear hin
        rintro e w2 ⟨hg2, hr2⟩
        cases hs : formS s 7 p1 with
        | error eq =>
          rw [hs] at hr2
          obtain ⟨⟨n0, a, kk, c, n2, n3, n4, n5, rfl⟩, p2, hp2, hq2, _⟩ := hr2
          have HS2 : Hid (testS s p = .error eq) := by show _ = _; rw [HS.out, hs]
          clear hs
          have LC := LB.call hg2 hp2
          clear b0 b1 b2 b3 b4 b5 b6 b7 bf
          obtain ⟨b0, b1, b2, b3, b4, b5, b6, b7, bf⟩ := loc8 LC.res
          unfold fmV
          go_wp2_with fail
          have LD := (((((LC.ret 2 (.int .i64 n0)).ret 3 (.slice a kk c)).ret 4 (.int .i64 n2)).ret 5 (.int .i64 n3)).ret 6 (.int .i64 n4)).ret 7 (.int .i64 n5)
          go_ret2
          refine ⟨LD.g, ?_⟩
          rw [HS2.out]
          exact ⟨⟨_, rfl⟩, p2, LD.pa, hq2⟩
        | ok p2 =>
          rw [hs] at hr2
          obtain ⟨⟨n0, a, kk, c, n2, n3, n4, n5, rfl, HF2⟩, hp2, _, _⟩ := hr2
          have HS2 : Hid (testS s p = if kd s p2 = 1 then .ok p2 else .error (pl s p2)) := by show _ = _; rw [HS.out, hs]
          clear hs
          have LC := LB.call hg2 hp2
          clear b0 b1 b2 b3 b4 b5 b6 b7 bf
          obtain ⟨b0, b1, b2, b3, b4, b5, b6, b7, bf⟩ := loc8 LC.res
          unfold fmV
          have LD := (((((LC.ret 2 (.int .i64 n0)).ret 3 (.slice a kk c)).ret 4 (.int .i64 n2)).ret 5 (.int .i64 n3)).ret 6 (.int .i64 n4)).ret 7 (.int .i64 n5)
          obtain ⟨c0, c1, c2, c3, c4, c5, c6, c7, c8, hf, _⟩ := hp2.get
          by_cases k1 : kd s p2 = 1
          · have e1 : (((tk s p2.i).kind : Int) == 1) = true := by show ((kd s p2 : Int) == 1) = true; rw [k1]; rfl
            go_wp2_with fail
            go_quiet (fail)
            go_wp2_with fail
            go_ret2
            have LE := LD.drewN nq
            have hLE := heap_lt LE.res
            refine ⟨LE.g, ?_⟩
            rw [HS2.out, if_pos k1]
            have HPR := HTP.out.finish HN0.out own hlt hRl hg1 hg2 HQS.out HF2.out k1 LE.res (drewN_heap _ nq).1
            exact ⟨⟨w.heap.size, rfl, Nat.le_refl _, hLE, HPR⟩, LE.pa⟩
          · have e1 : (((tk s p2.i).kind : Int) == 1) = false := by show ((kd s p2 : Int) == 1) = false; rw [beq_eq_false_iff_ne]; omega
            go_wp2_with fail
            go_quiet (fail)
            go_wp2_with fail
            go_ret2
            have LE := LD.drewN nq
            have hLE := heap_lt LE.res
            refine ⟨LE.g, ?_⟩
            rw [HS2.out, if_neg k1]
            exact ⟨⟨_, rfl⟩, p2, LE.pa, rfl⟩
end Go.Proofs.YtmpaeladhoomoaaGreatDoor
