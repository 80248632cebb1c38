/-
  The program's reader: a thread, walked.
-/
import Derived.Test.YtmpaeladhoomoaaGreatDoorRdG
namespace Go.Proofs.YtmpaeladhoomoaaGreatDoor
open Go.RowKit

theorem infoStep : (Tryz.prog.info? 107).map (fun i => (i.zero, i.size, i.bytes)) = some (some (.agg #[.int .i64 0, .int .i64 0, .int .i64 0, .int .i64 0, .int .i64 0]), 5, 40) := by kernel_rfl
theorem infoInt : (Tryz.prog.info? 3).map (fun i => (i.zero, i.size, i.bytes)) = some (some (.int .i64 0), 1, 8) := by kernel_rfl

def PostTh (w : World) (b : Nat) (s : ByteArray) (r : Except Nat (List St × PS)) (e : Ending) (w' : World) : Prop :=
  w.grownBy w' (some b) ∧ match r with
  | .ok (l, p') => ∃ v, e = .returned (.tuple #[v, .bool true]) ∧ PAt w' b s p' ∧ w'.ownsRow w.heap.size 107 5 v l.length (l.flatMap stCells)
  | .error q => e = .returned (.tuple #[.slice none 0 0, .bool false]) ∧ ∃ p', PAt w' b s p' ∧ pl s p' = q

def slen : Value → Nat | .slice _ n _ => n | _ => 0
theorem steps_go (s : ByteArray) (acc : List (St × Nat)) (q : PS) (h8 : acc.length < 8) (hz : acc.length = 0 ∨ endsB s q = false) : stepsS s (9 - acc.length) acc q =
    match stepS s q with
    | .error e => .error e
    | .ok (x, p1) => if kd s p1 = 18 then stepsS s (9 - (acc ++ [(x, (nxt s p1 18).dig)]).length) (acc ++ [(x, (nxt s p1 18).dig)]) (nxt s p1 18) else .error (pl s p1) := by
  obtain ⟨m, hm⟩ : ∃ m, 9 - acc.length = m + 1 := ⟨8 - acc.length, by omega⟩
  rw [hm, stepsS, if_pos hz, if_neg (by omega)]
  have : ∀ y : St × Nat, 9 - (acc ++ [y]).length = m := by intro y; simp; omega
  simp only [this]
  cases stepS s q with
  | error e => rfl
  | ok r => obtain ⟨x, p1⟩ := r; rfl
theorem steps_full (s : ByteArray) (acc : List (St × Nat)) (q : PS) (h8 : acc.length = 8) (hz : endsB s q = false) : stepsS s (9 - acc.length) acc q = .error (pl s q) := by
  rw [h8, stepsS, if_pos (Or.inr hz), if_pos h8]
theorem steps_end (s : ByteArray) (acc : List (St × Nat)) (q : PS) (h8 : acc.length ≤ 8) (h0 : acc.length ≠ 0) (hz : endsB s q = true) : stepsS s (9 - acc.length) acc q = .ok (acc, q) := by
  obtain ⟨m, hm⟩ : ∃ m, 9 - acc.length = m + 1 := ⟨8 - acc.length, by omega⟩
  rw [hm, stepsS, if_neg (by simp [h0, hz])]
theorem stFlat_snoc (acc : List (St × Nat)) (x : St) (d : Nat) : stFlat acc ++ stCells x = stFlat (acc ++ [(x, d)]) := by simp [stFlat]
theorem digs_snoc (acc : List (St × Nat)) (x : St) (d : Nat) : digs acc ++ [.int .i64 (d : Nat)] = digs (acc ++ [(x, d)]) := by simp [digs]
theorem thread_err (s : ByteArray) (p : PS) (q : Nat) (h4 : ¬ p.thr = 4) (h5 : kd s p = 5) (h : stepsS s 9 [] (nxt s p 5) = .error q) : threadS s p = .error q := by
  unfold threadS; rw [if_neg h4, if_pos h5, h]
theorem thread_ok (s : ByteArray) (p : PS) (l : List (St × Nat)) (p1 : PS) (h4 : ¬ p.thr = 4) (h5 : kd s p = 5) (h : stepsS s 9 [] (nxt s p 5) = .ok (l, p1)) : threadS s p = .ok (l.map (·.1), skipsS l { p1 with thr := p1.thr + 1 }) := by
  unfold threadS; rw [if_neg h4, if_pos h5, h]

set_option maxRecDepth 100000 in
set_option maxHeartbeats 4000000 in
theorem thread_any (w : World) (b : Nat) (s : ByteArray) (p : PS) (h : PAt w b s p) :
    Calls Tryz.prog 91 #[.pointer (some ⟨b, 0, none⟩)] w fun e w' => PostTh w b s (threadS s p) e w' := by
  obtain ⟨c0, c1, c2, c3, c4, c5, c6, c7, c8, hf, hlt⟩ := h.get
  obtain ⟨i0, hi, hz0, hz1, hz2⟩ := info_parts infoStep
  obtain ⟨j0, hj, hy0, hy1, hy2⟩ := info_parts infoInt
  by_cases h4 : p.thr = 4
  · have HS : Hid (threadS s p = .error (pl s p)) := by show _ = _; unfold threadS; rw [if_pos h4]
    have h4' : ((p.thr : Int) == 4) = true := by rw [h4]; rfl
    go_enter Tryz.func91, Tryz.ntmps91
    go_wp2_with fail
    go_ret2
    refine ⟨gb_refl _ _, ?_⟩
    rw [HS.out]
    exact ⟨rfl, _, h, rfl⟩
  have h4' : ((p.thr : Int) == 4) = false := by rw [beq_eq_false_iff_ne]; omega
  by_cases h5 : kd s p = 5
  · go_enter Tryz.func91, Tryz.ntmps91
    go_wp2_with fail
    refine (pass_yes _ b s p 5 h (by show ((kd s p : Nat) : Int) = 5; omega)).mono ?_
    rintro e w1 ⟨rfl, hg1, hp1⟩
    have hsz1 := hg1.size
    go_wp2_with fail
    go_loopw [4, 5] (fun v4 v5 wr => ∃ (acc : List (St × Nat)) (q : PS), acc.length ≤ 8 ∧ wr.ownsRow w.heap.size 107 5 v4 acc.length (stFlat acc) ∧ wr.ownsRow w.heap.size 3 1 v5 acc.length (digs acc) ∧ Apart v4 v5 ∧ PAt wr b s q ∧ w.grownBy wr (some b) ∧ w.heap.size ≤ wr.heap.size ∧
        Hid (stepsS s (9 - acc.length) acc q = stepsS s 9 [] (nxt s p 5)) ∧ Hid (q.thr = p.thr) ∧ Hid ((∀ x ∈ acc, x.2 ≤ 400) ∧ ∀ x ∈ acc, x.1.count ≤ 9))
      (fun v4 _ _ => 9 - slen v4)
    case atStart => exact ⟨[], nxt s p 5, by simp, World.ownsRow_nil _ _ _ _, World.ownsRow_nil _ _ _ _, (fun k hk => by simp [Value.ownBlock] at hk), hp1, hg1, hsz1, rfl, (nxt_thr s p 5).1, ⟨by simp, by simp⟩⟩
    case round =>
      obtain ⟨acc, q, hacc, own4, own5, hap, hP, hG, hsz, hspec, hthr, hall⟩ := hrel
      obtain ⟨a4, cap4, rfl⟩ := own_slice own4
      obtain ⟨a5, cap5, rfl⟩ := own_slice own5
      --BODY
      by_cases hz : acc.length = 0
      · have hz' : ((acc.length : Int) == 0) = true := by rw [hz]; rfl
        have HZ : Hid (acc.length = 0) := hz
        clear hz
        by_cases h8 : acc.length = 8
        · skip
          exfalso; have := HZ.out; omega
        have h8' : ((acc.length : Int) == 8) = false := by rw [beq_eq_false_iff_ne]; omega
        have HG := steps_go s acc q (by omega) (Or.inl HZ.out)
        have HG2 : Hid (_ = _) := HG
        clear HG
        go_wp2_with fail
        have hst := step_any _ b s q hP
        refine hst.mono ?_
        clear hst
        rintro e w2 ⟨hg2, hr2⟩
        have hsz2 := hg2.size
        cases hs : stepS s q with
        | error eq =>
          rw [hs] at hr2
          obtain ⟨⟨n0, n1, n2, n3, n4, rfl⟩, p2, hp2, hq2⟩ := hr2
          have HS : Hid (threadS s p = .error eq) := thread_err s p _ h4 h5 (by rw [← hspec.out, HG2.out, hs])
          clear hs
          go_wp2_with fail
          go_ret2
          refine ⟨gb_alloc (gb_trans hG hg2) _, ?_⟩
          rw [HS.out]
          exact ⟨rfl, p2, hp2.alloc _, hq2⟩
        | ok r =>
          obtain ⟨x, p2⟩ := r
          rw [hs] at hr2
          obtain ⟨rfl, hp2⟩ := hr2
          have hkp := stepS_kept hs
          have hx9 := hkp.2
          have HK : Hid (Kept q p2) := hkp.1
          clear hkp
          have HG3 : Hid (stepsS s 9 [] (nxt s p 5) = if kd s p2 = 18 then stepsS s (9 - (acc ++ [(x, (nxt s p2 18).dig)]).length) (acc ++ [(x, (nxt s p2 18).dig)]) (nxt s p2 18) else .error (pl s p2)) := by show _ = _; rw [← hspec.out, HG2.out, hs]
          clear hs HG2
          unfold stV
          go_wp2_with fail
          by_cases h18 : kd s p2 = 18
          · refine (pass_yes _ b s p2 18 (hp2.alloc _) (by show ((kd s p2 : Nat) : Int) = 18; omega)).mono ?_
            rintro e w3 ⟨rfl, hg3, hp3⟩
            have hsz3 := hg3.size
            rw [show (w2.alloc _).heap.size = w2.heap.size + 1 from by simp] at hsz3
            have hb3 := heap_gb hg3 (heap_alloc_new w2 _) (by simp; have := heap_lt hP.blk; omega)
            obtain ⟨a0, a1, a2, a3, a4c, af⟩ := loc5 hb3
            have own43 := own_par ((own_par own4 hg2 hlt).alloc _) hg3 hlt
            have own53 := own_par ((own_par own5 hg2 hlt).alloc _) hg3 hlt
            have hdg := hp3.dsz
            have tok1 : True := trivial
            have tok2 : True := trivial
            go_wp2_with (first | (at_builtin; have _t := tok1; go_must (refine wpList_append_lies _ (by rfl) _ _ 100 (by rfl) w.heap.size 107 i0 _ 5 40 Tryz.underlying100 hi hz0 hz1 hz2 rfl (by decide) (.slice a4 acc.length cap4) acc.length (stFlat acc) (by rfl) (own43.alloc _) ⟨w3.heap.size, 0, none⟩ 1 1 (stCells x) (by rfl) (by rfl) (World.news_of_block (heap_alloc_new w3 _)) (fun u hu => by simp [stCells] at hu; rcases hu with rfl | rfl | rfl | rfl | rfl <;> rfl) (by decide) (by unfold maxLen; omega) (by omega) (by simp; omega) (w3.heap.size + 1) (by simp) ?_; intro g cap w4 hown hgrow hat hlt4; clear tok1; have hp4 := (hp3.alloc _).kept hgrow (par_own own43 hlt); obtain ⟨_, _, _, _, _, e5, _, _, _, _, _⟩ := hp4.get; have own54 := own_other (own53.alloc _) hgrow hap; have ap4 := apart_step (m := acc.length + 1) (cap := cap) own53 hap hat (by omega); have hsz4 := hgrow.size; simp only [World.size_alloc] at hsz4)) | (at_builtin; have _t := tok2; go_must (refine wpList_append_lies _ (by rfl) _ _ 24 (by rfl) w.heap.size 3 j0 _ 1 8 Tryz.underlying24 hj hy0 hy1 hy2 rfl (by decide) (.slice a5 acc.length cap5) acc.length (digs acc) (by rfl) (own54.alloc _) ⟨w4.heap.size, 0, none⟩ 1 1 [.int .i64 ((nxt s p2 18).dig : Nat)] (by rfl) (by rfl) (World.news_of_block (heap_alloc_new w4 _)) (fun u hu => by simp at hu; subst hu; rfl) (by decide) (by unfold maxLen; omega) (by omega) (by simp; omega) (w4.heap.size + 1) (by simp) ?_; intro g5 cp5 w5 hown5 hgrow5 hat5 hlt5; clear tok2)))
            have own45 := own_other (hown.alloc _) hgrow5 (apart_symm ap4)
            have ap5 := apart_symm (apart_step (m := acc.length + 1) (cap := cp5) hown (apart_symm ap4) hat5 (by omega))
            have hp5 := (hp4.alloc _).kept hgrow5 (par_own own54 hlt)
            have hG3 := gb_trans (gb_alloc (gb_trans hG hg2) _) hg3
            have hG4 := gb_new (gb_alloc hG3 _) hgrow (fun g hg => Or.inr (own43.lt g hg).1)
            have hG5 := gb_new (gb_alloc hG4 _) hgrow5 (fun g hg => Or.inr (own54.lt g hg).1)
            refine ⟨⟨acc ++ [(x, (nxt s p2 18).dig)], nxt s p2 18, by simp; omega, ?_, ?_, ap5, hp5, hG5, hG5.size, ?_, ?_, ?_⟩, by simp [slen]; omega⟩
            · rw [List.length_append, ← stFlat_snoc]; exact own45
            · rw [List.length_append, ← digs_snoc]; exact hown5
            · show _ = _; rw [HG3.out, if_pos h18]
            · exact (nxt_thr s p2 18).1.trans (HK.out.1.trans hthr.out)
            · exact ⟨fun y hy => by simp at hy; rcases hy with hy | rfl; exact hall.out.1 y hy; exact hdg, fun y hy => by simp at hy; rcases hy with hy | rfl; exact hall.out.2 y hy; exact hx9⟩
          · refine (pass_no _ b s p2 18 (hp2.alloc _) (by show ¬ ((kd s p2 : Nat) : Int) = 18; omega)).mono ?_
            rintro e w3 ⟨rfl, rfl⟩
            have HS : Hid (threadS s p = .error (pl s p2)) := thread_err s p _ h4 h5 (by rw [HG3.out, if_neg h18])
            go_wp2_with fail
            go_ret2
            refine ⟨gb_alloc (gb_trans hG hg2) _, ?_⟩
            rw [HS.out]
            exact ⟨rfl, p2, hp2.alloc _, rfl⟩
      · have hz' : ((acc.length : Int) == 0) = false := by rw [beq_eq_false_iff_ne]; omega
        go_wp2_with fail
        refine (threadEnds_any _ b s q hP).mono ?_
        rintro e wq ⟨rfl, rfl⟩
        cases hE : endsB s q
        · have HE : Hid (endsB s q = false) := hE
          clear hE
          by_cases h8 : acc.length = 8
          · skip
            have HS : Hid (threadS s p = .error (pl s q)) := thread_err s p _ h4 h5 (by rw [← hspec.out]; exact steps_full s acc q h8 HE.out)
            have h8' : ((acc.length : Int) == 8) = true := by rw [h8]; rfl
            go_wp2_with fail
            go_ret2
            refine ⟨hG, ?_⟩
            rw [HS.out]
            exact ⟨rfl, _, hP, rfl⟩
          have h8' : ((acc.length : Int) == 8) = false := by rw [beq_eq_false_iff_ne]; omega
          have HG := steps_go s acc q (by omega) (Or.inr HE.out)
          have HG2 : Hid (_ = _) := HG
          clear HG
          go_wp2_with fail
          have hst := step_any _ b s q hP
          refine hst.mono ?_
          clear hst
          rintro e w2 ⟨hg2, hr2⟩
          have hsz2 := hg2.size
          cases hs : stepS s q with
          | error eq =>
            rw [hs] at hr2
            obtain ⟨⟨n0, n1, n2, n3, n4, rfl⟩, p2, hp2, hq2⟩ := hr2
            have HS : Hid (threadS s p = .error eq) := thread_err s p _ h4 h5 (by rw [← hspec.out, HG2.out, hs])
            clear hs
            go_wp2_with fail
            go_ret2
            refine ⟨gb_alloc (gb_trans hG hg2) _, ?_⟩
            rw [HS.out]
            exact ⟨rfl, p2, hp2.alloc _, hq2⟩
          | ok r =>
            obtain ⟨x, p2⟩ := r
            rw [hs] at hr2
            obtain ⟨rfl, hp2⟩ := hr2
            have hkp := stepS_kept hs
            have hx9 := hkp.2
            have HK : Hid (Kept q p2) := hkp.1
            clear hkp
            have HG3 : Hid (stepsS s 9 [] (nxt s p 5) = if kd s p2 = 18 then stepsS s (9 - (acc ++ [(x, (nxt s p2 18).dig)]).length) (acc ++ [(x, (nxt s p2 18).dig)]) (nxt s p2 18) else .error (pl s p2)) := by show _ = _; rw [← hspec.out, HG2.out, hs]
            clear hs HG2
            unfold stV
            go_wp2_with fail
            by_cases h18 : kd s p2 = 18
            · refine (pass_yes _ b s p2 18 (hp2.alloc _) (by show ((kd s p2 : Nat) : Int) = 18; omega)).mono ?_
              rintro e w3 ⟨rfl, hg3, hp3⟩
              have hsz3 := hg3.size
              rw [show (w2.alloc _).heap.size = w2.heap.size + 1 from by simp] at hsz3
              have hb3 := heap_gb hg3 (heap_alloc_new w2 _) (by simp; have := heap_lt hP.blk; omega)
              obtain ⟨a0, a1, a2, a3, a4c, af⟩ := loc5 hb3
              have own43 := own_par ((own_par own4 hg2 hlt).alloc _) hg3 hlt
              have own53 := own_par ((own_par own5 hg2 hlt).alloc _) hg3 hlt
              have hdg := hp3.dsz
              have tok1 : True := trivial
              have tok2 : True := trivial
              go_wp2_with (first | (at_builtin; have _t := tok1; go_must (refine wpList_append_lies _ (by rfl) _ _ 100 (by rfl) w.heap.size 107 i0 _ 5 40 Tryz.underlying100 hi hz0 hz1 hz2 rfl (by decide) (.slice a4 acc.length cap4) acc.length (stFlat acc) (by rfl) (own43.alloc _) ⟨w3.heap.size, 0, none⟩ 1 1 (stCells x) (by rfl) (by rfl) (World.news_of_block (heap_alloc_new w3 _)) (fun u hu => by simp [stCells] at hu; rcases hu with rfl | rfl | rfl | rfl | rfl <;> rfl) (by decide) (by unfold maxLen; omega) (by omega) (by simp; omega) (w3.heap.size + 1) (by simp) ?_; intro g cap w4 hown hgrow hat hlt4; clear tok1; have hp4 := (hp3.alloc _).kept hgrow (par_own own43 hlt); obtain ⟨_, _, _, _, _, e5, _, _, _, _, _⟩ := hp4.get; have own54 := own_other (own53.alloc _) hgrow hap; have ap4 := apart_step (m := acc.length + 1) (cap := cap) own53 hap hat (by omega); have hsz4 := hgrow.size; simp only [World.size_alloc] at hsz4)) | (at_builtin; have _t := tok2; go_must (refine wpList_append_lies _ (by rfl) _ _ 24 (by rfl) w.heap.size 3 j0 _ 1 8 Tryz.underlying24 hj hy0 hy1 hy2 rfl (by decide) (.slice a5 acc.length cap5) acc.length (digs acc) (by rfl) (own54.alloc _) ⟨w4.heap.size, 0, none⟩ 1 1 [.int .i64 ((nxt s p2 18).dig : Nat)] (by rfl) (by rfl) (World.news_of_block (heap_alloc_new w4 _)) (fun u hu => by simp at hu; subst hu; rfl) (by decide) (by unfold maxLen; omega) (by omega) (by simp; omega) (w4.heap.size + 1) (by simp) ?_; intro g5 cp5 w5 hown5 hgrow5 hat5 hlt5; clear tok2)))
              have own45 := own_other (hown.alloc _) hgrow5 (apart_symm ap4)
              have ap5 := apart_symm (apart_step (m := acc.length + 1) (cap := cp5) hown (apart_symm ap4) hat5 (by omega))
              have hp5 := (hp4.alloc _).kept hgrow5 (par_own own54 hlt)
              have hG3 := gb_trans (gb_alloc (gb_trans hG hg2) _) hg3
              have hG4 := gb_new (gb_alloc hG3 _) hgrow (fun g hg => Or.inr (own43.lt g hg).1)
              have hG5 := gb_new (gb_alloc hG4 _) hgrow5 (fun g hg => Or.inr (own54.lt g hg).1)
              refine ⟨⟨acc ++ [(x, (nxt s p2 18).dig)], nxt s p2 18, by simp; omega, ?_, ?_, ap5, hp5, hG5, hG5.size, ?_, ?_, ?_⟩, by simp [slen]; omega⟩
              · rw [List.length_append, ← stFlat_snoc]; exact own45
              · rw [List.length_append, ← digs_snoc]; exact hown5
              · show _ = _; rw [HG3.out, if_pos h18]
              · exact (nxt_thr s p2 18).1.trans (HK.out.1.trans hthr.out)
              · exact ⟨fun y hy => by simp at hy; rcases hy with hy | rfl; exact hall.out.1 y hy; exact hdg, fun y hy => by simp at hy; rcases hy with hy | rfl; exact hall.out.2 y hy; exact hx9⟩
            · refine (pass_no _ b s p2 18 (hp2.alloc _) (by show ¬ ((kd s p2 : Nat) : Int) = 18; omega)).mono ?_
              rintro e w3 ⟨rfl, rfl⟩
              have HS : Hid (threadS s p = .error (pl s p2)) := thread_err s p _ h4 h5 (by rw [HG3.out, if_neg h18])
              go_wp2_with fail
              go_ret2
              refine ⟨gb_alloc (gb_trans hG hg2) _, ?_⟩
              rw [HS.out]
              exact ⟨rfl, p2, hp2.alloc _, rfl⟩
        · have HE : Hid (threadS s p = .ok (acc.map (·.1), skipsS acc { q with thr := q.thr + 1 })) := thread_ok s p acc q h4 h5 (by rw [← hspec.out]; exact steps_end s acc q hacc hz hE)
          clear hE
          obtain ⟨g1, k1, he1, hB1, hl1⟩ := own4.form (by omega)
          obtain ⟨g2, k2, he2, hB2, hl2⟩ := own5.form (by omega)
          cases he1
          cases he2
          clear c0 c1 c2 c3 c4 c5 c6 c7 c8 hf
          obtain ⟨c0, c1, c2, c3, c4, c5, c6, c7, c8, hf, _⟩ := hP.get
          have hth := hP.tsz
          have ht4 : q.thr + 1 ≤ 4 := by have := hthr.out; have := h.tsz; omega
          have hP2 := hP.setThr (q.thr + 1) ht4
          have hgp : wq.grownBy (wq.setCell ⟨b, 6, none⟩ (.int .i64 ((q.thr + 1 : Nat) : Int))) (some b) := gb_put (gb_refl _ _) _ _
          have hrows := rowsAt_gb (rows_of_own own4 own5) hgp (by omega) (by omega)
          have own42 := own_par own4 hgp hlt
          go_wp2_with fail
          have hck := checkSkips_any _ b s _ hP2 acc g1 cap4 g2 cap5 hacc hall.out.1 hall.out.2 hrows (by omega) (by omega) acc.length rfl
          refine hck.mono ?_
          clear hck
          rintro e w2 ⟨rfl, hg2, hp2⟩
          go_wp2_with fail
          go_ret2
          refine ⟨gb_trans (gb_trans hG hgp) hg2, ?_⟩
          rw [HE.out]
          refine ⟨_, rfl, hp2, ?_⟩
          rw [List.length_map, flat_map]
          exact own_par own42 hg2 hlt
  · go_enter Tryz.func91, Tryz.ntmps91
    go_wp2_with fail
    refine (pass_no _ b s p 5 h (by show ¬ ((kd s p : Nat) : Int) = 5; omega)).mono ?_
    rintro e w1 ⟨rfl, rfl⟩
    have HS : Hid (threadS s p = .error (pl s p)) := by show _ = _; unfold threadS; rw [if_neg h4, if_neg h5]
    go_wp2_with fail
    go_ret2
    refine ⟨gb_refl _ _, ?_⟩
    rw [HS.out]
    exact ⟨rfl, _, h, rfl⟩
end Go.Proofs.YtmpaeladhoomoaaGreatDoor
