/-
  The document's machine: flushed, walked.
-/
import Derived.Test.YtmpaeladhoomoaaGreatDoorWkV
import Derived.Deep.RegionLaw
import Derived.Deep.RegionHeld3
namespace Go.Proofs.YtmpaeladhoomoaaGreatDoor
open Go.RowKit

theorem ThsAt.grow {w w' : World} {ok : Nat → Prop} {v : Value} {ts : List WTh} (h : ThsAt w ok v ts) (hk : ∀ g, g < w.heap.size → w'.heap[g]? = w.heap[g]?) : ThsAt w' (fun g => g < w.heap.size) v ts := by
  obtain ⟨ta, c, e, h⟩ := h
  refine ⟨ta, c, e, fun i t ht => ?_⟩
  obtain ⟨h0, g, wv, a1, a2, a3, a4, a5, wa, wc, a6, a7, a8⟩ := h i t ht
  have hg := World.block_lt_of_cell? w ⟨g, i * 6, none⟩ a3
  refine ⟨h0, g, wv, a1, hg, (cell_same (hk g hg) _).trans a3, fun k n hn => (cell_same (hk g hg) _).trans (a4 k n hn), (cell_same (hk g hg) _).trans a5, wa, wc, a6, a7, fun j x hx => ?_⟩
  obtain ⟨g2, b1, b2, b3, b4⟩ := a8 j x hx
  have hg2 := World.block_lt_of_cell? w ⟨g2, j * 2, none⟩ b3
  exact ⟨g2, b1, hg2, (cell_same (hk g2 hg2) _).trans b3, (cell_same (hk g2 hg2) _).trans b4⟩
theorem OwnS.val {w : World} {B n i : Nat} {v : Value} {ts : List WTh} {vs : List Value} {t : WTh} (h : OwnS w B v n ts vs) (ht : ts[i]? = some t) : ∃ u, vs[i]? = some u := by
  have hi := (List.getElem?_eq_some_iff.1 ht).1
  have hl := h.len
  exact ⟨vs[i]'(by omega), List.getElem?_eq_getElem (by omega)⟩
theorem OwnS.cellW {w : World} {B n i g cap : Nat} {ts : List WTh} {vs : List Value} {t : WTh} {u : Value} (h : OwnS w B (.slice (some ⟨g, 0, none⟩) n cap) n ts vs) (ht : ts[i]? = some t) (hu : vs[i]? = some u) (o : Nat) (x : Value) (ho : o < 6) (hx : (thC t u)[o]? = some x) : w.cell? ⟨g, i * 6 + o, none⟩ = some x := by
  have := h.row.cells rfl (i * 6 + o) x ((thF_get ts vs i o t u ht hu ho).trans hx)
  rwa [addr_add] at this
theorem OwnS.block {w : World} {B n g cap : Nat} {ts : List WTh} {vs : List Value} (h : OwnS w B (.slice (some ⟨g, 0, none⟩) n cap) n ts vs) : ∃ cur, w.heap[g]? = some (.cells cur 219 (0, 0)) := by
  rcases h.row.2 with ⟨e, _⟩ | ⟨g', cap', cur, e, _, hg, _⟩
  · cases e
  · simp at e; obtain ⟨rfl, _⟩ := e; exact ⟨cur, hg⟩

theorem OwnS.keep {w w' : World} {B n : Nat} {v : Value} {ts : List WTh} {vs : List Value} (h : OwnS w B v n ts vs) (hk : ∀ x, B ≤ x → x < w.heap.size → w'.heap[x]? = w.heap[x]?) : OwnS w' B v n ts vs :=
  ⟨h.hn, h.len, own_at h.row (fun x hx => hk x (h.row.lt x hx).1 (h.row.lt x hx).2), h.four, fun i t u h1 h2 => ⟨own_at (h.wt i t u h1 h2).1 (fun x hx => hk x ((h.wt i t u h1 h2).1.lt x hx).1 ((h.wt i t u h1 h2).1.lt x hx).2), (h.wt i t u h1 h2).2⟩, h.ap⟩
theorem addr_add2 (g a j : Nat) : (⟨g, a, none⟩ : Addr).add j = ⟨g, a + j, none⟩ := by unfold Addr.add; split <;> simp_all
theorem gb_from_drew' {a b : World} (h : a.grownBy b none) : a.grownBy b.drew none := gb_drew h
theorem wtF_app (a b : List (Nat × Nat)) : wtF (a ++ b) = wtF a ++ wtF b := by simp [wtF]
theorem wtF_take {l : List (Nat × Nat)} {k j : Nat} {u : Value} (h : (wtF (l.take k))[j]? = some u) : (wtF l)[j]? = some u := by
  have e : wtF l = wtF (l.take k) ++ wtF (l.drop k) := by rw [← wtF_app, List.take_append_drop]
  rw [e, List.getElem?_append_left (List.getElem?_eq_some_iff.1 h).1]
  exact h
theorem wtF_drop {l : List (Nat × Nat)} {k j : Nat} {u : Value} (hk : k ≤ l.length) (h : (wtF (l.drop k))[j]? = some u) : (wtF l)[k * 2 + j]? = some u := by
  have e : wtF l = wtF (l.take k) ++ wtF (l.drop k) := by rw [← wtF_app, List.take_append_drop]
  have hl : (wtF (l.take k)).length = k * 2 := by rw [wtF_len, List.length_take]; omega
  rw [e, List.getElem?_append_right (by omega), hl, show k * 2 + j - k * 2 = j from by omega]
  exact h

set_option maxRecDepth 100000 in
set_option maxHeartbeats 4000000 in
theorem flushed_any (w : World) (ok : Nat → Prop) (v : Value) (s : WSt) (h : ThsAt w ok v s.ths) (hn : s.ths.length ≤ 1000) (hl : ∀ t ∈ s.ths, t.wait.length ≤ 1000) (i k : Nat) (t : WTh) (x : Nat × Nat) (ht : s.ths[i]? = some t) (hx : t.wait[k]? = some x) (hp : x.1 < 4) :
    Calls Tryz.prog 111 #[.agg #[v, .int .i64 (s.m0 : Nat), .int .i64 (s.m1 : Nat), .int .i64 (s.m2 : Nat), .int .i64 (s.m3 : Nat)], .int .i64 (i : Nat), .int .i64 (k : Nat)] w fun e w' => ∃ v', e = .returned (.agg (memC v' (flushP s i k t x))) ∧ ThsAt w' (newB w w') v' (flushP s i k t x).ths ∧ w.grownBy w' none := by
  obtain ⟨xp, xn⟩ := x
  have HTA : Hid (ThsAt w ok v s.ths) := h
  obtain ⟨ta, c, rfl, hh⟩ := h
  obtain ⟨_, g, wv, rfl, _, _, _, a5, wa, wc, rfl, hwc, hw⟩ := hh i t ht
  obtain ⟨g2, rfl, _, b0, b1⟩ := hw k (xp, xn) hx
  simp only at b0 b1 hp
  have hil := (List.getElem?_eq_some_iff.1 ht).1
  have hkl := (List.getElem?_eq_some_iff.1 hx).1
  have hll : t.wait.length ≤ 1000 := hl t (List.mem_of_getElem? ht)
  have HW : Hid (∀ (j : Nat) (x : Nat × Nat), t.wait[j]? = some x → ∃ g, some (⟨g2, 0, none⟩ : Addr) = some ⟨g, 0, none⟩ ∧ ok g ∧ w.cell? ⟨g, j * 2, none⟩ = some (.int .i64 (x.1 : Nat)) ∧ w.cell? ⟨g, j * 2 + 1, none⟩ = some (.int .i64 (x.2 : Nat))) := hw
  have HT : Hid (s.ths[i]? = some t) := ht
  have HX : Hid (t.wait[k]? = some (xp, xn)) := hx
  have HL : Hid (∀ t ∈ s.ths, t.wait.length ≤ 1000) := hl
  have hgl := World.block_lt_of_cell? w ⟨g, i * 6 + 5, none⟩ a5
  have hg2l := World.block_lt_of_cell? w ⟨g2, k * 2, none⟩ b0
  clear hh ht hx hw hl
  obtain ⟨iw, hiw, hw0, hw1, hw2⟩ : ∃ i, Tryz.prog.info? 261 = some i ∧ i.zero = some (.agg #[.int .i64 0, .int .i64 0]) ∧ i.size = 2 ∧ i.bytes = 16 := by
    have := infoWrite
    cases hq : Tryz.prog.info? 261 with
    | none => rw [hq] at this; simp at this
    | some i => rw [hq] at this; simp at this; exact ⟨i, rfl, this.1, this.2.1, this.2.2⟩
  have hi1 : (i : Int) < (s.ths.length : Int) := by omega
  have hk1 : (k : Int) < (t.wait.length : Int) := by omega
  go_enter Tryz.func111, Tryz.ntmps111
  go_wp2_with fail
  refine (copied_any _ _ _ s.ths (HTA.out.grow (w' := (w.alloc (.cells #[.slice (some ⟨g, 0, none⟩) s.ths.length c, .int .i64 (s.m0 : Nat), .int .i64 (s.m1 : Nat), .int .i64 (s.m2 : Nat), .int .i64 (s.m3 : Nat)] 153)).alloc (.cells #[.slice none 0 0, .int .i64 0, .int .i64 0, .int .i64 0, .int .i64 0] 153)) (fun x hx => by rw [Below.heap_alloc _ _ _ (by simp; omega), Below.heap_alloc _ _ _ hx])) _ _ _ _ hn HL.out).mono ?_
  rintro e w1 ⟨v', vs, rfl, hO, hg1⟩
  obtain ⟨g', cap', rfl, hB', hlt'⟩ := hO.row.form (by omega)
  simp only [World.size_alloc] at hB' hO
  have hs1 := hg1.size
  simp only [World.size_alloc] at hs1
  have hS1 := heap_gb hg1 (heap_alloc_at (heap_alloc_new w _) _) (by simp)
  have hR1 := heap_gb hg1 (new_at (w := w.alloc (.cells #[.slice (some ⟨g, 0, none⟩) s.ths.length c, .int .i64 (s.m0 : Nat), .int .i64 (s.m1 : Nat), .int .i64 (s.m2 : Nat), .int .i64 (s.m3 : Nat)] 153)) (H := w.heap.size + 1) (by simp) (.cells #[.slice none 0 0, .int .i64 0, .int .i64 0, .int .i64 0, .int .i64 0] 153)) (by simp)
  have s0 := cell_of hS1 0 _ rfl
  have hG1 := gb_trans (gb_alloc (gb_alloc (gb_refl w none) _) _) hg1
  have a5' := gb_cell hG1 a5 (by simp)
  have b0' := gb_cell hG1 b0 (by simp)
  have b1' := gb_cell hG1 b1 (by simp)
  have hSl := heap_lt hS1
  have hRl := heap_lt hR1
  have hgl1 : g < w1.heap.size := by omega
  have hg2l1 : g2 < w1.heap.size := by omega
  have HO : Hid (OwnS _ _ _ _ _ _) := hO
  have HB : Hid (w.heap.size + 1 + 1 ≤ g') := hB'
  have HG1 : Hid (w.grownBy w1 none) := hG1
  have HR1 : Hid _ := hR1
  have hwcs := (WaitAt.cells (l := t.wait) (w := w) (ok := ok) (wa := some ⟨g2, 0, none⟩) (n := t.wait.length) (c := wc) ⟨_, _, rfl, hwc, HW.out⟩).2
  have HC1 : Hid (∀ j u, (wtF t.wait)[j]? = some u → w1.cell? ⟨g2, j, none⟩ = some u) := fun j u hu => by
    obtain ⟨g3, e3, _, e4⟩ := hwcs j u hu
    simp at e3
    subst e3
    exact gb_cell hG1 e4 (by simp)
  have HNW : Hid (∀ (o1 o2 : Obj) (j : Nat) (u : Value), (wtF (t.wait.take k))[j]? = some u → ((w1.alloc o1).alloc o2).cell? ⟨g2, j, none⟩ = some u) := fun o1 o2 j u hu => gb_cell (gb_alloc (gb_alloc (gb_refl w1 none) o1) o2) (HC1.out j u (wtF_take hu)) (by simp)
  clear hO hG1 hwcs
  have hp1 : (xp : Int) < 4 := by omega
  have hsel : [Value.slice (some ⟨g', 0, none⟩) s.ths.length cap', .int .i64 (s.m0 : Nat), .int .i64 (s.m1 : Nat), .int .i64 (s.m2 : Nat), .int .i64 (s.m3 : Nat)][1 + xp]? = some (.int .i64 (s.mem xp : Nat)) := by
    have := memC_get (.slice (some ⟨g', 0, none⟩) s.ths.length cap') s xp hp
    unfold memC at this
    simpa using this
  clear b0 b1
  go_wp2_with (at_builtin; go_must (refine wpList_append_row _ (by rfl) _ _ 217 (by rfl) (w.heap.size + 1 + 1) 261 iw _ 2 16 Tryz.underlying217 hiw hw0 hw1 hw2 rfl (by decide) (by rfl) (some ⟨g2, 0, none⟩) k wc (wtF (t.wait.take k)) (by rfl) (by rw [wtF_len, List.length_take]; omega) (fun j u hu => ⟨g2, rfl, HNW.out _ _ j u hu⟩) (wtF_one _) (by unfold maxLen; omega) (by omega) (by simp; omega) (w1.heap.size + 1 + 1) (by simp) ?_; intro ua uc w3 own3 hg3 hat3))
  have hs3 := hg3.size
  simp only [World.size_alloc] at hs3
  have hG13 : w1.grownBy w3 none := gb_trans (gb_alloc (gb_alloc (gb_refl w1 none) _) _) hg3
  have hO3 := heap_gb hg3 (heap_alloc_at (heap_alloc_new w1 _) _) (by simp)
  have hO3' : w3.heap[w1.heap.size]? = some (.cells (memC (.slice (some ⟨g', 0, none⟩) s.ths.length cap') (s.put xp xn)) 153 (0, 0)) := by rw [hO3, ← memC_put _ _ _ _ hp]; simp [memC]
  clear hO3
  obtain ⟨S, HS⟩ : ∃ S, Hid (S = s.put xp xn) := ⟨_, rfl⟩
  rw [← HS.out] at hO3'
  unfold memC at hO3'
  have o0 := cell_of hO3' 0 _ rfl
  have o1 := cell_of hO3' 1 _ rfl
  have o2 := cell_of hO3' 2 _ rfl
  have o3 := cell_of hO3' 3 _ rfl
  have o4 := cell_of hO3' 4 _ rfl
  have s3 := gb_cell hG13 s0 (by simp)
  have a53 := gb_cell hG13 a5' (by simp)
  have hgl3 : g < w3.heap.size := by omega
  have hg2l3 : g2 < w3.heap.size := by omega
  have hSl3 : w.heap.size < w3.heap.size := by omega
  have hOl3 : w1.heap.size < w3.heap.size := by omega
  have hglr3 : g' < w3.heap.size := by omega
  obtain ⟨ad, hif, HN3⟩ : ∃ ad : Addr, (if wc = k + 1 then some (⟨g2, 0, none⟩ : Addr) else some ⟨g2, (k + 1) * 2, none⟩) = some ad ∧ Hid (∀ (j : Nat) (u : Value), (wtF (t.wait.drop (k + 1)))[j]? = some u → w3.cell? (ad.add j) = some u) := by
    by_cases hwk : wc = k + 1
    · refine ⟨_, if_pos hwk, fun j u hu => ?_⟩
      rw [List.drop_eq_nil_of_le (by omega)] at hu
      simp [wtF] at hu
    · refine ⟨_, if_neg hwk, fun j u hu => ?_⟩
      rw [addr_add2]
      exact gb_cell hG13 (HC1.out _ u (wtF_drop (by omega) hu)) (by simp)
  clear s0 a5' b0' b1' a5 HNW HC1 hsel hS1 hR1
  obtain ⟨u, hu⟩ := HO.out.val HT.out
  have HU : Hid (vs[i]? = some u) := hu
  clear hu
  have hk2 : (k : Int) + 1 ≤ (t.wait.length : Int) := by omega
  have hsl : w1.heap.size ≤ w3.heap.size := by omega
  have hwr : IntKind.i64.wrap ((k : Int) + 1) = (k : Int) + 1 := by rw [IntKind.wrap_i64]; omega
  have htn : ((k : Int) + 1).toNat = k + 1 := by omega
  have h0k : 0 ≤ (k : Int) + 1 := by omega
  go_region_law ((refine step_append_more _ (by rfl) _ _ 217 (by rfl) (w.heap.size + 1 + 1) 261 iw _ 2 16 Tryz.underlying217 hiw hw0 hw1 hw2 rfl (by decide) (.slice ua k uc) k (wtF (t.wait.take k)) (by rfl) (by exact own3) ad (t.wait.length - (k + 1)) (wc - (k + 1)) (wtF (t.wait.drop (k + 1))) (by rfl) (by rw [wtF_len, List.length_drop]) (fun j u hu => HN3.out j u hu) (wtF_one _) (by unfold maxLen; omega) (by omega) (by simp; omega) w3.heap.size (by simp) ?_; intro va vc w4 own4 hg4 hat4; have hO4 : OwnS w4 (w.heap.size + 1 + 1) (.slice (some ⟨g', 0, none⟩) s.ths.length cap') s.ths.length s.ths vs := HO.out.keep (fun x _ hx => (hg4.block x (Nat.lt_of_lt_of_le hx hsl) (fun e => by have := hat3 x e.symm; omega)).trans (hG13.block x hx (by simp))); obtain ⟨cur, hcur⟩ := hO4.block; have c5 := hO4.cellW HT.out HU.out 5 _ (by omega) rfl; have cf := frozen_of hcur; have hQ4 := heap_gb hg4 hO3' (fun e => by have := hat3 _ e.symm; omega); have q0 := cell_of hQ4 0 _ rfl; have hQl4 := heap_lt hQ4; have hcl4 := heap_lt hcur))
  all_goals
    have hs4 := hg4.size
    have hs34 : w3.heap.size ≤ w4.heap.size := hs4
    have hb2 : ∀ x, (Value.slice va (k + (t.wait.length - (k + 1))) vc).ownBlock = some x → w1.heap.size + 1 + 1 ≤ x := fun x hx => by
      rcases hat4 x hx with e | e
      · have := hat3 x e; omega
      · omega
    have hO5 := hO4.upd (o := 5) (t' := ⟨t.next, t.regs, t.wait.eraseIdx k⟩) (u' := .slice va (k + (t.wait.length - (k + 1))) vc) (val := .slice va (k + (t.wait.length - (k + 1))) vc) HT.out HU.out (by omega) rfl (hO4.four t (List.mem_of_getElem? HT.out)) (by
        have e1 : t.wait.eraseIdx k = t.wait.take k ++ t.wait.drop (k + 1) := List.eraseIdx_eq_take_drop_succ _ _
        have e2 : (t.wait.eraseIdx k).length = k + (t.wait.length - (k + 1)) := by rw [e1, List.length_append, List.length_take, List.length_drop]; omega
        show w4.ownsRow _ _ 2 _ (t.wait.eraseIdx k).length (wtF (t.wait.eraseIdx k))
        rw [e2, e1, wtF_app]
        exact own4) (fun e => by have := hb2 _ e; omega) (fun j b hj hb x h1 h2 => by
        have hjl := (List.getElem?_eq_some_iff.1 hb).1
        have hll2 := HO.out.len
        have hw := (HO.out.wt j (s.ths[j]'(by omega)) b (List.getElem?_eq_getElem (by omega)) hb).1.lt x h2
        have := hb2 x h1
        omega)
    have hQ5 : (w4.setCell ⟨g', i * 6 + 5, none⟩ (.slice va (k + (t.wait.length - (k + 1))) vc)).heap[w1.heap.size]? = _ := heap_set_ne hQ4 _ _ (by simp; omega)
    have hR5 : (w4.setCell ⟨g', i * 6 + 5, none⟩ (.slice va (k + (t.wait.length - (k + 1))) vc)).heap[w.heap.size + 1]? = _ := heap_set_ne ((hg4.block _ (Nat.lt_of_lt_of_le hRl hsl) (fun e => by have := hat3 _ e.symm; omega)).trans ((hG13.block _ hRl (by simp)).trans HR1.out)) _ _ (by have := HB.out; simp; omega)
    have hG5 : w.grownBy (w4.setCell ⟨g', i * 6 + 5, none⟩ (.slice va (k + (t.wait.length - (k + 1))) vc)) none := gb_put_new (gb_new (gb_from_drew' (gb_trans HG1.out hG13)) hg4 (fun x e => Or.inr (by have := hat3 x e; omega))) (by have := HB.out; omega) _ _
    obtain ⟨w5, hw5⟩ : ∃ w5, w5 = w4.setCell ⟨g', i * 6 + 5, none⟩ (.slice va (k + (t.wait.length - (k + 1))) vc) := ⟨_, rfl⟩
    rw [← hw5] at hQ5 hR5 hO5 hG5 ⊢
    have HW5 : Hid (_ = _) := hw5
    clear hw5 c5 cf q0 hcur hO4 hQ4 o0 o1 o2 o3 o4 s3 a53
    have q0 := cell_of hQ5 0 _ rfl
    have q1 := cell_of hQ5 1 _ rfl
    have q2 := cell_of hQ5 2 _ rfl
    have q3 := cell_of hQ5 3 _ rfl
    have q4 := cell_of hQ5 4 _ rfl
    have r0 := cell_of hR5 0 _ rfl
    have r1 := cell_of hR5 1 _ rfl
    have r2 := cell_of hR5 2 _ rfl
    have r3 := cell_of hR5 3 _ rfl
    have r4 := cell_of hR5 4 _ rfl
    have rf := frozen_of hR5
    have hQl5 := heap_lt hQ5
    have hRl5 := heap_lt hR5
    go_wp2_with fail
    have hD := heap_set' (heap_set' (heap_set' (heap_set' (heap_set' hR5 0 (.slice (some ⟨g', 0, none⟩) s.ths.length cap') #[.slice (some ⟨g', 0, none⟩) s.ths.length cap', .int .i64 0, .int .i64 0, .int .i64 0, .int .i64 0] rfl) 1 (.int .i64 (S.m0 : Nat)) #[.slice (some ⟨g', 0, none⟩) s.ths.length cap', .int .i64 (S.m0 : Nat), .int .i64 0, .int .i64 0, .int .i64 0] rfl) 2 (.int .i64 (S.m1 : Nat)) #[.slice (some ⟨g', 0, none⟩) s.ths.length cap', .int .i64 (S.m0 : Nat), .int .i64 (S.m1 : Nat), .int .i64 0, .int .i64 0] rfl) 3 (.int .i64 (S.m2 : Nat)) #[.slice (some ⟨g', 0, none⟩) s.ths.length cap', .int .i64 (S.m0 : Nat), .int .i64 (S.m1 : Nat), .int .i64 (S.m2 : Nat), .int .i64 0] rfl) 4 (.int .i64 (S.m3 : Nat)) #[.slice (some ⟨g', 0, none⟩) s.ths.length cap', .int .i64 (S.m0 : Nat), .int .i64 (S.m1 : Nat), .int .i64 (S.m2 : Nat), .int .i64 (S.m3 : Nat)] rfl
    have d0 := cell_of hD 0 _ rfl
    have d1 := cell_of hD 1 _ rfl
    have d2 := cell_of hD 2 _ rfl
    have d3 := cell_of hD 3 _ rfl
    have d4 := cell_of hD 4 _ rfl
    have hs5 := hG5.size
    refine bodyPost_ret (v := .agg #[.slice (some ⟨g', 0, none⟩) s.ths.length cap', .int .i64 (S.m0 : Nat), .int .i64 (S.m1 : Nat), .int .i64 (S.m2 : Nat), .int .i64 (S.m3 : Nat)]) (by simp [results, Tryz.results111, go_sem, d0, d1, d2, d3, d4]) rfl ⟨.slice (some ⟨g', 0, none⟩) s.ths.length cap', ?_, ?_, gb_put_new (gb_put_new (gb_put_new (gb_put_new (gb_put_new hG5 (by omega) 0 _) (by omega) 1 _) (by omega) 2 _) (by omega) 3 _) (by omega) 4 _⟩
    · have hS := HS.out
      subst hS
      rfl
    · refine (hO5.same (fun x hx => ?_)).at_ (fun x h1 h2 => ⟨by omega, h2⟩)
      rw [Below.heap_setCell _ _ _ _ (by simp; omega), Below.heap_setCell _ _ _ _ (by simp; omega), Below.heap_setCell _ _ _ _ (by simp; omega), Below.heap_setCell _ _ _ _ (by simp; omega), Below.heap_setCell _ _ _ _ (by simp; omega)]
end Go.Proofs.YtmpaeladhoomoaaGreatDoor
