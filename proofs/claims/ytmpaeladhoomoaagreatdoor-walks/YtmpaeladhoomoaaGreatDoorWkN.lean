/-
  The document's machine: done, walked.
-/
import Derived.Test.YtmpaeladhoomoaaGreatDoorPmX
import Derived.Deep.Cut
namespace Go.Proofs.YtmpaeladhoomoaaGreatDoor
open Go.RowKit

def setR (W : World) (r : Nat) (v : Value) (S : WSt) : World := ((((W.setCell ⟨r, 0, none⟩ v).setCell ⟨r, 1, none⟩ (.int .i64 (S.m0 : Nat))).setCell ⟨r, 2, none⟩ (.int .i64 (S.m1 : Nat))).setCell ⟨r, 3, none⟩ (.int .i64 (S.m2 : Nat))).setCell ⟨r, 4, none⟩ (.int .i64 (S.m3 : Nat))
theorem setR_at {W : World} {r : Nat} {u0 u1 u2 u3 u4 : Value} (h : W.heap[r]? = some (.cells #[u0, u1, u2, u3, u4] 153 (0, 0))) (v : Value) (S : WSt) : (setR W r v S).heap[r]? = some (.cells (memC v S) 153 (0, 0)) :=
  heap_set' (heap_set' (heap_set' (heap_set' (heap_set' h 0 v #[v, u1, u2, u3, u4] rfl) 1 (.int .i64 (S.m0 : Nat)) #[v, .int .i64 (S.m0 : Nat), u2, u3, u4] rfl) 2 (.int .i64 (S.m1 : Nat)) #[v, .int .i64 (S.m0 : Nat), .int .i64 (S.m1 : Nat), u3, u4] rfl) 3 (.int .i64 (S.m2 : Nat)) #[v, .int .i64 (S.m0 : Nat), .int .i64 (S.m1 : Nat), .int .i64 (S.m2 : Nat), u4] rfl) 4 (.int .i64 (S.m3 : Nat)) (memC v S) rfl
theorem wtC_one (x : Nat × Nat) : ∀ u ∈ wtC x, u.oneCell' = true := by
  intro u hu
  simp [wtC] at hu
  rcases hu with rfl | rfl <;> rfl
theorem app_heap {W W1 w4 : World} {b : Option Nat} (hg4 : W1.grownBy w4 b) (hk : ∀ k, k < W.heap.size → W1.heap[k]? = W.heap[k]?) (g : Nat) (hgl : g < W.heap.size) (hn : some g ≠ b) : w4.heap[g]? = W.heap[g]? := by
  have h1 : g < W1.heap.size := by
    have h2 := hk g hgl
    rw [Array.getElem?_eq_getElem hgl] at h2
    exact (Array.getElem?_eq_some_iff.1 h2).1
  exact (hg4.block g h1 hn).trans (hk g hgl)
theorem gb_setR {w W : World} {r : Nat} (h : w.grownBy W none) (hr : w.heap.size ≤ r) (v : Value) (S : WSt) : w.grownBy (setR W r v S) none := gb_put_new (gb_put_new (gb_put_new (gb_put_new (gb_put_new h hr 0 _) hr 1 _) hr 2 _) hr 3 _) hr 4 _
theorem setR_ne {W : World} {r x : Nat} (hx : x ≠ r) (v : Value) (S : WSt) : (setR W r v S).heap[x]? = W.heap[x]? := by
  unfold setR
  rw [Below.heap_setCell _ _ _ _ (fun e => hx e), Below.heap_setCell _ _ _ _ (fun e => hx e), Below.heap_setCell _ _ _ _ (fun e => hx e), Below.heap_setCell _ _ _ _ (fun e => hx e), Below.heap_setCell _ _ _ _ (fun e => hx e)]
theorem DS.end_ {w W : World} {B xb ob g cap n model i : Nat} {v0 : Value} {s : WSt} {x : RSt} {S : WSt} {vs : List Value} {l : List RSt} {t : WTh} (h : DS w W B xb ob g cap n v0 s x S vs) (hc : canP l t = some x) (hS : stepP model s i t x = S) : PostD w model s i l t (.returned (.tuple #[.agg #[.slice (some ⟨g, 0, none⟩) n cap, .int .i64 (S.m0 : Nat), .int .i64 (S.m1 : Nat), .int .i64 (S.m2 : Nat), .int .i64 (S.m3 : Nat)], .bool true])) (setR W (w.heap.size + 1) (.slice (some ⟨g, 0, none⟩) n cap) S) := by
  have hl := h.le
  refine ⟨gb_setR h.hG (by omega) _ _, ?_⟩
  rw [hc]
  subst hS
  refine ⟨_, rfl, (h.own.same (fun x hx => setR_ne (by omega) _ _)).at_ (fun x h1 h2 => ⟨by omega, h2⟩)⟩

set_option maxRecDepth 100000 in
set_option maxHeartbeats 16000000 in
theorem done_any (w : World) (T : Nat) (tt : List (List RSt)) (h : RThs w T tt) (model : Nat) (ok : Nat → Prop) (v : Value) (s : WSt) (hs : ThsAt w ok v s.ths) (hn : s.ths.length ≤ 1000) (hl : ∀ t ∈ s.ths, t.wait.length ≤ 900 ∧ t.next ≤ 1000)
    (i : Nat) (l : List RSt) (t : WTh) (hi : tt[i]? = some l) (ht : s.ths[i]? = some t) (hx : ∀ x ∈ l, x.kind ≤ 255 ∧ x.reg < 4 ∧ x.place < 4 ∧ x.skip ≤ 1000) :
    Calls Tryz.prog 110 #[.pointer (some ⟨T, 0, none⟩), .int .i64 (model : Nat), .agg #[v, .int .i64 (s.m0 : Nat), .int .i64 (s.m1 : Nat), .int .i64 (s.m2 : Nat), .int .i64 (s.m3 : Nat)], .int .i64 (i : Nat)] w fun e w' => PostD w model s i l t e w' := by
  have HTA : Hid (ThsAt w ok v s.ths) := hs
  obtain ⟨ta, cap, xs, c0, hxs, hth⟩ := h
  obtain ⟨g, lc, hxi, _, h9, hcs⟩ := hth.2 i l hi
  obtain ⟨tg, rfl, hc⟩ := hxs i _ hxi
  obtain ⟨sa, sc, rfl, hh⟩ := hs
  obtain ⟨h4, sg, wv, rfl, _, a0, ar, a5, wa, wc, rfl, hwc, hw⟩ := hh i t ht
  have hin := (List.getElem?_eq_some_iff.1 hi).1
  have hit := (List.getElem?_eq_some_iff.1 ht).1
  have hi1 : (i : Int) < (tt.length : Int) := by omega
  have hi2 : (i : Int) < (s.ths.length : Int) := by omega
  have hl1 := hl t (List.mem_of_getElem? ht)
  have HC : Hid (∀ (o : Nat) (v : Value), (rsF l)[o]? = some v → w.cell? ⟨g, o, none⟩ = some v) := hcs
  have HT : Hid (s.ths[i]? = some t) := ht
  have HL : Hid (∀ t ∈ s.ths, t.wait.length ≤ 900 ∧ t.next ≤ 1000) := hl
  have HX : Hid (∀ x ∈ l, x.kind ≤ 255 ∧ x.reg < 4 ∧ x.place < 4 ∧ x.skip ≤ 1000) := hx
  have hTl : T < w.heap.size := World.block_lt_of_cell? w ⟨T, 0, none⟩ c0
  have htl : tg < w.heap.size := World.block_lt_of_cell? w ⟨tg, i, none⟩ hc
  have hsl : sg < w.heap.size := World.block_lt_of_cell? w ⟨sg, i * 6, none⟩ a0
  have H4 : Hid (t.regs.length = 4) := h4
  clear hxs hth hxi hcs hi hh ht hl hx hw ar h4
  obtain ⟨iw, hiw, hw0, hw1, hw2⟩ : ∃ i, Tryz.prog.info? 261 = some i ∧ i.zero = some (.agg #[.int .i64 0, .int .i64 0]) ∧ i.size = 2 ∧ i.bytes = 16 := by
    have := infoWrite
    cases hq : Tryz.prog.info? 261 with
    | none => rw [hq] at this; simp at this
    | some i => rw [hq] at this; simp at this; exact ⟨i, rfl, this.1, this.2.1, this.2.2⟩
  have HG0 : Hid (w.grownBy ((w.alloc (.cells #[.slice (some ⟨sg, 0, none⟩) s.ths.length sc, .int .i64 (s.m0 : Nat), .int .i64 (s.m1 : Nat), .int .i64 (s.m2 : Nat), .int .i64 (s.m3 : Nat)] 153)).alloc (.cells #[.slice none 0 0, .int .i64 0, .int .i64 0, .int .i64 0, .int .i64 0] 153)) none) := gb_alloc (gb_alloc (gb_refl _ _) _) _
  by_cases hnx : t.next < l.length
  · have hnx' : decide ((l.length : Int) ≤ (t.next : Int)) = false := by simp; omega
    have hnx1 : (t.next : Int) < (l.length : Int) := by omega
    obtain ⟨x, hx⟩ : ∃ x, l[t.next]? = some x := ⟨l[t.next], List.getElem?_eq_getElem hnx⟩
    have xs0 : ∀ o v, o < 6 → (rsC x)[o]? = some v → w.cell? ⟨g, t.next * 6 + o, none⟩ = some v := fun o v ho hv => HC.out _ _ ((rsF_get l t.next o x hx ho).trans hv)
    have x0 := xs0 0 _ (by omega) rfl
    have x1 := xs0 1 _ (by omega) rfl
    have x2 := xs0 2 _ (by omega) rfl
    have x3 := xs0 3 _ (by omega) rfl
    have x4 := xs0 4 _ (by omega) rfl
    have x5 := xs0 5 _ (by omega) rfl
    simp only [Nat.add_zero] at x0
    have hgl : g < w.heap.size := World.block_lt_of_cell? w ⟨g, t.next * 6, none⟩ x0
    have hxb := HX.out x (List.mem_of_getElem? hx)
    have HXX : Hid (l[t.next]? = some x) := hx
    clear xs0 hx
    go_enter Tryz.func110, Tryz.ntmps110
    go_wp2_with fail
    go_quiet (fail)
    obtain ⟨W1, hW1⟩ : ∃ W1, W1 = ((w.alloc (.cells #[.slice (some ⟨sg, 0, none⟩) s.ths.length sc, .int .i64 (s.m0 : Nat), .int .i64 (s.m1 : Nat), .int .i64 (s.m2 : Nat), .int .i64 (s.m3 : Nat)] 153)).alloc (.cells #[.slice none 0 0, .int .i64 0, .int .i64 0, .int .i64 0, .int .i64 0] 153)).drewN nq := ⟨_, rfl⟩
    have hG1 : w.grownBy W1 none := by rw [hW1]; exact gb_drewN HG0.out _
    have hS1 : W1.heap[w.heap.size]? = some (.cells #[.slice (some ⟨sg, 0, none⟩) s.ths.length sc, .int .i64 (s.m0 : Nat), .int .i64 (s.m1 : Nat), .int .i64 (s.m2 : Nat), .int .i64 (s.m3 : Nat)] 153 (0, 0)) := by rw [hW1]; exact heap_alloc_at (heap_alloc_new w _) _
    have hR1 : W1.heap[w.heap.size + 1]? = some (.cells #[.slice none 0 0, .int .i64 0, .int .i64 0, .int .i64 0, .int .i64 0] 153 (0, 0)) := by rw [hW1]; exact new_at (by simp) _
    rw [← hW1]
    clear hW1
    have b0 := gb_cell hG1 x0 (by simp)
    have b1 := gb_cell hG1 x1 (by simp)
    have b2 := gb_cell hG1 x2 (by simp)
    have b3 := gb_cell hG1 x3 (by simp)
    have b4 := gb_cell hG1 x4 (by simp)
    have b5 := gb_cell hG1 x5 (by simp)
    have bc0 := gb_cell hG1 c0 (by simp)
    have bc := gb_cell hG1 hc (by simp)
    have ba0 := gb_cell hG1 a0 (by simp)
    have bs0 := cell_of hS1 0 _ rfl
    have hsz := hG1.size
    have k1 : T < W1.heap.size := by omega
    have k2 : tg < W1.heap.size := by omega
    have k3 : sg < W1.heap.size := by omega
    have k4 : g < W1.heap.size := by omega
    have k5 := heap_lt hS1
    have k6 := heap_lt hR1
    have HA5 : Hid (w.cell? ⟨sg, i * 6 + 5, none⟩ = some (.slice wa t.wait.length wc)) := a5
    clear x0 x1 x2 x3 x4 x5 c0 hc a0 a5
    go_wp2_with fail
    go_region
    obtain ⟨W2, hW2⟩ : ∃ W2, W2 = (W1.alloc (.cells #[.int .u8 (x.kind : Nat), .int .i64 (x.reg : Nat), .int .i64 (x.place : Nat), .int .i64 (x.n : Nat), .int .i64 (x.skip : Nat), .int .i64 (x.at_ : Nat)] 209)).drew := ⟨_, rfl⟩
    have hG2 : w.grownBy W2 none := by rw [hW2]; exact gb_drew (gb_alloc hG1 _)
    have hS2 : W2.heap[w.heap.size]? = some (.cells #[.slice (some ⟨sg, 0, none⟩) s.ths.length sc, .int .i64 (s.m0 : Nat), .int .i64 (s.m1 : Nat), .int .i64 (s.m2 : Nat), .int .i64 (s.m3 : Nat)] 153 (0, 0)) := by rw [hW2]; exact heap_alloc_at hS1 _
    have hR2 : W2.heap[w.heap.size + 1]? = some (.cells #[.slice none 0 0, .int .i64 0, .int .i64 0, .int .i64 0, .int .i64 0] 153 (0, 0)) := by rw [hW2]; exact heap_alloc_at hR1 _
    have hX2 : W2.heap[W1.heap.size]? = some (.cells #[.int .u8 (x.kind : Nat), .int .i64 (x.reg : Nat), .int .i64 (x.place : Nat), .int .i64 (x.n : Nat), .int .i64 (x.skip : Nat), .int .i64 (x.at_ : Nat)] 209 (0, 0)) := by rw [hW2]; exact heap_alloc_new W1 _
    rw [← hW2]
    obtain ⟨xb, hxb2⟩ : ∃ xb, xb = W1.heap.size := ⟨_, rfl⟩
    rw [← hxb2] at hX2 ⊢
    have HXB : Hid (w.heap.size + 2 ≤ xb) := by show _ ≤ _; omega
    clear hW2 b0 b1 b2 b3 b4 b5 bc0 bc ba0 k1 k2 k3 k4 k5 k6 bs0 hS1 hR1 hG1 hsz hxb2
    have p0 := cell_of hX2 0 _ rfl
    have s0 := cell_of hS2 0 _ rfl
    have s1 := cell_of hS2 1 _ rfl
    have s2 := cell_of hS2 2 _ rfl
    have s3 := cell_of hS2 3 _ rfl
    have s4 := cell_of hS2 4 _ rfl
    have r0 := cell_of hR2 0 _ rfl
    have r1 := cell_of hR2 1 _ rfl
    have r2 := cell_of hR2 2 _ rfl
    have r3 := cell_of hR2 3 _ rfl
    have r4 := cell_of hR2 4 _ rfl
    have rf := frozen_of hR2
    have hXl := heap_lt hX2
    have hSl := heap_lt hS2
    have hRl := heap_lt hR2
    have hs2 := hG2.size
    have hsl2 : sg < W2.heap.size := by omega
    have a52 := gb_cell hG2 HA5.out (by simp)
    have hpl4 : (x.place : Int) < 4 := by omega
    have hrg4 : (x.reg : Int) < 4 := by omega
    have HXB2 : Hid (x.kind ≤ 255 ∧ x.reg < 4 ∧ x.place < 4 ∧ x.skip ≤ 1000) := hxb
    by_cases hblk : (x.kind = 102 ∨ x.kind = 120) ∧ 0 < t.wait.length
    · have HCAN : Hid (canP l t = none) := by
        show _ = _
        unfold canP
        rw [HXX.out]
        exact if_pos hblk
      have g8 : decide ((0 : Int) < (t.wait.length : Int)) = true := decide_eq_true (by omega)
      have g9 : decide (0 < t.wait.length) = true := decide_eq_true (by omega)
      obtain ⟨hq, _⟩ := hblk
      rcases hq with hq | hq
      all_goals
        first | (have g1 : ((x.kind : Int) == 102) = true := by rw [beq_iff_eq]; omega) | (have g1 : ((x.kind : Int) == 102) = false := by rw [beq_eq_false_iff_ne]; omega)
        first | (have g2 : ((x.kind : Int) == 120) = true := by rw [beq_iff_eq]; omega) | (have g2 : ((x.kind : Int) == 120) = false := by rw [beq_eq_false_iff_ne]; omega)
        clear hq hxb
        go_wp2_with fail
        have hD := setR_at hR2 (.slice (some ⟨sg, 0, none⟩) s.ths.length sc) s
        have d0 := cell_of hD 0 (.slice (some ⟨sg, 0, none⟩) s.ths.length sc) rfl
        have d1 := cell_of hD 1 (.int .i64 (s.m0 : Nat)) rfl
        have d2 := cell_of hD 2 (.int .i64 (s.m1 : Nat)) rfl
        have d3 := cell_of hD 3 (.int .i64 (s.m2 : Nat)) rfl
        have d4 := cell_of hD 4 (.int .i64 (s.m3 : Nat)) rfl
        unfold setR at d0 d1 d2 d3 d4
        refine bodyPost_ret (v := .tuple #[.agg #[.slice (some ⟨sg, 0, none⟩) s.ths.length sc, .int .i64 (s.m0 : Nat), .int .i64 (s.m1 : Nat), .int .i64 (s.m2 : Nat), .int .i64 (s.m3 : Nat)], .bool false]) (by simp [results, Tryz.results110, go_sem, d0, d1, d2, d3, d4]) rfl (PostD.no HCAN.out (gb_setR hG2 (by omega) (.slice (some ⟨sg, 0, none⟩) s.ths.length sc) s) rfl)
    · have hkk : (x.kind = 115) ∨ (x.kind = 83) ∨ (x.kind = 108) ∨ (x.kind = 107) ∨ (x.kind = 120 ∧ t.wait.length = 0) ∨ (x.kind = 106) ∨ (x.kind = 102 ∧ t.wait.length = 0) ∨ (x.kind ≠ 115 ∧ x.kind ≠ 83 ∧ x.kind ≠ 108 ∧ x.kind ≠ 107 ∧ x.kind ≠ 120 ∧ x.kind ≠ 106 ∧ x.kind ≠ 102) := by omega
      have HCAN : Hid (canP l t = some x) := by
        show _ = _
        unfold canP
        rw [HXX.out]
        exact if_neg hblk
      clear hblk r0 r1 r2 r3 r4 rf
      rcases hkk with hq | hq | hq | hq | hq | hq | hq | hq
      all_goals
        first | (have g1 : ((x.kind : Int) == 102) = true := by rw [beq_iff_eq]; omega) | (have g1 : ((x.kind : Int) == 102) = false := by rw [beq_eq_false_iff_ne]; omega)
        first | (have g2 : ((x.kind : Int) == 120) = true := by rw [beq_iff_eq]; omega) | (have g2 : ((x.kind : Int) == 120) = false := by rw [beq_eq_false_iff_ne]; omega)
        first | (have g3 : ((x.kind : Int) == 115) = true := by rw [beq_iff_eq]; omega) | (have g3 : ((x.kind : Int) == 115) = false := by rw [beq_eq_false_iff_ne]; omega)
        first | (have g4 : ((x.kind : Int) == 83) = true := by rw [beq_iff_eq]; omega) | (have g4 : ((x.kind : Int) == 83) = false := by rw [beq_eq_false_iff_ne]; omega)
        first | (have g5 : ((x.kind : Int) == 108) = true := by rw [beq_iff_eq]; omega) | (have g5 : ((x.kind : Int) == 108) = false := by rw [beq_eq_false_iff_ne]; omega)
        first | (have g6 : ((x.kind : Int) == 107) = true := by rw [beq_iff_eq]; omega) | (have g6 : ((x.kind : Int) == 107) = false := by rw [beq_eq_false_iff_ne]; omega)
        first | (have g7 : ((x.kind : Int) == 106) = true := by rw [beq_iff_eq]; omega) | (have g7 : ((x.kind : Int) == 106) = false := by rw [beq_eq_false_iff_ne]; omega)
        first | (have g8 : decide ((0 : Int) < (t.wait.length : Int)) = false := decide_eq_false (by omega)) | skip
        first | (have g9 : decide (0 < t.wait.length) = false := decide_eq_false (by omega)) | skip
        have HQ : Hid _ := hq
        clear hq hxb
        go_wp2_with fail
        refine (copied_any W2 _ _ s.ths (HTA.out.grow (w' := W2) (fun y hy => hG2.block y hy (by simp))) _ _ _ _ hn (fun y hy => Nat.le_trans (HL.out y hy).1 (by omega))).mono ?_
        rintro e w1 ⟨v', vs, rfl, hO, hg1⟩
        obtain ⟨g', cap', rfl, hB', hlt'⟩ := hO.row.form (by omega)
        obtain ⟨u, hu⟩ := hO.val HT.out
        have HU : Hid (vs[i]? = some u) := hu
        clear hu
        have hs1 := hg1.size
        have hX1 := heap_gb hg1 hX2 (by simp)
        have hS1 := heap_gb hg1 hS2 (by simp)
        have hR1 := heap_gb hg1 hR2 (by simp)
        have hG1 := gb_trans hG2 hg1
        have c0 := hO.cellW HT.out HU.out 0 _ (by omega) rfl
        simp only [Nat.add_zero] at c0
        obtain ⟨cur, hcur⟩ := hO.block
        have cf := frozen_of hcur
        have hCl := heap_lt hcur
        have hnx2 : t.next ≤ 1000 := hl1.2
        have HO : Hid (OwnS _ _ _ _ _ _) := hO
        clear p0 s0 s1 s2 s3 s4 hX2 hS2 hR2 hO
        go_upto_region 9 with fail
        obtain ⟨W4, hW4⟩ : ∃ W4, W4 = (w1.setCell ⟨g', i * 6, none⟩ (.int .i64 ((t.next : Int) + 1))).alloc (.cells #[.slice (some ⟨g', 0, none⟩) s.ths.length cap', .int .i64 (s.m0 : Nat), .int .i64 (s.m1 : Nat), .int .i64 (s.m2 : Nat), .int .i64 (s.m3 : Nat)] 153) := ⟨_, rfl⟩
        have hD4 : DS w W4 W2.heap.size xb w1.heap.size g' cap' s.ths.length (.slice (some ⟨sg, 0, none⟩) s.ths.length sc) s x (s.setT i ⟨t.next + 1, t.regs, t.wait⟩) vs := by
          rw [hW4]
          have hB2 := HXB.out
          refine ⟨gb_alloc (gb_put_new hG1 (by omega) _ _) _, heap_alloc_at (heap_set_ne hX1 _ _ (by simp; omega)) _, heap_alloc_at (heap_set_ne hS1 _ _ (by simp; omega)) _, heap_alloc_at (heap_set_ne hR1 _ _ (by simp; omega)) _, new_at (by simp [World.setCell]) _, ?_, fun y hy e => ?_, ⟨hB2, by omega, by omega, by omega⟩⟩
          · have e1 : ((t.next : Int) + 1) = ((t.next + 1 : Nat) : Int) := by omega
            rw [e1]
            exact (HO.out.setNext HT.out HU.out (t.next + 1)).keep (fun y _ hy => Below.heap_alloc _ _ _ hy)
          · obtain ⟨j, hj, hj2⟩ := List.getElem_of_mem hy
            have hll := HO.out.len
            have := ((HO.out.wt j (s.ths[j]'(by omega)) y (List.getElem?_eq_getElem (by omega)) (by rw [List.getElem?_eq_getElem hj, hj2])).1.lt _ e).2
            omega
        have HOLD : Hid (∀ u ∈ vs, ∀ k, u.ownBlock = some k → k < w1.heap.size) := fun y hy k e => by
          obtain ⟨j, hj, hj2⟩ := List.getElem_of_mem hy
          have hll := HO.out.len
          exact ((HO.out.wt j (s.ths[j]'(by omega)) y (List.getElem?_eq_getElem (by omega)) (by rw [List.getElem?_eq_getElem hj, hj2])).1.lt _ e).2
        rw [← hW4]
        obtain ⟨ob, hob⟩ : ∃ ob, ob = w1.heap.size := ⟨_, rfl⟩
        rw [← hob] at hD4 HOLD ⊢
        clear hW4 hob hG1 hR1 hS1 hX1 hs1 hcur cf c0 hCl HO
        clear hlt' hg1
        clear w1 cur
        have ht4 : Hid ((s.setT i ⟨t.next + 1, t.regs, t.wait⟩).ths[i]? = some ⟨t.next + 1, t.regs, t.wait⟩) := setT_at HT.out
        have hX4 := hD4.X
        have p0 := cell_of hX4 0 _ rfl
        have p1 := cell_of hX4 1 _ rfl
        have p2 := cell_of hX4 2 _ rfl
        have p3 := cell_of hX4 3 _ rfl
        have p4 := cell_of hX4 4 _ rfl
        have hXl4 := heap_lt hX4
        have hOl4 := heap_lt hD4.O
        have hOf4 := frozen_of hD4.O
        have hSl4 := heap_lt hD4.C
        have n0 : W4.cell? ⟨g', i * 6, none⟩ = some (.int .i64 ((t.next + 1 : Nat) : Int)) := hD4.own.cellW ht4.out HU.out 0 _ (by omega) rfl
        have n5 : W4.cell? ⟨g', i * 6 + 5, none⟩ = some u := hD4.own.cellW ht4.out HU.out 5 _ (by omega) rfl
        obtain ⟨rv, hrv⟩ : ∃ rv, rv = t.regs.getD x.reg 0 := ⟨_, rfl⟩
        have nr : W4.cell? ⟨g', i * 6 + 1 + x.reg, none⟩ = some (.int .i64 (rv : Nat)) := by
          rw [hrv]
          have hr4 := HXB2.out.2.1
          have hh := hD4.own.cellW ht4.out HU.out (1 + x.reg) (.int .i64 (t.regs.getD x.reg 0 : Nat)) (by omega) (by
            have : x.reg = 0 ∨ x.reg = 1 ∨ x.reg = 2 ∨ x.reg = 3 := by omega
            rcases this with e | e | e | e <;> rw [e] <;> rfl)
          rw [← Nat.add_assoc] at hh
          exact hh
        have HRV : Hid (rv = t.regs.getD x.reg 0) := hrv
        have om : W4.cell? ⟨ob, 1 + x.place, none⟩ = some (.int .i64 (s.mem x.place : Nat)) := cell_of hD4.O _ _ (memC_get _ _ _ HXB2.out.2.2.1)
        have sm : W4.cell? ⟨w.heap.size, 1 + x.place, none⟩ = some (.int .i64 (s.mem x.place : Nat)) := cell_of hD4.C _ _ (memC_get _ _ _ HXB2.out.2.2.1)
        have s0 := cell_of hD4.C 0 (.slice (some ⟨sg, 0, none⟩) s.ths.length sc) rfl
        have s1 := cell_of hD4.C 1 (.int .i64 (s.m0 : Nat)) rfl
        have s2 := cell_of hD4.C 2 (.int .i64 (s.m1 : Nat)) rfl
        have s3 := cell_of hD4.C 3 (.int .i64 (s.m2 : Nat)) rfl
        have s4 := cell_of hD4.C 4 (.int .i64 (s.m3 : Nat)) rfl
        clear hrv
        obtain ⟨cur, hcur⟩ := hD4.own.block
        have cf := frozen_of hcur
        have hCl4 := heap_lt hcur
        have HD4 : Hid (DS _ _ _ _ _ _ _ _ _ _ _ _ _) := hD4
        have HCUR : Hid (W4.heap[g']? = some (.cells cur 219 (0, 0))) := hcur
        have HNR : Hid (W4.cell? ⟨g', i * 6 + 1 + x.reg, none⟩ = some (.int .i64 (rv : Nat))) := nr
        have HLE := hD4.le
        have hB4 : W2.heap.size ≤ W4.heap.size := by omega
        have hskip : x.skip ≤ 1000 := HXB2.out.2.2.2
        have HP : Hid (W4.heap[xb]? = _) := hX4
        clear hcur hD4 hX4
      · go_upto_region 15 with fail
        by_cases hm1 : model = 1
        · have hm1' : ((model : Int) == 1) = true := by rw [beq_iff_eq]; omega
          go_upto_region 28 with fail
          obtain ⟨W5, hW5⟩ : ∃ W5, W5 = (W4).setCell ⟨ob, 1 + x.place, none⟩ (.int .i64 (x.n : Nat)) := ⟨_, rfl⟩
          obtain ⟨S5, hS5⟩ : ∃ S5, S5 = (s.setT i ⟨t.next + 1, t.regs, t.wait⟩).put x.place (x.n) := ⟨_, rfl⟩
          have hD5 : DS w W5 W2.heap.size xb ob g' cap' s.ths.length (.slice (some ⟨sg, 0, none⟩) s.ths.length sc) s x S5 vs := by rw [hW5, hS5]; exact (HD4.out).put x.place (x.n) HXB2.out.2.2.1
          have HS5 : Hid (stepP model s i t x = S5) := by
            show _ = _
            rw [hS5]
            have hq := HQ.out
            unfold stepP; rw [if_pos (by omega), if_pos hm1, if_neg (by omega)]; rfl
          rw [← hW5]
          clear hW5 hS5
          clear p0 p1 p2 p3 p4 n0 n5 nr cf hXl4 hOl4 hOf4 hSl4 hCl4 om sm s0 s1 s2 s3 s4
          have HO5 := hD5.O
          have q0 := cell_of HO5 0 (.slice (some ⟨g', 0, none⟩) s.ths.length cap') rfl
          have q1 := cell_of HO5 1 (.int .i64 (S5.m0 : Nat)) rfl
          have q2 := cell_of HO5 2 (.int .i64 (S5.m1 : Nat)) rfl
          have q3 := cell_of HO5 3 (.int .i64 (S5.m2 : Nat)) rfl
          have q4 := cell_of HO5 4 (.int .i64 (S5.m3 : Nat)) rfl
          have hR5 := hD5.R
          have r0 := cell_of hR5 0 _ rfl
          have r1 := cell_of hR5 1 _ rfl
          have r2 := cell_of hR5 2 _ rfl
          have r3 := cell_of hR5 3 _ rfl
          have r4 := cell_of hR5 4 _ rfl
          have rf5 := frozen_of hR5
          have hOl5 := heap_lt HO5
          have hRl5 := heap_lt hR5
          have HD5 : Hid (DS _ _ _ _ _ _ _ _ _ _ _ _ _) := hD5
          have HRR : Hid (W5.heap[w.heap.size + 1]? = _) := hR5
          clear HO5 hR5 hD5
          go_wp2_with fail
          have hD := setR_at HRR.out (.slice (some ⟨g', 0, none⟩) s.ths.length cap') S5
          have d0 := cell_of hD 0 (.slice (some ⟨g', 0, none⟩) s.ths.length cap') rfl
          have d1 := cell_of hD 1 (.int .i64 (S5.m0 : Nat)) rfl
          have d2 := cell_of hD 2 (.int .i64 (S5.m1 : Nat)) rfl
          have d3 := cell_of hD 3 (.int .i64 (S5.m2 : Nat)) rfl
          have d4 := cell_of hD 4 (.int .i64 (S5.m3 : Nat)) rfl
          unfold setR at d0 d1 d2 d3 d4
          refine bodyPost_ret (v := .tuple #[.agg #[(.slice (some ⟨g', 0, none⟩) s.ths.length cap'), .int .i64 (S5.m0 : Nat), .int .i64 (S5.m1 : Nat), .int .i64 (S5.m2 : Nat), .int .i64 (S5.m3 : Nat)], .bool true]) (by simp [results, Tryz.results110, go_sem, d0, d1, d2, d3, d4]) rfl (HD5.out.end_ HCAN.out HS5.out)
        · have hm1' : ((model : Int) == 1) = false := by rw [beq_eq_false_iff_ne]; omega
          go_wp2_with fail
          have hwt := (HD4.out.own.wt i _ u ht4.out HU.out).1
          obtain ⟨ua, uc, hue, HUO⟩ : ∃ ua uc, u = .slice ua t.wait.length uc ∧ Hid (W4.ownsRow W2.heap.size 261 2 (.slice ua t.wait.length uc) t.wait.length (wtF t.wait)) := by
            rcases hwt.2 with ⟨e, h0⟩ | ⟨gg, cp, cr, e, _⟩
            · simp only at h0 hwt
              refine ⟨none, 0, by rw [e, h0], ?_⟩
              rw [e] at hwt
              rw [h0] at hwt ⊢
              exact hwt
            · refine ⟨_, cp, e, ?_⟩
              rw [e] at hwt
              exact hwt
          subst hue
          have HUB : Hid (∀ k, (Value.slice ua t.wait.length uc).ownBlock = some k → k ≠ g') := fun k hk e => (HD4.out.own.wt i _ _ ht4.out HU.out).2 g' rfl (by rw [← e]; exact hk)
          clear hwt
          have hlw : t.wait.length ≤ 900 := hl1.1
          have HUA : Hid (∀ W' : World, (∀ k, k < W4.heap.size → W'.heap[k]? = W4.heap[k]?) → W'.ownsRow W2.heap.size 261 2 (.slice ua t.wait.length uc) t.wait.length (wtF t.wait)) := fun W' hk => own_at HUO.out (fun k hk2 => hk k (HUO.out.lt k hk2).2)
          have HNA : Hid (∀ W' : World, W'.heap[W4.heap.size]? = some (.cells #[.int .i64 (x.place : Nat), .int .i64 (x.n : Nat)] 261 (0, 0)) → ∀ (j : Nat) (u : Value), (wtC (x.place, x.n))[j]? = some u → W'.cell? ((⟨W4.heap.size, 0, none⟩ : Addr).add j) = some u) := fun W' hW' j u hu => by
            rw [addr_add]
            exact cell_of hW' j u (by simpa [wtC] using hu)
          go_region_law ((refine step_append_more _ (by rfl) _ _ 217 (by rfl) W2.heap.size 261 iw _ 2 16 Tryz.underlying217 hiw hw0 hw1 hw2 rfl (by decide) (.slice ua t.wait.length uc) t.wait.length (wtF t.wait) (by rfl) (HUA.out _ (fun k hk => Below.heap_alloc W4 _ k hk)) ⟨W4.heap.size, 0, none⟩ 1 1 (wtC (x.place, x.n)) (by rfl) (by rfl) (HNA.out _ (heap_alloc_new W4 _)) (wtC_one _) (by unfold maxLen; omega) (by omega) (by simp; omega) (W4.heap.size + 1) (by simp) ?_; intro va vc w4 own4 hg4 hat4; have hk4 := app_heap hg4 (fun k hk => Below.heap_alloc W4 _ k hk) g' hCl4 (fun e => HUB.out g' e.symm rfl); have c5 := (cell_same hk4 (i * 6 + 5)).trans n5; have cf4 := frozen_of (hk4.trans HCUR.out); have hl4 := heap_lt (hk4.trans HCUR.out)))
          all_goals
            have own4' : w4.ownsRow W2.heap.size 261 2 (.slice va (t.wait.length + 1) vc) (t.wait ++ [(x.place, x.n)]).length (wtF (t.wait ++ [(x.place, x.n)])) := by
              rw [wtF_app, List.length_append]
              exact own4
            obtain ⟨vs5, hD5⟩ := HD4.out.append (u' := .slice va (t.wait.length + 1) vc) ht4.out HU.out HOLD.out (by first | exact gb_alloc (gb_refl W4 none) _ | exact gb_drew (gb_alloc (gb_refl W4 none) _) | exact gb_drewN (gb_alloc (gb_refl W4 none) _) _ | exact gb_drew (gb_drewN (gb_alloc (gb_refl W4 none) _) _)) hg4 own4' (fun k hk => (hat4 k hk).elim Or.inl (fun e => Or.inr (by omega)))
            obtain ⟨W5, hW5⟩ : ∃ W5, W5 = w4.setCell ⟨g', i * 6 + 5, none⟩ (.slice va (t.wait.length + 1) vc) := ⟨_, rfl⟩
            obtain ⟨S5, hS5⟩ : ∃ S5, S5 = (s.setT i ⟨t.next + 1, t.regs, t.wait⟩).setT i ⟨t.next + 1, t.regs, t.wait ++ [(x.place, x.n)]⟩ := ⟨_, rfl⟩
            have HS5 : Hid (stepP model s i t x = S5) := by
              show _ = _
              rw [hS5]
              have hq := HQ.out
              rw [setT_setT]; unfold stepP; rw [if_pos (by omega), if_neg hm1, if_neg (by omega)]
            rw [← hW5] at hD5 ⊢
            rw [← hS5] at hD5
            clear hW5 hS5 c5 cf4 hl4 hk4
            clear p0 p1 p2 p3 p4 n0 n5 nr cf hXl4 hOl4 hOf4 hSl4 hCl4 om sm s0 s1 s2 s3 s4
            have HO5 := hD5.O
            have q0 := cell_of HO5 0 (.slice (some ⟨g', 0, none⟩) s.ths.length cap') rfl
            have q1 := cell_of HO5 1 (.int .i64 (S5.m0 : Nat)) rfl
            have q2 := cell_of HO5 2 (.int .i64 (S5.m1 : Nat)) rfl
            have q3 := cell_of HO5 3 (.int .i64 (S5.m2 : Nat)) rfl
            have q4 := cell_of HO5 4 (.int .i64 (S5.m3 : Nat)) rfl
            have hR5 := hD5.R
            have r0 := cell_of hR5 0 _ rfl
            have r1 := cell_of hR5 1 _ rfl
            have r2 := cell_of hR5 2 _ rfl
            have r3 := cell_of hR5 3 _ rfl
            have r4 := cell_of hR5 4 _ rfl
            have rf5 := frozen_of hR5
            have hOl5 := heap_lt HO5
            have hRl5 := heap_lt hR5
            have HD5 : Hid (DS _ _ _ _ _ _ _ _ _ _ _ _ _) := hD5
            have HRR : Hid (W5.heap[w.heap.size + 1]? = _) := hR5
            clear HO5 hR5 hD5
            go_wp2_with fail
            have hD := setR_at HRR.out (.slice (some ⟨g', 0, none⟩) s.ths.length cap') S5
            have d0 := cell_of hD 0 (.slice (some ⟨g', 0, none⟩) s.ths.length cap') rfl
            have d1 := cell_of hD 1 (.int .i64 (S5.m0 : Nat)) rfl
            have d2 := cell_of hD 2 (.int .i64 (S5.m1 : Nat)) rfl
            have d3 := cell_of hD 3 (.int .i64 (S5.m2 : Nat)) rfl
            have d4 := cell_of hD 4 (.int .i64 (S5.m3 : Nat)) rfl
            unfold setR at d0 d1 d2 d3 d4
            refine bodyPost_ret (v := .tuple #[.agg #[(.slice (some ⟨g', 0, none⟩) s.ths.length cap'), .int .i64 (S5.m0 : Nat), .int .i64 (S5.m1 : Nat), .int .i64 (S5.m2 : Nat), .int .i64 (S5.m3 : Nat)], .bool true]) (by simp [results, Tryz.results110, go_sem, d0, d1, d2, d3, d4]) rfl (HD5.out.end_ HCAN.out HS5.out)
      · go_wp2_with fail
        go_quiet (fail)
        go_upto_region 15 with fail
        obtain ⟨W7, hW7⟩ : ∃ W7, W7 = W4.drewN nq := ⟨_, rfl⟩
        have hD4 : DS w W7 W2.heap.size xb ob g' cap' s.ths.length (.slice (some ⟨sg, 0, none⟩) s.ths.length sc) s x (s.setT i ⟨t.next + 1, t.regs, t.wait⟩) vs := by rw [hW7]; exact HD4.out.drewN _
        rw [← hW7]
        clear hW7 HD4 HCUR HNR HP hB4 p0 p1 p2 p3 p4 n0 n5 nr cf hXl4 hOl4 hOf4 hSl4 hCl4 om sm s0 s1 s2 s3 s4
        have hX4 := hD4.X
        have p0 := cell_of hX4 0 _ rfl
        have p1 := cell_of hX4 1 _ rfl
        have p2 := cell_of hX4 2 _ rfl
        have p3 := cell_of hX4 3 _ rfl
        have p4 := cell_of hX4 4 _ rfl
        have hXl4 := heap_lt hX4
        have hOl4 := heap_lt hD4.O
        have hOf4 := frozen_of hD4.O
        have hSl4 := heap_lt hD4.C
        have n0 := hl1.1
        have n5 : W7.cell? ⟨g', i * 6 + 5, none⟩ = some u := hD4.own.cellW ht4.out HU.out 5 _ (by omega) rfl
        have nr := hl1.1
        have om : W7.cell? ⟨ob, 1 + x.place, none⟩ = some (.int .i64 (s.mem x.place : Nat)) := cell_of hD4.O _ _ (memC_get _ _ _ HXB2.out.2.2.1)
        have sm := hl1.1
        have s0 := hl1.1
        have s1 := hl1.1
        have s2 := hl1.1
        have s3 := hl1.1
        have s4 := hl1.1
        obtain ⟨cur7, hcur⟩ := hD4.own.block
        have cf := frozen_of hcur
        have hCl4 := heap_lt hcur
        have HD4 : Hid (DS _ _ _ _ _ _ _ _ _ _ _ _ _) := hD4
        have HCUR : Hid (W7.heap[g']? = some (.cells cur7 219 (0, 0))) := hcur
        have hB4 : W2.heap.size ≤ W7.heap.size := by omega
        clear hcur hD4 hX4
        by_cases hm1 : model = 1
        · have hm1' : ((model : Int) == 1) = true := by rw [beq_iff_eq]; omega
          go_upto_region 28 with fail
          obtain ⟨W5, hW5⟩ : ∃ W5, W5 = (W7).setCell ⟨ob, 1 + x.place, none⟩ (.int .i64 (rv : Nat)) := ⟨_, rfl⟩
          obtain ⟨S5, hS5⟩ : ∃ S5, S5 = (s.setT i ⟨t.next + 1, t.regs, t.wait⟩).put x.place (rv) := ⟨_, rfl⟩
          have hD5 : DS w W5 W2.heap.size xb ob g' cap' s.ths.length (.slice (some ⟨sg, 0, none⟩) s.ths.length sc) s x S5 vs := by rw [hW5, hS5]; exact (HD4.out).put x.place (rv) HXB2.out.2.2.1
          have HS5 : Hid (stepP model s i t x = S5) := by
            show _ = _
            rw [hS5]
            have hq := HQ.out
            unfold stepP; rw [if_pos (by omega), if_pos hm1, if_pos (by omega)]; rw [← HRV.out]; rfl
          rw [← hW5]
          clear hW5 hS5
          clear p0 p1 p2 p3 p4 n0 n5 nr cf hXl4 hOl4 hOf4 hSl4 hCl4 om sm s0 s1 s2 s3 s4
          have HO5 := hD5.O
          have q0 := cell_of HO5 0 (.slice (some ⟨g', 0, none⟩) s.ths.length cap') rfl
          have q1 := cell_of HO5 1 (.int .i64 (S5.m0 : Nat)) rfl
          have q2 := cell_of HO5 2 (.int .i64 (S5.m1 : Nat)) rfl
          have q3 := cell_of HO5 3 (.int .i64 (S5.m2 : Nat)) rfl
          have q4 := cell_of HO5 4 (.int .i64 (S5.m3 : Nat)) rfl
          have hR5 := hD5.R
          have r0 := cell_of hR5 0 _ rfl
          have r1 := cell_of hR5 1 _ rfl
          have r2 := cell_of hR5 2 _ rfl
          have r3 := cell_of hR5 3 _ rfl
          have r4 := cell_of hR5 4 _ rfl
          have rf5 := frozen_of hR5
          have hOl5 := heap_lt HO5
          have hRl5 := heap_lt hR5
          have HD5 : Hid (DS _ _ _ _ _ _ _ _ _ _ _ _ _) := hD5
          have HRR : Hid (W5.heap[w.heap.size + 1]? = _) := hR5
          clear HO5 hR5 hD5
          go_wp2_with fail
          have hD := setR_at HRR.out (.slice (some ⟨g', 0, none⟩) s.ths.length cap') S5
          have d0 := cell_of hD 0 (.slice (some ⟨g', 0, none⟩) s.ths.length cap') rfl
          have d1 := cell_of hD 1 (.int .i64 (S5.m0 : Nat)) rfl
          have d2 := cell_of hD 2 (.int .i64 (S5.m1 : Nat)) rfl
          have d3 := cell_of hD 3 (.int .i64 (S5.m2 : Nat)) rfl
          have d4 := cell_of hD 4 (.int .i64 (S5.m3 : Nat)) rfl
          unfold setR at d0 d1 d2 d3 d4
          refine bodyPost_ret (v := .tuple #[.agg #[(.slice (some ⟨g', 0, none⟩) s.ths.length cap'), .int .i64 (S5.m0 : Nat), .int .i64 (S5.m1 : Nat), .int .i64 (S5.m2 : Nat), .int .i64 (S5.m3 : Nat)], .bool true]) (by simp [results, Tryz.results110, go_sem, d0, d1, d2, d3, d4]) rfl (HD5.out.end_ HCAN.out HS5.out)
        · have hm1' : ((model : Int) == 1) = false := by rw [beq_eq_false_iff_ne]; omega
          go_wp2_with fail
          have hwt := (HD4.out.own.wt i _ u ht4.out HU.out).1
          obtain ⟨ua, uc, hue, HUO⟩ : ∃ ua uc, u = .slice ua t.wait.length uc ∧ Hid (W7.ownsRow W2.heap.size 261 2 (.slice ua t.wait.length uc) t.wait.length (wtF t.wait)) := by
            rcases hwt.2 with ⟨e, h0⟩ | ⟨gg, cp, cr, e, _⟩
            · simp only at h0 hwt
              refine ⟨none, 0, by rw [e, h0], ?_⟩
              rw [e] at hwt
              rw [h0] at hwt ⊢
              exact hwt
            · refine ⟨_, cp, e, ?_⟩
              rw [e] at hwt
              exact hwt
          subst hue
          have HUB : Hid (∀ k, (Value.slice ua t.wait.length uc).ownBlock = some k → k ≠ g') := fun k hk e => (HD4.out.own.wt i _ _ ht4.out HU.out).2 g' rfl (by rw [← e]; exact hk)
          clear hwt
          have hlw : t.wait.length ≤ 900 := hl1.1
          have HUA : Hid (∀ W' : World, (∀ k, k < W7.heap.size → W'.heap[k]? = W7.heap[k]?) → W'.ownsRow W2.heap.size 261 2 (.slice ua t.wait.length uc) t.wait.length (wtF t.wait)) := fun W' hk => own_at HUO.out (fun k hk2 => hk k (HUO.out.lt k hk2).2)
          have HNA : Hid (∀ W' : World, W'.heap[W7.heap.size]? = some (.cells #[.int .i64 (x.place : Nat), .int .i64 (rv : Nat)] 261 (0, 0)) → ∀ (j : Nat) (u : Value), (wtC (x.place, rv))[j]? = some u → W'.cell? ((⟨W7.heap.size, 0, none⟩ : Addr).add j) = some u) := fun W' hW' j u hu => by
            rw [addr_add]
            exact cell_of hW' j u (by simpa [wtC] using hu)
          go_region_law ((refine step_append_more _ (by rfl) _ _ 217 (by rfl) W2.heap.size 261 iw _ 2 16 Tryz.underlying217 hiw hw0 hw1 hw2 rfl (by decide) (.slice ua t.wait.length uc) t.wait.length (wtF t.wait) (by rfl) (HUA.out _ (fun k hk => Below.heap_alloc W7 _ k hk)) ⟨W7.heap.size, 0, none⟩ 1 1 (wtC (x.place, rv)) (by rfl) (by rfl) (HNA.out _ (heap_alloc_new W7 _)) (wtC_one _) (by unfold maxLen; omega) (by omega) (by simp; omega) (W7.heap.size + 1) (by simp) ?_; intro va vc w4 own4 hg4 hat4; have hk4 := app_heap hg4 (fun k hk => Below.heap_alloc W7 _ k hk) g' hCl4 (fun e => HUB.out g' e.symm rfl); have c5 := (cell_same hk4 (i * 6 + 5)).trans n5; have cf4 := frozen_of (hk4.trans HCUR.out); have hl4 := heap_lt (hk4.trans HCUR.out)))
          all_goals
            have own4' : w4.ownsRow W2.heap.size 261 2 (.slice va (t.wait.length + 1) vc) (t.wait ++ [(x.place, rv)]).length (wtF (t.wait ++ [(x.place, rv)])) := by
              rw [wtF_app, List.length_append]
              exact own4
            obtain ⟨vs5, hD5⟩ := HD4.out.append (u' := .slice va (t.wait.length + 1) vc) ht4.out HU.out HOLD.out (by first | exact gb_alloc (gb_refl W7 none) _ | exact gb_drew (gb_alloc (gb_refl W7 none) _) | exact gb_drewN (gb_alloc (gb_refl W7 none) _) _ | exact gb_drew (gb_drewN (gb_alloc (gb_refl W7 none) _) _)) hg4 own4' (fun k hk => (hat4 k hk).elim Or.inl (fun e => Or.inr (by omega)))
            obtain ⟨W5, hW5⟩ : ∃ W5, W5 = w4.setCell ⟨g', i * 6 + 5, none⟩ (.slice va (t.wait.length + 1) vc) := ⟨_, rfl⟩
            obtain ⟨S5, hS5⟩ : ∃ S5, S5 = (s.setT i ⟨t.next + 1, t.regs, t.wait⟩).setT i ⟨t.next + 1, t.regs, t.wait ++ [(x.place, rv)]⟩ := ⟨_, rfl⟩
            have HS5 : Hid (stepP model s i t x = S5) := by
              show _ = _
              rw [hS5]
              have hq := HQ.out
              rw [setT_setT]; unfold stepP; rw [if_pos (by omega), if_neg hm1, if_pos (by omega)]; rw [← HRV.out]
            rw [← hW5] at hD5 ⊢
            rw [← hS5] at hD5
            clear hW5 hS5 c5 cf4 hl4 hk4
            clear p0 p1 p2 p3 p4 n0 n5 nr cf hXl4 hOl4 hOf4 hSl4 hCl4 om sm s0 s1 s2 s3 s4
            have HO5 := hD5.O
            have q0 := cell_of HO5 0 (.slice (some ⟨g', 0, none⟩) s.ths.length cap') rfl
            have q1 := cell_of HO5 1 (.int .i64 (S5.m0 : Nat)) rfl
            have q2 := cell_of HO5 2 (.int .i64 (S5.m1 : Nat)) rfl
            have q3 := cell_of HO5 3 (.int .i64 (S5.m2 : Nat)) rfl
            have q4 := cell_of HO5 4 (.int .i64 (S5.m3 : Nat)) rfl
            have hR5 := hD5.R
            have r0 := cell_of hR5 0 _ rfl
            have r1 := cell_of hR5 1 _ rfl
            have r2 := cell_of hR5 2 _ rfl
            have r3 := cell_of hR5 3 _ rfl
            have r4 := cell_of hR5 4 _ rfl
            have rf5 := frozen_of hR5
            have hOl5 := heap_lt HO5
            have hRl5 := heap_lt hR5
            have HD5 : Hid (DS _ _ _ _ _ _ _ _ _ _ _ _ _) := hD5
            have HRR : Hid (W5.heap[w.heap.size + 1]? = _) := hR5
            clear HO5 hR5 hD5
            go_wp2_with fail
            have hD := setR_at HRR.out (.slice (some ⟨g', 0, none⟩) s.ths.length cap') S5
            have d0 := cell_of hD 0 (.slice (some ⟨g', 0, none⟩) s.ths.length cap') rfl
            have d1 := cell_of hD 1 (.int .i64 (S5.m0 : Nat)) rfl
            have d2 := cell_of hD 2 (.int .i64 (S5.m1 : Nat)) rfl
            have d3 := cell_of hD 3 (.int .i64 (S5.m2 : Nat)) rfl
            have d4 := cell_of hD 4 (.int .i64 (S5.m3 : Nat)) rfl
            unfold setR at d0 d1 d2 d3 d4
            refine bodyPost_ret (v := .tuple #[.agg #[(.slice (some ⟨g', 0, none⟩) s.ths.length cap'), .int .i64 (S5.m0 : Nat), .int .i64 (S5.m1 : Nat), .int .i64 (S5.m2 : Nat), .int .i64 (S5.m3 : Nat)], .bool true]) (by simp [results, Tryz.results110, go_sem, d0, d1, d2, d3, d4]) rfl (HD5.out.end_ HCAN.out HS5.out)
      · have HSN : Hid (∀ W' : World, W4.grownBy W' none → Calls Tryz.prog 166 #[.agg #[.slice (some ⟨sg, 0, none⟩) s.ths.length sc, .int .i64 (s.m0 : Nat), .int .i64 (s.m1 : Nat), .int .i64 (s.m2 : Nat), .int .i64 (s.m3 : Nat)], .int .i64 (i : Nat), .int .i64 (x.place : Nat)] W' fun e w' => e = .returned (.int .i64 ((seesW x.place (s.mem x.place) t.wait : Nat) : Int)) ∧ W4.grownBy w' none) := fun W' hW' => by
          refine (sees_any W' _ _ s.ths (HTA.out.grow (w' := W') (fun y hy => (gb_trans HD4.out.hG hW').block y hy (by simp))) _ _ _ _ i t HT.out (by have := hl1.1; omega) x.place HXB2.out.2.2.1).mono ?_
          rintro e w' ⟨rfl, hg'⟩
          refine ⟨?_, gb_trans hW' hg'⟩
          rw [memP_eq s _ HXB2.out.2.2.1, seesN_eq]
        obtain ⟨sv, hsv⟩ : ∃ sv, sv = seesW x.place (s.mem x.place) t.wait := ⟨_, rfl⟩
        rw [← hsv] at HSN
        have HSV : Hid (sv = _) := hsv
        clear hsv
        go_wp2_with fail
        go_region_with (go_at_call 166; refine (HSN.out _ (by first | exact gb_refl _ _ | exact gb_drew (gb_refl _ _) | exact gb_drewN (gb_refl _ _) _)).mono ?_; rintro e w2 ⟨rfl, hg2⟩; have k1 := gb_cell hg2 p1 (by simp); have k2 := gb_cell hg2 HNR.out (by simp); have hc2 := heap_gb hg2 HCUR.out (by simp); have cf2 := frozen_of hc2; have l1 := heap_lt hc2; have l2 := Nat.lt_of_lt_of_le hXl4 hg2.size)
        all_goals
          go_upto_region 28 with fail
          obtain ⟨W5, hW5⟩ : ∃ W5, W5 = (w2.setCell ⟨g', i * 6 + 1 + x.reg, none⟩ (.int .i64 (sv : Nat))) := ⟨_, rfl⟩
          obtain ⟨S5, hS5⟩ : ∃ S5, S5 = (s.setT i ⟨t.next + 1, t.regs, t.wait⟩).setT i ⟨t.next + 1, t.regs.set x.reg sv, t.wait⟩ := ⟨_, rfl⟩
          have hD5 : DS w W5 W2.heap.size xb ob g' cap' s.ths.length (.slice (some ⟨sg, 0, none⟩) s.ths.length sc) s x S5 vs := by rw [hW5, hS5]; exact (HD4.out.grow hg2).setReg ht4.out HXB2.out.2.1
          have HS5 : Hid (stepP model s i t x = S5) := by
            show _ = _
            rw [hS5]
            have hq := HQ.out
            rw [setT_setT]; unfold stepP; rw [if_neg (by omega), if_pos (by omega), HSV.out]
          rw [← hW5]
          clear hW5 hS5
          clear k1 k2 hc2 cf2 l1 l2
          clear p0 p1 p2 p3 p4 n0 n5 nr cf hXl4 hOl4 hOf4 hSl4 hCl4 om sm s0 s1 s2 s3 s4
          have HO5 := hD5.O
          have q0 := cell_of HO5 0 (.slice (some ⟨g', 0, none⟩) s.ths.length cap') rfl
          have q1 := cell_of HO5 1 (.int .i64 (S5.m0 : Nat)) rfl
          have q2 := cell_of HO5 2 (.int .i64 (S5.m1 : Nat)) rfl
          have q3 := cell_of HO5 3 (.int .i64 (S5.m2 : Nat)) rfl
          have q4 := cell_of HO5 4 (.int .i64 (S5.m3 : Nat)) rfl
          have hR5 := hD5.R
          have r0 := cell_of hR5 0 _ rfl
          have r1 := cell_of hR5 1 _ rfl
          have r2 := cell_of hR5 2 _ rfl
          have r3 := cell_of hR5 3 _ rfl
          have r4 := cell_of hR5 4 _ rfl
          have rf5 := frozen_of hR5
          have hOl5 := heap_lt HO5
          have hRl5 := heap_lt hR5
          have HD5 : Hid (DS _ _ _ _ _ _ _ _ _ _ _ _ _) := hD5
          have HRR : Hid (W5.heap[w.heap.size + 1]? = _) := hR5
          clear HO5 hR5 hD5
          go_wp2_with fail
          have hD := setR_at HRR.out (.slice (some ⟨g', 0, none⟩) s.ths.length cap') S5
          have d0 := cell_of hD 0 (.slice (some ⟨g', 0, none⟩) s.ths.length cap') rfl
          have d1 := cell_of hD 1 (.int .i64 (S5.m0 : Nat)) rfl
          have d2 := cell_of hD 2 (.int .i64 (S5.m1 : Nat)) rfl
          have d3 := cell_of hD 3 (.int .i64 (S5.m2 : Nat)) rfl
          have d4 := cell_of hD 4 (.int .i64 (S5.m3 : Nat)) rfl
          unfold setR at d0 d1 d2 d3 d4
          refine bodyPost_ret (v := .tuple #[.agg #[(.slice (some ⟨g', 0, none⟩) s.ths.length cap'), .int .i64 (S5.m0 : Nat), .int .i64 (S5.m1 : Nat), .int .i64 (S5.m2 : Nat), .int .i64 (S5.m3 : Nat)], .bool true]) (by simp [results, Tryz.results110, go_sem, d0, d1, d2, d3, d4]) rfl (HD5.out.end_ HCAN.out HS5.out)
      · go_wp2_with fail
        go_region
        go_upto_region 28 with fail
        obtain ⟨W5, hW5⟩ : ∃ W5, W5 = (W4.setCell ⟨g', i * 6 + 1 + x.reg, none⟩ (.int .i64 (x.n : Nat))).drew := ⟨_, rfl⟩
        obtain ⟨S5, hS5⟩ : ∃ S5, S5 = (s.setT i ⟨t.next + 1, t.regs, t.wait⟩).setT i ⟨t.next + 1, t.regs.set x.reg x.n, t.wait⟩ := ⟨_, rfl⟩
        have hD5 : DS w W5 W2.heap.size xb ob g' cap' s.ths.length (.slice (some ⟨sg, 0, none⟩) s.ths.length sc) s x S5 vs := by rw [hW5, hS5]; exact (HD4.out.setReg ht4.out HXB2.out.2.1).drew
        have HS5 : Hid (stepP model s i t x = S5) := by
          show _ = _
          rw [hS5]
          have hq := HQ.out
          rw [setT_setT]; unfold stepP; rw [if_neg (by omega), if_neg (by omega), if_pos (by omega)]
        rw [← hW5]
        clear hW5 hS5
        clear p0 p1 p2 p3 p4 n0 n5 nr cf hXl4 hOl4 hOf4 hSl4 hCl4 om sm s0 s1 s2 s3 s4
        have HO5 := hD5.O
        have q0 := cell_of HO5 0 (.slice (some ⟨g', 0, none⟩) s.ths.length cap') rfl
        have q1 := cell_of HO5 1 (.int .i64 (S5.m0 : Nat)) rfl
        have q2 := cell_of HO5 2 (.int .i64 (S5.m1 : Nat)) rfl
        have q3 := cell_of HO5 3 (.int .i64 (S5.m2 : Nat)) rfl
        have q4 := cell_of HO5 4 (.int .i64 (S5.m3 : Nat)) rfl
        have hR5 := hD5.R
        have r0 := cell_of hR5 0 _ rfl
        have r1 := cell_of hR5 1 _ rfl
        have r2 := cell_of hR5 2 _ rfl
        have r3 := cell_of hR5 3 _ rfl
        have r4 := cell_of hR5 4 _ rfl
        have rf5 := frozen_of hR5
        have hOl5 := heap_lt HO5
        have hRl5 := heap_lt hR5
        have HD5 : Hid (DS _ _ _ _ _ _ _ _ _ _ _ _ _) := hD5
        have HRR : Hid (W5.heap[w.heap.size + 1]? = _) := hR5
        clear HO5 hR5 hD5
        go_wp2_with fail
        have hD := setR_at HRR.out (.slice (some ⟨g', 0, none⟩) s.ths.length cap') S5
        have d0 := cell_of hD 0 (.slice (some ⟨g', 0, none⟩) s.ths.length cap') rfl
        have d1 := cell_of hD 1 (.int .i64 (S5.m0 : Nat)) rfl
        have d2 := cell_of hD 2 (.int .i64 (S5.m1 : Nat)) rfl
        have d3 := cell_of hD 3 (.int .i64 (S5.m2 : Nat)) rfl
        have d4 := cell_of hD 4 (.int .i64 (S5.m3 : Nat)) rfl
        unfold setR at d0 d1 d2 d3 d4
        refine bodyPost_ret (v := .tuple #[.agg #[(.slice (some ⟨g', 0, none⟩) s.ths.length cap'), .int .i64 (S5.m0 : Nat), .int .i64 (S5.m1 : Nat), .int .i64 (S5.m2 : Nat), .int .i64 (S5.m3 : Nat)], .bool true]) (by simp [results, Tryz.results110, go_sem, d0, d1, d2, d3, d4]) rfl (HD5.out.end_ HCAN.out HS5.out)
      · obtain ⟨mv, hmv⟩ : ∃ mv, mv = s.mem x.place := ⟨_, rfl⟩
        rw [← hmv] at om sm
        have HMV : Hid (mv = _) := hmv
        clear hmv
        go_wp2_with fail
        go_region
        go_upto_region 24 with fail
        obtain ⟨W6, hW6⟩ : ∃ W6, W6 = (W4.setCell ⟨g', i * 6 + 1 + x.reg, none⟩ (.int .i64 (mv : Nat))).drew := ⟨_, rfl⟩
        have hD6 : DS w W6 W2.heap.size xb ob g' cap' s.ths.length (.slice (some ⟨sg, 0, none⟩) s.ths.length sc) s x ((s.setT i ⟨t.next + 1, t.regs, t.wait⟩).setT i ⟨t.next + 1, t.regs.set x.reg mv, t.wait⟩) vs := by rw [hW6]; exact (HD4.out.setReg ht4.out HXB2.out.2.1).drew
        rw [← hW6]
        clear hW6
        have hX6 := hD6.X
        have e2 := cell_of hX6 2 _ rfl
        have e3 := cell_of hX6 3 _ rfl
        have eo := cell_of hD6.O (1 + x.place) _ (memC_get _ _ _ HXB2.out.2.2.1)
        have ef := frozen_of hD6.O
        have el := heap_lt hX6
        have el2 := heap_lt hD6.O
        have HD6 : Hid (DS _ _ _ _ _ _ _ _ _ _ _ _ _) := hD6
        clear hX6 hD6
        clear p0 p1 p2 p3 p4 n0 n5 nr cf hXl4 hOl4 hOf4 hSl4 hCl4 om sm s0 s1 s2 s3 s4
        go_upto_region 28 with fail
        obtain ⟨W5, hW5⟩ : ∃ W5, W5 = W6.setCell ⟨ob, 1 + x.place, none⟩ (.int .i64 (x.n : Nat)) := ⟨_, rfl⟩
        obtain ⟨S5, hS5⟩ : ∃ S5, S5 = ((s.setT i ⟨t.next + 1, t.regs, t.wait⟩).setT i ⟨t.next + 1, t.regs.set x.reg mv, t.wait⟩).put x.place x.n := ⟨_, rfl⟩
        have hD5 : DS w W5 W2.heap.size xb ob g' cap' s.ths.length (.slice (some ⟨sg, 0, none⟩) s.ths.length sc) s x S5 vs := by rw [hW5, hS5]; exact HD6.out.put x.place x.n HXB2.out.2.2.1
        have HS5 : Hid (stepP model s i t x = S5) := by
          show _ = _
          rw [hS5]
          have hq := HQ.out
          rw [setT_setT]; unfold stepP; rw [if_neg (by omega), if_neg (by omega), if_neg (by omega), if_pos (by omega), HMV.out]; rfl
        rw [← hW5]
        clear hW5 hS5
        clear e2 e3 eo ef el el2
        have HO5 := hD5.O
        have q0 := cell_of HO5 0 (.slice (some ⟨g', 0, none⟩) s.ths.length cap') rfl
        have q1 := cell_of HO5 1 (.int .i64 (S5.m0 : Nat)) rfl
        have q2 := cell_of HO5 2 (.int .i64 (S5.m1 : Nat)) rfl
        have q3 := cell_of HO5 3 (.int .i64 (S5.m2 : Nat)) rfl
        have q4 := cell_of HO5 4 (.int .i64 (S5.m3 : Nat)) rfl
        have hR5 := hD5.R
        have r0 := cell_of hR5 0 _ rfl
        have r1 := cell_of hR5 1 _ rfl
        have r2 := cell_of hR5 2 _ rfl
        have r3 := cell_of hR5 3 _ rfl
        have r4 := cell_of hR5 4 _ rfl
        have rf5 := frozen_of hR5
        have hOl5 := heap_lt HO5
        have hRl5 := heap_lt hR5
        have HD5 : Hid (DS _ _ _ _ _ _ _ _ _ _ _ _ _) := hD5
        have HRR : Hid (W5.heap[w.heap.size + 1]? = _) := hR5
        clear HO5 hR5 hD5
        go_wp2_with fail
        have hD := setR_at HRR.out (.slice (some ⟨g', 0, none⟩) s.ths.length cap') S5
        have d0 := cell_of hD 0 (.slice (some ⟨g', 0, none⟩) s.ths.length cap') rfl
        have d1 := cell_of hD 1 (.int .i64 (S5.m0 : Nat)) rfl
        have d2 := cell_of hD 2 (.int .i64 (S5.m1 : Nat)) rfl
        have d3 := cell_of hD 3 (.int .i64 (S5.m2 : Nat)) rfl
        have d4 := cell_of hD 4 (.int .i64 (S5.m3 : Nat)) rfl
        unfold setR at d0 d1 d2 d3 d4
        refine bodyPost_ret (v := .tuple #[.agg #[(.slice (some ⟨g', 0, none⟩) s.ths.length cap'), .int .i64 (S5.m0 : Nat), .int .i64 (S5.m1 : Nat), .int .i64 (S5.m2 : Nat), .int .i64 (S5.m3 : Nat)], .bool true]) (by simp [results, Tryz.results110, go_sem, d0, d1, d2, d3, d4]) rfl (HD5.out.end_ HCAN.out HS5.out)
      · by_cases hj : rv = x.n
        · have hj1 : ((rv : Int) == (x.n : Int)) = true := by rw [beq_iff_eq]; omega
          have HJ : Hid (rv = x.n) := hj
          clear hj
          go_wp2_with fail
          go_quiet (fail)
          go_wp2_with fail
          go_region
          go_upto_region 28 with fail
          obtain ⟨W5, hW5⟩ : ∃ W5, W5 = (W4.drewN (nq + 1)).setCell ⟨g', i * 6, none⟩ (.int .i64 ((t.next : Int) + 1 + (x.skip : Int))) := ⟨_, rfl⟩
          obtain ⟨S5, hS5⟩ : ∃ S5, S5 = (s.setT i ⟨t.next + 1, t.regs, t.wait⟩).setT i ⟨t.next + 1 + x.skip, t.regs, t.wait⟩ := ⟨_, rfl⟩
          have hD5 : DS w W5 W2.heap.size xb ob g' cap' s.ths.length (.slice (some ⟨sg, 0, none⟩) s.ths.length sc) s x S5 vs := by rw [hW5, hS5]; exact (by rw [show (t.next : Int) + 1 + (x.skip : Int) = ((t.next + 1 + x.skip : Nat) : Int) by omega]; have hh := (HD4.out.drewN (nq + 1)).setNext (m := t.next + 1 + x.skip) ht4.out; exact hh)
          have HS5 : Hid (stepP model s i t x = S5) := by
            show _ = _
            rw [hS5]
            have hq := HQ.out
            rw [setT_setT]; unfold stepP; rw [if_neg (by omega), if_neg (by omega), if_neg (by omega), if_neg (by omega), if_pos (by omega), if_pos (by rw [← HRV.out]; exact HJ.out)]
          rw [← hW5]
          clear hW5 hS5
          clear p0 p1 p2 p3 p4 n0 n5 nr cf hXl4 hOl4 hOf4 hSl4 hCl4 om sm s0 s1 s2 s3 s4
          have HO5 := hD5.O
          have q0 := cell_of HO5 0 (.slice (some ⟨g', 0, none⟩) s.ths.length cap') rfl
          have q1 := cell_of HO5 1 (.int .i64 (S5.m0 : Nat)) rfl
          have q2 := cell_of HO5 2 (.int .i64 (S5.m1 : Nat)) rfl
          have q3 := cell_of HO5 3 (.int .i64 (S5.m2 : Nat)) rfl
          have q4 := cell_of HO5 4 (.int .i64 (S5.m3 : Nat)) rfl
          have hR5 := hD5.R
          have r0 := cell_of hR5 0 _ rfl
          have r1 := cell_of hR5 1 _ rfl
          have r2 := cell_of hR5 2 _ rfl
          have r3 := cell_of hR5 3 _ rfl
          have r4 := cell_of hR5 4 _ rfl
          have rf5 := frozen_of hR5
          have hOl5 := heap_lt HO5
          have hRl5 := heap_lt hR5
          have HD5 : Hid (DS _ _ _ _ _ _ _ _ _ _ _ _ _) := hD5
          have HRR : Hid (W5.heap[w.heap.size + 1]? = _) := hR5
          clear HO5 hR5 hD5
          go_wp2_with fail
          have hD := setR_at HRR.out (.slice (some ⟨g', 0, none⟩) s.ths.length cap') S5
          have d0 := cell_of hD 0 (.slice (some ⟨g', 0, none⟩) s.ths.length cap') rfl
          have d1 := cell_of hD 1 (.int .i64 (S5.m0 : Nat)) rfl
          have d2 := cell_of hD 2 (.int .i64 (S5.m1 : Nat)) rfl
          have d3 := cell_of hD 3 (.int .i64 (S5.m2 : Nat)) rfl
          have d4 := cell_of hD 4 (.int .i64 (S5.m3 : Nat)) rfl
          unfold setR at d0 d1 d2 d3 d4
          refine bodyPost_ret (v := .tuple #[.agg #[(.slice (some ⟨g', 0, none⟩) s.ths.length cap'), .int .i64 (S5.m0 : Nat), .int .i64 (S5.m1 : Nat), .int .i64 (S5.m2 : Nat), .int .i64 (S5.m3 : Nat)], .bool true]) (by simp [results, Tryz.results110, go_sem, d0, d1, d2, d3, d4]) rfl (HD5.out.end_ HCAN.out HS5.out)
        · have hj1 : ((rv : Int) == (x.n : Int)) = false := by rw [beq_eq_false_iff_ne]; omega
          have HJ : Hid (¬ rv = x.n) := hj
          clear hj
          go_wp2_with fail
          go_quiet (fail)
          go_upto_region 28 with fail
          obtain ⟨W5, hW5⟩ : ∃ W5, W5 = W4.drewN nq := ⟨_, rfl⟩
          obtain ⟨S5, hS5⟩ : ∃ S5, S5 = (s.setT i ⟨t.next + 1, t.regs, t.wait⟩) := ⟨_, rfl⟩
          have hD5 : DS w W5 W2.heap.size xb ob g' cap' s.ths.length (.slice (some ⟨sg, 0, none⟩) s.ths.length sc) s x S5 vs := by rw [hW5, hS5]; exact HD4.out.drewN _
          have HS5 : Hid (stepP model s i t x = S5) := by
            show _ = _
            rw [hS5]
            have hq := HQ.out
            unfold stepP; rw [if_neg (by omega), if_neg (by omega), if_neg (by omega), if_neg (by omega), if_pos (by omega), if_neg (by rw [← HRV.out]; exact HJ.out)]
          rw [← hW5]
          clear hW5 hS5
          clear p0 p1 p2 p3 p4 n0 n5 nr cf hXl4 hOl4 hOf4 hSl4 hCl4 om sm s0 s1 s2 s3 s4
          have HO5 := hD5.O
          have q0 := cell_of HO5 0 (.slice (some ⟨g', 0, none⟩) s.ths.length cap') rfl
          have q1 := cell_of HO5 1 (.int .i64 (S5.m0 : Nat)) rfl
          have q2 := cell_of HO5 2 (.int .i64 (S5.m1 : Nat)) rfl
          have q3 := cell_of HO5 3 (.int .i64 (S5.m2 : Nat)) rfl
          have q4 := cell_of HO5 4 (.int .i64 (S5.m3 : Nat)) rfl
          have hR5 := hD5.R
          have r0 := cell_of hR5 0 _ rfl
          have r1 := cell_of hR5 1 _ rfl
          have r2 := cell_of hR5 2 _ rfl
          have r3 := cell_of hR5 3 _ rfl
          have r4 := cell_of hR5 4 _ rfl
          have rf5 := frozen_of hR5
          have hOl5 := heap_lt HO5
          have hRl5 := heap_lt hR5
          have HD5 : Hid (DS _ _ _ _ _ _ _ _ _ _ _ _ _) := hD5
          have HRR : Hid (W5.heap[w.heap.size + 1]? = _) := hR5
          clear HO5 hR5 hD5
          go_wp2_with fail
          have hD := setR_at HRR.out (.slice (some ⟨g', 0, none⟩) s.ths.length cap') S5
          have d0 := cell_of hD 0 (.slice (some ⟨g', 0, none⟩) s.ths.length cap') rfl
          have d1 := cell_of hD 1 (.int .i64 (S5.m0 : Nat)) rfl
          have d2 := cell_of hD 2 (.int .i64 (S5.m1 : Nat)) rfl
          have d3 := cell_of hD 3 (.int .i64 (S5.m2 : Nat)) rfl
          have d4 := cell_of hD 4 (.int .i64 (S5.m3 : Nat)) rfl
          unfold setR at d0 d1 d2 d3 d4
          refine bodyPost_ret (v := .tuple #[.agg #[(.slice (some ⟨g', 0, none⟩) s.ths.length cap'), .int .i64 (S5.m0 : Nat), .int .i64 (S5.m1 : Nat), .int .i64 (S5.m2 : Nat), .int .i64 (S5.m3 : Nat)], .bool true]) (by simp [results, Tryz.results110, go_sem, d0, d1, d2, d3, d4]) rfl (HD5.out.end_ HCAN.out HS5.out)
      · go_upto_region 28 with fail
        obtain ⟨W5, hW5⟩ : ∃ W5, W5 = W4 := ⟨_, rfl⟩
        obtain ⟨S5, hS5⟩ : ∃ S5, S5 = (s.setT i ⟨t.next + 1, t.regs, t.wait⟩) := ⟨_, rfl⟩
        have hD5 : DS w W5 W2.heap.size xb ob g' cap' s.ths.length (.slice (some ⟨sg, 0, none⟩) s.ths.length sc) s x S5 vs := by rw [hW5, hS5]; exact HD4.out
        have HS5 : Hid (stepP model s i t x = S5) := by
          show _ = _
          rw [hS5]
          have hq := HQ.out
          unfold stepP; rw [if_neg (by omega), if_neg (by omega), if_neg (by omega), if_neg (by omega), if_neg (by omega)]
        rw [← hW5]
        clear hW5 hS5
        clear p0 p1 p2 p3 p4 n0 n5 nr cf hXl4 hOl4 hOf4 hSl4 hCl4 om sm s0 s1 s2 s3 s4
        have HO5 := hD5.O
        have q0 := cell_of HO5 0 (.slice (some ⟨g', 0, none⟩) s.ths.length cap') rfl
        have q1 := cell_of HO5 1 (.int .i64 (S5.m0 : Nat)) rfl
        have q2 := cell_of HO5 2 (.int .i64 (S5.m1 : Nat)) rfl
        have q3 := cell_of HO5 3 (.int .i64 (S5.m2 : Nat)) rfl
        have q4 := cell_of HO5 4 (.int .i64 (S5.m3 : Nat)) rfl
        have hR5 := hD5.R
        have r0 := cell_of hR5 0 _ rfl
        have r1 := cell_of hR5 1 _ rfl
        have r2 := cell_of hR5 2 _ rfl
        have r3 := cell_of hR5 3 _ rfl
        have r4 := cell_of hR5 4 _ rfl
        have rf5 := frozen_of hR5
        have hOl5 := heap_lt HO5
        have hRl5 := heap_lt hR5
        have HD5 : Hid (DS _ _ _ _ _ _ _ _ _ _ _ _ _) := hD5
        have HRR : Hid (W5.heap[w.heap.size + 1]? = _) := hR5
        clear HO5 hR5 hD5
        go_wp2_with fail
        have hD := setR_at HRR.out (.slice (some ⟨g', 0, none⟩) s.ths.length cap') S5
        have d0 := cell_of hD 0 (.slice (some ⟨g', 0, none⟩) s.ths.length cap') rfl
        have d1 := cell_of hD 1 (.int .i64 (S5.m0 : Nat)) rfl
        have d2 := cell_of hD 2 (.int .i64 (S5.m1 : Nat)) rfl
        have d3 := cell_of hD 3 (.int .i64 (S5.m2 : Nat)) rfl
        have d4 := cell_of hD 4 (.int .i64 (S5.m3 : Nat)) rfl
        unfold setR at d0 d1 d2 d3 d4
        refine bodyPost_ret (v := .tuple #[.agg #[(.slice (some ⟨g', 0, none⟩) s.ths.length cap'), .int .i64 (S5.m0 : Nat), .int .i64 (S5.m1 : Nat), .int .i64 (S5.m2 : Nat), .int .i64 (S5.m3 : Nat)], .bool true]) (by simp [results, Tryz.results110, go_sem, d0, d1, d2, d3, d4]) rfl (HD5.out.end_ HCAN.out HS5.out)
      · go_upto_region 28 with fail
        obtain ⟨W5, hW5⟩ : ∃ W5, W5 = W4 := ⟨_, rfl⟩
        obtain ⟨S5, hS5⟩ : ∃ S5, S5 = (s.setT i ⟨t.next + 1, t.regs, t.wait⟩) := ⟨_, rfl⟩
        have hD5 : DS w W5 W2.heap.size xb ob g' cap' s.ths.length (.slice (some ⟨sg, 0, none⟩) s.ths.length sc) s x S5 vs := by rw [hW5, hS5]; exact HD4.out
        have HS5 : Hid (stepP model s i t x = S5) := by
          show _ = _
          rw [hS5]
          have hq := HQ.out
          unfold stepP; rw [if_neg (by omega), if_neg (by omega), if_neg (by omega), if_neg (by omega), if_neg (by omega)]
        rw [← hW5]
        clear hW5 hS5
        clear p0 p1 p2 p3 p4 n0 n5 nr cf hXl4 hOl4 hOf4 hSl4 hCl4 om sm s0 s1 s2 s3 s4
        have HO5 := hD5.O
        have q0 := cell_of HO5 0 (.slice (some ⟨g', 0, none⟩) s.ths.length cap') rfl
        have q1 := cell_of HO5 1 (.int .i64 (S5.m0 : Nat)) rfl
        have q2 := cell_of HO5 2 (.int .i64 (S5.m1 : Nat)) rfl
        have q3 := cell_of HO5 3 (.int .i64 (S5.m2 : Nat)) rfl
        have q4 := cell_of HO5 4 (.int .i64 (S5.m3 : Nat)) rfl
        have hR5 := hD5.R
        have r0 := cell_of hR5 0 _ rfl
        have r1 := cell_of hR5 1 _ rfl
        have r2 := cell_of hR5 2 _ rfl
        have r3 := cell_of hR5 3 _ rfl
        have r4 := cell_of hR5 4 _ rfl
        have rf5 := frozen_of hR5
        have hOl5 := heap_lt HO5
        have hRl5 := heap_lt hR5
        have HD5 : Hid (DS _ _ _ _ _ _ _ _ _ _ _ _ _) := hD5
        have HRR : Hid (W5.heap[w.heap.size + 1]? = _) := hR5
        clear HO5 hR5 hD5
        go_wp2_with fail
        have hD := setR_at HRR.out (.slice (some ⟨g', 0, none⟩) s.ths.length cap') S5
        have d0 := cell_of hD 0 (.slice (some ⟨g', 0, none⟩) s.ths.length cap') rfl
        have d1 := cell_of hD 1 (.int .i64 (S5.m0 : Nat)) rfl
        have d2 := cell_of hD 2 (.int .i64 (S5.m1 : Nat)) rfl
        have d3 := cell_of hD 3 (.int .i64 (S5.m2 : Nat)) rfl
        have d4 := cell_of hD 4 (.int .i64 (S5.m3 : Nat)) rfl
        unfold setR at d0 d1 d2 d3 d4
        refine bodyPost_ret (v := .tuple #[.agg #[(.slice (some ⟨g', 0, none⟩) s.ths.length cap'), .int .i64 (S5.m0 : Nat), .int .i64 (S5.m1 : Nat), .int .i64 (S5.m2 : Nat), .int .i64 (S5.m3 : Nat)], .bool true]) (by simp [results, Tryz.results110, go_sem, d0, d1, d2, d3, d4]) rfl (HD5.out.end_ HCAN.out HS5.out)
  · have hnx' : decide ((l.length : Int) ≤ (t.next : Int)) = true := by simp; omega
    have HCAN : Hid (canP l t = none) := by
      show _ = _
      unfold canP
      rw [List.getElem?_eq_none (by omega)]
    go_enter Tryz.func110, Tryz.ntmps110
    go_wp2_with fail
    go_quiet (fail)
    go_wp2_with fail
    have hR2 : ((((w.alloc (.cells #[.slice (some ⟨sg, 0, none⟩) s.ths.length sc, .int .i64 (s.m0 : Nat), .int .i64 (s.m1 : Nat), .int .i64 (s.m2 : Nat), .int .i64 (s.m3 : Nat)] 153)).alloc (.cells #[.slice none 0 0, .int .i64 0, .int .i64 0, .int .i64 0, .int .i64 0] 153)).drewN nq)).heap[w.heap.size + 1]? = some (.cells #[.slice none 0 0, .int .i64 0, .int .i64 0, .int .i64 0, .int .i64 0] 153 (0, 0)) := new_at (by simp) _
    have hD := setR_at hR2 (.slice (some ⟨sg, 0, none⟩) s.ths.length sc) s
    have d0 := cell_of hD 0 (.slice (some ⟨sg, 0, none⟩) s.ths.length sc) rfl
    have d1 := cell_of hD 1 (.int .i64 (s.m0 : Nat)) rfl
    have d2 := cell_of hD 2 (.int .i64 (s.m1 : Nat)) rfl
    have d3 := cell_of hD 3 (.int .i64 (s.m2 : Nat)) rfl
    have d4 := cell_of hD 4 (.int .i64 (s.m3 : Nat)) rfl
    unfold setR at d0 d1 d2 d3 d4
    refine bodyPost_ret (v := .tuple #[.agg #[.slice (some ⟨sg, 0, none⟩) s.ths.length sc, .int .i64 (s.m0 : Nat), .int .i64 (s.m1 : Nat), .int .i64 (s.m2 : Nat), .int .i64 (s.m3 : Nat)], .bool false]) (by simp [results, Tryz.results110, go_sem, d0, d1, d2, d3, d4]) rfl (PostD.no HCAN.out (gb_setR (gb_drewN HG0.out nq) (by omega) (.slice (some ⟨sg, 0, none⟩) s.ths.length sc) s) rfl)
end Go.Proofs.YtmpaeladhoomoaaGreatDoor
