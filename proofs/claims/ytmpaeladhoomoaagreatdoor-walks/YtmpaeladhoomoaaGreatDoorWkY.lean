/-
  The document's machine: moves, walked.
  The document's Walk.
-/
import Derived.Test.YtmpaeladhoomoaaGreatDoorWkN
import Derived.Test.YtmpaeladhoomoaaGreatDoorWkX
import Derived.Deep.Cut
import Derived.Test.YtmpaeladhoomoaaGreatDoorWkW
import Derived.Test.YtmpaeladhoomoaaGreatDoorPmY
namespace Go.Proofs.YtmpaeladhoomoaaGreatDoor
open Go.RowKit

/-- A slot's value, named. -/
def NamV (a b : Value) : Nat → Prop := fun _ => b = a
/-- What moves' rounds keep. -/
def MvR (w0 : World) (B : Nat) (v : Value) (ss : List WSt) (wr : World) : Prop := w0.grownBy wr none ∧ ∃ vs, MvS wr B v ss vs
theorem MvR.grow {w0 W W' : World} {B : Nat} {v : Value} {ss : List WSt} (h : MvR w0 B v ss W) (hg : W.grownBy W' none) : MvR w0 B v ss W' := by
  obtain ⟨a, vs, b⟩ := h
  exact ⟨gb_trans a hg, vs, b.grow hg⟩

set_option maxRecDepth 100000 in
set_option maxHeartbeats 8000000 in
theorem moves_any (w : World) (T : Nat) (tt : List (List RSt)) (h : RThs w T tt) (model : Nat) (hm : 1 ≤ model ∧ model ≤ 3) (ok : Nat → Prop) (v : Value) (s : WSt) (hs : ThsAt w ok v s.ths) (h4 : tt.length ≤ 4) (hst : s.ths.length = tt.length) (hl : ∀ t ∈ s.ths, t.wait.length ≤ 900 ∧ t.next ≤ 1000 ∧ ∀ x ∈ t.wait, x.1 < 4)
    (hx : ∀ l ∈ tt, ∀ x ∈ l, x.kind ≤ 255 ∧ x.reg < 4 ∧ x.place < 4 ∧ x.skip ≤ 1000) :
    Calls Tryz.prog 68 #[.pointer (some ⟨T, 0, none⟩), .int .i64 (model : Nat), .agg #[v, .int .i64 (s.m0 : Nat), .int .i64 (s.m1 : Nat), .int .i64 (s.m2 : Nat), .int .i64 (s.m3 : Nat)]] w fun e w' => ∃ v' vs, e = .returned v' ∧ MvS w' (w.heap.size + 1) v' (movesS model tt s tt.length) vs ∧ w.grownBy w' none := by
  have HDN : Hid (∀ (W' : World) (i : Nat) (l : List RSt) (t : WTh), w.grownBy W' none → tt[i]? = some l → s.ths[i]? = some t → Calls Tryz.prog 110 #[.pointer (some ⟨T, 0, none⟩), .int .i64 (model : Nat), .agg #[v, .int .i64 (s.m0 : Nat), .int .i64 (s.m1 : Nat), .int .i64 (s.m2 : Nat), .int .i64 (s.m3 : Nat)], .int .i64 (i : Nat)] W' fun e w' => PostD W' model s i l t e w') :=
    fun W' i l t hg hl1 ht1 => done_any W' T tt (h.grow hg) model _ v s (hs.grow (w' := W') (fun y hy => hg.block y hy (by simp))) (by omega) (fun t ht => ⟨(hl t ht).1, (hl t ht).2.1⟩) i l t hl1 ht1 (hx l (List.mem_of_getElem? hl1))
  have HFL : Hid (∀ (W' : World) (i k : Nat) (t : WTh) (x : Nat × Nat), w.grownBy W' none → s.ths[i]? = some t → t.wait[k]? = some x → Calls Tryz.prog 111 #[.agg #[v, .int .i64 (s.m0 : Nat), .int .i64 (s.m1 : Nat), .int .i64 (s.m2 : Nat), .int .i64 (s.m3 : Nat)], .int .i64 (i : Nat), .int .i64 (k : Nat)] W' fun e w' => ∃ v', e = .returned (.agg (memC v' (flushP s i k t x))) ∧ ThsAt w' (newB W' w') v' (flushP s i k t x).ths ∧ W'.grownBy w' none) :=
    fun W' i k t x hg ht1 hx1 => flushed_any W' _ v s (hs.grow (w' := W') (fun y hy => hg.block y hy (by simp))) (by omega) (fun t ht => Nat.le_trans (hl t ht).1 (by omega)) i k t x ht1 hx1 ((hl t (List.mem_of_getElem? ht1)).2.2 x (List.mem_of_getElem? hx1))
  have HOD : Hid (∀ (W' : World) (i : Nat) (t : WTh) (p : Nat), w.grownBy W' none → s.ths[i]? = some t → Calls Tryz.prog 112 #[.agg #[v, .int .i64 (s.m0 : Nat), .int .i64 (s.m1 : Nat), .int .i64 (s.m2 : Nat), .int .i64 (s.m3 : Nat)], .int .i64 (i : Nat), .int .i64 (p : Nat)] W' fun e w' => e = .returned (.int .i64 (oldP p 0 t.wait)) ∧ W'.grownBy w' none) :=
    fun W' i t p hg ht1 => oldest_any W' _ v s.ths (hs.grow (w' := W') (fun y hy => hg.block y hy (by simp))) _ _ _ _ i t ht1 (by have := (hl t (List.mem_of_getElem? ht1)).1; omega) p
  obtain ⟨ta, tcap, xs, c0, hxs, hth⟩ := h
  obtain ⟨sa, sc, rfl, hh⟩ := hs
  have HSS : Hid (∀ (i : Nat) (t : WTh), s.ths[i]? = some t → ∃ g wa wc, sa = some ⟨g, 0, none⟩ ∧ w.cell? ⟨g, i * 6 + 5, none⟩ = some (.slice wa t.wait.length wc)) := fun i t ht => by
    obtain ⟨_, g, wv, a1, _, _, _, a5, wa, wc, a6, _⟩ := hh i t ht
    exact ⟨g, wa, wc, a1, by rw [a5, a6]⟩
  have HC0 : Hid (w.cell? ⟨T, 0, none⟩ = some (.slice ta tt.length tcap)) := c0
  have HL : Hid (∀ t ∈ s.ths, t.wait.length ≤ 900 ∧ t.next ≤ 1000 ∧ ∀ x ∈ t.wait, x.1 < 4) := hl
  have HST : Hid (s.ths.length = tt.length) := hst
  clear hh hxs hth hl hx c0 hst
  obtain ⟨is_, his, hs0, hs1, hs2⟩ : ∃ i, Tryz.prog.info? 153 = some i ∧ i.zero = some (.agg #[.slice none 0 0, .int .i64 0, .int .i64 0, .int .i64 0, .int .i64 0]) ∧ i.size = 5 ∧ i.bytes = 56 := by
    have := infoStateR
    cases hq : Tryz.prog.info? 153 with
    | none => rw [hq] at this; simp at this
    | some i => rw [hq] at this; simp at this; exact ⟨i, rfl, this.1, this.2.1, this.2.2⟩
  obtain ⟨w0, hw0⟩ : ∃ w0, w0 = w.alloc (.cells #[.slice sa s.ths.length sc, .int .i64 (s.m0 : Nat), .int .i64 (s.m1 : Nat), .int .i64 (s.m2 : Nat), .int .i64 (s.m3 : Nat)] 153) := ⟨_, rfl⟩
  have HB0 : Hid (w0.heap[w.heap.size]? = some (.cells #[.slice sa s.ths.length sc, .int .i64 (s.m0 : Nat), .int .i64 (s.m1 : Nat), .int .i64 (s.m2 : Nat), .int .i64 (s.m3 : Nat)] 153 (0, 0))) := by show _ = _; rw [hw0]; exact heap_alloc_new w _
  have HG0 : Hid (w.grownBy w0 none) := by show World.grownBy _ _ _; rw [hw0]; exact gb_alloc (gb_refl _ _) _
  have HZ0 : Hid (w0.heap.size = w.heap.size + 1) := by show _ = _; rw [hw0]; simp
  go_enter Tryz.func68, Tryz.ntmps68
  go_wp2_with fail
  rw [← hw0]
  clear hw0
  go_loopw [7, 8] (fun v7 v8 wr => ∃ (vo : Value) (k : Nat), NamV v7 vo k ∧ v8 = .int .i64 (k : Nat) ∧ k ≤ tt.length ∧ (movesS model tt s k).length ≤ k * 6 ∧ Hid (MvR w0 (w.heap.size + 1) v7 (movesS model tt s k) wr)) (fun _ v8 _ => tt.length - (intOf v8).toNat)
  case atStart => exact ⟨_, 0, rfl, rfl, Nat.zero_le _, Nat.le_refl _, gb_refl _ _, [], MvS.nil _ _⟩
  case round =>
    obtain ⟨vout, k, hvo, rfl, hk, hkl, HMR⟩ := hrel
    unfold NamV at hvo
    subst hvo
    have c0 := gb_cell HMR.out.1 (gb_cell HG0.out HC0.out (by simp)) (by simp)
    have hTl := World.block_lt_of_cell? wr ⟨T, 0, none⟩ c0
    have hS := heap_gb HMR.out.1 HB0.out (by simp)
    have s0 := cell_of hS 0 _ rfl
    have s1 := cell_of hS 1 _ rfl
    have s2 := cell_of hS 2 _ rfl
    have s3 := cell_of hS 3 _ rfl
    have s4 := cell_of hS 4 _ rfl
    have hSl := heap_lt hS
    clear hS
    by_cases hkt : k < tt.length
    · have hk' : decide ((k : Int) < (tt.length : Int)) = true := by simp; omega
      obtain ⟨l, hl⟩ : ∃ l, tt[k]? = some l := ⟨tt[k], List.getElem?_eq_getElem hkt⟩
      obtain ⟨t, ht⟩ : ∃ t, s.ths[k]? = some t := ⟨s.ths[k]'(by rw [HST.out]; exact hkt), List.getElem?_eq_getElem _⟩
      have m1 : (k : Int) < (s.ths.length : Int) := by have := HST.out; omega
      have HLT : Hid (tt[k]? = some l) := hl
      have HT : Hid (s.ths[k]? = some t) := ht
      have HSUC : Hid (movesS model tt s (k + 1) = movesS model tt s k ++ mvS model s k l t) := movesS_succ model tt s k l t hl ht
      clear hl ht
      have hm3 : model = 1 ∨ model = 2 ∨ model = 3 := by omega
      rcases hm3 with hm1 | hm1 | hm1
      · have HMM : Hid (model = 1) := hm1
        have mb2 : ((model : Int) == 2) = false := by rw [beq_eq_false_iff_ne]; omega
        have mb3 : ((model : Int) == 3) = false := by rw [beq_eq_false_iff_ne]; omega
        clear hm1
        obtain ⟨ssk, hssk⟩ : ∃ ssk, ssk = movesS model tt s k := ⟨_, rfl⟩
        rw [← hssk] at hkl HMR HSUC
        clear hssk
        go_wp2_with fail
        refine (HDN.out wr k l t (gb_trans HG0.out HMR.out.1) HLT.out HT.out).mono ?_
        rintro e w1 ⟨hg1, hpost⟩
        clear c0 hTl s0 s1 s2 s3 s4 hSl
        cases hcan : canP l t with
        | none =>
          rw [hcan] at hpost
          obtain ⟨ua, un, uc, u1, u2, u3, u4, rfl⟩ := hpost
          have HDO : Hid (doneS model s k l t = []) := by show _ = _; unfold doneS; rw [hcan]
          have HL1 : Hid (ssk.length ≤ k * 6 + 1) := by show _ ≤ _; omega
          have HMX : Hid (MvR w0 (w.heap.size + 1) vout ssk (w1.alloc (.cells #[.slice ua un uc, .int .i64 u1, .int .i64 u2, .int .i64 u3, .int .i64 u4] 153))) := HMR.out.grow (gb_alloc hg1 _)
          obtain ⟨wx, hwx⟩ : ∃ wx, wx = w1.alloc (.cells #[.slice ua un uc, .int .i64 u1, .int .i64 u2, .int .i64 u3, .int .i64 u4] 153) := ⟨_, rfl⟩
          rw [← hwx] at HMX
          clear hcan hg1
          go_upto_region 8 with fail
          rw [← hwx]
          clear hwx HMR
          have c0 := gb_cell HMX.out.1 (gb_cell HG0.out HC0.out (by simp)) (by simp)
          have hTl := World.block_lt_of_cell? wx ⟨T, 0, none⟩ c0
          have hS := heap_gb HMX.out.1 HB0.out (by simp)
          have s0 := cell_of hS 0 _ rfl
          have s1 := cell_of hS 1 _ rfl
          have s2 := cell_of hS 2 _ rfl
          have s3 := cell_of hS 3 _ rfl
          have s4 := cell_of hS 4 _ rfl
          have hSl := heap_lt hS
          clear hS
          have HTO : Hid (tsoS model s k t = []) := if_neg (fun hh => by have := hh.1; have := HMM.out; omega)
          go_wp2_with fail
          go_loopw [7, 11] (fun v7 v11 wr2 => v11 = .int .i64 0 ∧ v7 = vout ∧ wr2 = wx) (fun _ _ _ => 0)
          case atStart => exact ⟨rfl, rfl, rfl⟩
          case round =>
            obtain ⟨rfl, rfl, rfl⟩ := hrel
            go_wp2_with fail
            have HEQ : movesS model tt s (k + 1) = ssk := by
              rw [HSUC.out]
              unfold mvS
              rw [HDO.out, HTO.out, if_neg (by have := HMM.out; omega)]
              simp
            first
              | (refine ⟨⟨_, k + 1, rfl, by first | go_num | omega, by omega, ?_, ?_⟩, by simp [intOf]; omega⟩)
              | (go_roundw; (case measure => simp [intOf]; omega); (case rel => refine ⟨_, k + 1, rfl, by go_num, by omega, ?_, ?_⟩))
            · rw [HEQ]
              have := HL1.out
              try simp only [List.length_append, List.length_cons, List.length_nil] at *
              omega
            · show MvR _ _ _ _ _
              rw [HEQ]
              exact HMX.out
        | some x =>
          rw [hcan] at hpost
          obtain ⟨v', rfl, hts⟩ := hpost
          have HTS : Hid (ThsAt w1 (newB wr w1) v' (stepP model s k t x).ths) := hts
          have HDO : Hid (doneS model s k l t = [stepP model s k t x]) := by show _ = _; unfold doneS; rw [hcan]
          obtain ⟨S1, hS1⟩ : ∃ S1, S1 = stepP model s k t x := ⟨_, rfl⟩
          rw [← hS1] at HTS HDO ⊢
          obtain ⟨va1, vc1, hve, _⟩ := id HTS.out
          subst hve
          clear hts hS1 hcan
          unfold memC
          obtain ⟨vs, hMS⟩ := HMR.out.2
          have HMS : Hid (MvS wr (w.heap.size + 1) vout ssk vs) := hMS
          have HM1 : Hid (MvS w1 (w.heap.size + 1) vout ssk vs) := hMS.grow hg1
          have HGA : Hid (wr.grownBy w1 none) := hg1
          have HSZ : Hid (w.heap.size + 1 ≤ w1.heap.size) := by
            have a1 := (HMR.out.1).size
            have a2 := HZ0.out
            have a3 := hg1.size
            show _ ≤ _
            omega
          have hsz1 : w.heap.size + 1 ≤ w1.heap.size := HSZ.out
          clear hMS hg1
          go_upto_region 8 with (at_builtin; go_must (refine wpList_append_own_at _ (by rfl) _ _ 155 (by rfl) (w.heap.size + 1) 153 is_ _ 5 56 Tryz.underlying155 his hs0 hs1 hs2 rfl (by decide) vout ssk.length (ssF ssk vs) (by rfl) (HM1.out.grow (gb_alloc (gb_alloc (gb_refl w1 none) _) _)).row ⟨w1.heap.size + 1, 0, none⟩ 1 1 (memC (.slice va1 S1.ths.length vc1) S1).toList (by rfl) (by rfl) (fun j u hu => by rw [addr_add]; exact cell_of (new_at (H := w1.heap.size + 1) (by simp) _) j u (by simpa [memC] using hu)) (memC_one _ HTS.out.one _) (by unfold maxLen; omega) (by omega) (by simp; omega) ?_; intro vx wx own3 hg3 _ hat3))
          have HMRwx : Hid (MvR w0 (w.heap.size + 1) vx (ssk ++ [S1]) wx) := ⟨gb_new (gb_trans HMR.out.1 (gb_trans HGA.out (gb_alloc (gb_alloc (gb_refl w1 none) _) _))) hg3 (fun y e => Or.inr (by have := (HMS.out.row.lt y e).1; have := HZ0.out; omega)), _, HMS.out.push (by have := HMR.out.1.size; have := HZ0.out; omega) HGA.out HTS.out (gb_alloc (gb_alloc (gb_refl w1 none) _) _) hg3 own3 hat3⟩
          clear own3 hg3 hat3 HGA HMS HM1 hsz1 HSZ HTS
          have HL1 : Hid ((ssk ++ [S1]).length ≤ k * 6 + 1) := by show _ ≤ _; simp; omega
          obtain ⟨ssx, hssx⟩ : ∃ ssx, ssx = ssk ++ [S1] := ⟨_, rfl⟩
          have HSX : Hid (ssx = _) := hssx
          rw [← hssx] at HL1 HMRwx
          clear hssx HMR
          have c0 := gb_cell HMRwx.out.1 (gb_cell HG0.out HC0.out (by simp)) (by simp)
          have hTl := World.block_lt_of_cell? wx ⟨T, 0, none⟩ c0
          have hS := heap_gb HMRwx.out.1 HB0.out (by simp)
          have s0 := cell_of hS 0 _ rfl
          have s1 := cell_of hS 1 _ rfl
          have s2 := cell_of hS 2 _ rfl
          have s3 := cell_of hS 3 _ rfl
          have s4 := cell_of hS 4 _ rfl
          have hSl := heap_lt hS
          clear hS
          have HTO : Hid (tsoS model s k t = []) := if_neg (fun hh => by have := hh.1; have := HMM.out; omega)
          go_wp2_with fail
          go_loopw [7, 11] (fun v7 v11 wr2 => v11 = .int .i64 0 ∧ v7 = vx ∧ wr2 = wx) (fun _ _ _ => 0)
          case atStart => exact ⟨rfl, rfl, rfl⟩
          case round =>
            obtain ⟨rfl, rfl, rfl⟩ := hrel
            go_wp2_with fail
            have HEQ : movesS model tt s (k + 1) = ssx := by
              rw [HSUC.out]
              unfold mvS
              rw [HDO.out, HTO.out, if_neg (by have := HMM.out; omega)]
              rw [HSX.out]; simp
            first
              | (refine ⟨⟨_, k + 1, rfl, by first | go_num | omega, by omega, ?_, ?_⟩, by simp [intOf]; omega⟩)
              | (go_roundw; (case measure => simp [intOf]; omega); (case rel => refine ⟨_, k + 1, rfl, by go_num, by omega, ?_, ?_⟩))
            · rw [HEQ]
              have := HL1.out
              try simp only [List.length_append, List.length_cons, List.length_nil] at *
              omega
            · show MvR _ _ _ _ _
              rw [HEQ]
              exact HMRwx.out
      · have HMM : Hid (model = 2) := hm1
        have mb2 : ((model : Int) == 2) = true := by rw [beq_iff_eq]; omega
        have mb3 : ((model : Int) == 3) = false := by rw [beq_eq_false_iff_ne]; omega
        clear hm1
        obtain ⟨ssk, hssk⟩ : ∃ ssk, ssk = movesS model tt s k := ⟨_, rfl⟩
        rw [← hssk] at hkl HMR HSUC
        clear hssk
        go_wp2_with fail
        refine (HDN.out wr k l t (gb_trans HG0.out HMR.out.1) HLT.out HT.out).mono ?_
        rintro e w1 ⟨hg1, hpost⟩
        clear c0 hTl s0 s1 s2 s3 s4 hSl
        cases hcan : canP l t with
        | none =>
          rw [hcan] at hpost
          obtain ⟨ua, un, uc, u1, u2, u3, u4, rfl⟩ := hpost
          have HDO : Hid (doneS model s k l t = []) := by show _ = _; unfold doneS; rw [hcan]
          have HL1 : Hid (ssk.length ≤ k * 6 + 1) := by show _ ≤ _; omega
          have HMX : Hid (MvR w0 (w.heap.size + 1) vout ssk (w1.alloc (.cells #[.slice ua un uc, .int .i64 u1, .int .i64 u2, .int .i64 u3, .int .i64 u4] 153))) := HMR.out.grow (gb_alloc hg1 _)
          obtain ⟨wx, hwx⟩ : ∃ wx, wx = w1.alloc (.cells #[.slice ua un uc, .int .i64 u1, .int .i64 u2, .int .i64 u3, .int .i64 u4] 153) := ⟨_, rfl⟩
          rw [← hwx] at HMX
          clear hcan hg1
          go_upto_region 8 with fail
          rw [← hwx]
          clear hwx HMR
          have c0 := gb_cell HMX.out.1 (gb_cell HG0.out HC0.out (by simp)) (by simp)
          have hTl := World.block_lt_of_cell? wx ⟨T, 0, none⟩ c0
          have hS := heap_gb HMX.out.1 HB0.out (by simp)
          have s0 := cell_of hS 0 _ rfl
          have s1 := cell_of hS 1 _ rfl
          have s2 := cell_of hS 2 _ rfl
          have s3 := cell_of hS 3 _ rfl
          have s4 := cell_of hS 4 _ rfl
          have hSl := heap_lt hS
          clear hS
          obtain ⟨sg, wa, wc, rfl, a5⟩ := HSS.out k t HT.out
          have a5 := gb_cell HMX.out.1 (gb_cell HG0.out a5 (by simp)) (by simp)
          have hsl := World.block_lt_of_cell? wx ⟨sg, k * 6 + 5, none⟩ a5
          by_cases hwl : 0 < t.wait.length
          · have g8 : decide ((0 : Int) < (t.wait.length : Int)) = true := decide_eq_true (by omega)
            have g9 : decide (0 < t.wait.length) = true := decide_eq_true (by omega)
            obtain ⟨x0, hx0⟩ : ∃ x, t.wait[0]? = some x := ⟨t.wait[0], List.getElem?_eq_getElem hwl⟩
            have HX0 : Hid (t.wait[0]? = some x0) := hx0
            clear hx0
            go_wp2_with fail
            refine (HFL.out wx k 0 t x0 (gb_trans HG0.out HMX.out.1) HT.out HX0.out).mono ?_
            rintro e w5 ⟨v5, rfl, hts, hg1⟩
            have HTS : Hid (ThsAt w5 (newB wx w5) v5 (flushP s k 0 t x0).ths) := hts
            have HTO : Hid (tsoS model s k t = [flushP s k 0 t x0]) := by
              show _ = _
              unfold tsoS
              rw [if_pos ⟨HMM.out, hwl⟩, List.getD_eq_getElem?_getD, HX0.out]
              rfl
            obtain ⟨S5, hS5⟩ : ∃ S5, S5 = flushP s k 0 t x0 := ⟨_, rfl⟩
            rw [← hS5] at HTS HTO ⊢
            clear hts hS5 a5 hsl c0 hTl s0 s1 s2 s3 s4 hSl
            unfold memC
            have hl1 := HL1.out
            obtain ⟨vs, hMS⟩ := HMX.out.2
            have HMS : Hid (MvS wx (w.heap.size + 1) vout ssk vs) := hMS
            have HM1 : Hid (MvS w5 (w.heap.size + 1) vout ssk vs) := hMS.grow hg1
            have HGA : Hid (wx.grownBy w5 none) := hg1
            have HSZ : Hid (w.heap.size + 1 ≤ w5.heap.size) := by
              have a1 := (HMX.out.1).size
              have a2 := HZ0.out
              have a3 := hg1.size
              show _ ≤ _
              omega
            have hsz1 : w.heap.size + 1 ≤ w5.heap.size := HSZ.out
            clear hMS hg1
            go_wp2_with (at_builtin; go_must (refine wpList_append_own_at _ (by rfl) _ _ 155 (by rfl) (w.heap.size + 1) 153 is_ _ 5 56 Tryz.underlying155 his hs0 hs1 hs2 rfl (by decide) vout ssk.length (ssF ssk vs) (by rfl) (HM1.out.grow (gb_alloc (gb_refl w5 none) _)).row ⟨w5.heap.size, 0, none⟩ 1 1 (memC v5 S5).toList (by rfl) (by rfl) (fun j u hu => by rw [addr_add]; exact cell_of (heap_alloc_new w5 _) j u (by simpa [memC] using hu)) (memC_one _ HTS.out.one _) (by unfold maxLen; omega) (by omega) (by simp; omega) ?_; intro v6 w6 own3 hg3 _ hat3))
            have HMRw6 : Hid (MvR w0 (w.heap.size + 1) v6 (ssk ++ [S5]) w6) := ⟨gb_new (gb_trans HMX.out.1 (gb_trans HGA.out (gb_alloc (gb_refl w5 none) _))) hg3 (fun y e => Or.inr (by have := (HMS.out.row.lt y e).1; have := HZ0.out; omega)), _, HMS.out.push (by have := HMX.out.1.size; have := HZ0.out; omega) HGA.out HTS.out (gb_alloc (gb_refl w5 none) _) hg3 own3 hat3⟩
            clear own3 hg3 hat3 HGA HMS HM1 hsz1 HSZ HTS
            go_loopw [7, 11] (fun v7 v11 wr2 => v11 = .int .i64 0 ∧ v7 = v6 ∧ wr2 = w6) (fun _ _ _ => 0)
            case atStart => exact ⟨rfl, rfl, rfl⟩
            case round =>
              obtain ⟨rfl, rfl, rfl⟩ := hrel
              go_wp2_with fail
              have HEQ : movesS model tt s (k + 1) = ssk ++ [S5] := by
                rw [HSUC.out]
                unfold mvS
                rw [HDO.out, HTO.out, if_neg (by have := HMM.out; omega)]
                simp
              first
                | (refine ⟨⟨_, k + 1, rfl, by first | go_num | omega, by omega, ?_, ?_⟩, by simp [intOf]; omega⟩)
                | (go_roundw; (case measure => simp [intOf]; omega); (case rel => refine ⟨_, k + 1, rfl, by go_num, by omega, ?_, ?_⟩))
              · rw [HEQ]
                have := HL1.out
                try simp only [List.length_append, List.length_cons, List.length_nil] at *
                omega
              · show MvR _ _ _ _ _
                rw [HEQ]
                exact HMRw6.out
          · have g8 : decide ((0 : Int) < (t.wait.length : Int)) = false := decide_eq_false (by omega)
            have g9 : decide (0 < t.wait.length) = false := decide_eq_false (by omega)
            have HTO : Hid (tsoS model s k t = []) := if_neg (fun hh => hwl hh.2)
            go_wp2_with fail
            go_loopw [7, 11] (fun v7 v11 wr2 => v11 = .int .i64 0 ∧ v7 = vout ∧ wr2 = wx) (fun _ _ _ => 0)
            case atStart => exact ⟨rfl, rfl, rfl⟩
            case round =>
              obtain ⟨rfl, rfl, rfl⟩ := hrel
              go_wp2_with fail
              have HEQ : movesS model tt s (k + 1) = ssk := by
                rw [HSUC.out]
                unfold mvS
                rw [HDO.out, HTO.out, if_neg (by have := HMM.out; omega)]
                simp
              first
                | (refine ⟨⟨_, k + 1, rfl, by first | go_num | omega, by omega, ?_, ?_⟩, by simp [intOf]; omega⟩)
                | (go_roundw; (case measure => simp [intOf]; omega); (case rel => refine ⟨_, k + 1, rfl, by go_num, by omega, ?_, ?_⟩))
              · rw [HEQ]
                have := HL1.out
                try simp only [List.length_append, List.length_cons, List.length_nil] at *
                omega
              · show MvR _ _ _ _ _
                rw [HEQ]
                exact HMX.out
        | some x =>
          rw [hcan] at hpost
          obtain ⟨v', rfl, hts⟩ := hpost
          have HTS : Hid (ThsAt w1 (newB wr w1) v' (stepP model s k t x).ths) := hts
          have HDO : Hid (doneS model s k l t = [stepP model s k t x]) := by show _ = _; unfold doneS; rw [hcan]
          obtain ⟨S1, hS1⟩ : ∃ S1, S1 = stepP model s k t x := ⟨_, rfl⟩
          rw [← hS1] at HTS HDO ⊢
          obtain ⟨va1, vc1, hve, _⟩ := id HTS.out
          subst hve
          clear hts hS1 hcan
          unfold memC
          obtain ⟨vs, hMS⟩ := HMR.out.2
          have HMS : Hid (MvS wr (w.heap.size + 1) vout ssk vs) := hMS
          have HM1 : Hid (MvS w1 (w.heap.size + 1) vout ssk vs) := hMS.grow hg1
          have HGA : Hid (wr.grownBy w1 none) := hg1
          have HSZ : Hid (w.heap.size + 1 ≤ w1.heap.size) := by
            have a1 := (HMR.out.1).size
            have a2 := HZ0.out
            have a3 := hg1.size
            show _ ≤ _
            omega
          have hsz1 : w.heap.size + 1 ≤ w1.heap.size := HSZ.out
          clear hMS hg1
          go_upto_region 8 with (at_builtin; go_must (refine wpList_append_own_at _ (by rfl) _ _ 155 (by rfl) (w.heap.size + 1) 153 is_ _ 5 56 Tryz.underlying155 his hs0 hs1 hs2 rfl (by decide) vout ssk.length (ssF ssk vs) (by rfl) (HM1.out.grow (gb_alloc (gb_alloc (gb_refl w1 none) _) _)).row ⟨w1.heap.size + 1, 0, none⟩ 1 1 (memC (.slice va1 S1.ths.length vc1) S1).toList (by rfl) (by rfl) (fun j u hu => by rw [addr_add]; exact cell_of (new_at (H := w1.heap.size + 1) (by simp) _) j u (by simpa [memC] using hu)) (memC_one _ HTS.out.one _) (by unfold maxLen; omega) (by omega) (by simp; omega) ?_; intro vx wx own3 hg3 _ hat3))
          have HMRwx : Hid (MvR w0 (w.heap.size + 1) vx (ssk ++ [S1]) wx) := ⟨gb_new (gb_trans HMR.out.1 (gb_trans HGA.out (gb_alloc (gb_alloc (gb_refl w1 none) _) _))) hg3 (fun y e => Or.inr (by have := (HMS.out.row.lt y e).1; have := HZ0.out; omega)), _, HMS.out.push (by have := HMR.out.1.size; have := HZ0.out; omega) HGA.out HTS.out (gb_alloc (gb_alloc (gb_refl w1 none) _) _) hg3 own3 hat3⟩
          clear own3 hg3 hat3 HGA HMS HM1 hsz1 HSZ HTS
          have HL1 : Hid ((ssk ++ [S1]).length ≤ k * 6 + 1) := by show _ ≤ _; simp; omega
          obtain ⟨ssx, hssx⟩ : ∃ ssx, ssx = ssk ++ [S1] := ⟨_, rfl⟩
          have HSX : Hid (ssx = _) := hssx
          rw [← hssx] at HL1 HMRwx
          clear hssx HMR
          have c0 := gb_cell HMRwx.out.1 (gb_cell HG0.out HC0.out (by simp)) (by simp)
          have hTl := World.block_lt_of_cell? wx ⟨T, 0, none⟩ c0
          have hS := heap_gb HMRwx.out.1 HB0.out (by simp)
          have s0 := cell_of hS 0 _ rfl
          have s1 := cell_of hS 1 _ rfl
          have s2 := cell_of hS 2 _ rfl
          have s3 := cell_of hS 3 _ rfl
          have s4 := cell_of hS 4 _ rfl
          have hSl := heap_lt hS
          clear hS
          obtain ⟨sg, wa, wc, rfl, a5⟩ := HSS.out k t HT.out
          have a5 := gb_cell HMRwx.out.1 (gb_cell HG0.out a5 (by simp)) (by simp)
          have hsl := World.block_lt_of_cell? wx ⟨sg, k * 6 + 5, none⟩ a5
          by_cases hwl : 0 < t.wait.length
          · have g8 : decide ((0 : Int) < (t.wait.length : Int)) = true := decide_eq_true (by omega)
            have g9 : decide (0 < t.wait.length) = true := decide_eq_true (by omega)
            obtain ⟨x0, hx0⟩ : ∃ x, t.wait[0]? = some x := ⟨t.wait[0], List.getElem?_eq_getElem hwl⟩
            have HX0 : Hid (t.wait[0]? = some x0) := hx0
            clear hx0
            go_wp2_with fail
            refine (HFL.out wx k 0 t x0 (gb_trans HG0.out HMRwx.out.1) HT.out HX0.out).mono ?_
            rintro e w5 ⟨v5, rfl, hts, hg1⟩
            have HTS : Hid (ThsAt w5 (newB wx w5) v5 (flushP s k 0 t x0).ths) := hts
            have HTO : Hid (tsoS model s k t = [flushP s k 0 t x0]) := by
              show _ = _
              unfold tsoS
              rw [if_pos ⟨HMM.out, hwl⟩, List.getD_eq_getElem?_getD, HX0.out]
              rfl
            obtain ⟨S5, hS5⟩ : ∃ S5, S5 = flushP s k 0 t x0 := ⟨_, rfl⟩
            rw [← hS5] at HTS HTO ⊢
            clear hts hS5 a5 hsl c0 hTl s0 s1 s2 s3 s4 hSl
            unfold memC
            have hl1 := HL1.out
            obtain ⟨vs, hMS⟩ := HMRwx.out.2
            have HMS : Hid (MvS wx (w.heap.size + 1) vx ssx vs) := hMS
            have HM1 : Hid (MvS w5 (w.heap.size + 1) vx ssx vs) := hMS.grow hg1
            have HGA : Hid (wx.grownBy w5 none) := hg1
            have HSZ : Hid (w.heap.size + 1 ≤ w5.heap.size) := by
              have a1 := (HMRwx.out.1).size
              have a2 := HZ0.out
              have a3 := hg1.size
              show _ ≤ _
              omega
            have hsz1 : w.heap.size + 1 ≤ w5.heap.size := HSZ.out
            clear hMS hg1
            go_wp2_with (at_builtin; go_must (refine wpList_append_own_at _ (by rfl) _ _ 155 (by rfl) (w.heap.size + 1) 153 is_ _ 5 56 Tryz.underlying155 his hs0 hs1 hs2 rfl (by decide) vx ssx.length (ssF ssx vs) (by rfl) (HM1.out.grow (gb_alloc (gb_refl w5 none) _)).row ⟨w5.heap.size, 0, none⟩ 1 1 (memC v5 S5).toList (by rfl) (by rfl) (fun j u hu => by rw [addr_add]; exact cell_of (heap_alloc_new w5 _) j u (by simpa [memC] using hu)) (memC_one _ HTS.out.one _) (by unfold maxLen; omega) (by omega) (by simp; omega) ?_; intro v6 w6 own3 hg3 _ hat3))
            have HMRw6 : Hid (MvR w0 (w.heap.size + 1) v6 (ssx ++ [S5]) w6) := ⟨gb_new (gb_trans HMRwx.out.1 (gb_trans HGA.out (gb_alloc (gb_refl w5 none) _))) hg3 (fun y e => Or.inr (by have := (HMS.out.row.lt y e).1; have := HZ0.out; omega)), _, HMS.out.push (by have := HMRwx.out.1.size; have := HZ0.out; omega) HGA.out HTS.out (gb_alloc (gb_refl w5 none) _) hg3 own3 hat3⟩
            clear own3 hg3 hat3 HGA HMS HM1 hsz1 HSZ HTS
            go_loopw [7, 11] (fun v7 v11 wr2 => v11 = .int .i64 0 ∧ v7 = v6 ∧ wr2 = w6) (fun _ _ _ => 0)
            case atStart => exact ⟨rfl, rfl, rfl⟩
            case round =>
              obtain ⟨rfl, rfl, rfl⟩ := hrel
              go_wp2_with fail
              have HEQ : movesS model tt s (k + 1) = ssx ++ [S5] := by
                rw [HSUC.out]
                unfold mvS
                rw [HDO.out, HTO.out, if_neg (by have := HMM.out; omega)]
                rw [HSX.out]; simp
              first
                | (refine ⟨⟨_, k + 1, rfl, by first | go_num | omega, by omega, ?_, ?_⟩, by simp [intOf]; omega⟩)
                | (go_roundw; (case measure => simp [intOf]; omega); (case rel => refine ⟨_, k + 1, rfl, by go_num, by omega, ?_, ?_⟩))
              · rw [HEQ]
                have := HL1.out
                try simp only [List.length_append, List.length_cons, List.length_nil] at *
                omega
              · show MvR _ _ _ _ _
                rw [HEQ]
                exact HMRw6.out
          · have g8 : decide ((0 : Int) < (t.wait.length : Int)) = false := decide_eq_false (by omega)
            have g9 : decide (0 < t.wait.length) = false := decide_eq_false (by omega)
            have HTO : Hid (tsoS model s k t = []) := if_neg (fun hh => hwl hh.2)
            go_wp2_with fail
            go_loopw [7, 11] (fun v7 v11 wr2 => v11 = .int .i64 0 ∧ v7 = vx ∧ wr2 = wx) (fun _ _ _ => 0)
            case atStart => exact ⟨rfl, rfl, rfl⟩
            case round =>
              obtain ⟨rfl, rfl, rfl⟩ := hrel
              go_wp2_with fail
              have HEQ : movesS model tt s (k + 1) = ssx := by
                rw [HSUC.out]
                unfold mvS
                rw [HDO.out, HTO.out, if_neg (by have := HMM.out; omega)]
                rw [HSX.out]; simp
              first
                | (refine ⟨⟨_, k + 1, rfl, by first | go_num | omega, by omega, ?_, ?_⟩, by simp [intOf]; omega⟩)
                | (go_roundw; (case measure => simp [intOf]; omega); (case rel => refine ⟨_, k + 1, rfl, by go_num, by omega, ?_, ?_⟩))
              · rw [HEQ]
                have := HL1.out
                try simp only [List.length_append, List.length_cons, List.length_nil] at *
                omega
              · show MvR _ _ _ _ _
                rw [HEQ]
                exact HMRwx.out
      · have HMM : Hid (model = 3) := hm1
        have mb2 : ((model : Int) == 2) = false := by rw [beq_eq_false_iff_ne]; omega
        have mb3 : ((model : Int) == 3) = true := by rw [beq_iff_eq]; omega
        clear hm1
        obtain ⟨ssk, hssk⟩ : ∃ ssk, ssk = movesS model tt s k := ⟨_, rfl⟩
        rw [← hssk] at hkl HMR HSUC
        clear hssk
        go_wp2_with fail
        refine (HDN.out wr k l t (gb_trans HG0.out HMR.out.1) HLT.out HT.out).mono ?_
        rintro e w1 ⟨hg1, hpost⟩
        clear c0 hTl s0 s1 s2 s3 s4 hSl
        cases hcan : canP l t with
        | none =>
          rw [hcan] at hpost
          obtain ⟨ua, un, uc, u1, u2, u3, u4, rfl⟩ := hpost
          have HDO : Hid (doneS model s k l t = []) := by show _ = _; unfold doneS; rw [hcan]
          have HL1 : Hid (ssk.length ≤ k * 6 + 1) := by show _ ≤ _; omega
          have HMX : Hid (MvR w0 (w.heap.size + 1) vout ssk (w1.alloc (.cells #[.slice ua un uc, .int .i64 u1, .int .i64 u2, .int .i64 u3, .int .i64 u4] 153))) := HMR.out.grow (gb_alloc hg1 _)
          obtain ⟨wx, hwx⟩ : ∃ wx, wx = w1.alloc (.cells #[.slice ua un uc, .int .i64 u1, .int .i64 u2, .int .i64 u3, .int .i64 u4] 153) := ⟨_, rfl⟩
          rw [← hwx] at HMX
          clear hcan hg1
          go_upto_region 8 with fail
          rw [← hwx]
          clear hwx HMR
          have c0 := gb_cell HMX.out.1 (gb_cell HG0.out HC0.out (by simp)) (by simp)
          have hTl := World.block_lt_of_cell? wx ⟨T, 0, none⟩ c0
          have hS := heap_gb HMX.out.1 HB0.out (by simp)
          have s0 := cell_of hS 0 _ rfl
          have s1 := cell_of hS 1 _ rfl
          have s2 := cell_of hS 2 _ rfl
          have s3 := cell_of hS 3 _ rfl
          have s4 := cell_of hS 4 _ rfl
          have hSl := heap_lt hS
          clear hS
          have HTO : Hid (tsoS model s k t = []) := if_neg (fun hh => by have := hh.1; have := HMM.out; omega)
          go_wp2_with fail
          go_loopw [7, 11] (fun v7 v11 wr2 => ∃ (vo : Value) (p : Nat), NamV v7 vo p ∧ v11 = .int .i64 (p : Nat) ∧ p ≤ 4 ∧ (ssk ++ psoS s k t p).length ≤ k * 6 + 1 + p ∧ Hid (MvR w0 (w.heap.size + 1) v7 (ssk ++ psoS s k t p) wr2)) (fun _ v11 _ => 4 - (intOf v11).toNat)
          case atStart => exact ⟨_, 0, rfl, rfl, by omega, by rw [show psoS s k t 0 = [] from rfl, List.append_nil]; exact HL1.out, by show MvR _ _ _ _ _; rw [show psoS s k t 0 = [] from rfl, List.append_nil]; exact HMX.out⟩
          case round =>
            clear c0 hTl s0 s1 s2 s3 s4 hSl
            obtain ⟨vin, p, hvi, rfl, hp, hpl, HMP⟩ := hrel
            unfold NamV at hvi
            subst hvi
            have c0 := gb_cell HMP.out.1 (gb_cell HG0.out HC0.out (by simp)) (by simp)
            have hTl := World.block_lt_of_cell? wr ⟨T, 0, none⟩ c0
            have hS := heap_gb HMP.out.1 HB0.out (by simp)
            have s0 := cell_of hS 0 _ rfl
            have s1 := cell_of hS 1 _ rfl
            have s2 := cell_of hS 2 _ rfl
            have s3 := cell_of hS 3 _ rfl
            have s4 := cell_of hS 4 _ rfl
            have hSl := heap_lt hS
            clear hS
            by_cases hp4 : p < 4
            · have hp' : decide ((p : Int) < 4) = true := by simp; omega
              have HPS : Hid (_ = _) := psoS_succ s k t p
              go_wp2_with fail
              refine (HOD.out wr k t p (gb_trans HG0.out HMP.out.1) HT.out).mono ?_
              rintro e w4 ⟨rfl, hg4⟩
              have HMQ : Hid (MvR w0 (w.heap.size + 1) vin (ssk ++ psoS s k t p) w4) := HMP.out.grow hg4
              clear hg4 c0 hTl s0 s1 s2 s3 s4 hSl
              clear HMP
              rw [oldP_eq]
              cases hol : oldW p 0 t.wait with
              | none =>
                have HOL : Hid (oldW p 0 t.wait = none) := hol
                clear hol
                simp only
                go_wp2_with fail
                refine ⟨⟨_, p + 1, rfl, by go_num, by omega, ?_, ?_⟩, by simp [intOf]; omega⟩
                · rw [HPS.out, HOL.out]; simp at hpl ⊢; omega
                · show MvR _ _ _ _ _
                  rw [HPS.out, HOL.out]
                  simpa using HMQ.out
              | some j =>
                have HOL : Hid (oldW p 0 t.wait = some j) := hol
                obtain ⟨x0, HX0⟩ : ∃ x, Hid (t.wait[j]? = some x) := by
                  obtain ⟨_, x, hx⟩ := oldW_get p _ _ _ hol
                  exact ⟨x, hx⟩
                clear hol
                simp only
                have hj0 : decide ((0 : Int) ≤ (j : Int)) = true := by simp
                have c0 := gb_cell HMQ.out.1 (gb_cell HG0.out HC0.out (by simp)) (by simp)
                have hTl := World.block_lt_of_cell? w4 ⟨T, 0, none⟩ c0
                have hS := heap_gb HMQ.out.1 HB0.out (by simp)
                have s0 := cell_of hS 0 _ rfl
                have s1 := cell_of hS 1 _ rfl
                have s2 := cell_of hS 2 _ rfl
                have s3 := cell_of hS 3 _ rfl
                have s4 := cell_of hS 4 _ rfl
                have hSl := heap_lt hS
                clear hS
                go_wp2_with fail
                refine (HFL.out w4 k j t x0 (gb_trans HG0.out HMQ.out.1) HT.out HX0.out).mono ?_
                rintro e w5 ⟨v5, rfl, hts, hg1⟩
                have HTS : Hid (ThsAt w5 (newB w4 w5) v5 (flushP s k j t x0).ths) := hts
                have HFS : Hid (psoS s k t (p + 1) = psoS s k t p ++ [flushP s k j t x0]) := by
                  show _ = _
                  rw [HPS.out, HOL.out]
                  simp only
                  rw [List.getD_eq_getElem?_getD, HX0.out]
                  rfl
                obtain ⟨S5, hS5⟩ : ∃ S5, S5 = flushP s k j t x0 := ⟨_, rfl⟩
                rw [← hS5] at HTS HFS ⊢
                clear hts hS5 c0 hTl s0 s1 s2 s3 s4 hSl
                unfold memC
                obtain ⟨ssp, hssp⟩ : ∃ ssp, ssp = ssk ++ psoS s k t p := ⟨_, rfl⟩
                have HSP : Hid (ssp = _) := hssp
                rw [← hssp] at hpl HMQ
                clear hssp
                obtain ⟨vs, hMS⟩ := HMQ.out.2
                have HMS : Hid (MvS w4 (w.heap.size + 1) vin ssp vs) := hMS
                have HM1 : Hid (MvS w5 (w.heap.size + 1) vin ssp vs) := hMS.grow hg1
                have HGA : Hid (w4.grownBy w5 none) := hg1
                have HSZ : Hid (w.heap.size + 1 ≤ w5.heap.size) := by
                  have a1 := (HMQ.out.1).size
                  have a2 := HZ0.out
                  have a3 := hg1.size
                  show _ ≤ _
                  omega
                have hsz1 : w.heap.size + 1 ≤ w5.heap.size := HSZ.out
                clear hMS hg1
                go_wp2_with (at_builtin; go_must (refine wpList_append_own_at _ (by rfl) _ _ 155 (by rfl) (w.heap.size + 1) 153 is_ _ 5 56 Tryz.underlying155 his hs0 hs1 hs2 rfl (by decide) vin ssp.length (ssF ssp vs) (by rfl) (HM1.out.grow (gb_alloc (gb_refl w5 none) _)).row ⟨w5.heap.size, 0, none⟩ 1 1 (memC v5 S5).toList (by rfl) (by rfl) (fun j u hu => by rw [addr_add]; exact cell_of (heap_alloc_new w5 _) j u (by simpa [memC] using hu)) (memC_one _ HTS.out.one _) (by unfold maxLen; omega) (by omega) (by simp; omega) ?_; intro v6 w6 own3 hg3 _ hat3))
                have HMRw6 : Hid (MvR w0 (w.heap.size + 1) v6 (ssp ++ [S5]) w6) := ⟨gb_new (gb_trans HMQ.out.1 (gb_trans HGA.out (gb_alloc (gb_refl w5 none) _))) hg3 (fun y e => Or.inr (by have := (HMS.out.row.lt y e).1; have := HZ0.out; omega)), _, HMS.out.push (by have := HMQ.out.1.size; have := HZ0.out; omega) HGA.out HTS.out (gb_alloc (gb_refl w5 none) _) hg3 own3 hat3⟩
                clear own3 hg3 hat3 HGA HMS HM1 hsz1 HSZ HTS
                refine ⟨⟨_, p + 1, rfl, by go_num, by omega, ?_, ?_⟩, by simp [intOf]; omega⟩
                · rw [HFS.out, ← List.append_assoc, ← HSP.out]; simp; omega
                · show MvR _ _ _ _ _
                  rw [HFS.out, ← List.append_assoc, ← HSP.out]
                  exact HMRw6.out
            · have hp' : decide ((p : Int) < 4) = false := by simp; omega
              obtain rfl : p = 4 := by omega
              go_wp2_with fail
              have HEQ : movesS model tt s (k + 1) = ssk ++ psoS s k t 4 := by
                rw [HSUC.out]
                unfold mvS
                rw [HDO.out, HTO.out, if_pos HMM.out]
                simp
              first
                | (refine ⟨⟨_, k + 1, rfl, by first | go_num | omega, by omega, ?_, ?_⟩, by simp [intOf]; omega⟩)
                | (go_roundw; (case measure => simp [intOf]; omega); (case rel => refine ⟨_, k + 1, rfl, by go_num, by omega, ?_, ?_⟩))
              · rw [HEQ]
                have := HL1.out
                try simp only [List.length_append] at *
                omega
              · show MvR _ _ _ _ _
                rw [HEQ]
                exact HMP.out
        | some x =>
          rw [hcan] at hpost
          obtain ⟨v', rfl, hts⟩ := hpost
          have HTS : Hid (ThsAt w1 (newB wr w1) v' (stepP model s k t x).ths) := hts
          have HDO : Hid (doneS model s k l t = [stepP model s k t x]) := by show _ = _; unfold doneS; rw [hcan]
          obtain ⟨S1, hS1⟩ : ∃ S1, S1 = stepP model s k t x := ⟨_, rfl⟩
          rw [← hS1] at HTS HDO ⊢
          obtain ⟨va1, vc1, hve, _⟩ := id HTS.out
          subst hve
          clear hts hS1 hcan
          unfold memC
          obtain ⟨vs, hMS⟩ := HMR.out.2
          have HMS : Hid (MvS wr (w.heap.size + 1) vout ssk vs) := hMS
          have HM1 : Hid (MvS w1 (w.heap.size + 1) vout ssk vs) := hMS.grow hg1
          have HGA : Hid (wr.grownBy w1 none) := hg1
          have HSZ : Hid (w.heap.size + 1 ≤ w1.heap.size) := by
            have a1 := (HMR.out.1).size
            have a2 := HZ0.out
            have a3 := hg1.size
            show _ ≤ _
            omega
          have hsz1 : w.heap.size + 1 ≤ w1.heap.size := HSZ.out
          clear hMS hg1
          go_upto_region 8 with (at_builtin; go_must (refine wpList_append_own_at _ (by rfl) _ _ 155 (by rfl) (w.heap.size + 1) 153 is_ _ 5 56 Tryz.underlying155 his hs0 hs1 hs2 rfl (by decide) vout ssk.length (ssF ssk vs) (by rfl) (HM1.out.grow (gb_alloc (gb_alloc (gb_refl w1 none) _) _)).row ⟨w1.heap.size + 1, 0, none⟩ 1 1 (memC (.slice va1 S1.ths.length vc1) S1).toList (by rfl) (by rfl) (fun j u hu => by rw [addr_add]; exact cell_of (new_at (H := w1.heap.size + 1) (by simp) _) j u (by simpa [memC] using hu)) (memC_one _ HTS.out.one _) (by unfold maxLen; omega) (by omega) (by simp; omega) ?_; intro vx wx own3 hg3 _ hat3))
          have HMRwx : Hid (MvR w0 (w.heap.size + 1) vx (ssk ++ [S1]) wx) := ⟨gb_new (gb_trans HMR.out.1 (gb_trans HGA.out (gb_alloc (gb_alloc (gb_refl w1 none) _) _))) hg3 (fun y e => Or.inr (by have := (HMS.out.row.lt y e).1; have := HZ0.out; omega)), _, HMS.out.push (by have := HMR.out.1.size; have := HZ0.out; omega) HGA.out HTS.out (gb_alloc (gb_alloc (gb_refl w1 none) _) _) hg3 own3 hat3⟩
          clear own3 hg3 hat3 HGA HMS HM1 hsz1 HSZ HTS
          have HL1 : Hid ((ssk ++ [S1]).length ≤ k * 6 + 1) := by show _ ≤ _; simp; omega
          obtain ⟨ssx, hssx⟩ : ∃ ssx, ssx = ssk ++ [S1] := ⟨_, rfl⟩
          have HSX : Hid (ssx = _) := hssx
          rw [← hssx] at HL1 HMRwx
          clear hssx HMR
          have c0 := gb_cell HMRwx.out.1 (gb_cell HG0.out HC0.out (by simp)) (by simp)
          have hTl := World.block_lt_of_cell? wx ⟨T, 0, none⟩ c0
          have hS := heap_gb HMRwx.out.1 HB0.out (by simp)
          have s0 := cell_of hS 0 _ rfl
          have s1 := cell_of hS 1 _ rfl
          have s2 := cell_of hS 2 _ rfl
          have s3 := cell_of hS 3 _ rfl
          have s4 := cell_of hS 4 _ rfl
          have hSl := heap_lt hS
          clear hS
          have HTO : Hid (tsoS model s k t = []) := if_neg (fun hh => by have := hh.1; have := HMM.out; omega)
          go_wp2_with fail
          go_loopw [7, 11] (fun v7 v11 wr2 => ∃ (vo : Value) (p : Nat), NamV v7 vo p ∧ v11 = .int .i64 (p : Nat) ∧ p ≤ 4 ∧ (ssx ++ psoS s k t p).length ≤ k * 6 + 1 + p ∧ Hid (MvR w0 (w.heap.size + 1) v7 (ssx ++ psoS s k t p) wr2)) (fun _ v11 _ => 4 - (intOf v11).toNat)
          case atStart => exact ⟨_, 0, rfl, rfl, by omega, by rw [show psoS s k t 0 = [] from rfl, List.append_nil]; exact HL1.out, by show MvR _ _ _ _ _; rw [show psoS s k t 0 = [] from rfl, List.append_nil]; exact HMRwx.out⟩
          case round =>
            clear c0 hTl s0 s1 s2 s3 s4 hSl
            obtain ⟨vin, p, hvi, rfl, hp, hpl, HMP⟩ := hrel
            unfold NamV at hvi
            subst hvi
            have c0 := gb_cell HMP.out.1 (gb_cell HG0.out HC0.out (by simp)) (by simp)
            have hTl := World.block_lt_of_cell? wr ⟨T, 0, none⟩ c0
            have hS := heap_gb HMP.out.1 HB0.out (by simp)
            have s0 := cell_of hS 0 _ rfl
            have s1 := cell_of hS 1 _ rfl
            have s2 := cell_of hS 2 _ rfl
            have s3 := cell_of hS 3 _ rfl
            have s4 := cell_of hS 4 _ rfl
            have hSl := heap_lt hS
            clear hS
            by_cases hp4 : p < 4
            · have hp' : decide ((p : Int) < 4) = true := by simp; omega
              have HPS : Hid (_ = _) := psoS_succ s k t p
              go_wp2_with fail
              refine (HOD.out wr k t p (gb_trans HG0.out HMP.out.1) HT.out).mono ?_
              rintro e w4 ⟨rfl, hg4⟩
              have HMQ : Hid (MvR w0 (w.heap.size + 1) vin (ssx ++ psoS s k t p) w4) := HMP.out.grow hg4
              clear hg4 c0 hTl s0 s1 s2 s3 s4 hSl
              clear HMP
              rw [oldP_eq]
              cases hol : oldW p 0 t.wait with
              | none =>
                have HOL : Hid (oldW p 0 t.wait = none) := hol
                clear hol
                simp only
                go_wp2_with fail
                refine ⟨⟨_, p + 1, rfl, by go_num, by omega, ?_, ?_⟩, by simp [intOf]; omega⟩
                · rw [HPS.out, HOL.out]; simp at hpl ⊢; omega
                · show MvR _ _ _ _ _
                  rw [HPS.out, HOL.out]
                  simpa using HMQ.out
              | some j =>
                have HOL : Hid (oldW p 0 t.wait = some j) := hol
                obtain ⟨x0, HX0⟩ : ∃ x, Hid (t.wait[j]? = some x) := by
                  obtain ⟨_, x, hx⟩ := oldW_get p _ _ _ hol
                  exact ⟨x, hx⟩
                clear hol
                simp only
                have hj0 : decide ((0 : Int) ≤ (j : Int)) = true := by simp
                have c0 := gb_cell HMQ.out.1 (gb_cell HG0.out HC0.out (by simp)) (by simp)
                have hTl := World.block_lt_of_cell? w4 ⟨T, 0, none⟩ c0
                have hS := heap_gb HMQ.out.1 HB0.out (by simp)
                have s0 := cell_of hS 0 _ rfl
                have s1 := cell_of hS 1 _ rfl
                have s2 := cell_of hS 2 _ rfl
                have s3 := cell_of hS 3 _ rfl
                have s4 := cell_of hS 4 _ rfl
                have hSl := heap_lt hS
                clear hS
                go_wp2_with fail
                refine (HFL.out w4 k j t x0 (gb_trans HG0.out HMQ.out.1) HT.out HX0.out).mono ?_
                rintro e w5 ⟨v5, rfl, hts, hg1⟩
                have HTS : Hid (ThsAt w5 (newB w4 w5) v5 (flushP s k j t x0).ths) := hts
                have HFS : Hid (psoS s k t (p + 1) = psoS s k t p ++ [flushP s k j t x0]) := by
                  show _ = _
                  rw [HPS.out, HOL.out]
                  simp only
                  rw [List.getD_eq_getElem?_getD, HX0.out]
                  rfl
                obtain ⟨S5, hS5⟩ : ∃ S5, S5 = flushP s k j t x0 := ⟨_, rfl⟩
                rw [← hS5] at HTS HFS ⊢
                clear hts hS5 c0 hTl s0 s1 s2 s3 s4 hSl
                unfold memC
                obtain ⟨ssp, hssp⟩ : ∃ ssp, ssp = ssx ++ psoS s k t p := ⟨_, rfl⟩
                have HSP : Hid (ssp = _) := hssp
                rw [← hssp] at hpl HMQ
                clear hssp
                obtain ⟨vs, hMS⟩ := HMQ.out.2
                have HMS : Hid (MvS w4 (w.heap.size + 1) vin ssp vs) := hMS
                have HM1 : Hid (MvS w5 (w.heap.size + 1) vin ssp vs) := hMS.grow hg1
                have HGA : Hid (w4.grownBy w5 none) := hg1
                have HSZ : Hid (w.heap.size + 1 ≤ w5.heap.size) := by
                  have a1 := (HMQ.out.1).size
                  have a2 := HZ0.out
                  have a3 := hg1.size
                  show _ ≤ _
                  omega
                have hsz1 : w.heap.size + 1 ≤ w5.heap.size := HSZ.out
                clear hMS hg1
                go_wp2_with (at_builtin; go_must (refine wpList_append_own_at _ (by rfl) _ _ 155 (by rfl) (w.heap.size + 1) 153 is_ _ 5 56 Tryz.underlying155 his hs0 hs1 hs2 rfl (by decide) vin ssp.length (ssF ssp vs) (by rfl) (HM1.out.grow (gb_alloc (gb_refl w5 none) _)).row ⟨w5.heap.size, 0, none⟩ 1 1 (memC v5 S5).toList (by rfl) (by rfl) (fun j u hu => by rw [addr_add]; exact cell_of (heap_alloc_new w5 _) j u (by simpa [memC] using hu)) (memC_one _ HTS.out.one _) (by unfold maxLen; omega) (by omega) (by simp; omega) ?_; intro v6 w6 own3 hg3 _ hat3))
                have HMRw6 : Hid (MvR w0 (w.heap.size + 1) v6 (ssp ++ [S5]) w6) := ⟨gb_new (gb_trans HMQ.out.1 (gb_trans HGA.out (gb_alloc (gb_refl w5 none) _))) hg3 (fun y e => Or.inr (by have := (HMS.out.row.lt y e).1; have := HZ0.out; omega)), _, HMS.out.push (by have := HMQ.out.1.size; have := HZ0.out; omega) HGA.out HTS.out (gb_alloc (gb_refl w5 none) _) hg3 own3 hat3⟩
                clear own3 hg3 hat3 HGA HMS HM1 hsz1 HSZ HTS
                refine ⟨⟨_, p + 1, rfl, by go_num, by omega, ?_, ?_⟩, by simp [intOf]; omega⟩
                · rw [HFS.out, ← List.append_assoc, ← HSP.out]; simp; omega
                · show MvR _ _ _ _ _
                  rw [HFS.out, ← List.append_assoc, ← HSP.out]
                  exact HMRw6.out
            · have hp' : decide ((p : Int) < 4) = false := by simp; omega
              obtain rfl : p = 4 := by omega
              go_wp2_with fail
              have HEQ : movesS model tt s (k + 1) = ssx ++ psoS s k t 4 := by
                rw [HSUC.out]
                unfold mvS
                rw [HDO.out, HTO.out, if_pos HMM.out]
                rw [HSX.out]; simp
              first
                | (refine ⟨⟨_, k + 1, rfl, by first | go_num | omega, by omega, ?_, ?_⟩, by simp [intOf]; omega⟩)
                | (go_roundw; (case measure => simp [intOf]; omega); (case rel => refine ⟨_, k + 1, rfl, by go_num, by omega, ?_, ?_⟩))
              · rw [HEQ]
                have := HL1.out
                try simp only [List.length_append] at *
                omega
              · show MvR _ _ _ _ _
                rw [HEQ]
                exact HMP.out
    · have hk' : decide ((k : Int) < (tt.length : Int)) = false := by simp; omega
      obtain rfl : k = tt.length := by omega
      go_wp2_with fail
      go_ret
      obtain ⟨hG, vs, hMS⟩ := HMR.out
      exact ⟨_, rfl, ⟨vs, hMS⟩, gb_trans HG0.out hG⟩
end Go.Proofs.YtmpaeladhoomoaaGreatDoor

namespace Go.Proofs.YtmpaeladhoomoaaGreatDoor
open Go.RowKit

theorem ref_step {tt : List (List RSt)} {ls : List (List St)} (ha : AllT tt ls) (ho : LsOk ls) : ∀ l ∈ tt, ∀ y ∈ l, y.kind ≤ 255 ∧ y.reg < 4 ∧ y.place < 4 ∧ y.skip ≤ 1000 := by
  intro l hl y hy
  obtain ⟨i, hi⟩ := List.mem_iff_getElem?.1 hl
  obtain ⟨j, hj⟩ := List.mem_iff_getElem?.1 hy
  have hil := (List.getElem?_eq_some_iff.1 hi).1
  have hjl := (List.getElem?_eq_some_iff.1 hj).1
  obtain ⟨r, hr⟩ : ∃ r, ls[i]? = some r := ⟨ls[i]'(by rw [← ha.len]; exact hil), List.getElem?_eq_getElem _⟩
  obtain ⟨l', hl', hf⟩ := ha.get i r hr
  rw [hi] at hl'
  simp at hl'
  subst hl'
  obtain ⟨x, hx⟩ : ∃ x, r[j]? = some x := ⟨r[j]'(by rw [← hf.len]; exact hjl), List.getElem?_eq_getElem _⟩
  obtain ⟨y', hy', h1, h2, h3, h4, h5⟩ := hf.get j x hx
  rw [hj] at hy'
  simp at hy'
  subst hy'
  obtain ⟨b1, b2, b3, b4, b5⟩ := ho.st r (List.mem_of_getElem? hr) x (List.mem_of_getElem? hx)
  refine ⟨?_, by omega, by omega, by omega⟩
  rw [h1]
  unfold letter
  repeat' split
  all_goals omega
/-- A move that can be made leaves a state as states are. -/
theorem after_ok {model : Nat} {ls : List (List St)} {s : WSt} (h : WOk model ls s) (ho : LsOk ls) {m : Nat × Option Nat} (hm : m ∈ movesW model ls s) : WOk model ls (afterW model ls s m) := by
  obtain ⟨t, l, ht, hl, _, _, h1⟩ := move_is h hm
  rcases h1 with ⟨_, x, hx, e⟩ | ⟨k, x, _, hx, e⟩
  · rw [e]; exact h.step ho ht hl hx
  · rw [e]; exact h.flush ht hx
theorem moves_of {w : World} {T : Nat} {tt : List (List RSt)} (h : RThs w T tt) {ls : List (List St)} (ha : AllT tt ls) (ho : LsOk ls) {model : Nat} (hm : 1 ≤ model ∧ model ≤ 3) {ok : Nat → Prop} {v : Value} {s : WSt} (hs : ThsAt w ok v s.ths) (hw : WOk model ls s) :
    Calls Tryz.prog 68 #[.pointer (some ⟨T, 0, none⟩), .int .i64 (model : Nat), .agg #[v, .int .i64 (s.m0 : Nat), .int .i64 (s.m1 : Nat), .int .i64 (s.m2 : Nat), .int .i64 (s.m3 : Nat)]] w fun e w' => ∃ v' vs, e = .returned v' ∧ MvS w' (w.heap.size + 1) v' ((movesW model ls s).map (afterW model ls s)) vs ∧ w.grownBy w' none := by
  have hl : ∀ t ∈ s.ths, t.wait.length ≤ 900 ∧ t.next ≤ 1000 ∧ ∀ x ∈ t.wait, x.1 < 4 := fun t ht => by
    obtain ⟨i, hi⟩ := List.mem_iff_getElem?.1 ht
    obtain ⟨_, a2, a3, _, _, a6⟩ := hw.th i t hi
    exact ⟨by omega, by omega, fun x hx => (a6 x hx).1⟩
  have := moves_any w T tt h model hm ok v s hs (by rw [ha.len]; exact ho.four) (by rw [hw.len, ha.len]) hl (ref_step ha ho)
  rw [moves_same (by omega) ha ho hw] at this
  exact this
/-- What Walk's rounds keep. -/
structure WlR (w wr : World) (SB model : Nat) (ls : List (List St)) (ft : Txt) (picks : List Int) (i : Nat) (s : WSt) (v : Value) : Prop where
  g : w.grownBy wr none
  blk : wr.heap[SB]? = some (.cells (memC v s) 153 (0, 0))
  ths : ThsAt wr (fun x => x ≠ SB) v s.ths
  ok : WOk model ls s
  eq : walkW model ls ft (picks.drop i) s = walkW model ls ft picks (firstW ls.length)
theorem set5 {W : World} {B : Nat} {a0 a1 a2 a3 a4 b0 b1 b2 b3 b4 : Value} (h : W.heap[B]? = some (.cells #[a0, a1, a2, a3, a4] 153 (0, 0))) : (((((W.setCell ⟨B, 0, none⟩ b0).setCell ⟨B, 1, none⟩ b1).setCell ⟨B, 2, none⟩ b2).setCell ⟨B, 3, none⟩ b3).setCell ⟨B, 4, none⟩ b4).heap[B]? = some (.cells #[b0, b1, b2, b3, b4] 153 (0, 0)) :=
  heap_set' (heap_set' (heap_set' (heap_set' (heap_set' h 0 b0 _ rfl) 1 b1 _ rfl) 2 b2 _ rfl) 3 b3 _ rfl) 4 b4 _ rfl
theorem set5_ne {W : World} {B x : Nat} {b0 b1 b2 b3 b4 : Value} (h : x ≠ B) : (((((W.setCell ⟨B, 0, none⟩ b0).setCell ⟨B, 1, none⟩ b1).setCell ⟨B, 2, none⟩ b2).setCell ⟨B, 3, none⟩ b3).setCell ⟨B, 4, none⟩ b4).heap[x]? = W.heap[x]? := by
  rw [Below.heap_setCell _ _ _ _ (fun e => h e), Below.heap_setCell _ _ _ _ (fun e => h e), Below.heap_setCell _ _ _ _ (fun e => h e), Below.heap_setCell _ _ _ _ (fun e => h e), Below.heap_setCell _ _ _ _ (fun e => h e)]
theorem set5_gb {w W : World} {B : Nat} {b0 b1 b2 b3 b4 : Value} (h : w.grownBy W none) (hB : w.heap.size ≤ B) : w.grownBy (((((W.setCell ⟨B, 0, none⟩ b0).setCell ⟨B, 1, none⟩ b1).setCell ⟨B, 2, none⟩ b2).setCell ⟨B, 3, none⟩ b3).setCell ⟨B, 4, none⟩ b4) none :=
  gb_put_new (gb_put_new (gb_put_new (gb_put_new (gb_put_new h hB _ _) hB _ _) hB _ _) hB _ _) hB _ _
theorem set5_size {W : World} {B : Nat} {b0 b1 b2 b3 b4 : Value} : (((((W.setCell ⟨B, 0, none⟩ b0).setCell ⟨B, 1, none⟩ b1).setCell ⟨B, 2, none⟩ b2).setCell ⟨B, 3, none⟩ b3).setCell ⟨B, 4, none⟩ b4).heap.size = W.heap.size := by rw [size_set, size_set, size_set, size_set, size_set]

set_option maxRecDepth 100000 in
set_option maxHeartbeats 4000000 in
theorem rwalk_any (w : World) (T : Nat) (tt : List (List RSt)) (h : RThs w T tt) (ls : List (List St)) (ft : Txt) (hA : AllT tt ls) (ho : LsOk ls) (hne : ls ≠ []) (op : ByteArray) (n1 n2 n3 n4 : Int) (kv : Value) (nb : Nat → Bool)
    (c2 : w.cell? ⟨T, 2, none⟩ = some (.string op)) (c3 : w.cell? ⟨T, 3, none⟩ = some (.int .i64 n1)) (c4 : w.cell? ⟨T, 4, none⟩ = some (.int .i64 n2)) (c5 : w.cell? ⟨T, 5, none⟩ = some (.int .i64 n3)) (c6 : w.cell? ⟨T, 6, none⟩ = some (.int .i64 n4)) (c7 : w.cell? ⟨T, 7, none⟩ = some kv)
    (hn : ∀ p w1, w.grownBy w1 none → Calls Tryz.prog 167 #[.agg #[.string op, .int .i64 n1, .int .i64 n2, .int .i64 n3, .int .i64 n4, kv], .int .i64 (p : Nat)] w1 fun e w2 => e = .returned (.bool (nb p)) ∧ w1.grownBy w2 none)
    (hnb : ∀ p, p < 4 → nb p = nmT p ft) (m : Int) (picks : List Int) (pv : Value) (hp : PicksAt w pv picks) (hpl : picks.length ≤ 140737488355328) :
    Calls Tryz.prog 47 #[.pointer (some ⟨T, 0, none⟩), .int .i64 m, pv] w fun e w' => e = .returned (walkA ls ft m picks) ∧ w.grownBy w' none := by
  by_cases hm : isMo m = false
  · have HA : Hid (walkA ls ft m picks = .tuple #[.string ⟨#[]⟩, .int .i64 4]) := by show _ = _; unfold walkA; rw [hm]; rfl
    have hm3 : ¬ (m = 1 ∨ m = 2 ∨ m = 3) := by simpa [isMo] using hm
    obtain ⟨pa, pcap, rfl, _, _⟩ := hp
    clear hn h hm c2 c3 c4 c5 c6 c7
    by_cases hlo : m < 1
    · have d1 : decide (m < 1) = true := by simpa using hlo
      go_enter Tryz.func47, Tryz.ntmps47
      go_wp2_with fail
      go_ret2
      refine ⟨?_, gb_refl _ _⟩
      rw [HA.out]
      rfl
    · have d1 : decide (m < 1) = false := by simpa using hlo
      have d2 : decide (3 < m) = true := by simp; omega
      go_enter Tryz.func47, Tryz.ntmps47
      go_wp2_with fail
      go_ret2
      refine ⟨?_, gb_refl _ _⟩
      rw [HA.out]
      rfl
  · have hm' : isMo m = true := by simpa using hm
    have hm3 : m = 1 ∨ m = 2 ∨ m = 3 := by simpa [isMo] using hm'
    obtain ⟨k, rfl⟩ : ∃ k : Nat, m = (k : Int) := ⟨m.toNat, by omega⟩
    have HA : Hid (walkA ls ft (k : Int) picks = walkV (walkW k ls ft picks (firstW ls.length))) := by show _ = _; unfold walkA; rw [hm', if_pos rfl, Int.toNat_natCast]
    have hk13 : 1 ≤ k ∧ k ≤ 3 := by omega
    have d1 : decide ((k : Int) < 1) = false := by simp; omega
    have d2 : decide ((3 : Int) < (k : Int)) = false := by simp; omega
    have HMV : Hid (∀ (W' : World) (ok : Nat → Prop) (v : Value) (s : WSt), w.grownBy W' none → ThsAt W' ok v s.ths → WOk k ls s → Calls Tryz.prog 68 #[.pointer (some ⟨T, 0, none⟩), .int .i64 (k : Nat), .agg #[v, .int .i64 (s.m0 : Nat), .int .i64 (s.m1 : Nat), .int .i64 (s.m2 : Nat), .int .i64 (s.m3 : Nat)]] W' fun e w' => ∃ v' vs, e = .returned v' ∧ MvS w' (W'.heap.size + 1) v' ((movesW k ls s).map (afterW k ls s)) vs ∧ W'.grownBy w' none) :=
      fun W' ok v s hg hs hw => moves_of (h.grow hg) hA ho hk13 hs hw
    have HOU : Hid (∀ (W' : World) (ok : Nat → Prop) (v : Value) (s : WSt), w.grownBy W' none → ThsAt W' ok v s.ths → WOk k ls s → Calls Tryz.prog 69 #[.pointer (some ⟨T, 0, none⟩), .agg #[v, .int .i64 (s.m0 : Nat), .int .i64 (s.m1 : Nat), .int .i64 (s.m2 : Nat), .int .i64 (s.m3 : Nat)]] W' fun e w' => e = .returned (.string (bT (outW ls ft s))) ∧ W'.grownBy w' none) :=
      fun W' ok v s hg hs hw => outcome_any W' T tt (h.grow hg) ls ft hA ho op n1 n2 n3 n4 kv nb (gb_cell hg c2 (by simp)) (gb_cell hg c3 (by simp)) (gb_cell hg c4 (by simp)) (gb_cell hg c5 (by simp)) (gb_cell hg c6 (by simp)) (gb_cell hg c7 (by simp)) (fun p w1 hg1 => hn p w1 (gb_trans hg hg1)) hnb k s ok v hs hw
    obtain ⟨ta, tcap, txs, t0, _, _⟩ := id h
    have hn1 : 1 ≤ tt.length := by
      rw [hA.len]
      cases ls with
      | nil => exact (hne rfl).elim
      | cons x r => simp
    have HFI : Hid (Calls Tryz.prog 67 #[.pointer (some ⟨T, 0, none⟩)] w fun e w' => ∃ v, e = .returned (.agg #[v, .int .i64 0, .int .i64 0, .int .i64 0, .int .i64 0]) ∧ ThsAt w' (newB w w') v (List.replicate tt.length ⟨0, [0, 0, 0, 0], []⟩) ∧ w.grownBy w' none) := first_any w T tt.length tcap ta t0 hn1 (by rw [hA.len]; exact ho.four)
    have HLE : Hid (tt.length = ls.length) := hA.len
    have HOK : Hid (LsOk ls) := ho
    obtain ⟨pa, pcap, rfl, hple, hpc⟩ := hp
    have HPC : Hid (∀ (j : Nat) (x : Int), picks[j]? = some x → ∃ g o, pa = some ⟨g, o, none⟩ ∧ w.cell? ⟨g, o + j, none⟩ = some (.int .i64 x) ∧ (-9223372036854775808 ≤ x ∧ x ≤ 9223372036854775807)) := hpc
    clear hpc hn h hm hm' hm3 c2 c3 c4 c5 c6 c7 hA ho t0 hn1 hnb
    go_enter Tryz.func47, Tryz.ntmps47
    go_wp2_with fail
    refine HFI.out.mono ?_
    rintro e w1 ⟨v1, rfl, hT1, hg1⟩
    have hs1 := hg1.size
    obtain ⟨va, vc, e1, _⟩ := id hT1
    rw [List.length_replicate] at e1
    subst e1
    go_wp2_with fail
    have HR0 : Hid (WlR w (w1.alloc (.cells #[.slice va tt.length vc, .int .i64 0, .int .i64 0, .int .i64 0, .int .i64 0] 153)) w1.heap.size k ls ft picks 0 (firstW ls.length) (.slice va tt.length vc)) :=
      ⟨gb_alloc hg1 _, heap_alloc_new w1 _, by
        show ThsAt _ _ _ (List.replicate ls.length _)
        rw [← HLE.out]
        exact hT1.mono (fun g hg e => by have := hg.2; omega) (fun g hg => Below.heap_alloc _ _ _ hg.2), first_ok k ls, rfl⟩
    obtain ⟨W0, hW0⟩ : ∃ W0, W0 = w1.alloc (.cells #[.slice va tt.length vc, .int .i64 0, .int .i64 0, .int .i64 0, .int .i64 0] 153) := ⟨_, rfl⟩
    rw [← hW0] at HR0 ⊢
    obtain ⟨SB, hSB⟩ : ∃ SB, SB = w1.heap.size := ⟨_, rfl⟩
    rw [← hSB] at HR0 hs1 ⊢
    have HSB : Hid (w.heap.size ≤ SB) := hs1
    clear hW0 hSB hs1 hg1 hT1 HFI
    go_loopw [9] (fun v9 wr => ∃ (i : Nat) (s : WSt) (v : Value), v9 = .int .i64 (i : Nat) ∧ i ≤ picks.length ∧ Hid (WlR w wr SB k ls ft picks i s v)) (fun v9 _ => picks.length - (intOf v9).toNat)
    case atStart => exact ⟨0, _, _, rfl, Nat.zero_le _, HR0⟩
    case round =>
      clear HR0
      obtain ⟨i, s, v, rfl, hi, HR⟩ := hrel
      have hb : wr.heap[SB]? = some (.cells #[v, .int .i64 (s.m0 : Nat), .int .i64 (s.m1 : Nat), .int .i64 (s.m2 : Nat), .int .i64 (s.m3 : Nat)] 153 (0, 0)) := HR.out.blk
      have HB : Hid (wr.heap[SB]? = some (.cells #[v, .int .i64 (s.m0 : Nat), .int .i64 (s.m1 : Nat), .int .i64 (s.m2 : Nat), .int .i64 (s.m3 : Nat)] 153 (0, 0))) := hb
      have s0 := cell_of hb 0 _ rfl
      have s1 := cell_of hb 1 _ rfl
      have s2 := cell_of hb 2 _ rfl
      have s3 := cell_of hb 3 _ rfl
      have s4 := cell_of hb 4 _ rfl
      have hSl := heap_lt hb
      clear hb
      go_wp2_with fail
      clear s0 s1 s2 s3 s4
      refine (HMV.out wr _ v s HR.out.g HR.out.ths HR.out.ok).mono ?_
      rintro e w2 ⟨v2, vs, rfl, hM, hg2⟩
      obtain ⟨L, hL⟩ : ∃ L, L = (movesW k ls s).length := ⟨_, rfl⟩
      have hrow := hM.row
      rw [List.length_map, ← hL] at hrow
      obtain ⟨la, lcap, rfl⟩ := own_slice hrow
      have HRW : Hid (w2.ownsRow (wr.heap.size + 1) 153 5 (.slice la L lcap) L (ssF ((movesW k ls s).map (afterW k ls s)) vs)) := hrow
      have HMT : Hid (vs.length = L ∧ ∀ (i : Nat) (s1 : WSt) (u : Value), ((movesW k ls s).map (afterW k ls s))[i]? = some s1 → vs[i]? = some u → ThsAt w2 (fun g => wr.heap.size + 1 ≤ g ∧ (Value.slice la L lcap).ownBlock ≠ some g) u s1.ths) := ⟨by rw [hM.len, List.length_map, hL], hM.ths⟩
      have HG2 : Hid (wr.grownBy w2 none) := hg2
      have HL : Hid (L = (movesW k ls s).length) := hL
      have hL100 : L ≤ 100 := by rw [hL]; exact movesW_len k ls s HOK.out.four
      have hb2 := heap_gb hg2 HB.out (by simp)
      have s0 := cell_of hb2 0 _ rfl
      have s1 := cell_of hb2 1 _ rfl
      have s2 := cell_of hb2 2 _ rfl
      have s3 := cell_of hb2 3 _ rfl
      have s4 := cell_of hb2 4 _ rfl
      have hS2 := heap_lt hb2
      clear hrow hM hg2 hL hb2
      by_cases hL0 : L = 0
      · have l0 : ((L : Int) == 0) = true := by rw [hL0]; rfl
        have HL0 : Hid (L = 0) := hL0
        clear hL0
        as_aux_lemma =>
        go_wp2_with fail
        refine (HOU.out w2 _ v s (gb_trans HR.out.g HG2.out) (HR.out.ths.grow (w' := w2) (fun y hy => HG2.out.block y hy (by simp))) HR.out.ok).mono ?_
        rintro e w3 ⟨rfl, hg3⟩
        go_wp2_with fail
        go_ret2
        refine ⟨?_, gb_trans (gb_trans HR.out.g HG2.out) hg3⟩
        rw [HA.out, ← HR.out.eq, walkW_end (by rw [← HL.out]; exact HL0.out)]
        rfl
      · have l0 : ((L : Int) == 0) = false := by rw [beq_eq_false_iff_ne]; omega
        by_cases hip : i < picks.length
        · have d3 : decide ((picks.length : Int) ≤ (i : Int)) = false := decide_eq_false (by omega)
          obtain ⟨x, hx⟩ : ∃ x, picks[i]? = some x := ⟨picks[i], List.getElem?_eq_getElem hip⟩
          obtain ⟨pg, po, rfl, hpx, hxb⟩ := HPC.out i x hx
          have px := gb_cell HG2.out (gb_cell HR.out.g hpx (by simp)) (by simp)
          have hpgl : pg < w2.heap.size := World.block_lt_of_cell? w2 ⟨pg, po + i, none⟩ px
          have m1 : (i : Int) < (picks.length : Int) := by omega
          have HX : Hid (picks.drop i = x :: picks.drop (i + 1)) := by
            show _ = _
            obtain ⟨h1, h2⟩ := List.getElem?_eq_some_iff.1 hx
            rw [List.drop_eq_getElem_cons h1, h2]
          clear hpx hx
          as_aux_lemma =>
          go_wp2_with fail
          refine (size_any _ x hxb L (by omega) (by omega)).mono ?_
          rintro e w3 ⟨rfl, hg3⟩
          have hz := sizeP_lt x L (by omega)
          obtain ⟨z, hzz⟩ : ∃ z, z = sizeP x L := ⟨_, rfl⟩
          have HZ : Hid (z = sizeP x L) := hzz
          rw [← hzz] at hz ⊢
          obtain ⟨mv, hmv⟩ : ∃ mv, (movesW k ls s)[z]? = some mv := ⟨(movesW k ls s)[z]'(by rw [← HL.out]; exact hz), List.getElem?_eq_getElem _⟩
          obtain ⟨u, hu⟩ : ∃ u, vs[z]? = some u := ⟨vs[z]'(by rw [HMT.out.1]; exact hz), List.getElem?_eq_getElem _⟩
          have hSS : ((movesW k ls s).map (afterW k ls s))[z]? = some (afterW k ls s mv) := by rw [List.getElem?_map, hmv]; rfl
          obtain ⟨S1, hS1⟩ : ∃ S1, S1 = afterW k ls s mv := ⟨_, rfl⟩
          rw [← hS1] at hSS
          have HTH : Hid (ThsAt w2 (fun g => wr.heap.size + 1 ≤ g ∧ (Value.slice la L lcap).ownBlock ≠ some g) u S1.ths) := HMT.out.2 z S1 u hSS hu
          have HOK1 : Hid (WOk k ls S1) := by rw [hS1]; exact after_ok HR.out.ok HOK.out (List.mem_of_getElem? hmv)
          have HEQ : Hid (walkW k ls ft (picks.drop (i + 1)) S1 = walkW k ls ft picks (firstW ls.length)) := by
            show _ = _
            rw [← HR.out.eq, HX.out, walkW, if_neg (by rw [← HL.out]; exact hL0)]
            congr 1
            rw [hS1]
            unfold nextW
            rw [← HL.out, ← HZ.out, List.getD_eq_getElem?_getD, hmv]
            rfl
          obtain ⟨lg, rfl⟩ : ∃ lg, la = some ⟨lg, 0, none⟩ := by
            rcases HRW.out.2 with ⟨_, h1⟩ | ⟨g', cap', cur, h1, _⟩
            · exact (hL0 h1).elim
            · simp at h1; exact ⟨g', h1.1⟩
          have qs : ∀ o val, o < 5 → (memC u S1)[o]? = some val → w3.cell? ⟨lg, z * 5 + o, none⟩ = some val := fun o val ho hv => by
            have := HRW.out.cells rfl (z * 5 + o) val ((ssF_get _ _ z o S1 u hSS hu ho).trans hv)
            rw [addr_add] at this
            exact gb_cell hg3 this (by simp)
          have q0 := qs 0 u (by omega) rfl
          have q1 := qs 1 (.int .i64 (S1.m0 : Nat)) (by omega) rfl
          have q2 := qs 2 (.int .i64 (S1.m1 : Nat)) (by omega) rfl
          have q3 := qs 3 (.int .i64 (S1.m2 : Nat)) (by omega) rfl
          have q4 := qs 4 (.int .i64 (S1.m3 : Nat)) (by omega) rfl
          rw [Nat.add_zero] at q0
          have hlg := World.block_lt_of_cell? w3 ⟨lg, z * 5, none⟩ q0
          have hlgB := (HRW.out.lt lg rfl).1
          have yS : ¬ lg = SB := by omega
          have hb3 := heap_gb hg3 (heap_gb HG2.out HB.out (by simp)) (by simp)
          have HB3 : Hid (w3.heap[SB]? = some (.cells #[v, .int .i64 (s.m0 : Nat), .int .i64 (s.m1 : Nat), .int .i64 (s.m2 : Nat), .int .i64 (s.m3 : Nat)] 153 (0, 0))) := hb3
          have HG3 : Hid (w2.grownBy w3 none) := hg3
          have r0 := cell_of hb3 0 _ rfl
          have r1 := cell_of hb3 1 _ rfl
          have r2 := cell_of hb3 2 _ rfl
          have r3 := cell_of hb3 3 _ rfl
          have r4 := cell_of hb3 4 _ rfl
          have rf := frozen_of hb3
          have hS3 := heap_lt hb3
          have m2 : (z : Int) < (L : Int) := by omega
          obtain ⟨ua, uc, rfl, _⟩ := id HTH.out
          clear hb3 hg3 hzz hmv hu hSS hS1 qs s0 s1 s2 s3 s4 px HX
          as_aux_lemma =>
          go_wp2_with fail
          have HR1 : Hid (WlR w (((((w3.setCell ⟨SB, 0, none⟩ (.slice ua S1.ths.length uc)).setCell ⟨SB, 1, none⟩ (.int .i64 (S1.m0 : Nat))).setCell ⟨SB, 2, none⟩ (.int .i64 (S1.m1 : Nat))).setCell ⟨SB, 3, none⟩ (.int .i64 (S1.m2 : Nat))).setCell ⟨SB, 4, none⟩ (.int .i64 (S1.m3 : Nat))) SB k ls ft picks (i + 1) S1 (.slice ua S1.ths.length uc)) :=
            ⟨set5_gb (gb_trans (gb_trans HR.out.g HG2.out) HG3.out) HSB.out, set5 HB3.out, (HTH.out.growX (w' := w3) (fun g hg _ => HG3.out.block g hg (by simp))).mono (fun g hg e => by have := hg.1.1; omega) (fun g hg => set5_ne (fun e => by have := hg.1.1; omega)), HOK1.out, HEQ.out⟩
          refine ⟨⟨i + 1, S1, _, by go_num, by omega, HR1⟩, by simp [intOf]; omega⟩
        · have d3 : decide ((picks.length : Int) ≤ (i : Int)) = true := decide_eq_true (by omega)
          obtain rfl : i = picks.length := by omega
          as_aux_lemma =>
          go_wp2_with fail
          go_ret2
          refine ⟨?_, gb_trans HR.out.g HG2.out⟩
          rw [HA.out, ← HR.out.eq, List.drop_length, walkW, if_neg (by rw [← HL.out]; exact hL0)]
          rfl
end Go.Proofs.YtmpaeladhoomoaaGreatDoor
