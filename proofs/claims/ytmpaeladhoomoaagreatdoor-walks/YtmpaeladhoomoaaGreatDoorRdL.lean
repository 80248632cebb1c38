/-
  The program's reader: formulas.
-/
import Derived.Test.YtmpaeladhoomoaaGreatDoorRdK
namespace Go.Proofs.YtmpaeladhoomoaaGreatDoor
open Go.RowKit
attribute [local go_sem ↓] Go.wp_at_zero Go.wp_at_succ

theorem L1.drew {w0 w : World} {b : Nat} {s : ByteArray} {p : PS} {R : Nat} {t : TypeId} {rs : Array Value} (l : L1 w0 w b s p R t rs) : L1 w0 w.drew b s p R t rs := ⟨gb_drew l.g, l.pa.drew, l.res, l.hR, l.hb⟩

/-- Handed on. -/
theorem FRep.pass0 {d : Nat} {w w1 : World} {cs : List Value} {t : Txt} {o0 : Obj} (h : FRep d w1 (newB (w.alloc o0) w1) cs t) (r0 r1 r2 r3 r4 r5 : Value) :
    FRep d ((((((w1.setCell ⟨w.heap.size, 0, none⟩ r0).setCell ⟨w.heap.size, 1, none⟩ r1).setCell ⟨w.heap.size, 2, none⟩ r2).setCell ⟨w.heap.size, 3, none⟩ r3).setCell ⟨w.heap.size, 4, none⟩ r4).setCell ⟨w.heap.size, 5, none⟩ r5) (newB w ((((((w1.setCell ⟨w.heap.size, 0, none⟩ r0).setCell ⟨w.heap.size, 1, none⟩ r1).setCell ⟨w.heap.size, 2, none⟩ r2).setCell ⟨w.heap.size, 3, none⟩ r3).setCell ⟨w.heap.size, 4, none⟩ r4).setCell ⟨w.heap.size, 5, none⟩ r5)) cs t := by
  refine h.mono (fun x hx => ?_) (fun x hx => ?_)
  · have h1 := hx.1
    have h2 := hx.2
    rw [World.size_alloc] at h1
    exact ⟨by omega, by rw [done_size]; omega⟩
  · have h1 := hx.1
    rw [World.size_alloc] at h1
    rw [done_heap _ _ _ _ _ _ _ _ _ (by omega)]

def partS (s : ByteArray) : Nat → PS → Except Nat PS
  | 0, p => .error (pl s p)
  | n + 1, p =>
    if kd s p = 14 then nestS s (partS s n) p else
    if kd s p = 19 then (match nestS s (partsS s 13 (partsS s 12 (partS s n))) p with | .error q => .error q | .ok p1 => if kd s p1 = 20 then .ok (nxt s p1 20) else .error (pl s p1)) else
    if kd s p = 4 then registerS s p else placeS s p
def conjS (s : ByteArray) (n : Nat) (p : PS) : Except Nat PS := partsS s 12 (partS s n) p
def formS (s : ByteArray) (n : Nat) (p : PS) : Except Nat PS := partsS s 13 (conjS s n) p

def SaidPart (n : Nat) : Prop := ∀ (w : World) (b : Nat) (s : ByteArray) (p : PS), PAt w b s p → p.opn + n = 7 → Calls Tryz.prog 204 #[.pointer (some ⟨b, 0, none⟩)] w fun e w' => PostF w b s p (partS s n p) e w'
def SaidConj (n : Nat) : Prop := ∀ (w : World) (b : Nat) (s : ByteArray) (p : PS), PAt w b s p → p.opn + n = 7 → Calls Tryz.prog 153 #[.pointer (some ⟨b, 0, none⟩)] w fun e w' => PostF w b s p (conjS s n p) e w'
def SaidForm (n : Nat) : Prop := ∀ (w : World) (b : Nat) (s : ByteArray) (p : PS), PAt w b s p → p.opn + n = 7 → Calls Tryz.prog 93 #[.pointer (some ⟨b, 0, none⟩)] w fun e w' => PostF w b s p (formS s n p) e w'

set_option maxHeartbeats 1000000 in
theorem conj_of (n : Nat) (hs0 : SaidPart n) : SaidConj n := by
  intro w b s p h hn
  have L0 := L1.start h 97 #[.int .i64 0, .slice none 0 0, .int .i64 0, .int .i64 0, .int .i64 0, .int .i64 0]
  go_enter Tryz.func153, Tryz.ntmps153
  go_wp2_with fail
  have hin := parts_part (partS s n) _ b s p L0.pa 1 12 (by omega) (fun wx q hq ho => hs0 wx b s q hq (by omega))
  refine hin.mono ?_
  clear hin
  rintro e w1 ⟨hg1, hr1⟩
  cases hs : partsS s 12 (partS s n) p with
  | error q =>
    rw [hs] at hr1
    obtain ⟨⟨n0, a, kk, c, n2, n3, n4, n5, rfl⟩, p1, hp1, hq1, ho1⟩ := hr1
    have HS : Hid (_ = _) := hs
    have HO1 : Hid (p1.opn = p.opn) := ho1
    clear hs ho1
    have L1a := L0.call hg1 hp1
    obtain ⟨b0, b1, b2, b3, b4, b5, bf⟩ := loc6 L1a.res
    have hRl := heap_lt L1a.res
    unfold fmV
    go_wp2_with fail
    have LD := L1a.done6 (.int .i64 n0) (.slice a kk c) (.int .i64 n2) (.int .i64 n3) (.int .i64 n4) (.int .i64 n5)
    obtain ⟨d0, d1, d2, d3, d4, d5, _⟩ := loc6 LD.res
    exact bodyPost_ret (v := .tuple #[.agg #[.int .i64 n0, .slice a kk c, .int .i64 n2, .int .i64 n3, .int .i64 n4, .int .i64 n5], .bool false]) (by simp [results, Tryz.results153, go_sem, d0, d1, d2, d3, d4, d5]) rfl (postF_err (p' := p1) _ _ _ _ _ _ _ _ (by unfold conjS; rw [HS.out]; rw [hq1]) LD.g LD.pa HO1.out)
  | ok p1 =>
    rw [hs] at hr1
    obtain ⟨⟨n0, a, kk, c, n2, n3, n4, n5, rfl, HF1⟩, hp1, ho1, hi1⟩ := hr1
    have HS : Hid (_ = _) := hs
    have HO1 : Hid (p1.opn = p.opn) := ho1
    clear hs ho1
    have L1a := L0.call hg1 hp1
    obtain ⟨b0, b1, b2, b3, b4, b5, bf⟩ := loc6 L1a.res
    have hRl := heap_lt L1a.res
    unfold fmV
    go_wp2_with fail
    have LD := L1a.done6 (.int .i64 n0) (.slice a kk c) (.int .i64 n2) (.int .i64 n3) (.int .i64 n4) (.int .i64 n5)
    obtain ⟨d0, d1, d2, d3, d4, d5, _⟩ := loc6 LD.res
    exact bodyPost_ret (v := .tuple #[.agg #[.int .i64 n0, .slice a kk c, .int .i64 n2, .int .i64 n3, .int .i64 n4, .int .i64 n5], .bool true]) (by simp [results, Tryz.results153, go_sem, d0, d1, d2, d3, d4, d5]) rfl (postF_ok _ _ _ _ _ _ _ _ (by unfold conjS; rw [HS.out]) LD.g LD.pa HO1.out hi1 (by obtain ⟨d, t, hF, hR⟩ := HF1.out; exact ⟨d, t, hF.pass0 _ _ _ _ _ _, hR⟩))

set_option maxHeartbeats 1000000 in
theorem form_of (n : Nat) (hs0 : SaidConj n) : SaidForm n := by
  intro w b s p h hn
  have L0 := L1.start h 97 #[.int .i64 0, .slice none 0 0, .int .i64 0, .int .i64 0, .int .i64 0, .int .i64 0]
  go_enter Tryz.func93, Tryz.ntmps93
  go_wp2_with fail
  have hin := parts_conj (conjS s n) _ b s p L0.pa 0 13 (by omega) (fun wx q hq ho => hs0 wx b s q hq (by omega))
  refine hin.mono ?_
  clear hin
  rintro e w1 ⟨hg1, hr1⟩
  cases hs : partsS s 13 (conjS s n) p with
  | error q =>
    rw [hs] at hr1
    obtain ⟨⟨n0, a, kk, c, n2, n3, n4, n5, rfl⟩, p1, hp1, hq1, ho1⟩ := hr1
    have HS : Hid (_ = _) := hs
    have HO1 : Hid (p1.opn = p.opn) := ho1
    clear hs ho1
    have L1a := L0.call hg1 hp1
    obtain ⟨b0, b1, b2, b3, b4, b5, bf⟩ := loc6 L1a.res
    have hRl := heap_lt L1a.res
    unfold fmV
    go_wp2_with fail
    have LD := L1a.done6 (.int .i64 n0) (.slice a kk c) (.int .i64 n2) (.int .i64 n3) (.int .i64 n4) (.int .i64 n5)
    obtain ⟨d0, d1, d2, d3, d4, d5, _⟩ := loc6 LD.res
    exact bodyPost_ret (v := .tuple #[.agg #[.int .i64 n0, .slice a kk c, .int .i64 n2, .int .i64 n3, .int .i64 n4, .int .i64 n5], .bool false]) (by simp [results, Tryz.results93, go_sem, d0, d1, d2, d3, d4, d5]) rfl (postF_err (p' := p1) _ _ _ _ _ _ _ _ (by unfold formS; rw [HS.out]; rw [hq1]) LD.g LD.pa HO1.out)
  | ok p1 =>
    rw [hs] at hr1
    obtain ⟨⟨n0, a, kk, c, n2, n3, n4, n5, rfl, HF1⟩, hp1, ho1, hi1⟩ := hr1
    have HS : Hid (_ = _) := hs
    have HO1 : Hid (p1.opn = p.opn) := ho1
    clear hs ho1
    have L1a := L0.call hg1 hp1
    obtain ⟨b0, b1, b2, b3, b4, b5, bf⟩ := loc6 L1a.res
    have hRl := heap_lt L1a.res
    unfold fmV
    go_wp2_with fail
    have LD := L1a.done6 (.int .i64 n0) (.slice a kk c) (.int .i64 n2) (.int .i64 n3) (.int .i64 n4) (.int .i64 n5)
    obtain ⟨d0, d1, d2, d3, d4, d5, _⟩ := loc6 LD.res
    exact bodyPost_ret (v := .tuple #[.agg #[.int .i64 n0, .slice a kk c, .int .i64 n2, .int .i64 n3, .int .i64 n4, .int .i64 n5], .bool true]) (by simp [results, Tryz.results93, go_sem, d0, d1, d2, d3, d4, d5]) rfl (postF_ok _ _ _ _ _ _ _ _ (by unfold formS; rw [HS.out]) LD.g LD.pa HO1.out hi1 (by obtain ⟨d, t, hF, hR⟩ := HF1.out; exact ⟨d, t, hF.pass0 _ _ _ _ _ _, hR⟩))

set_option maxRecDepth 100000 in
set_option maxHeartbeats 4000000 in
theorem part_succ (n : Nat) (hp0 : SaidPart n) (hf0 : SaidForm n) : SaidPart (n + 1) := by
  intro w b s p h hn
  obtain ⟨c0, c1, c2, c3, c4, c5, c6, c7, c8, hf, hlt⟩ := h.get
  have L0 := L1.start h 97 #[.int .i64 0, .slice none 0 0, .int .i64 0, .int .i64 0, .int .i64 0, .int .i64 0]
  by_cases k14 : kd s p = 14
  · have e14 : (((tk s p.i).kind : Int) == 14) = true := by show ((kd s p : Int) == 14) = true; rw [k14]; rfl
    have HP : Hid (partS s (n + 1) p = nestS s (partS s n) p) := by show _ = _; rw [partS, if_pos k14]
    go_enter Tryz.func204, Tryz.ntmps204
    go_wp2_with fail
    have hin := nested_part (partS s n) _ b s p L0.pa 2 (by decide) (fun wx q hq ho => hp0 wx b s q hq (by omega))
    refine hin.mono ?_
    clear hin
    rintro e w1 ⟨hg1, hr1⟩
    cases hs : nestS s (partS s n) p with
    | error q =>
      rw [hs] at hr1
      obtain ⟨⟨n0, a, kk, c, n2, n3, n4, n5, rfl⟩, p1, hp1, hq1, ho1⟩ := hr1
      have HS : Hid (_ = _) := hs
      have HO1 : Hid (p1.opn = p.opn) := ho1
      clear hs ho1
      have L1a := L0.call hg1 hp1
      obtain ⟨b0, b1, b2, b3, b4, b5, bf⟩ := loc6 L1a.res
      have hRl := heap_lt L1a.res
      unfold fmV
      go_wp2_with fail
      have LD := L1a.done6 (.int .i64 n0) (.slice a kk c) (.int .i64 n2) (.int .i64 n3) (.int .i64 n4) (.int .i64 n5)
      obtain ⟨d0, d1, d2, d3, d4, d5, _⟩ := loc6 LD.res
      exact bodyPost_ret (v := .tuple #[.agg #[.int .i64 n0, .slice a kk c, .int .i64 n2, .int .i64 n3, .int .i64 n4, .int .i64 n5], .bool false]) (by simp [results, Tryz.results204, go_sem, d0, d1, d2, d3, d4, d5]) rfl (postF_err (p' := p1) _ _ _ _ _ _ _ _ (by rw [HP.out, HS.out]; rw [hq1]) LD.g LD.pa HO1.out)
    | ok p1 =>
      rw [hs] at hr1
      obtain ⟨⟨n0, a, kk, c, n2, n3, n4, n5, rfl, HF1⟩, hp1, ho1, hi1⟩ := hr1
      have HS : Hid (_ = _) := hs
      have HO1 : Hid (p1.opn = p.opn) := ho1
      clear hs ho1
      have L1a := L0.call hg1 hp1
      obtain ⟨b0, b1, b2, b3, b4, b5, bf⟩ := loc6 L1a.res
      have hRl := heap_lt L1a.res
      unfold fmV
      go_wp2_with fail
      have LD := L1a.done6 (.int .i64 n0) (.slice a kk c) (.int .i64 n2) (.int .i64 n3) (.int .i64 n4) (.int .i64 n5)
      obtain ⟨d0, d1, d2, d3, d4, d5, _⟩ := loc6 LD.res
      exact bodyPost_ret (v := .tuple #[.agg #[.int .i64 n0, .slice a kk c, .int .i64 n2, .int .i64 n3, .int .i64 n4, .int .i64 n5], .bool true]) (by simp [results, Tryz.results204, go_sem, d0, d1, d2, d3, d4, d5]) rfl (postF_ok _ _ _ _ _ _ _ _ (by rw [HP.out, HS.out]) LD.g LD.pa HO1.out hi1 (by obtain ⟨d, t, hF, u, rfl, hR⟩ := HF1.out; exact ⟨d, _, hF.pass0 _ _ _ _ _ _, Ren.not k14 hR⟩))
  have e14 : (((tk s p.i).kind : Int) == 14) = false := by show ((kd s p : Int) == 14) = false; rw [beq_eq_false_iff_ne]; omega
  by_cases k19 : kd s p = 19
  · have e19 : (((tk s p.i).kind : Int) == 19) = true := by show ((kd s p : Int) == 19) = true; rw [k19]; rfl
    have HP : Hid (partS s (n + 1) p = (match nestS s (partsS s 13 (partsS s 12 (partS s n))) p with | .error q => .error q | .ok p1 => if kd s p1 = 20 then .ok (nxt s p1 20) else .error (pl s p1))) := by show _ = _; rw [partS, if_neg k14, if_pos k19]
    go_enter Tryz.func204, Tryz.ntmps204
    go_wp2_with fail
    have hin := nested_formula (formS s n) _ b s p L0.pa 3 (by decide) (fun wx q hq ho => hf0 wx b s q hq (by omega))
    refine hin.mono ?_
    clear hin
    rintro e w1 ⟨hg1, hr1⟩
    cases hs : nestS s (formS s n) p with
    | error q =>
      rw [hs] at hr1
      obtain ⟨⟨n0, a, kk, c, n2, n3, n4, n5, rfl⟩, p1, hp1, hq1, ho1⟩ := hr1
      have HS : Hid (_ = _) := hs
      have HO1 : Hid (p1.opn = p.opn) := ho1
      clear hs ho1
      have L1a := L0.call hg1 hp1
      obtain ⟨b0, b1, b2, b3, b4, b5, bf⟩ := loc6 L1a.res
      have hRl := heap_lt L1a.res
      unfold fmV
      go_wp2_with fail
      have hX := heap_alloc_new w1 (.cells #[.int .i64 n0, .slice a kk c, .int .i64 n2, .int .i64 n3, .int .i64 n4, .int .i64 n5] 97)
      have HS3 : Hid (partS s (n + 1) p = .error q) := by show _ = _; rw [HP.out]; have e1 : nestS s (partsS s 13 (partsS s 12 (partS s n))) p = .error q := HS.out; rw [e1]
      go_region
      all_goals
        go_wp2_with fail
        have LD := ((L1a.done6 (.int .i64 n0) (.slice a kk c) (.int .i64 n2) (.int .i64 n3) (.int .i64 n4) (.int .i64 n5)).alloc (.cells #[.int .i64 n0, .slice a kk c, .int .i64 n2, .int .i64 n3, .int .i64 n4, .int .i64 n5] 97)).drew
        obtain ⟨d0, d1, d2, d3, d4, d5, _⟩ := loc6 LD.res
        exact bodyPost_ret (v := .tuple #[.agg #[.int .i64 n0, .slice a kk c, .int .i64 n2, .int .i64 n3, .int .i64 n4, .int .i64 n5], .bool false]) (by simp [results, Tryz.results204, go_sem, d0, d1, d2, d3, d4, d5]) rfl (postF_err (p' := p1) _ _ _ _ _ _ _ _ (by rw [HS3.out, hq1]) LD.g LD.pa HO1.out)
    | ok p1 =>
      rw [hs] at hr1
      obtain ⟨⟨n0, a, kk, c, n2, n3, n4, n5, rfl, HF1⟩, hp1, ho1, hi1⟩ := hr1
      have HS : Hid (_ = _) := hs
      have HO1 : Hid (p1.opn = p.opn) := ho1
      clear hs ho1
      have L1a := L0.call hg1 hp1
      obtain ⟨b0, b1, b2, b3, b4, b5, bf⟩ := loc6 L1a.res
      have hRl := heap_lt L1a.res
      unfold fmV
      go_wp2_with fail
      have hX := heap_alloc_new w1 (.cells #[.int .i64 n0, .slice a kk c, .int .i64 n2, .int .i64 n3, .int .i64 n4, .int .i64 n5] 97)
      have HS3 : Hid (partS s (n + 1) p = if kd s p1 = 20 then .ok (nxt s p1 20) else .error (pl s p1)) := by show _ = _; rw [HP.out]; have e1 : nestS s (partsS s 13 (partsS s 12 (partS s n))) p = .ok p1 := HS.out; rw [e1]
      by_cases k20 : kd s p1 = 20
      · go_region_with (go_at_call 148; refine (pass_yes _ b s p1 20 (by exact (hp1.alloc _).drew) (by show ((kd s p1 : Nat) : Int) = 20; omega)).mono ?_; rintro e w2 ⟨rfl, hg2, hp2⟩; have hX2 := heap_gb (gb_from_drew hg2) hX (by simp; omega); have L2a := (L1a.alloc _).call (gb_from_drew hg2) hp2; obtain ⟨x0, x1, x2, x3, x4, x5, xf⟩ := loc6 hX2; obtain ⟨y0, y1, y2, y3, y4, y5, yf⟩ := loc6 L2a.res)
        all_goals
          go_wp2_with fail
          have LD := L2a.done6 (.int .i64 n0) (.slice a kk c) (.int .i64 n2) (.int .i64 n3) (.int .i64 n4) (.int .i64 n5)
          obtain ⟨d0, d1, d2, d3, d4, d5, _⟩ := loc6 LD.res
          exact bodyPost_ret (v := .tuple #[.agg #[.int .i64 n0, .slice a kk c, .int .i64 n2, .int .i64 n3, .int .i64 n4, .int .i64 n5], .bool true]) (by simp [results, Tryz.results204, go_sem, d0, d1, d2, d3, d4, d5]) rfl (postF_ok _ _ _ _ _ _ _ _ (by rw [HS3.out, if_pos k20]) LD.g LD.pa ((nxt_thr s p1 20).2.1.trans HO1.out) (Nat.le_trans hi1 (nxt_mono s p1 20 hp1.isz).1) (by obtain ⟨d, t, hF, u, rfl, hR⟩ := HF1.out; refine ⟨d, _, ((hF.later (gb_alloc (gb_refl _ none) _) (fun g e => by simp at e)).later (gb_from_drew hg2) (fun g e => by simp at e; subst e; simp; omega)).pass0 _ _ _ _ _ _, ?_⟩; rw [nxt_i]; exact Ren.group k19 hR k20))
      · go_region_with (go_at_call 148; refine (pass_no _ b s p1 20 (by exact (hp1.alloc _).drew) (by show ¬ ((kd s p1 : Nat) : Int) = 20; omega)).mono ?_; rintro e w2 ⟨rfl, rfl⟩)
        all_goals
          go_wp2_with fail
          have LD := ((L1a.done6 (.int .i64 n0) (.slice a kk c) (.int .i64 n2) (.int .i64 n3) (.int .i64 n4) (.int .i64 n5)).alloc (.cells #[.int .i64 n0, .slice a kk c, .int .i64 n2, .int .i64 n3, .int .i64 n4, .int .i64 n5] 97)).drew
          obtain ⟨d0, d1, d2, d3, d4, d5, _⟩ := loc6 LD.res
          exact bodyPost_ret (v := .tuple #[.agg #[.int .i64 n0, .slice a kk c, .int .i64 n2, .int .i64 n3, .int .i64 n4, .int .i64 n5], .bool false]) (by simp [results, Tryz.results204, go_sem, d0, d1, d2, d3, d4, d5]) rfl (postF_err (p' := p1) _ _ _ _ _ _ _ _ (by rw [HS3.out, if_neg k20]) LD.g LD.pa HO1.out)
  have e19 : (((tk s p.i).kind : Int) == 19) = false := by show ((kd s p : Int) == 19) = false; rw [beq_eq_false_iff_ne]; omega
  by_cases k4 : kd s p = 4
  · have e4 : (((tk s p.i).kind : Int) == 4) = true := by show ((kd s p : Int) == 4) = true; rw [k4]; rfl
    have HP : Hid (partS s (n + 1) p = registerS s p) := by show _ = _; rw [partS, if_neg k14, if_neg k19, if_pos k4]
    go_enter Tryz.func204, Tryz.ntmps204
    go_wp2_with fail
    have hin := registerAtom_any _ b s p L0.pa k4
    refine hin.mono ?_
    clear hin
    rintro e w1 ⟨hg1, hr1⟩
    cases hs : registerS s p with
    | error q =>
      rw [hs] at hr1
      obtain ⟨⟨n0, a, kk, c, n2, n3, n4, n5, rfl⟩, p1, hp1, hq1, ho1⟩ := hr1
      have HS : Hid (_ = _) := hs
      have HO1 : Hid (p1.opn = p.opn) := ho1
      clear hs ho1
      have L1a := L0.call hg1 hp1
      obtain ⟨b0, b1, b2, b3, b4, b5, bf⟩ := loc6 L1a.res
      have hRl := heap_lt L1a.res
      unfold fmV
      go_wp2_with fail
      have LD := L1a.done6 (.int .i64 n0) (.slice a kk c) (.int .i64 n2) (.int .i64 n3) (.int .i64 n4) (.int .i64 n5)
      obtain ⟨d0, d1, d2, d3, d4, d5, _⟩ := loc6 LD.res
      exact bodyPost_ret (v := .tuple #[.agg #[.int .i64 n0, .slice a kk c, .int .i64 n2, .int .i64 n3, .int .i64 n4, .int .i64 n5], .bool false]) (by simp [results, Tryz.results204, go_sem, d0, d1, d2, d3, d4, d5]) rfl (postF_err (p' := p1) _ _ _ _ _ _ _ _ (by rw [HP.out, HS.out]; rw [hq1]) LD.g LD.pa HO1.out)
    | ok p1 =>
      rw [hs] at hr1
      obtain ⟨⟨n0, a, kk, c, n2, n3, n4, n5, rfl, HF1⟩, hp1, ho1, hi1⟩ := hr1
      have HS : Hid (_ = _) := hs
      have HO1 : Hid (p1.opn = p.opn) := ho1
      clear hs ho1
      have L1a := L0.call hg1 hp1
      obtain ⟨b0, b1, b2, b3, b4, b5, bf⟩ := loc6 L1a.res
      have hRl := heap_lt L1a.res
      unfold fmV
      go_wp2_with fail
      have LD := L1a.done6 (.int .i64 n0) (.slice a kk c) (.int .i64 n2) (.int .i64 n3) (.int .i64 n4) (.int .i64 n5)
      obtain ⟨d0, d1, d2, d3, d4, d5, _⟩ := loc6 LD.res
      exact bodyPost_ret (v := .tuple #[.agg #[.int .i64 n0, .slice a kk c, .int .i64 n2, .int .i64 n3, .int .i64 n4, .int .i64 n5], .bool true]) (by simp [results, Tryz.results204, go_sem, d0, d1, d2, d3, d4, d5]) rfl (postF_ok _ _ _ _ _ _ _ _ (by rw [HP.out, HS.out]) LD.g LD.pa HO1.out hi1 (by obtain ⟨d, t, hF, hR⟩ := HF1.out; exact ⟨d, t, hF.pass0 _ _ _ _ _ _, hR⟩))
  have e4 : (((tk s p.i).kind : Int) == 4) = false := by show ((kd s p : Int) == 4) = false; rw [beq_eq_false_iff_ne]; omega
  have HP : Hid (partS s (n + 1) p = placeS s p) := by show _ = _; rw [partS, if_neg k14, if_neg k19, if_neg k4]
  go_enter Tryz.func204, Tryz.ntmps204
  go_wp2_with fail
  have hin := placeAtom_any _ b s p L0.pa
  refine hin.mono ?_
  clear hin
  rintro e w1 ⟨hg1, hr1⟩
  cases hs : placeS s p with
  | error q =>
    rw [hs] at hr1
    obtain ⟨⟨n0, a, kk, c, n2, n3, n4, n5, rfl⟩, p1, hp1, hq1, ho1⟩ := hr1
    have HS : Hid (_ = _) := hs
    have HO1 : Hid (p1.opn = p.opn) := ho1
    clear hs ho1
    have L1a := L0.call hg1 hp1
    obtain ⟨b0, b1, b2, b3, b4, b5, bf⟩ := loc6 L1a.res
    have hRl := heap_lt L1a.res
    unfold fmV
    go_wp2_with fail
    have LD := L1a.done6 (.int .i64 n0) (.slice a kk c) (.int .i64 n2) (.int .i64 n3) (.int .i64 n4) (.int .i64 n5)
    obtain ⟨d0, d1, d2, d3, d4, d5, _⟩ := loc6 LD.res
    exact bodyPost_ret (v := .tuple #[.agg #[.int .i64 n0, .slice a kk c, .int .i64 n2, .int .i64 n3, .int .i64 n4, .int .i64 n5], .bool false]) (by simp [results, Tryz.results204, go_sem, d0, d1, d2, d3, d4, d5]) rfl (postF_err (p' := p1) _ _ _ _ _ _ _ _ (by rw [HP.out, HS.out]; rw [hq1]) LD.g LD.pa HO1.out)
  | ok p1 =>
    rw [hs] at hr1
    obtain ⟨⟨n0, a, kk, c, n2, n3, n4, n5, rfl, HF1⟩, hp1, ho1, hi1⟩ := hr1
    have HS : Hid (_ = _) := hs
    have HO1 : Hid (p1.opn = p.opn) := ho1
    clear hs ho1
    have L1a := L0.call hg1 hp1
    obtain ⟨b0, b1, b2, b3, b4, b5, bf⟩ := loc6 L1a.res
    have hRl := heap_lt L1a.res
    unfold fmV
    go_wp2_with fail
    have LD := L1a.done6 (.int .i64 n0) (.slice a kk c) (.int .i64 n2) (.int .i64 n3) (.int .i64 n4) (.int .i64 n5)
    obtain ⟨d0, d1, d2, d3, d4, d5, _⟩ := loc6 LD.res
    exact bodyPost_ret (v := .tuple #[.agg #[.int .i64 n0, .slice a kk c, .int .i64 n2, .int .i64 n3, .int .i64 n4, .int .i64 n5], .bool true]) (by simp [results, Tryz.results204, go_sem, d0, d1, d2, d3, d4, d5]) rfl (postF_ok _ _ _ _ _ _ _ _ (by rw [HP.out, HS.out]) LD.g LD.pa HO1.out hi1 (by obtain ⟨d, t, hF, hR⟩ := HF1.out; exact ⟨d, t, hF.pass0 _ _ _ _ _ _, hR⟩))

theorem part_zero : SaidPart 0 := by
  intro w b s p h hn
  have := h.osz
  omega
theorem part_all : ∀ n, SaidPart n := by
  intro n
  induction n with
  | zero => exact part_zero
  | succ n ih => exact part_succ n ih (form_of n (conj_of n ih))
theorem form_all (n : Nat) : SaidForm n := form_of n (conj_of n (part_all n))
end Go.Proofs.YtmpaeladhoomoaaGreatDoor
