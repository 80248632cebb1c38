/-
  The program's Print, whole.
-/
import Derived.Test.YtmpaeladhoomoaaGreatDoorPrF
namespace Go.Proofs.YtmpaeladhoomoaaGreatDoor
open Go.RowKit

/-- The builder at its own block holds t; what lay in w lies as it lay. -/
structure Bld (w wr : World) (t : Txt) : Prop where
  below : Below w.heap.size w wr
  is : Lib.IsBuilder 92 5 w.heap.size w.heap.size (Lib.byteCells t) wr
theorem bld_at {p : Value} {B b : Nat} {bs : List Value} {w w' : World} (h : Lib.BuilderAt 92 5 B b p bs w) (hg : w.grownBy w' none) : Lib.BuilderAt 92 5 B b p bs w' := by
  obtain ⟨h1, v, h2, h3, h4⟩ := h
  exact ⟨h1, v, heap_gb hg h2 (by simp), h3.kept hg (by cases v.ownBlock <;> simp), h4⟩
theorem Bld.grow {w wr w' : World} {t : Txt} (h : Bld w wr t) (hg : wr.grownBy w' none) : Bld w w' t :=
  ⟨gb_below (gb_trans (below_gb h.below) hg), h.is.elim (fun k => Or.inl (bld_at k hg)) (fun k => Or.inr (bld_at k hg))⟩
theorem Bld.gb {w wr : World} {t : Txt} (h : Bld w wr t) : w.grownBy wr none := below_gb h.below
theorem Bld.start (w : World) : Bld w (w.alloc (.cells #[.pointer none, .slice none 0 0] 92)) [] :=
  ⟨gb_below (gb_alloc (gb_refl w none) _), Or.inl ⟨Nat.le_refl _, _, heap_alloc_new w _, World.ownsRow_nil _ _ _ _, by simp [Value.ownBlock]⟩⟩
theorem below_trans {B : Nat} {a b c : World} (h : Below B a b) (k : Below B b c) : Below B a c :=
  ⟨k.os.trans h.os, k.tape.trans h.tape, k.output.trans h.output, Nat.le_trans h.size k.size, fun i hi => (k.block i hi).trans (h.block i hi)⟩
theorem write_any {w wr : World} {t : Txt} (h : Bld w wr t) (u : ByteArray) (v : Txt) (hu : u = bT v) (hlen : t.length + v.length ≤ 10000000) :
    Calls Tryz.prog 50 #[.pointer (some ⟨w.heap.size, 0, none⟩), .string u] wr fun e w' => e = .returned (.tuple #[.int .i64 (u.size : Nat), .nilIface]) ∧ Bld w w' (t ++ v) := by
  subst hu
  have h1 := Any.Builder_WriteString Tryz.n166 Tryz.Builder_Extra_156 w.heap.size w.heap.size (Lib.byteCells t) (bT v) wr h.is (by rw [Lib.byteCells_length, bT_size]; omega) h.below.size
  refine h1.mono (fun e w' hh => ⟨hh.1, below_trans h.below hh.2.2, Or.inr ?_⟩)
  have e : Lib.byteCells t ++ Lib.strCells (bT v) = Lib.byteCells (t ++ v) := by simp [Lib.byteCells, Lib.strCells, bT]
  rw [← e]
  exact hh.2.1
theorem string_any {w wr : World} {t : Txt} (h : Bld w wr t) :
    Calls Tryz.prog 54 #[.pointer (some ⟨w.heap.size, 0, none⟩)] wr fun e w' => e = .returned (.string (bT t)) ∧ w.grownBy w' none :=
  (Tryz.Builder_String_any w.heap.size w.heap.size t wr h.is h.below.size).mono (fun _ _ hh => ⟨hh.1, below_gb (below_trans h.below hh.2)⟩)

theorem question_print (w : World) (g : Nat) (fa : Bool) (h : w.cell? ⟨g, 1, none⟩ = some (.bool fa)) : Calls Tryz.prog 52 #[.pointer (some ⟨g, 0, none⟩)] w fun e w' => e = .returned (.string (bT (qT fa))) ∧ w' = w := by
  cases fa
  all_goals
    go_enter Tryz.func52, Tryz.ntmps52
    go_wp2_with fail
    go_ret
    exact ⟨rfl, rfl⟩
theorem stT_len (x : St) : (stT x).length ≤ 30 := by
  have c2 : ∀ n, (canon 2 n).length = 1 := fun _ => rfl
  have c3 : ∀ n, (canon 3 n).length = 2 := fun _ => rfl
  have c4 : ∀ n, (canon 4 n).length = 1 := fun _ => rfl
  unfold stT
  repeat' split
  all_goals simp [c2, c3, c4]
theorem thr_snoc (ls : List (List St)) (i : Nat) (l : List St) (h : ls[i]? = some l) : (ls.take (i + 1)).flatMap thrT = (ls.take i).flatMap thrT ++ ([116, 104, 114, 101, 97, 100] ++ stepsT l ++ [10]) := by
  rw [List.take_add_one, h]; simp [thrT]
theorem step_snoc (l : List St) (j : Nat) (x : St) (h : l[j]? = some x) : stepsT (l.take (j + 1)) = stepsT (l.take j) ++ ([32] ++ stT x ++ [59]) := by
  unfold stepsT; rw [List.take_add_one, h]; simp
theorem stepsT_len (l : List St) (h : l.length ≤ 8) (j : Nat) : (stepsT (l.take j)).length ≤ 256 := by
  have : ∀ m : List St, (stepsT m).length ≤ m.length * 32 := by
    intro m
    induction m with
    | nil => simp [stepsT]
    | cons x r ih =>
      have h1 := stT_len x
      have h2 : stepsT (x :: r) = ([32] ++ stT x ++ [59]) ++ stepsT r := rfl
      rw [h2]; simp; omega
  have h1 := this (l.take j)
  have h2 : (l.take j).length ≤ 8 := by simp; omega
  omega

theorem loc8' {w : World} {B : Nat} {t : TypeId} {a0 a1 a2 a3 a4 a5 a6 a7 : Value} (h : w.heap[B]? = some (.cells #[a0, a1, a2, a3, a4, a5, a6, a7] t (0, 0))) :
    w.cell? ⟨B, 0, none⟩ = some a0 ∧ w.cell? ⟨B, 1, none⟩ = some a1 ∧ w.cell? ⟨B, 2, none⟩ = some a2 ∧ w.cell? ⟨B, 3, none⟩ = some a3 ∧ w.cell? ⟨B, 4, none⟩ = some a4 ∧ w.cell? ⟨B, 5, none⟩ = some a5 ∧ w.cell? ⟨B, 6, none⟩ = some a6 ∧ w.cell? ⟨B, 7, none⟩ = some a7 ∧ (∀ o, w.frozen? ⟨B, o, none⟩ = false) :=
  ⟨cell_of h 0 _ rfl, cell_of h 1 _ rfl, cell_of h 2 _ rfl, cell_of h 3 _ rfl, cell_of h 4 _ rfl, cell_of h 5 _ rfl, cell_of h 6 _ rfl, cell_of h 7 _ rfl, frozen_of h⟩

set_option maxRecDepth 100000 in
set_option maxHeartbeats 4000000 in
theorem print_any (w : World) (ok : Nat → Prop) (pg : Nat) (ls : List (List St)) (fa : Bool) (ft : Txt) (h : ProgRep w ok pg ls fa ft) (hokl : ∀ x, ok x → x < w.heap.size) (hst : ∀ l ∈ ls, ∀ x ∈ l, StOk x) (hls : ls.length ≤ 4) (hft : ft.length ≤ 1000000) :
    Calls Tryz.prog 35 #[.pointer (some ⟨pg, 0, none⟩)] w fun e w' => e = .returned (.string (bT (testT ls fa ft))) ∧ w.grownBy w' none := by
  obtain ⟨ta, cap, xs, n0, a, k, c, n2, n3, n4, n5, d, hblk, hpok, hxs, hth, hF⟩ := h.ex
  have hpl := heap_lt hblk
  have HBLK : Hid (w.heap[pg]? = some (.cells #[.slice ta ls.length cap, .bool fa, .int .i64 n0, .slice a k c, .int .i64 n2, .int .i64 n3, .int .i64 n4, .int .i64 n5] 99 (0, 0))) := hblk
  have HXS : Hid (∀ (i : Nat) (v : Value), xs[i]? = some v → ∃ tg, ta = some ⟨tg, 0, none⟩ ∧ ok tg ∧ w.cell? ⟨tg, i, none⟩ = some v) := hxs
  have HTH : Hid (ThP w ok ls xs) := hth
  have HF : Hid (FRep d w ok [.int .i64 n0, .slice a k c, .int .i64 n2, .int .i64 n3, .int .i64 n4, .int .i64 n5] ft) := hF
  have HOK : Hid (∀ x, ok x → x < w.heap.size) := hokl
  have HST : Hid (∀ l ∈ ls, ∀ x ∈ l, StOk x) := hst
  have c0 := cell_of hblk 0 _ rfl
  clear hblk hxs hth hF hokl hst hpok h
  go_enter Tryz.func35, Tryz.ntmps35
  go_wp2_with fail
  go_loopw [13] (fun v13 wr => ∃ i : Nat, v13 = .int .i64 (i : Nat) ∧ i ≤ ls.length ∧ Hid (((ls.take i).flatMap thrT).length ≤ i * 1000) ∧ Bld w wr ((ls.take i).flatMap thrT)) (fun v13 _ => ls.length - (intOf v13).toNat)
  case atStart => exact ⟨0, rfl, Nat.zero_le _, by show _ ≤ _; simp, Bld.start w⟩
  case round =>
    obtain ⟨i, rfl, hil, HLE, BR⟩ := hrel
    clear c0
    by_cases hi : i < ls.length
    · have hi' : decide ((i : Int) < (ls.length : Int)) = true := by simp; omega
      obtain ⟨l, hl⟩ : ∃ l, ls[i]? = some l := ⟨ls[i], List.getElem?_eq_getElem hi⟩
      obtain ⟨sa, scap, hx, h8, hsteps⟩ := HTH.out.2 i l hl
      obtain ⟨tg, rfl, htok, htc⟩ := HXS.out i _ hx
      have e0 := gb_cell BR.gb htc (by simp)
      have htl := World.block_lt_of_cell? wr ⟨tg, i, none⟩ e0
      have HSL : Hid (ls[i]? = some l) := hl
      have HSX : Hid (∀ (j : Nat) (x : St), l[j]? = some x → ∃ g, sa = some ⟨g, 0, none⟩ ∧ ok g ∧ ∀ (o : Nat) (v : Value), (stCells x)[o]? = some v → w.cell? ⟨g, j * 5 + o, none⟩ = some v) := hsteps
      have HSO : Hid (∀ x ∈ l, StOk x) := HST.out l (List.mem_of_getElem? hl)
      clear hl hsteps hx htc htok
      generalize hpre : (ls.take i).flatMap thrT = pre at BR HLE
      have HPRE : Hid ((ls.take i).flatMap thrT = pre) := hpre
      clear hpre
      go_wp2_with fail
      refine (write_any BR _ [116, 104, 114, 101, 97, 100] rfl (by have := HLE.out; simp; omega)).mono ?_
      rintro e w1 ⟨rfl, B1⟩
      go_wp2_with fail
      go_loopw [20] (fun v20 wr => ∃ j : Nat, v20 = .int .i64 (j : Nat) ∧ j ≤ l.length ∧ Bld w wr (pre ++ [116, 104, 114, 101, 97, 100] ++ stepsT (l.take j))) (fun v20 _ => l.length - (intOf v20).toNat)
      case atStart => exact ⟨0, rfl, Nat.zero_le _, by simpa [stepsT] using B1⟩
      case round =>
        obtain ⟨j, rfl, hjl, BJ⟩ := hrel
        have HJL : Hid ((stepsT (l.take j)).length ≤ 256) := stepsT_len l h8 j
        by_cases hj : j < l.length
        · have hj' : decide ((j : Int) < (l.length : Int)) = true := by simp; omega
          obtain ⟨x, hx⟩ : ∃ x, l[j]? = some x := ⟨l[j], List.getElem?_eq_getElem hj⟩
          obtain ⟨g, rfl, hgok, hcs⟩ := HSX.out j x hx
          have HX : Hid (l[j]? = some x) := hx
          have HXO : Hid (StOk x) := HSO.out x (List.mem_of_getElem? hx)
          have hq : ∀ o v, (stCells x)[o]? = some v → wr.cell? ⟨g, j * 5 + o, none⟩ = some v := fun o v hv => gb_cell BJ.gb (hcs o v hv) (by simp)
          have x0 := hq 0 _ rfl
          have x1 := hq 1 _ rfl
          have x2 := hq 2 _ rfl
          have x3 := hq 3 _ rfl
          have x4 := hq 4 _ rfl
          simp only [Nat.add_zero] at x0
          have hgl := World.block_lt_of_cell? wr ⟨g, j * 5, none⟩ x0
          clear hq hcs hgok hx
          go_wp2_with fail
          refine (stext_any _ x HXO.out).mono ?_
          rintro e w2 ⟨rfl, hg2⟩
          have hz := bT_size (stT x)
          have hz2 := stT_len x
          generalize hu : stT x = u at hz hz2
          have HU : Hid (stT x = u) := hu
          clear hu
          have B2 := (BJ.grow (gb_alloc (gb_refl _ none) _)).grow hg2
          go_wp2_with fail
          refine (write_any B2 _ ([32] ++ u ++ [59]) (by show bT [32] ++ bT u ++ bT [59] = _; rw [bT_app, bT_app]) (by have := HLE.out; have := HJL.out; simp; omega)).mono ?_
          rintro e w3 ⟨rfl, B3⟩
          go_wp2_with fail
          refine ⟨⟨j + 1, by go_num, by omega, ?_⟩, by simp [intOf]; omega⟩
          rw [step_snoc l j x HX.out, HU.out]
          simpa using B3
        · have hj' : decide ((j : Int) < (l.length : Int)) = false := by simp; omega
          obtain rfl : j = l.length := by omega
          go_wp2_with fail
          refine (write_any BJ _ [10] rfl (by have h6 := HLE.out; have h7 := HJL.out; rw [List.take_length] at h7; simp; omega)).mono ?_
          rintro e w2 ⟨rfl, B2⟩
          go_wp2_with fail
          go_roundw
          case measure => simp [intOf]; omega
          case rel =>
            have hlen := stepsT_len l h8 l.length
            rw [List.take_length] at hlen
            refine ⟨i + 1, by go_num, by omega, ?_, ?_⟩
            · show _ ≤ _
              rw [thr_snoc ls i l HSL.out, HPRE.out]
              have := HLE.out
              simp; omega
            · rw [thr_snoc ls i l HSL.out, HPRE.out]
              rw [List.take_length] at B2
              simpa using B2
    · have hi' : decide ((i : Int) < (ls.length : Int)) = false := by simp; omega
      obtain rfl : i = ls.length := by omega
      rw [List.take_length] at BR HLE
      generalize hpre : ls.flatMap thrT = pre at BR HLE
      have HPRE : Hid (ls.flatMap thrT = pre) := hpre
      clear hpre
      have hblk2 := heap_gb BR.gb HBLK.out (by simp)
      obtain ⟨p0, p1, p2, p3, p4, p5, p6, p7, pf⟩ := loc8' hblk2
      have HQ : Hid (∀ wx, wr.grownBy wx none → Calls Tryz.prog 52 #[.pointer (some ⟨pg, 0, none⟩)] wx fun e w' => e = .returned (.string (bT (qT fa))) ∧ w' = wx) := fun wx hg => question_print wx pg fa (gb_cell hg p1 (by simp))
      have HX : Hid (∀ wx, wr.grownBy wx none → Calls Tryz.prog 53 #[.agg #[.int .i64 n0, .slice a k c, .int .i64 n2, .int .i64 n3, .int .i64 n4, .int .i64 n5]] wx fun e w' => e = .returned (.string (bT ft)) ∧ wx.grownBy w' none) := fun wx hg => by
        have hG := gb_trans BR.gb hg
        exact text_all d wx ok _ ft (HF.out.mono (fun x hx => hx) (fun x hx => hG.block x (HOK.out x hx) (by simp))) (fun x hx => Nat.lt_of_lt_of_le (HOK.out x hx) hG.size) hft
      have hql : (qT fa).length = 6 := by cases fa <;> rfl
      have HW : Hid (∀ (wx : World), wr.grownBy wx none → Calls Tryz.prog 50 #[.pointer (some ⟨w.heap.size, 0, none⟩), .string (bT (qT fa) ++ ⟨#[32]⟩ ++ bT ft ++ ⟨#[10]⟩)] wx fun e w' => e = .returned (.tuple #[.int .i64 ((bT (qT fa) ++ ⟨#[32]⟩ ++ bT ft ++ ⟨#[10]⟩ : ByteArray).size : Nat), .nilIface]) ∧ Bld w w' (pre ++ (qT fa ++ [32] ++ ft ++ [10]))) := fun wx hg =>
        write_any (BR.grow hg) _ (qT fa ++ [32] ++ ft ++ [10]) (by show bT (qT fa) ++ bT [32] ++ bT ft ++ bT [10] = _; rw [bT_app, bT_app, bT_app]) (by have h6 := HLE.out; simp; omega)
      have zq : (bT (qT fa)).size = 6 := by cases fa <;> rfl
      have zf := bT_size ft
      clear hblk2
      go_wp2_with fail
      go_region_with (first | (go_at_call 52; refine (HQ.out _ (by first | exact gb_drew (gb_refl _ _) | assumption)).mono ?_; rintro e w2 ⟨rfl, rfl⟩) | (go_at_call 53; refine (HX.out _ (by first | exact gb_drew (gb_refl _ _) | assumption)).mono ?_; rintro e w3 ⟨rfl, hg3⟩; have hg3' := gb_from_drew hg3) | (go_at_call 50; refine (HW.out _ (by first | assumption | exact gb_drew (gb_refl _ _))).mono ?_; rintro e w4 ⟨rfl, B4⟩))
      all_goals
        go_wp2_with fail
        refine (string_any B4).mono ?_
        rintro e w5 ⟨rfl, hg5⟩
        go_wp2_with fail
        go_ret
        refine ⟨?_, hg5⟩
        unfold testT
        rw [HPRE.out]
        show Ending.returned (Value.string (bT (pre ++ (qT fa ++ 32 :: (ft ++ [10]))))) = _
        simp
end Go.Proofs.YtmpaeladhoomoaaGreatDoor
