/-
  The program's Print, whole.
  The program's Print, from the test's pointer.
  The document's answer: Print, walked.
-/
import Derived.Test.YtmpaeladhoomoaaGreatDoorPrX
import Derived.Test.YtmpaeladhoomoaaGreatDoorRfC
namespace Go.Proofs.YtmpaeladhoomoaaGreatDoor
open Go.RowKit

/-- The builder at its own block holds t; what lay in w lies as it lay. -/
structure Bld (w wr : World) (t : Txt) : Prop where
  below : Below w.heap.size w wr
  is : Lib.IsBuilder 92 5 w.heap.size w.heap.size (Lib.byteCells t) wr
theorem bld_at {p : Value} {B b : Nat} {bs : List Value} {w w' : World} (h : Lib.BuilderAt 92 5 B b p bs w) (hg : w.grownBy w' none) : Lib.BuilderAt 92 5 B b p bs w' := by
  obtain ⟨h1, v, h2, h3, h4⟩ := h
  exact ⟨h1, v, heap_gb hg h2 (by simp), h3.kept hg (by cases v.ownBlock <;> simp), h4⟩
theorem Bld.grow {w wr w' : World} {t : Txt} (h : Bld w wr t) (hg : wr.grownBy w' none) : Bld w w' t :=
  ⟨gb_below (gb_trans (below_gb h.below) hg), h.is.elim (fun k => Or.inl (bld_at k hg)) (fun k => Or.inr (bld_at k hg))⟩
theorem Bld.gb {w wr : World} {t : Txt} (h : Bld w wr t) : w.grownBy wr none := below_gb h.below
theorem Bld.start (w : World) : Bld w (w.alloc (.cells #[.pointer none, .slice none 0 0] 92)) [] :=
  ⟨gb_below (gb_alloc (gb_refl w none) _), Or.inl ⟨Nat.le_refl _, _, heap_alloc_new w _, World.ownsRow_nil _ _ _ _, by simp [Value.ownBlock]⟩⟩
theorem below_trans {B : Nat} {a b c : World} (h : Below B a b) (k : Below B b c) : Below B a c :=
  ⟨k.os.trans h.os, k.tape.trans h.tape, k.output.trans h.output, Nat.le_trans h.size k.size, fun i hi => (k.block i hi).trans (h.block i hi)⟩
theorem write_any {w wr : World} {t : Txt} (h : Bld w wr t) (u : ByteArray) (v : Txt) (hu : u = bT v) (hlen : t.length + v.length ≤ 10000000) :
    Calls Tryz.prog 50 #[.pointer (some ⟨w.heap.size, 0, none⟩), .string u] wr fun e w' => e = .returned (.tuple #[.int .i64 (u.size : Nat), .nilIface]) ∧ Bld w w' (t ++ v) := by
  subst hu
  have h1 := Any.Builder_WriteString Tryz.n166 Tryz.Builder_Extra_156 w.heap.size w.heap.size (Lib.byteCells t) (bT v) wr h.is (by rw [Lib.byteCells_length, bT_size]; omega) h.below.size
  refine h1.mono (fun e w' hh => ⟨hh.1, below_trans h.below hh.2.2, Or.inr ?_⟩)
  have e : Lib.byteCells t ++ Lib.strCells (bT v) = Lib.byteCells (t ++ v) := by simp [Lib.byteCells, Lib.strCells, bT]
  rw [← e]
  exact hh.2.1
theorem string_any {w wr : World} {t : Txt} (h : Bld w wr t) :
    Calls Tryz.prog 54 #[.pointer (some ⟨w.heap.size, 0, none⟩)] wr fun e w' => e = .returned (.string (bT t)) ∧ w.grownBy w' none :=
  (Tryz.Builder_String_any w.heap.size w.heap.size t wr h.is h.below.size).mono (fun _ _ hh => ⟨hh.1, below_gb (below_trans h.below hh.2)⟩)

theorem question_print (w : World) (g : Nat) (fa : Bool) (h : w.cell? ⟨g, 1, none⟩ = some (.bool fa)) : Calls Tryz.prog 52 #[.pointer (some ⟨g, 0, none⟩)] w fun e w' => e = .returned (.string (bT (qT fa))) ∧ w' = w := by
  cases fa
  all_goals
    go_enter Tryz.func52, Tryz.ntmps52
    go_wp2_with fail
    go_ret
    exact ⟨rfl, rfl⟩
theorem stT_len (x : St) : (stT x).length ≤ 30 := by
  have c2 : ∀ n, (canon 2 n).length = 1 := fun _ => rfl
  have c3 : ∀ n, (canon 3 n).length = 2 := fun _ => rfl
  have c4 : ∀ n, (canon 4 n).length = 1 := fun _ => rfl
  unfold stT
  repeat' split
  all_goals simp [c2, c3, c4]
theorem thr_snoc (ls : List (List St)) (i : Nat) (l : List St) (h : ls[i]? = some l) : (ls.take (i + 1)).flatMap thrT = (ls.take i).flatMap thrT ++ ([116, 104, 114, 101, 97, 100] ++ stepsT l ++ [10]) := by
  rw [List.take_add_one, h]; simp [thrT]
theorem step_snoc (l : List St) (j : Nat) (x : St) (h : l[j]? = some x) : stepsT (l.take (j + 1)) = stepsT (l.take j) ++ ([32] ++ stT x ++ [59]) := by
  unfold stepsT; rw [List.take_add_one, h]; simp
theorem stepsT_len (l : List St) (h : l.length ≤ 8) (j : Nat) : (stepsT (l.take j)).length ≤ 256 := by
  have : ∀ m : List St, (stepsT m).length ≤ m.length * 32 := by
    intro m
    induction m with
    | nil => simp [stepsT]
    | cons x r ih =>
      have h1 := stT_len x
      have h2 : stepsT (x :: r) = ([32] ++ stT x ++ [59]) ++ stepsT r := rfl
      rw [h2]; simp; omega
  have h1 := this (l.take j)
  have h2 : (l.take j).length ≤ 8 := by simp; omega
  omega

theorem loc8' {w : World} {B : Nat} {t : TypeId} {a0 a1 a2 a3 a4 a5 a6 a7 : Value} (h : w.heap[B]? = some (.cells #[a0, a1, a2, a3, a4, a5, a6, a7] t (0, 0))) :
    w.cell? ⟨B, 0, none⟩ = some a0 ∧ w.cell? ⟨B, 1, none⟩ = some a1 ∧ w.cell? ⟨B, 2, none⟩ = some a2 ∧ w.cell? ⟨B, 3, none⟩ = some a3 ∧ w.cell? ⟨B, 4, none⟩ = some a4 ∧ w.cell? ⟨B, 5, none⟩ = some a5 ∧ w.cell? ⟨B, 6, none⟩ = some a6 ∧ w.cell? ⟨B, 7, none⟩ = some a7 ∧ (∀ o, w.frozen? ⟨B, o, none⟩ = false) :=
  ⟨cell_of h 0 _ rfl, cell_of h 1 _ rfl, cell_of h 2 _ rfl, cell_of h 3 _ rfl, cell_of h 4 _ rfl, cell_of h 5 _ rfl, cell_of h 6 _ rfl, cell_of h 7 _ rfl, frozen_of h⟩

set_option maxRecDepth 100000 in
set_option maxHeartbeats 4000000 in
theorem print_any (w : World) (ok : Nat → Prop) (pg : Nat) (ls : List (List St)) (fa : Bool) (ft : Txt) (h : ProgRep w ok pg ls fa ft) (hokl : ∀ x, ok x → x < w.heap.size) (hst : ∀ l ∈ ls, ∀ x ∈ l, StOk x) (hls : ls.length ≤ 4) (hft : ft.length ≤ 1000000) :
    Calls Tryz.prog 35 #[.pointer (some ⟨pg, 0, none⟩)] w fun e w' => e = .returned (.string (bT (testT ls fa ft))) ∧ w.grownBy w' none := by
  obtain ⟨ta, cap, xs, n0, a, k, c, n2, n3, n4, n5, d, hblk, hpok, hxs, hth, hF⟩ := h.ex
  have hpl := heap_lt hblk
  have HBLK : Hid (w.heap[pg]? = some (.cells #[.slice ta ls.length cap, .bool fa, .int .i64 n0, .slice a k c, .int .i64 n2, .int .i64 n3, .int .i64 n4, .int .i64 n5] 99 (0, 0))) := hblk
  have HXS : Hid (∀ (i : Nat) (v : Value), xs[i]? = some v → ∃ tg, ta = some ⟨tg, 0, none⟩ ∧ ok tg ∧ w.cell? ⟨tg, i, none⟩ = some v) := hxs
  have HTH : Hid (ThP w ok ls xs) := hth
  have HF : Hid (FRep d w ok [.int .i64 n0, .slice a k c, .int .i64 n2, .int .i64 n3, .int .i64 n4, .int .i64 n5] ft) := hF
  have HOK : Hid (∀ x, ok x → x < w.heap.size) := hokl
  have HST : Hid (∀ l ∈ ls, ∀ x ∈ l, StOk x) := hst
  have c0 := cell_of hblk 0 _ rfl
  clear hblk hxs hth hF hokl hst hpok h
  go_enter Tryz.func35, Tryz.ntmps35
  go_wp2_with fail
  go_loopw [13] (fun v13 wr => ∃ i : Nat, v13 = .int .i64 (i : Nat) ∧ i ≤ ls.length ∧ Hid (((ls.take i).flatMap thrT).length ≤ i * 1000) ∧ Bld w wr ((ls.take i).flatMap thrT)) (fun v13 _ => ls.length - (intOf v13).toNat)
  case atStart => exact ⟨0, rfl, Nat.zero_le _, by show _ ≤ _; simp, Bld.start w⟩
  case round =>
    obtain ⟨i, rfl, hil, HLE, BR⟩ := hrel
    clear c0
    by_cases hi : i < ls.length
    · have hi' : decide ((i : Int) < (ls.length : Int)) = true := by simp; omega
      obtain ⟨l, hl⟩ : ∃ l, ls[i]? = some l := ⟨ls[i], List.getElem?_eq_getElem hi⟩
      obtain ⟨sa, scap, hx, h8, hsteps⟩ := HTH.out.2 i l hl
      obtain ⟨tg, rfl, htok, htc⟩ := HXS.out i _ hx
      have e0 := gb_cell BR.gb htc (by simp)
      have htl := World.block_lt_of_cell? wr ⟨tg, i, none⟩ e0
      have HSL : Hid (ls[i]? = some l) := hl
      have HSX : Hid (∀ (j : Nat) (x : St), l[j]? = some x → ∃ g, sa = some ⟨g, 0, none⟩ ∧ ok g ∧ ∀ (o : Nat) (v : Value), (stCells x)[o]? = some v → w.cell? ⟨g, j * 5 + o, none⟩ = some v) := hsteps
      have HSO : Hid (∀ x ∈ l, StOk x) := HST.out l (List.mem_of_getElem? hl)
      clear hl hsteps hx htc htok
      generalize hpre : (ls.take i).flatMap thrT = pre at BR HLE
      have HPRE : Hid ((ls.take i).flatMap thrT = pre) := hpre
      clear hpre
      go_wp2_with fail
      refine (write_any BR _ [116, 104, 114, 101, 97, 100] rfl (by have := HLE.out; simp; omega)).mono ?_
      rintro e w1 ⟨rfl, B1⟩
      go_wp2_with fail
      go_loopw [20] (fun v20 wr => ∃ j : Nat, v20 = .int .i64 (j : Nat) ∧ j ≤ l.length ∧ Bld w wr (pre ++ [116, 104, 114, 101, 97, 100] ++ stepsT (l.take j))) (fun v20 _ => l.length - (intOf v20).toNat)
      case atStart => exact ⟨0, rfl, Nat.zero_le _, by simpa [stepsT] using B1⟩
      case round =>
        obtain ⟨j, rfl, hjl, BJ⟩ := hrel
        have HJL : Hid ((stepsT (l.take j)).length ≤ 256) := stepsT_len l h8 j
        by_cases hj : j < l.length
        · have hj' : decide ((j : Int) < (l.length : Int)) = true := by simp; omega
          obtain ⟨x, hx⟩ : ∃ x, l[j]? = some x := ⟨l[j], List.getElem?_eq_getElem hj⟩
          obtain ⟨g, rfl, hgok, hcs⟩ := HSX.out j x hx
          have HX : Hid (l[j]? = some x) := hx
          have HXO : Hid (StOk x) := HSO.out x (List.mem_of_getElem? hx)
          have hq : ∀ o v, (stCells x)[o]? = some v → wr.cell? ⟨g, j * 5 + o, none⟩ = some v := fun o v hv => gb_cell BJ.gb (hcs o v hv) (by simp)
          have x0 := hq 0 _ rfl
          have x1 := hq 1 _ rfl
          have x2 := hq 2 _ rfl
          have x3 := hq 3 _ rfl
          have x4 := hq 4 _ rfl
          simp only [Nat.add_zero] at x0
          have hgl := World.block_lt_of_cell? wr ⟨g, j * 5, none⟩ x0
          clear hq hcs hgok hx
          go_wp2_with fail
          refine (stext_any _ x HXO.out).mono ?_
          rintro e w2 ⟨rfl, hg2⟩
          have hz := bT_size (stT x)
          have hz2 := stT_len x
          generalize hu : stT x = u at hz hz2
          have HU : Hid (stT x = u) := hu
          clear hu
          have B2 := (BJ.grow (gb_alloc (gb_refl _ none) _)).grow hg2
          go_wp2_with fail
          refine (write_any B2 _ ([32] ++ u ++ [59]) (by show bT [32] ++ bT u ++ bT [59] = _; rw [bT_app, bT_app]) (by have := HLE.out; have := HJL.out; simp; omega)).mono ?_
          rintro e w3 ⟨rfl, B3⟩
          go_wp2_with fail
          refine ⟨⟨j + 1, by go_num, by omega, ?_⟩, by simp [intOf]; omega⟩
          rw [step_snoc l j x HX.out, HU.out]
          simpa using B3
        · have hj' : decide ((j : Int) < (l.length : Int)) = false := by simp; omega
          obtain rfl : j = l.length := by omega
          go_wp2_with fail
          refine (write_any BJ _ [10] rfl (by have h6 := HLE.out; have h7 := HJL.out; rw [List.take_length] at h7; simp; omega)).mono ?_
          rintro e w2 ⟨rfl, B2⟩
          go_wp2_with fail
          go_roundw
          case measure => simp [intOf]; omega
          case rel =>
            have hlen := stepsT_len l h8 l.length
            rw [List.take_length] at hlen
            refine ⟨i + 1, by go_num, by omega, ?_, ?_⟩
            · show _ ≤ _
              rw [thr_snoc ls i l HSL.out, HPRE.out]
              have := HLE.out
              simp; omega
            · rw [thr_snoc ls i l HSL.out, HPRE.out]
              rw [List.take_length] at B2
              simpa using B2
    · have hi' : decide ((i : Int) < (ls.length : Int)) = false := by simp; omega
      obtain rfl : i = ls.length := by omega
      rw [List.take_length] at BR HLE
      generalize hpre : ls.flatMap thrT = pre at BR HLE
      have HPRE : Hid (ls.flatMap thrT = pre) := hpre
      clear hpre
      have hblk2 := heap_gb BR.gb HBLK.out (by simp)
      obtain ⟨p0, p1, p2, p3, p4, p5, p6, p7, pf⟩ := loc8' hblk2
      have HQ : Hid (∀ wx, wr.grownBy wx none → Calls Tryz.prog 52 #[.pointer (some ⟨pg, 0, none⟩)] wx fun e w' => e = .returned (.string (bT (qT fa))) ∧ w' = wx) := fun wx hg => question_print wx pg fa (gb_cell hg p1 (by simp))
      have HX : Hid (∀ wx, wr.grownBy wx none → Calls Tryz.prog 53 #[.agg #[.int .i64 n0, .slice a k c, .int .i64 n2, .int .i64 n3, .int .i64 n4, .int .i64 n5]] wx fun e w' => e = .returned (.string (bT ft)) ∧ wx.grownBy w' none) := fun wx hg => by
        have hG := gb_trans BR.gb hg
        exact text_all d wx ok _ ft (HF.out.mono (fun x hx => hx) (fun x hx => hG.block x (HOK.out x hx) (by simp))) (fun x hx => Nat.lt_of_lt_of_le (HOK.out x hx) hG.size) hft
      have hql : (qT fa).length = 6 := by cases fa <;> rfl
      have HW : Hid (∀ (wx : World), wr.grownBy wx none → Calls Tryz.prog 50 #[.pointer (some ⟨w.heap.size, 0, none⟩), .string (bT (qT fa) ++ ⟨#[32]⟩ ++ bT ft ++ ⟨#[10]⟩)] wx fun e w' => e = .returned (.tuple #[.int .i64 ((bT (qT fa) ++ ⟨#[32]⟩ ++ bT ft ++ ⟨#[10]⟩ : ByteArray).size : Nat), .nilIface]) ∧ Bld w w' (pre ++ (qT fa ++ [32] ++ ft ++ [10]))) := fun wx hg =>
        write_any (BR.grow hg) _ (qT fa ++ [32] ++ ft ++ [10]) (by show bT (qT fa) ++ bT [32] ++ bT ft ++ bT [10] = _; rw [bT_app, bT_app, bT_app]) (by have h6 := HLE.out; simp; omega)
      have zq : (bT (qT fa)).size = 6 := by cases fa <;> rfl
      have zf := bT_size ft
      clear hblk2
      go_wp2_with fail
      go_region_with (first | (go_at_call 52; refine (HQ.out _ (by first | exact gb_drew (gb_refl _ _) | assumption)).mono ?_; rintro e w2 ⟨rfl, rfl⟩) | (go_at_call 53; refine (HX.out _ (by first | exact gb_drew (gb_refl _ _) | assumption)).mono ?_; rintro e w3 ⟨rfl, hg3⟩; have hg3' := gb_from_drew hg3) | (go_at_call 50; refine (HW.out _ (by first | assumption | exact gb_drew (gb_refl _ _))).mono ?_; rintro e w4 ⟨rfl, B4⟩))
      all_goals
        go_wp2_with fail
        refine (string_any B4).mono ?_
        rintro e w5 ⟨rfl, hg5⟩
        go_wp2_with fail
        go_ret
        refine ⟨?_, hg5⟩
        unfold testT
        rw [HPRE.out]
        show Ending.returned (Value.string (bT (pre ++ (qT fa ++ 32 :: (ft ++ [10]))))) = _
        simp
end Go.Proofs.YtmpaeladhoomoaaGreatDoor

namespace Go.Proofs.YtmpaeladhoomoaaGreatDoor
open Go.RowKit

set_option maxHeartbeats 1000000 in
/-- Print of a test in memory. -/
theorem hprint_any (w : World) (ok : Nat → Prop) (g pg : Nat) (ls : List (List St)) (fa : Bool) (ft : Txt) (hg : w.heap[g]? = some (.cells #[.pointer (some ⟨pg, 0, none⟩)] 71 (0, 0))) (h : ProgRep w ok pg ls fa ft) (hokl : ∀ x, ok x → x < w.heap.size) (hst : ∀ l ∈ ls, ∀ x ∈ l, StOk x) (hls : ls.length ≤ 4) (hft : ft.length ≤ 1000000) :
    Calls Tryz.prog 19 #[.pointer (some ⟨g, 0, none⟩)] w fun e w' => e = .returned (.string (bT (testT ls fa ft))) ∧ w.grownBy w' none := by
  have HP : Hid (Calls Tryz.prog 35 #[.pointer (some ⟨pg, 0, none⟩)] w fun e w' => e = .returned (.string (bT (testT ls fa ft))) ∧ w.grownBy w' none) := print_any w ok pg ls fa ft h hokl hst hls hft
  have c0 := cell_of hg 0 _ rfl
  clear h hokl hst hls hft hg
  go_enter Tryz.func19, Tryz.ntmps19
  go_wp2_with (first | (go_at_call 35; go_must (refine HP.out.mono ?_; rintro e w1 ⟨rfl, hg1⟩)) | go_in)
  go_ret
  exact ⟨rfl, hg1⟩
end Go.Proofs.YtmpaeladhoomoaaGreatDoor

namespace Go.Proofs.YtmpaeladhoomoaaGreatDoor
open Go.RowKit

theorem tok_eq : ∀ k, k < 21 → ∀ n, n < 10 → ∀ c ∈ [5, 17, 18, 19, 20], (canon k n == canon c 0) = (k == c) := by decide +kernel
theorem tok_eqB {k n : Nat} (hk : k ≤ 20) (hn : n ≤ 9) (c : Nat) (hc : c ∈ [5, 17, 18, 19, 20]) : ((canonB k n).toList == canon c 0) = (k == c) := by
  rw [ByteArray.toList_eq]
  exact tok_eq k (by omega) n (by omega) c hc
theorem canon_len : ∀ k, k < 21 → ∀ n, n < 10 → (canon k n).length ≤ 6 := by decide +kernel

/-- What the document's answer has written behind so many tokens. -/
def racc (sp : Nat) : List (Nat × Nat) → Txt
  | [] => []
  | x :: r => tokT x ++ rrun sp 1 x r
def rsep (sp i : Nat) (a y : Nat × Nat) : Txt := if i = 0 then [] else if y.1 = 5 ∨ i = sp then [10] else sepT a y
theorem racc_snoc (sp : Nat) (l : List (Nat × Nat)) (y : Nat × Nat) : racc sp (l ++ [y]) = racc sp l ++ (rsep sp l.length (lastK (0, 0) l) y ++ tokT y) := by
  cases l with
  | nil => simp [racc, rsep, rrun]
  | cons x r =>
    show tokT x ++ rrun sp 1 x (r ++ [y]) = tokT x ++ rrun sp 1 x r ++ (rsep sp (r.length + 1) (lastK x r) y ++ tokT y)
    unfold rsep
    rw [rrun_app, rrun, rrun, if_neg (show ¬ r.length + 1 = 0 from by omega), show 1 + r.length = r.length + 1 from by omega]
    simp
theorem rprint_racc (sp : Nat) (l : List (Nat × Nat)) : rprint sp l = racc sp l ++ [10] := by
  cases l <;> rfl
def kn (t : Tk) : Nat × Nat := (t.kind, t.num)
theorem rp_next {sp i : Nat} {l : List Tk} {t : Tk} {u S : Txt} {lk ln : Nat} (ht : l[i]? = some t) (hR : u = racc sp ((l.take i).map kn) ∧ (lk, ln) = lastK (0, 0) ((l.take i).map kn)) (hS : rsep sp i (lk, ln) (kn t) = S) :
    u ++ (S ++ canon t.kind t.num) = racc sp ((l.take (i + 1)).map kn) ∧ (t.kind, t.num) = lastK (0, 0) ((l.take (i + 1)).map kn) := by
  have hi := (List.getElem?_eq_some_iff.1 ht).1
  have hl : ((l.take i).map kn).length = i := by simp; omega
  have e : (l.take (i + 1)).map kn = (l.take i).map kn ++ [kn t] := by rw [List.take_add_one, ht]; simp
  refine ⟨?_, ?_⟩
  · rw [e, racc_snoc, hl, ← hR.1, ← hR.2, hS]; rfl
  · rw [e, lastK_app]; rfl

set_option maxRecDepth 100000 in
set_option maxHeartbeats 8000000 in
theorem rprint_any (w : World) (T : Nat) (tsv k8 : Value) (bo : Bool) (op : ByteArray) (n1 n2 n3 n4 : Int) (va : Option Addr) (vcap sp : Nat) (l : List Tk)
    (hblk : w.heap[T]? = some (.cells #[tsv, .bool bo, .string op, .int .i64 n1, .int .i64 n2, .int .i64 n3, .int .i64 n4, k8, .slice va l.length vcap, .int .i64 (sp : Nat)] 149 (0, 0)))
    (hl : l.length ≤ 400) (hk : ∀ t ∈ l, t.kind ≤ 20 ∧ t.num ≤ 9) (hc : ∀ (i : Nat) (t : Tk), l[i]? = some t → ∃ g, va = some ⟨g, 0, none⟩ ∧ ∀ (o : Nat) (v : Value), (rtC t)[o]? = some v → w.cell? ⟨g, i * 3 + o, none⟩ = some v) :
    Calls Tryz.prog 44 #[.pointer (some ⟨T, 0, none⟩)] w fun e w' => e = .returned (.string (bT (rprint sp (l.map kn)))) ∧ w.grownBy w' none := by
  have hTl := heap_lt hblk
  have HC : Hid (∀ (i : Nat) (t : Tk), l[i]? = some t → ∃ g, va = some ⟨g, 0, none⟩ ∧ ∀ (o : Nat) (v : Value), (rtC t)[o]? = some v → w.cell? ⟨g, i * 3 + o, none⟩ = some v) := hc
  have HK : Hid (∀ t ∈ l, t.kind ≤ 20 ∧ t.num ≤ 9) := hk
  have HB8 : Hid (w.cell? ⟨T, 8, none⟩ = some (.slice va l.length vcap)) := cell_of hblk 8 _ rfl
  have HB9 : Hid (w.cell? ⟨T, 9, none⟩ = some (.int .i64 (sp : Nat))) := cell_of hblk 9 _ rfl
  clear hc hk hblk
  go_enter Tryz.func44, Tryz.ntmps44
  go_wp2_with fail
  go_loopw [5, 3] (fun v5 v3 wr => ∃ (i lk ln : Nat) (a c : Int) (u : Txt), v5 = .int .i64 (i : Nat) ∧ i ≤ l.length ∧ v3 = .string (bT u) ∧ u.length ≤ i * 8 ∧ w.grownBy wr none ∧ wr.heap[w.heap.size]? = some (.cells #[.int .u8 a, .string (canonB lk ln), .int .i64 c] 142 (0, 0)) ∧ lk ≤ 20 ∧ ln ≤ 9 ∧ Hid (u = racc sp ((l.take i).map kn) ∧ (lk, ln) = lastK (0, 0) ((l.take i).map kn))) (fun v5 _ _ => l.length - (intOf v5).toNat)
  case atStart => exact ⟨0, 0, 0, _, _, [], rfl, Nat.zero_le _, rfl, by simp, gb_alloc (gb_refl _ _) _, heap_alloc_new w _, by omega, by omega, rfl, rfl⟩
  case round =>
    obtain ⟨i, lk, ln, a, c, u, rfl, hil, rfl, hul, hG, hL, hlk, hln, HR⟩ := hrel
    have b8 := gb_cell hG HB8.out (by simp)
    have b9 := gb_cell hG HB9.out (by simp)
    have hLl := heap_lt hL
    have hTw : T < wr.heap.size := by have := hG.size; omega
    have zu := bT_size u
    by_cases hi : i < l.length
    · have hi' : decide ((i : Int) < (l.length : Int)) = true := by simp; omega
      obtain ⟨t, ht⟩ : ∃ t, l[i]? = some t := ⟨l[i], List.getElem?_eq_getElem hi⟩
      obtain ⟨g, rfl, hcs⟩ := HC.out i t ht
      have hkt := HK.out t (List.mem_of_getElem? ht)
      have HT : Hid (l[i]? = some t) := ht
      have x0 := gb_cell hG (hcs 0 _ rfl) (by simp)
      have x1 := gb_cell hG (hcs 1 _ rfl) (by simp)
      have x2 := gb_cell hG (hcs 2 _ rfl) (by simp)
      simp only [Nat.add_zero] at x0
      have hgl := World.block_lt_of_cell? wr ⟨g, i * 3, none⟩ x0
      obtain ⟨y0, y1, y2, yf⟩ := (⟨cell_of hL 0 _ rfl, cell_of hL 1 _ rfl, cell_of hL 2 _ rfl, frozen_of hL⟩ : wr.cell? ⟨w.heap.size, 0, none⟩ = some (.int .u8 a) ∧ wr.cell? ⟨w.heap.size, 1, none⟩ = some (.string (canonB lk ln)) ∧ wr.cell? ⟨w.heap.size, 2, none⟩ = some (.int .i64 c) ∧ (∀ o, wr.frozen? ⟨w.heap.size, o, none⟩ = false))
      have e5 := tok_eqB hkt.1 hkt.2 5 (by simp)
      have e17 := tok_eqB hkt.1 hkt.2 17 (by simp)
      have e18 := tok_eqB hkt.1 hkt.2 18 (by simp)
      have e20 := tok_eqB hkt.1 hkt.2 20 (by simp)
      have f17 := tok_eqB hlk hln 17 (by simp)
      have f19 := tok_eqB hlk hln 19 (by simp)
      have zx : (canonB t.kind t.num).size ≤ 6 := canon_len t.kind (by omega) t.num (by omega)
      simp only [canon, reduceIte, Nat.reduceEqDiff] at e5 e17 e18 e20 f17 f19
      have zx2 : (canonB t.kind t.num).size = (canon t.kind t.num).length := bT_size _
      generalize hxb : canonB t.kind t.num = xb at x1 e5 e17 e18 e20 zx zx2
      have HXB : Hid (canonB t.kind t.num = xb) := hxb
      generalize hyb : canonB lk ln = yb at y1 f17 f19 hL
      have HN : ∀ (S : Txt) (V : ByteArray), S.length ≤ 1 → rsep sp i (lk, ln) (kn t) = S → V = bT (u ++ S) ++ xb → ∀ w2 : World, w.grownBy w2 none → w2.heap[w.heap.size]? = some (.cells #[.int .u8 (rkind t.kind : Nat), .string xb, .int .i64 (t.at_ : Nat)] 142 (0, 0)) →
          ∃ (i' lk ln : Nat) (a c : Int) (u' : Txt), Value.int .i64 ((i : Int) + 1) = .int .i64 (i' : Nat) ∧ i' ≤ l.length ∧ Value.string V = .string (bT u') ∧ u'.length ≤ i' * 8 ∧ w.grownBy w2 none ∧ w2.heap[w.heap.size]? = some (.cells #[.int .u8 a, .string (canonB lk ln), .int .i64 c] 142 (0, 0)) ∧ lk ≤ 20 ∧ ln ≤ 9 ∧ Hid (u' = racc sp ((l.take i').map kn) ∧ (lk, ln) = lastK (0, 0) ((l.take i').map kn)) := by
        intro S V hS hr hV w2 hg2 hb2
        have hn := rp_next HT.out HR.out hr
        refine ⟨i + 1, t.kind, t.num, _, _, u ++ (S ++ canon t.kind t.num), by simp, by omega, ?_, by simp; omega, hg2, by rw [HXB.out]; exact hb2, hkt.1, hkt.2, hn⟩
        rw [hV, ← HXB.out]
        show Value.string (bT (u ++ S) ++ bT (canon t.kind t.num)) = _
        rw [bT_app, List.append_assoc]
      have HNH : Hid (∀ (S : Txt) (V : ByteArray), S.length ≤ 1 → rsep sp i (lk, ln) (kn t) = S → V = bT (u ++ S) ++ xb → ∀ w2 : World, w.grownBy w2 none → w2.heap[w.heap.size]? = some (.cells #[.int .u8 (rkind t.kind : Nat), .string xb, .int .i64 (t.at_ : Nat)] 142 (0, 0)) →
          ∃ (i' lk ln : Nat) (a c : Int) (u' : Txt), Value.int .i64 ((i : Int) + 1) = .int .i64 (i' : Nat) ∧ i' ≤ l.length ∧ Value.string V = .string (bT u') ∧ u'.length ≤ i' * 8 ∧ w.grownBy w2 none ∧ w2.heap[w.heap.size]? = some (.cells #[.int .u8 a, .string (canonB lk ln), .int .i64 c] 142 (0, 0)) ∧ lk ≤ 20 ∧ ln ≤ 9 ∧ Hid (u' = racc sp ((l.take i').map kn) ∧ (lk, ln) = lastK (0, 0) ((l.take i').map kn))) := HN
      clear HN hxb hyb hkt hlk hln HR zx2
      have hx : (t.kind = 18 ∨ t.kind = 20 ∨ t.kind = 17) ∨ (t.kind = 5 ∧ (lk = 19 ∨ lk = 17 ∨ (lk ≠ 19 ∧ lk ≠ 17))) ∨ ((t.kind ≠ 18 ∧ t.kind ≠ 20 ∧ t.kind ≠ 17 ∧ t.kind ≠ 5) ∧ (lk = 19 ∨ lk = 17 ∨ (lk ≠ 19 ∧ lk ≠ 17))) := by omega
      have hp : i = 0 ∨ (i ≠ 0 ∧ i = sp) ∨ (i ≠ 0 ∧ i ≠ sp) := by omega
      rcases hp with hp | hp | hp <;> rcases hx with (hx | hx | hx) | ⟨hx, hy | hy | hy⟩ | ⟨hx, hy | hy | hy⟩
      all_goals
        first
          | (have HS : Hid (rsep sp i (lk, ln) (kn t) = []) := by show _ = _; unfold rsep; rw [if_pos (by omega)])
          | (have HS : Hid (rsep sp i (lk, ln) (kn t) = [10]) := by show _ = _; unfold rsep; rw [if_neg (by omega), if_pos (by show t.kind = 5 ∨ i = sp; omega)])
          | (have HS : Hid (rsep sp i (lk, ln) (kn t) = []) := by show _ = _; unfold rsep; rw [if_neg (by omega), if_neg (by show ¬ (t.kind = 5 ∨ i = sp); omega)]; unfold sepT; rw [if_pos (by show (gl t.kind || gr lk) = true; simp [gl, gr]; omega)])
          | (have HS : Hid (rsep sp i (lk, ln) (kn t) = [32]) := by show _ = _; unfold rsep; rw [if_neg (by omega), if_neg (by show ¬ (t.kind = 5 ∨ i = sp); omega)]; unfold sepT; rw [if_neg (by show ¬ (gl t.kind || gr lk) = true; simp [gl, gr]; omega)])
        first | (have g5 : (xb.toList == [116, 104, 114, 101, 97, 100]) = true := e5.trans (by rw [beq_iff_eq]; omega)) | (have g5 : (xb.toList == [116, 104, 114, 101, 97, 100]) = false := e5.trans (by rw [beq_eq_false_iff_ne]; omega))
        first | (have g17 : (xb.toList == [58]) = true := e17.trans (by rw [beq_iff_eq]; omega)) | (have g17 : (xb.toList == [58]) = false := e17.trans (by rw [beq_eq_false_iff_ne]; omega))
        first | (have g18 : (xb.toList == [59]) = true := e18.trans (by rw [beq_iff_eq]; omega)) | (have g18 : (xb.toList == [59]) = false := e18.trans (by rw [beq_eq_false_iff_ne]; omega))
        first | (have g20 : (xb.toList == [41]) = true := e20.trans (by rw [beq_iff_eq]; omega)) | (have g20 : (xb.toList == [41]) = false := e20.trans (by rw [beq_eq_false_iff_ne]; omega))
        try first | (have k17 : (yb.toList == [58]) = true := f17.trans (by rw [beq_iff_eq]; omega)) | (have k17 : (yb.toList == [58]) = false := f17.trans (by rw [beq_eq_false_iff_ne]; omega))
        try first | (have k19 : (yb.toList == [40]) = true := f19.trans (by rw [beq_iff_eq]; omega)) | (have k19 : (yb.toList == [40]) = false := f19.trans (by rw [beq_eq_false_iff_ne]; omega))
        first | (have gi : decide ((0 : Int) < (i : Int)) = false := by simp; omega) | (have gi : decide ((0 : Int) < (i : Int)) = true := by simp; omega)
        try first | (have gs : ((i : Int) == (sp : Int)) = true := by rw [beq_iff_eq]; omega) | (have gs : ((i : Int) == (sp : Int)) = false := by rw [beq_eq_false_iff_ne]; omega)
        first | (have gj : decide (0 < i) = false := by simp; omega) | (have gj : decide (0 < i) = true := by simp; omega)
        clear e5 e17 e18 e20 f17 f19 hx
        try clear hy
        have HP : Hid (i ≤ l.length) := hil
        clear hp
        go_wp2_with fail
        refine ⟨HNH.out _ _ ?_ HS.out ?_ _ ?_ ?_, by simp [intOf]; omega⟩
        · simp
        · first | (show bT u ++ xb = _; rw [List.append_nil]) | (show bT u ++ bT [10] ++ xb = _; rw [bT_app]) | (show bT u ++ bT [32] ++ xb = _; rw [bT_app])
        · exact gb_alloc (gb_put_new (gb_put_new (gb_put_new hG (Nat.le_refl _) _ _) (Nat.le_refl _) _ _) (Nat.le_refl _) _ _) _
        · exact heap_alloc_at (heap_set' (heap_set' (heap_set' hL 0 _ _ rfl) 1 _ _ rfl) 2 _ _ rfl) _
    · have hi' : decide ((i : Int) < (l.length : Int)) = false := by simp; omega
      obtain rfl : i = l.length := by omega
      go_wp2_with fail
      go_ret
      refine ⟨?_, hG⟩
      have h1 := HR.out.1
      rw [List.take_length] at h1
      rw [rprint_racc, ← h1]
      show Ending.returned (.string (bT u ++ bT [10])) = _
      rw [bT_app]
end Go.Proofs.YtmpaeladhoomoaaGreatDoor
