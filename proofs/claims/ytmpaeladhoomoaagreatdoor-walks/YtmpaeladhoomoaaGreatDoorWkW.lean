/-
  The document's machine: a digit as a text.
  The document's machine: does a step of a thread set a register?
  The document's machine: does the test name a place?
  The document's machine: the first state.
  The document's machine: does a formula name a place?
-/
import Derived.Test.YtmpaeladhoomoaaGreatDoorPrX
import Derived.Laws.IdiomStrings
import Derived.Test.YtmpaeladhoomoaaGreatDoorEqX
import Derived.Test.YtmpaeladhoomoaaGreatDoorWkV
namespace Go.Proofs.YtmpaeladhoomoaaGreatDoor
open Go.RowKit

theorem back_any (w : World) (x : UInt8) :
    (convert 81 9 (.slice (some ⟨w.heap.size, 0, none⟩) 1 1)).run Tryz.prog (w.alloc (.cells #[.int .u8 (x.toNat : Nat)] 5)) = .ok (.string ⟨#[x]⟩) (w.alloc (.cells #[.int .u8 (x.toNat : Nat)] 5)) :=
  run_convert_bytes_back (P := Tryz.prog) (w.alloc (.cells #[.int .u8 (x.toNat : Nat)] 5)) 81 9 5 ⟨w.heap.size, 0, none⟩ 1 [x] Tryz.underlying81 Tryz.underlying5 Tryz.underlying9 (fun j hj => by
    obtain rfl : j = 0 := by simpa using hj
    exact cell_of (heap_alloc_new w _) 0 _ rfl)

set_option maxRecDepth 100000 in
set_option maxHeartbeats 1000000 in
theorem digit_any (w : World) (n : Nat) (h : n ≤ 9) : Calls Tryz.prog 114 #[.int .i64 (n : Nat)] w fun e w' => e = .returned (.string (canonB 4 n)) ∧ w.grownBy w' none := by
  have hn : n = 0 ∨ n = 1 ∨ n = 2 ∨ n = 3 ∨ n = 4 ∨ n = 5 ∨ n = 6 ∨ n = 7 ∨ n = 8 ∨ n = 9 := by omega
  clear h
  rcases hn with rfl | rfl | rfl | rfl | rfl | rfl | rfl | rfl | rfl | rfl
  · have hb := back_any w 48
    simp only [UInt8.reduceToNat, Int.cast_ofNat_Int] at hb
    go_enter Tryz.func114, Tryz.ntmps114
    go_wp2
    go_ret
    exact ⟨rfl, gb_alloc (gb_refl _ _) _⟩
  · have hb := back_any w 49
    simp only [UInt8.reduceToNat, Int.cast_ofNat_Int] at hb
    go_enter Tryz.func114, Tryz.ntmps114
    go_wp2
    go_ret
    exact ⟨rfl, gb_alloc (gb_refl _ _) _⟩
  · have hb := back_any w 50
    simp only [UInt8.reduceToNat, Int.cast_ofNat_Int] at hb
    go_enter Tryz.func114, Tryz.ntmps114
    go_wp2
    go_ret
    exact ⟨rfl, gb_alloc (gb_refl _ _) _⟩
  · have hb := back_any w 51
    simp only [UInt8.reduceToNat, Int.cast_ofNat_Int] at hb
    go_enter Tryz.func114, Tryz.ntmps114
    go_wp2
    go_ret
    exact ⟨rfl, gb_alloc (gb_refl _ _) _⟩
  · have hb := back_any w 52
    simp only [UInt8.reduceToNat, Int.cast_ofNat_Int] at hb
    go_enter Tryz.func114, Tryz.ntmps114
    go_wp2
    go_ret
    exact ⟨rfl, gb_alloc (gb_refl _ _) _⟩
  · have hb := back_any w 53
    simp only [UInt8.reduceToNat, Int.cast_ofNat_Int] at hb
    go_enter Tryz.func114, Tryz.ntmps114
    go_wp2
    go_ret
    exact ⟨rfl, gb_alloc (gb_refl _ _) _⟩
  · have hb := back_any w 54
    simp only [UInt8.reduceToNat, Int.cast_ofNat_Int] at hb
    go_enter Tryz.func114, Tryz.ntmps114
    go_wp2
    go_ret
    exact ⟨rfl, gb_alloc (gb_refl _ _) _⟩
  · have hb := back_any w 55
    simp only [UInt8.reduceToNat, Int.cast_ofNat_Int] at hb
    go_enter Tryz.func114, Tryz.ntmps114
    go_wp2
    go_ret
    exact ⟨rfl, gb_alloc (gb_refl _ _) _⟩
  · have hb := back_any w 56
    simp only [UInt8.reduceToNat, Int.cast_ofNat_Int] at hb
    go_enter Tryz.func114, Tryz.ntmps114
    go_wp2
    go_ret
    exact ⟨rfl, gb_alloc (gb_refl _ _) _⟩
  · have hb := back_any w 57
    simp only [UInt8.reduceToNat, Int.cast_ofNat_Int] at hb
    go_enter Tryz.func114, Tryz.ntmps114
    go_wp2
    go_ret
    exact ⟨rfl, gb_alloc (gb_refl _ _) _⟩
end Go.Proofs.YtmpaeladhoomoaaGreatDoor

namespace Go.Proofs.YtmpaeladhoomoaaGreatDoor
open Go.RowKit

/-- The threads of a test, as they lie from its block on. -/
def RThs (w : World) (T : Nat) (t : List (List RSt)) : Prop :=
  ∃ (ta : Option Addr) (cap : Nat) (xs : List Value), w.cell? ⟨T, 0, none⟩ = some (.slice ta t.length cap) ∧ (∀ (i : Nat) (v : Value), xs[i]? = some v → ∃ g, ta = some ⟨g, 0, none⟩ ∧ w.cell? ⟨g, i, none⟩ = some v) ∧ ThR w (fun _ => True) t xs
/-- Does a step set the register? -/
def setB (r : Nat) (x : RSt) : Bool := (x.kind == 108 || x.kind == 107 || x.kind == 120) && x.reg == r
def setsP (r : Nat) (l : List RSt) : Bool := l.any (setB r)
theorem setsP_step (r : Nat) (l : List RSt) (k : Nat) (x : RSt) (h : l[k]? = some x) : setsP r (l.drop k) = (setB r x || setsP r (l.drop (k + 1))) := by
  obtain ⟨hk, hx⟩ := List.getElem?_eq_some_iff.1 h
  rw [List.drop_eq_getElem_cons hk, hx]; rfl

set_option maxRecDepth 100000 in
set_option maxHeartbeats 4000000 in
theorem sets_any (w : World) (T : Nat) (t : List (List RSt)) (h : RThs w T t) (i : Nat) (l : List RSt) (hi : t[i]? = some l) (r : Nat) :
    Calls Tryz.prog 113 #[.pointer (some ⟨T, 0, none⟩), .int .i64 (i : Nat), .int .i64 (r : Nat)] w fun e w' => e = .returned (.bool (setsP r l)) ∧ w.grownBy w' none := by
  obtain ⟨ta, cap, xs, c0, hxs, hth⟩ := h
  obtain ⟨g, lc, hx, _, h9, hcs⟩ := hth.2 i l hi
  obtain ⟨tg, rfl, hc⟩ := hxs i _ hx
  have hin := (List.getElem?_eq_some_iff.1 hi).1
  have hi1 : (i : Int) < (t.length : Int) := by omega
  have HC : Hid (∀ (o : Nat) (v : Value), (rsF l)[o]? = some v → w.cell? ⟨g, o, none⟩ = some v) := hcs
  have HC0 : Hid (w.cell? ⟨T, 0, none⟩ = some (.slice (some ⟨tg, 0, none⟩) t.length cap)) := c0
  have HCT : Hid (w.cell? ⟨tg, i, none⟩ = some (.slice (some ⟨g, 0, none⟩) l.length lc)) := hc
  clear hxs hth hx hcs hi c0 hc
  go_enter Tryz.func113, Tryz.ntmps113
  go_wp2_with fail
  go_loopw [7] (fun v7 wr => ∃ k : Nat, v7 = .int .i64 (k : Nat) ∧ k ≤ l.length ∧ w.grownBy wr none ∧ Hid (setsP r l = setsP r (l.drop k))) (fun v7 _ => l.length - (intOf v7).toNat)
  case atStart => exact ⟨0, rfl, Nat.zero_le _, gb_refl _ _, rfl⟩
  case round =>
    obtain ⟨k, rfl, hk, hG, HR⟩ := hrel
    have c0 := gb_cell hG HC0.out (by simp)
    have ct := gb_cell hG HCT.out (by simp)
    have hTl : T < wr.heap.size := World.block_lt_of_cell? wr ⟨T, 0, none⟩ c0
    have htl : tg < wr.heap.size := World.block_lt_of_cell? wr ⟨tg, i, none⟩ ct
    by_cases hkl : k < l.length
    · have hk' : decide ((k : Int) < (l.length : Int)) = true := by simp; omega
      obtain ⟨x, hx⟩ : ∃ x, l[k]? = some x := ⟨l[k], List.getElem?_eq_getElem hkl⟩
      have xs0 : ∀ o v, o < 6 → (rsC x)[o]? = some v → wr.cell? ⟨g, k * 6 + o, none⟩ = some v := fun o v ho hv => gb_cell hG (HC.out _ _ ((rsF_get l k o x hx ho).trans hv)) (by simp)
      have x0 := xs0 0 _ (by omega) rfl
      have x1 := xs0 1 _ (by omega) rfl
      have x2 := xs0 2 _ (by omega) rfl
      have x3 := xs0 3 _ (by omega) rfl
      have x4 := xs0 4 _ (by omega) rfl
      have x5 := xs0 5 _ (by omega) rfl
      simp only [Nat.add_zero] at x0
      have hgl : g < wr.heap.size := World.block_lt_of_cell? wr ⟨g, k * 6, none⟩ x0
      have HS : Hid (_ = _) := setsP_step r l k x hx
      clear xs0 hx
      have hkk : (x.kind = 108 ∨ x.kind = 107 ∨ x.kind = 120) ∨ (x.kind ≠ 108 ∧ x.kind ≠ 107 ∧ x.kind ≠ 120) := by omega
      have hrr : x.reg = r ∨ x.reg ≠ r := by omega
      rcases hrr with hr | hr <;> rcases hkk with (hq | hq | hq) | hq
      all_goals
        first | (have HB : Hid (setB r x = true) := by show _ = _; unfold setB; simp; omega) | (have HB : Hid (setB r x = false) := by show _ = _; unfold setB; simp; omega)
        first | (have g1 : ((x.kind : Int) == 108) = true := by rw [beq_iff_eq]; omega) | (have g1 : ((x.kind : Int) == 108) = false := by rw [beq_eq_false_iff_ne]; omega)
        first | (have g2 : ((x.kind : Int) == 107) = true := by rw [beq_iff_eq]; omega) | (have g2 : ((x.kind : Int) == 107) = false := by rw [beq_eq_false_iff_ne]; omega)
        first | (have g3 : ((x.kind : Int) == 120) = true := by rw [beq_iff_eq]; omega) | (have g3 : ((x.kind : Int) == 120) = false := by rw [beq_eq_false_iff_ne]; omega)
        first | (have g4 : ((x.reg : Int) == (r : Int)) = true := by rw [beq_iff_eq]; omega) | (have g4 : ((x.reg : Int) == (r : Int)) = false := by rw [beq_eq_false_iff_ne]; omega)
        clear hq hr
        go_wp2_with fail
        first
          | (go_ret; refine ⟨?_, gb_alloc hG _⟩; rw [HR.out, HS.out, HB.out]; rfl)
          | (refine ⟨⟨k + 1, by go_num, by omega, gb_alloc hG _, ?_⟩, by simp [intOf]; omega⟩; show _ = _; rw [HR.out, HS.out, HB.out]; rfl)
    · have hk' : decide ((k : Int) < (l.length : Int)) = false := by simp; omega
      go_wp2_with fail
      go_ret
      refine ⟨?_, hG⟩
      rw [HR.out, List.drop_eq_nil_of_le (by omega)]
      rfl
end Go.Proofs.YtmpaeladhoomoaaGreatDoor

namespace Go.Proofs.YtmpaeladhoomoaaGreatDoor
open Go.RowKit

/-- Does a step name the place? -/
def namB (p : Nat) (x : RSt) : Bool := (x.kind == 115 || x.kind == 83 || x.kind == 108 || x.kind == 120) && x.place == p
def namS (p : Nat) (l : List RSt) : Bool := l.any (namB p)
def namT (p : Nat) (t : List (List RSt)) : Bool := t.any (namS p)
theorem namS_step (r : Nat) (l : List RSt) (k : Nat) (x : RSt) (h : l[k]? = some x) : namS r (l.drop k) = (namB r x || namS r (l.drop (k + 1))) := by
  obtain ⟨hk, hx⟩ := List.getElem?_eq_some_iff.1 h
  rw [List.drop_eq_getElem_cons hk, hx]; rfl
theorem namT_step (r : Nat) (l : List (List RSt)) (k : Nat) (x : List RSt) (h : l[k]? = some x) : namT r (l.drop k) = (namS r x || namT r (l.drop (k + 1))) := by
  obtain ⟨hk, hx⟩ := List.getElem?_eq_some_iff.1 h
  rw [List.drop_eq_getElem_cons hk, hx]; rfl

set_option maxRecDepth 100000 in
set_option maxHeartbeats 4000000 in
theorem names_any (w : World) (T : Nat) (t : List (List RSt)) (h : RThs w T t) (htl : t.length ≤ 1000) (hl : ∀ l ∈ t, l.length ≤ 1000) (p : Nat) (op : ByteArray) (n1 n2 n3 n4 : Int) (kv : Value) (nb : Bool)
    (c2 : w.cell? ⟨T, 2, none⟩ = some (.string op)) (c3 : w.cell? ⟨T, 3, none⟩ = some (.int .i64 n1)) (c4 : w.cell? ⟨T, 4, none⟩ = some (.int .i64 n2)) (c5 : w.cell? ⟨T, 5, none⟩ = some (.int .i64 n3)) (c6 : w.cell? ⟨T, 6, none⟩ = some (.int .i64 n4)) (c7 : w.cell? ⟨T, 7, none⟩ = some kv)
    (hn : ∀ w1, w.grownBy w1 none → Calls Tryz.prog 167 #[.agg #[.string op, .int .i64 n1, .int .i64 n2, .int .i64 n3, .int .i64 n4, kv], .int .i64 (p : Nat)] w1 fun e w2 => e = .returned (.bool nb) ∧ w1.grownBy w2 none) :
    Calls Tryz.prog 115 #[.pointer (some ⟨T, 0, none⟩), .int .i64 (p : Nat)] w fun e w' => e = .returned (.bool (namT p t || nb)) ∧ w.grownBy w' none := by
  obtain ⟨ta, cap, xs, c0, hxs, hth⟩ := h
  have HL : Hid (∀ l ∈ t, l.length ≤ 1000) := hl
  have HN : Hid (∀ w1, w.grownBy w1 none → Calls Tryz.prog 167 #[.agg #[.string op, .int .i64 n1, .int .i64 n2, .int .i64 n3, .int .i64 n4, kv], .int .i64 (p : Nat)] w1 fun e w2 => e = .returned (.bool nb) ∧ w1.grownBy w2 none) := hn
  have HX : Hid (∀ (i : Nat) (v : Value), xs[i]? = some v → ∃ g, ta = some ⟨g, 0, none⟩ ∧ w.cell? ⟨g, i, none⟩ = some v) := hxs
  have HT : Hid (ThR w (fun _ => True) t xs) := hth
  have HC0 : Hid (w.cell? ⟨T, 0, none⟩ = some (.slice ta t.length cap)) := c0
  have HC2 : Hid _ := c2
  have HC3 : Hid _ := c3
  have HC4 : Hid _ := c4
  have HC5 : Hid _ := c5
  have HC6 : Hid _ := c6
  have HC7 : Hid _ := c7
  clear hl hn hxs hth c0 c2 c3 c4 c5 c6 c7
  go_enter Tryz.func115, Tryz.ntmps115
  go_wp2_with fail
  go_loopw [5] (fun v7 wr => ∃ k : Nat, v7 = .int .i64 (k : Nat) ∧ k ≤ t.length ∧ w.grownBy wr none ∧ Hid (namT p t = namT p (t.drop k))) (fun v7 _ => t.length - (intOf v7).toNat)
  case atStart => exact ⟨0, rfl, Nat.zero_le _, gb_refl _ _, rfl⟩
  case round =>
    obtain ⟨i, rfl, hi, hG, HR⟩ := hrel
    have c0 := gb_cell hG HC0.out (by simp)
    have hTl : T < wr.heap.size := World.block_lt_of_cell? wr ⟨T, 0, none⟩ c0
    by_cases hil : i < t.length
    · have hi' : decide ((i : Int) < (t.length : Int)) = true := by simp; omega
      obtain ⟨l, hx⟩ : ∃ x, t[i]? = some x := ⟨t[i], List.getElem?_eq_getElem hil⟩
      have hll : l.length ≤ 1000 := HL.out l (List.mem_of_getElem? hx)
      obtain ⟨g, lc, hxi, _, h9, hcs⟩ := HT.out.2 i l hx
      obtain ⟨tg, rfl, hc⟩ := HX.out i _ hxi
      have HC : Hid (∀ (o : Nat) (v : Value), (rsF l)[o]? = some v → w.cell? ⟨g, o, none⟩ = some v) := hcs
      have HCT : Hid (w.cell? ⟨tg, i, none⟩ = some (.slice (some ⟨g, 0, none⟩) l.length lc)) := hc
      have HTS : Hid (_ = _) := namT_step p t i l hx
      clear hxi hcs hc hx
      go_wp2_with fail
      go_loopw [6] (fun v6 wr2 => ∃ k : Nat, v6 = .int .i64 (k : Nat) ∧ k ≤ l.length ∧ w.grownBy wr2 none ∧ Hid (namS p l = namS p (l.drop k))) (fun v6 _ => l.length - (intOf v6).toNat)
      case atStart => exact ⟨0, rfl, Nat.zero_le _, hG, rfl⟩
      case round =>
        clear c0 hTl hG
        obtain ⟨k, rfl, hk, hG2, HR2⟩ := hrel
        have c0 := gb_cell hG2 HC0.out (by simp)
        have ct := gb_cell hG2 HCT.out (by simp)
        have hTl : T < wr.heap.size := World.block_lt_of_cell? wr ⟨T, 0, none⟩ c0
        have htl : tg < wr.heap.size := World.block_lt_of_cell? wr ⟨tg, i, none⟩ ct
        by_cases hkl : k < l.length
        · have hk' : decide ((k : Int) < (l.length : Int)) = true := by simp; omega
          obtain ⟨x, hx⟩ : ∃ x, l[k]? = some x := ⟨l[k], List.getElem?_eq_getElem hkl⟩
          have xs0 : ∀ o v, o < 6 → (rsC x)[o]? = some v → wr.cell? ⟨g, k * 6 + o, none⟩ = some v := fun o v ho hv => gb_cell hG2 (HC.out _ _ ((rsF_get l k o x hx ho).trans hv)) (by simp)
          have x0 := xs0 0 _ (by omega) rfl
          have x1 := xs0 1 _ (by omega) rfl
          have x2 := xs0 2 _ (by omega) rfl
          have x3 := xs0 3 _ (by omega) rfl
          have x4 := xs0 4 _ (by omega) rfl
          have x5 := xs0 5 _ (by omega) rfl
          simp only [Nat.add_zero] at x0
          have hgl : g < wr.heap.size := World.block_lt_of_cell? wr ⟨g, k * 6, none⟩ x0
          have HS : Hid (_ = _) := namS_step p l k x hx
          clear xs0 hx
          have hkk : (x.kind = 115 ∨ x.kind = 83 ∨ x.kind = 108 ∨ x.kind = 120) ∨ (x.kind ≠ 115 ∧ x.kind ≠ 83 ∧ x.kind ≠ 108 ∧ x.kind ≠ 120) := by omega
          have hrr : x.place = p ∨ x.place ≠ p := by omega
          rcases hrr with hr | hr <;> rcases hkk with (hq | hq | hq | hq) | hq
          all_goals
            first | (have HB : Hid (namB p x = true) := by show _ = _; unfold namB; simp; omega) | (have HB : Hid (namB p x = false) := by show _ = _; unfold namB; simp; omega)
            first | (have g1 : ((x.kind : Int) == 115) = true := by rw [beq_iff_eq]; omega) | (have g1 : ((x.kind : Int) == 115) = false := by rw [beq_eq_false_iff_ne]; omega)
            first | (have g2 : ((x.kind : Int) == 83) = true := by rw [beq_iff_eq]; omega) | (have g2 : ((x.kind : Int) == 83) = false := by rw [beq_eq_false_iff_ne]; omega)
            first | (have g3 : ((x.kind : Int) == 108) = true := by rw [beq_iff_eq]; omega) | (have g3 : ((x.kind : Int) == 108) = false := by rw [beq_eq_false_iff_ne]; omega)
            first | (have g5 : ((x.kind : Int) == 120) = true := by rw [beq_iff_eq]; omega) | (have g5 : ((x.kind : Int) == 120) = false := by rw [beq_eq_false_iff_ne]; omega)
            first | (have g4 : ((x.place : Int) == (p : Int)) = true := by rw [beq_iff_eq]; omega) | (have g4 : ((x.place : Int) == (p : Int)) = false := by rw [beq_eq_false_iff_ne]; omega)
            clear hq hr
            as_aux_lemma =>
              go_wp2_with fail
              first
                | (go_ret; refine ⟨?_, gb_alloc hG2 _⟩; rw [HR.out, HTS.out, HR2.out, HS.out, HB.out]; rfl)
                | (refine ⟨⟨k + 1, by go_num, by omega, gb_alloc hG2 _, ?_⟩, by simp [intOf]; omega⟩; show _ = _; rw [HR2.out, HS.out, HB.out]; rfl)
        · have hk' : decide ((k : Int) < (l.length : Int)) = false := by simp; omega
          go_wp2_with fail
          refine ⟨⟨i + 1, by go_num, by omega, hG2, ?_⟩, by simp [intOf]; omega⟩
          show _ = _
          rw [HR.out, HTS.out, HR2.out, List.drop_eq_nil_of_le (by omega)]
          rfl
    · have hi' : decide ((i : Int) < (t.length : Int)) = false := by simp; omega
      have d2 := gb_cell hG HC2.out (by simp)
      have d3 := gb_cell hG HC3.out (by simp)
      have d4 := gb_cell hG HC4.out (by simp)
      have d5 := gb_cell hG HC5.out (by simp)
      have d6 := gb_cell hG HC6.out (by simp)
      have d7 := gb_cell hG HC7.out (by simp)
      go_wp2_with fail
      refine (HN.out wr hG).mono ?_
      rintro e w3 ⟨rfl, hg3⟩
      go_wp2_with fail
      go_ret
      refine ⟨?_, gb_trans hG hg3⟩
      rw [HR.out, List.drop_eq_nil_of_le (by omega)]
      rfl
end Go.Proofs.YtmpaeladhoomoaaGreatDoor

namespace Go.Proofs.YtmpaeladhoomoaaGreatDoor
open Go.RowKit

theorem zero_ths (W : World) (ok : Nat → Prop) (g n c : Nat) (hok : ok g)
    (h : ∀ i, i < n → W.cell? ⟨g, i * 6, none⟩ = some (.int .i64 0) ∧ W.cell? ⟨g, i * 6 + (1 + 0), none⟩ = some (.int .i64 0) ∧ W.cell? ⟨g, i * 6 + (1 + 1), none⟩ = some (.int .i64 0) ∧ W.cell? ⟨g, i * 6 + (1 + 2), none⟩ = some (.int .i64 0) ∧ W.cell? ⟨g, i * 6 + (1 + 3), none⟩ = some (.int .i64 0) ∧ W.cell? ⟨g, i * 6 + 5, none⟩ = some (.slice none 0 0)) :
    ThsAt W ok (.slice (some ⟨g, 0, none⟩) n c) (List.replicate n ⟨0, [0, 0, 0, 0], []⟩) := by
  refine ⟨some ⟨g, 0, none⟩, c, by rw [List.length_replicate], fun i t ht => ?_⟩
  rw [List.getElem?_replicate] at ht
  split at ht
  · rename_i hi
    cases ht
    obtain ⟨h0, h1, h2, h3, h4, h5⟩ := h i hi
    refine ⟨rfl, g, _, rfl, hok, h0, fun k m hk => ?_, h5, none, 0, rfl, Nat.le_refl _, fun j x hx => by simp at hx⟩
    match k, hk with
    | 0, hk => cases hk; exact h1
    | 1, hk => cases hk; exact h2
    | 2, hk => cases hk; exact h3
    | 3, hk => cases hk; exact h4
    | k + 4, hk => simp at hk
  · cases ht

set_option maxRecDepth 100000 in
set_option maxHeartbeats 1000000 in
theorem first_any (w : World) (T n cap : Nat) (ta : Option Addr) (c0 : w.cell? ⟨T, 0, none⟩ = some (.slice ta n cap)) (hn : 1 ≤ n) (hn4 : n ≤ 4) :
    Calls Tryz.prog 67 #[.pointer (some ⟨T, 0, none⟩)] w fun e w' => ∃ v, e = .returned (.agg #[v, .int .i64 0, .int .i64 0, .int .i64 0, .int .i64 0]) ∧ ThsAt w' (newB w w') v (List.replicate n ⟨0, [0, 0, 0, 0], []⟩) ∧ w.grownBy w' none := by
  have hTl : T < w.heap.size := World.block_lt_of_cell? w ⟨T, 0, none⟩ c0
  have hn' : n = 1 ∨ n = 2 ∨ n = 3 ∨ n = 4 := by omega
  clear hn hn4
  rcases hn' with rfl | rfl | rfl | rfl
  · have hmk : ∀ w, (Instr.makeSlice 150 (.int .i64 1) (.int .i64 1)).run Tryz.prog w = .ok (.slice (some ⟨w.heap.size, 0, none⟩) 1 1) (w.alloc (.cells #[.int .i64 0, .int .i64 0, .int .i64 0, .int .i64 0, .int .i64 0, .slice none 0 0] 219)) := fun w => by kernel_rfl
    have HG : Hid (w.grownBy ((w.alloc (.cells #[.slice (some ⟨w.heap.size + 1, 0, none⟩) 1 1, .int .i64 0, .int .i64 0, .int .i64 0, .int .i64 0] 153)).alloc (.cells #[.int .i64 0, .int .i64 0, .int .i64 0, .int .i64 0, .int .i64 0, .slice none 0 0] 219)) none) := gb_alloc (gb_alloc (gb_refl _ _) _) _
    have HA : Hid (((w.alloc (.cells #[.slice (some ⟨w.heap.size + 1, 0, none⟩) 1 1, .int .i64 0, .int .i64 0, .int .i64 0, .int .i64 0] 153)).alloc (.cells #[.int .i64 0, .int .i64 0, .int .i64 0, .int .i64 0, .int .i64 0, .slice none 0 0] 219)).heap[w.heap.size]? = some (.cells #[.slice (some ⟨w.heap.size + 1, 0, none⟩) 1 1, .int .i64 0, .int .i64 0, .int .i64 0, .int .i64 0] 153 (0, 0))) := heap_gb (gb_alloc (gb_refl _ none) _) (heap_alloc_new w _) (by simp)
    have HB : Hid (((w.alloc (.cells #[.slice (some ⟨w.heap.size + 1, 0, none⟩) 1 1, .int .i64 0, .int .i64 0, .int .i64 0, .int .i64 0] 153)).alloc (.cells #[.int .i64 0, .int .i64 0, .int .i64 0, .int .i64 0, .int .i64 0, .slice none 0 0] 219)).heap[w.heap.size + 1]? = some (.cells #[.int .i64 0, .int .i64 0, .int .i64 0, .int .i64 0, .int .i64 0, .slice none 0 0] 219 (0, 0))) := by
      have := heap_alloc_new (w.alloc (.cells #[.slice (some ⟨w.heap.size + 1, 0, none⟩) 1 1, .int .i64 0, .int .i64 0, .int .i64 0, .int .i64 0] 153)) (.cells #[.int .i64 0, .int .i64 0, .int .i64 0, .int .i64 0, .int .i64 0, .slice none 0 0] 219)
      rw [World.size_alloc] at this
      exact this
    have HZ : Hid (((w.alloc (.cells #[.slice (some ⟨w.heap.size + 1, 0, none⟩) 1 1, .int .i64 0, .int .i64 0, .int .i64 0, .int .i64 0] 153)).alloc (.cells #[.int .i64 0, .int .i64 0, .int .i64 0, .int .i64 0, .int .i64 0, .slice none 0 0] 219)).heap.size = w.heap.size + 1 + 1) := by show _ = _; rw [World.size_alloc, World.size_alloc]
    go_enter Tryz.func67, Tryz.ntmps67
    go_wp2_with fail
    clear hmk
    generalize ((w.alloc (.cells #[.slice (some ⟨w.heap.size + 1, 0, none⟩) 1 1, .int .i64 0, .int .i64 0, .int .i64 0, .int .i64 0] 153)).alloc (.cells #[.int .i64 0, .int .i64 0, .int .i64 0, .int .i64 0, .int .i64 0, .slice none 0 0] 219)) = W at HG HA HB HZ ⊢
    have d0 := cell_of HA.out 0 _ rfl
    have d1 := cell_of HA.out 1 _ rfl
    have d2 := cell_of HA.out 2 _ rfl
    have d3 := cell_of HA.out 3 _ rfl
    have d4 := cell_of HA.out 4 _ rfl
    refine bodyPost_ret (v := .agg #[.slice (some ⟨w.heap.size + 1, 0, none⟩) 1 1, .int .i64 0, .int .i64 0, .int .i64 0, .int .i64 0]) (by simp [results, Tryz.results67, go_sem, d0, d1, d2, d3, d4]) rfl ⟨_, rfl, zero_ths W _ (w.heap.size + 1) 1 1 ⟨by omega, by rw [HZ.out]; omega⟩ (fun i hi => ?_), HG.out⟩
    have hi2 : i = 0 := by omega
    rcases hi2 with rfl
    all_goals exact ⟨cell_of HB.out _ _ rfl, cell_of HB.out _ _ rfl, cell_of HB.out _ _ rfl, cell_of HB.out _ _ rfl, cell_of HB.out _ _ rfl, cell_of HB.out _ _ rfl⟩
  · have hmk : ∀ w, (Instr.makeSlice 150 (.int .i64 2) (.int .i64 2)).run Tryz.prog w = .ok (.slice (some ⟨w.heap.size, 0, none⟩) 2 2) (w.alloc (.cells #[.int .i64 0, .int .i64 0, .int .i64 0, .int .i64 0, .int .i64 0, .slice none 0 0, .int .i64 0, .int .i64 0, .int .i64 0, .int .i64 0, .int .i64 0, .slice none 0 0] 219)) := fun w => by kernel_rfl
    have HG : Hid (w.grownBy ((w.alloc (.cells #[.slice (some ⟨w.heap.size + 1, 0, none⟩) 2 2, .int .i64 0, .int .i64 0, .int .i64 0, .int .i64 0] 153)).alloc (.cells #[.int .i64 0, .int .i64 0, .int .i64 0, .int .i64 0, .int .i64 0, .slice none 0 0, .int .i64 0, .int .i64 0, .int .i64 0, .int .i64 0, .int .i64 0, .slice none 0 0] 219)) none) := gb_alloc (gb_alloc (gb_refl _ _) _) _
    have HA : Hid (((w.alloc (.cells #[.slice (some ⟨w.heap.size + 1, 0, none⟩) 2 2, .int .i64 0, .int .i64 0, .int .i64 0, .int .i64 0] 153)).alloc (.cells #[.int .i64 0, .int .i64 0, .int .i64 0, .int .i64 0, .int .i64 0, .slice none 0 0, .int .i64 0, .int .i64 0, .int .i64 0, .int .i64 0, .int .i64 0, .slice none 0 0] 219)).heap[w.heap.size]? = some (.cells #[.slice (some ⟨w.heap.size + 1, 0, none⟩) 2 2, .int .i64 0, .int .i64 0, .int .i64 0, .int .i64 0] 153 (0, 0))) := heap_gb (gb_alloc (gb_refl _ none) _) (heap_alloc_new w _) (by simp)
    have HB : Hid (((w.alloc (.cells #[.slice (some ⟨w.heap.size + 1, 0, none⟩) 2 2, .int .i64 0, .int .i64 0, .int .i64 0, .int .i64 0] 153)).alloc (.cells #[.int .i64 0, .int .i64 0, .int .i64 0, .int .i64 0, .int .i64 0, .slice none 0 0, .int .i64 0, .int .i64 0, .int .i64 0, .int .i64 0, .int .i64 0, .slice none 0 0] 219)).heap[w.heap.size + 1]? = some (.cells #[.int .i64 0, .int .i64 0, .int .i64 0, .int .i64 0, .int .i64 0, .slice none 0 0, .int .i64 0, .int .i64 0, .int .i64 0, .int .i64 0, .int .i64 0, .slice none 0 0] 219 (0, 0))) := by
      have := heap_alloc_new (w.alloc (.cells #[.slice (some ⟨w.heap.size + 1, 0, none⟩) 2 2, .int .i64 0, .int .i64 0, .int .i64 0, .int .i64 0] 153)) (.cells #[.int .i64 0, .int .i64 0, .int .i64 0, .int .i64 0, .int .i64 0, .slice none 0 0, .int .i64 0, .int .i64 0, .int .i64 0, .int .i64 0, .int .i64 0, .slice none 0 0] 219)
      rw [World.size_alloc] at this
      exact this
    have HZ : Hid (((w.alloc (.cells #[.slice (some ⟨w.heap.size + 1, 0, none⟩) 2 2, .int .i64 0, .int .i64 0, .int .i64 0, .int .i64 0] 153)).alloc (.cells #[.int .i64 0, .int .i64 0, .int .i64 0, .int .i64 0, .int .i64 0, .slice none 0 0, .int .i64 0, .int .i64 0, .int .i64 0, .int .i64 0, .int .i64 0, .slice none 0 0] 219)).heap.size = w.heap.size + 1 + 1) := by show _ = _; rw [World.size_alloc, World.size_alloc]
    go_enter Tryz.func67, Tryz.ntmps67
    go_wp2_with fail
    clear hmk
    generalize ((w.alloc (.cells #[.slice (some ⟨w.heap.size + 1, 0, none⟩) 2 2, .int .i64 0, .int .i64 0, .int .i64 0, .int .i64 0] 153)).alloc (.cells #[.int .i64 0, .int .i64 0, .int .i64 0, .int .i64 0, .int .i64 0, .slice none 0 0, .int .i64 0, .int .i64 0, .int .i64 0, .int .i64 0, .int .i64 0, .slice none 0 0] 219)) = W at HG HA HB HZ ⊢
    have d0 := cell_of HA.out 0 _ rfl
    have d1 := cell_of HA.out 1 _ rfl
    have d2 := cell_of HA.out 2 _ rfl
    have d3 := cell_of HA.out 3 _ rfl
    have d4 := cell_of HA.out 4 _ rfl
    refine bodyPost_ret (v := .agg #[.slice (some ⟨w.heap.size + 1, 0, none⟩) 2 2, .int .i64 0, .int .i64 0, .int .i64 0, .int .i64 0]) (by simp [results, Tryz.results67, go_sem, d0, d1, d2, d3, d4]) rfl ⟨_, rfl, zero_ths W _ (w.heap.size + 1) 2 2 ⟨by omega, by rw [HZ.out]; omega⟩ (fun i hi => ?_), HG.out⟩
    have hi2 : i = 0 ∨ i = 1 := by omega
    rcases hi2 with rfl | rfl
    all_goals exact ⟨cell_of HB.out _ _ rfl, cell_of HB.out _ _ rfl, cell_of HB.out _ _ rfl, cell_of HB.out _ _ rfl, cell_of HB.out _ _ rfl, cell_of HB.out _ _ rfl⟩
  · have hmk : ∀ w, (Instr.makeSlice 150 (.int .i64 3) (.int .i64 3)).run Tryz.prog w = .ok (.slice (some ⟨w.heap.size, 0, none⟩) 3 3) (w.alloc (.cells #[.int .i64 0, .int .i64 0, .int .i64 0, .int .i64 0, .int .i64 0, .slice none 0 0, .int .i64 0, .int .i64 0, .int .i64 0, .int .i64 0, .int .i64 0, .slice none 0 0, .int .i64 0, .int .i64 0, .int .i64 0, .int .i64 0, .int .i64 0, .slice none 0 0] 219)) := fun w => by kernel_rfl
    have HG : Hid (w.grownBy ((w.alloc (.cells #[.slice (some ⟨w.heap.size + 1, 0, none⟩) 3 3, .int .i64 0, .int .i64 0, .int .i64 0, .int .i64 0] 153)).alloc (.cells #[.int .i64 0, .int .i64 0, .int .i64 0, .int .i64 0, .int .i64 0, .slice none 0 0, .int .i64 0, .int .i64 0, .int .i64 0, .int .i64 0, .int .i64 0, .slice none 0 0, .int .i64 0, .int .i64 0, .int .i64 0, .int .i64 0, .int .i64 0, .slice none 0 0] 219)) none) := gb_alloc (gb_alloc (gb_refl _ _) _) _
    have HA : Hid (((w.alloc (.cells #[.slice (some ⟨w.heap.size + 1, 0, none⟩) 3 3, .int .i64 0, .int .i64 0, .int .i64 0, .int .i64 0] 153)).alloc (.cells #[.int .i64 0, .int .i64 0, .int .i64 0, .int .i64 0, .int .i64 0, .slice none 0 0, .int .i64 0, .int .i64 0, .int .i64 0, .int .i64 0, .int .i64 0, .slice none 0 0, .int .i64 0, .int .i64 0, .int .i64 0, .int .i64 0, .int .i64 0, .slice none 0 0] 219)).heap[w.heap.size]? = some (.cells #[.slice (some ⟨w.heap.size + 1, 0, none⟩) 3 3, .int .i64 0, .int .i64 0, .int .i64 0, .int .i64 0] 153 (0, 0))) := heap_gb (gb_alloc (gb_refl _ none) _) (heap_alloc_new w _) (by simp)
    have HB : Hid (((w.alloc (.cells #[.slice (some ⟨w.heap.size + 1, 0, none⟩) 3 3, .int .i64 0, .int .i64 0, .int .i64 0, .int .i64 0] 153)).alloc (.cells #[.int .i64 0, .int .i64 0, .int .i64 0, .int .i64 0, .int .i64 0, .slice none 0 0, .int .i64 0, .int .i64 0, .int .i64 0, .int .i64 0, .int .i64 0, .slice none 0 0, .int .i64 0, .int .i64 0, .int .i64 0, .int .i64 0, .int .i64 0, .slice none 0 0] 219)).heap[w.heap.size + 1]? = some (.cells #[.int .i64 0, .int .i64 0, .int .i64 0, .int .i64 0, .int .i64 0, .slice none 0 0, .int .i64 0, .int .i64 0, .int .i64 0, .int .i64 0, .int .i64 0, .slice none 0 0, .int .i64 0, .int .i64 0, .int .i64 0, .int .i64 0, .int .i64 0, .slice none 0 0] 219 (0, 0))) := by
      have := heap_alloc_new (w.alloc (.cells #[.slice (some ⟨w.heap.size + 1, 0, none⟩) 3 3, .int .i64 0, .int .i64 0, .int .i64 0, .int .i64 0] 153)) (.cells #[.int .i64 0, .int .i64 0, .int .i64 0, .int .i64 0, .int .i64 0, .slice none 0 0, .int .i64 0, .int .i64 0, .int .i64 0, .int .i64 0, .int .i64 0, .slice none 0 0, .int .i64 0, .int .i64 0, .int .i64 0, .int .i64 0, .int .i64 0, .slice none 0 0] 219)
      rw [World.size_alloc] at this
      exact this
    have HZ : Hid (((w.alloc (.cells #[.slice (some ⟨w.heap.size + 1, 0, none⟩) 3 3, .int .i64 0, .int .i64 0, .int .i64 0, .int .i64 0] 153)).alloc (.cells #[.int .i64 0, .int .i64 0, .int .i64 0, .int .i64 0, .int .i64 0, .slice none 0 0, .int .i64 0, .int .i64 0, .int .i64 0, .int .i64 0, .int .i64 0, .slice none 0 0, .int .i64 0, .int .i64 0, .int .i64 0, .int .i64 0, .int .i64 0, .slice none 0 0] 219)).heap.size = w.heap.size + 1 + 1) := by show _ = _; rw [World.size_alloc, World.size_alloc]
    go_enter Tryz.func67, Tryz.ntmps67
    go_wp2_with fail
    clear hmk
    generalize ((w.alloc (.cells #[.slice (some ⟨w.heap.size + 1, 0, none⟩) 3 3, .int .i64 0, .int .i64 0, .int .i64 0, .int .i64 0] 153)).alloc (.cells #[.int .i64 0, .int .i64 0, .int .i64 0, .int .i64 0, .int .i64 0, .slice none 0 0, .int .i64 0, .int .i64 0, .int .i64 0, .int .i64 0, .int .i64 0, .slice none 0 0, .int .i64 0, .int .i64 0, .int .i64 0, .int .i64 0, .int .i64 0, .slice none 0 0] 219)) = W at HG HA HB HZ ⊢
    have d0 := cell_of HA.out 0 _ rfl
    have d1 := cell_of HA.out 1 _ rfl
    have d2 := cell_of HA.out 2 _ rfl
    have d3 := cell_of HA.out 3 _ rfl
    have d4 := cell_of HA.out 4 _ rfl
    refine bodyPost_ret (v := .agg #[.slice (some ⟨w.heap.size + 1, 0, none⟩) 3 3, .int .i64 0, .int .i64 0, .int .i64 0, .int .i64 0]) (by simp [results, Tryz.results67, go_sem, d0, d1, d2, d3, d4]) rfl ⟨_, rfl, zero_ths W _ (w.heap.size + 1) 3 3 ⟨by omega, by rw [HZ.out]; omega⟩ (fun i hi => ?_), HG.out⟩
    have hi2 : i = 0 ∨ i = 1 ∨ i = 2 := by omega
    rcases hi2 with rfl | rfl | rfl
    all_goals exact ⟨cell_of HB.out _ _ rfl, cell_of HB.out _ _ rfl, cell_of HB.out _ _ rfl, cell_of HB.out _ _ rfl, cell_of HB.out _ _ rfl, cell_of HB.out _ _ rfl⟩
  · have hmk : ∀ w, (Instr.makeSlice 150 (.int .i64 4) (.int .i64 4)).run Tryz.prog w = .ok (.slice (some ⟨w.heap.size, 0, none⟩) 4 4) (w.alloc (.cells #[.int .i64 0, .int .i64 0, .int .i64 0, .int .i64 0, .int .i64 0, .slice none 0 0, .int .i64 0, .int .i64 0, .int .i64 0, .int .i64 0, .int .i64 0, .slice none 0 0, .int .i64 0, .int .i64 0, .int .i64 0, .int .i64 0, .int .i64 0, .slice none 0 0, .int .i64 0, .int .i64 0, .int .i64 0, .int .i64 0, .int .i64 0, .slice none 0 0] 219)) := fun w => by kernel_rfl
    have HG : Hid (w.grownBy ((w.alloc (.cells #[.slice (some ⟨w.heap.size + 1, 0, none⟩) 4 4, .int .i64 0, .int .i64 0, .int .i64 0, .int .i64 0] 153)).alloc (.cells #[.int .i64 0, .int .i64 0, .int .i64 0, .int .i64 0, .int .i64 0, .slice none 0 0, .int .i64 0, .int .i64 0, .int .i64 0, .int .i64 0, .int .i64 0, .slice none 0 0, .int .i64 0, .int .i64 0, .int .i64 0, .int .i64 0, .int .i64 0, .slice none 0 0, .int .i64 0, .int .i64 0, .int .i64 0, .int .i64 0, .int .i64 0, .slice none 0 0] 219)) none) := gb_alloc (gb_alloc (gb_refl _ _) _) _
    have HA : Hid (((w.alloc (.cells #[.slice (some ⟨w.heap.size + 1, 0, none⟩) 4 4, .int .i64 0, .int .i64 0, .int .i64 0, .int .i64 0] 153)).alloc (.cells #[.int .i64 0, .int .i64 0, .int .i64 0, .int .i64 0, .int .i64 0, .slice none 0 0, .int .i64 0, .int .i64 0, .int .i64 0, .int .i64 0, .int .i64 0, .slice none 0 0, .int .i64 0, .int .i64 0, .int .i64 0, .int .i64 0, .int .i64 0, .slice none 0 0, .int .i64 0, .int .i64 0, .int .i64 0, .int .i64 0, .int .i64 0, .slice none 0 0] 219)).heap[w.heap.size]? = some (.cells #[.slice (some ⟨w.heap.size + 1, 0, none⟩) 4 4, .int .i64 0, .int .i64 0, .int .i64 0, .int .i64 0] 153 (0, 0))) := heap_gb (gb_alloc (gb_refl _ none) _) (heap_alloc_new w _) (by simp)
    have HB : Hid (((w.alloc (.cells #[.slice (some ⟨w.heap.size + 1, 0, none⟩) 4 4, .int .i64 0, .int .i64 0, .int .i64 0, .int .i64 0] 153)).alloc (.cells #[.int .i64 0, .int .i64 0, .int .i64 0, .int .i64 0, .int .i64 0, .slice none 0 0, .int .i64 0, .int .i64 0, .int .i64 0, .int .i64 0, .int .i64 0, .slice none 0 0, .int .i64 0, .int .i64 0, .int .i64 0, .int .i64 0, .int .i64 0, .slice none 0 0, .int .i64 0, .int .i64 0, .int .i64 0, .int .i64 0, .int .i64 0, .slice none 0 0] 219)).heap[w.heap.size + 1]? = some (.cells #[.int .i64 0, .int .i64 0, .int .i64 0, .int .i64 0, .int .i64 0, .slice none 0 0, .int .i64 0, .int .i64 0, .int .i64 0, .int .i64 0, .int .i64 0, .slice none 0 0, .int .i64 0, .int .i64 0, .int .i64 0, .int .i64 0, .int .i64 0, .slice none 0 0, .int .i64 0, .int .i64 0, .int .i64 0, .int .i64 0, .int .i64 0, .slice none 0 0] 219 (0, 0))) := by
      have := heap_alloc_new (w.alloc (.cells #[.slice (some ⟨w.heap.size + 1, 0, none⟩) 4 4, .int .i64 0, .int .i64 0, .int .i64 0, .int .i64 0] 153)) (.cells #[.int .i64 0, .int .i64 0, .int .i64 0, .int .i64 0, .int .i64 0, .slice none 0 0, .int .i64 0, .int .i64 0, .int .i64 0, .int .i64 0, .int .i64 0, .slice none 0 0, .int .i64 0, .int .i64 0, .int .i64 0, .int .i64 0, .int .i64 0, .slice none 0 0, .int .i64 0, .int .i64 0, .int .i64 0, .int .i64 0, .int .i64 0, .slice none 0 0] 219)
      rw [World.size_alloc] at this
      exact this
    have HZ : Hid (((w.alloc (.cells #[.slice (some ⟨w.heap.size + 1, 0, none⟩) 4 4, .int .i64 0, .int .i64 0, .int .i64 0, .int .i64 0] 153)).alloc (.cells #[.int .i64 0, .int .i64 0, .int .i64 0, .int .i64 0, .int .i64 0, .slice none 0 0, .int .i64 0, .int .i64 0, .int .i64 0, .int .i64 0, .int .i64 0, .slice none 0 0, .int .i64 0, .int .i64 0, .int .i64 0, .int .i64 0, .int .i64 0, .slice none 0 0, .int .i64 0, .int .i64 0, .int .i64 0, .int .i64 0, .int .i64 0, .slice none 0 0] 219)).heap.size = w.heap.size + 1 + 1) := by show _ = _; rw [World.size_alloc, World.size_alloc]
    go_enter Tryz.func67, Tryz.ntmps67
    go_wp2_with fail
    clear hmk
    generalize ((w.alloc (.cells #[.slice (some ⟨w.heap.size + 1, 0, none⟩) 4 4, .int .i64 0, .int .i64 0, .int .i64 0, .int .i64 0] 153)).alloc (.cells #[.int .i64 0, .int .i64 0, .int .i64 0, .int .i64 0, .int .i64 0, .slice none 0 0, .int .i64 0, .int .i64 0, .int .i64 0, .int .i64 0, .int .i64 0, .slice none 0 0, .int .i64 0, .int .i64 0, .int .i64 0, .int .i64 0, .int .i64 0, .slice none 0 0, .int .i64 0, .int .i64 0, .int .i64 0, .int .i64 0, .int .i64 0, .slice none 0 0] 219)) = W at HG HA HB HZ ⊢
    have d0 := cell_of HA.out 0 _ rfl
    have d1 := cell_of HA.out 1 _ rfl
    have d2 := cell_of HA.out 2 _ rfl
    have d3 := cell_of HA.out 3 _ rfl
    have d4 := cell_of HA.out 4 _ rfl
    refine bodyPost_ret (v := .agg #[.slice (some ⟨w.heap.size + 1, 0, none⟩) 4 4, .int .i64 0, .int .i64 0, .int .i64 0, .int .i64 0]) (by simp [results, Tryz.results67, go_sem, d0, d1, d2, d3, d4]) rfl ⟨_, rfl, zero_ths W _ (w.heap.size + 1) 4 4 ⟨by omega, by rw [HZ.out]; omega⟩ (fun i hi => ?_), HG.out⟩
    have hi2 : i = 0 ∨ i = 1 ∨ i = 2 ∨ i = 3 := by omega
    rcases hi2 with rfl | rfl | rfl | rfl
    all_goals exact ⟨cell_of HB.out _ _ rfl, cell_of HB.out _ _ rfl, cell_of HB.out _ _ rfl, cell_of HB.out _ _ rfl, cell_of HB.out _ _ rfl, cell_of HB.out _ _ rfl⟩
end Go.Proofs.YtmpaeladhoomoaaGreatDoor

namespace Go.Proofs.YtmpaeladhoomoaaGreatDoor
open Go.RowKit

theorem kids_any_step {α : Type} (f : α → Bool) (l : List α) (k : Nat) (x : α) (h : l[k]? = some x) : (l.drop k).any f = (f x || (l.drop (k + 1)).any f) := by
  obtain ⟨hk, hx⟩ := List.getElem?_eq_some_iff.1 h
  rw [List.drop_eq_getElem_cons hk, hx]; rfl

set_option maxRecDepth 100000 in
set_option maxHeartbeats 4000000 in
theorem named_any : ∀ (d : Nat) (w : World) (ok : Nat → Prop) (cs : List Value) (l : TM) (p : Nat), TRep d w ok cs l →
    Calls Tryz.prog 167 #[.agg cs.toArray, .int .i64 (p : Nat)] w fun e w' => e = .returned (.bool (l.nm p)) ∧ w.grownBy w' none := by
  intro d
  induction d with
  | zero => intro w ok cs l p h; exact h.elim
  | succ d ih =>
    intro w ok cs l p h
    obtain ⟨op, a, b, n, at_, sa, k, c, ks, rfl, rfl, hk2, _, hnm, hkids⟩ := h.kids
    have IH : Hid (∀ (w : World) (ok : Nat → Prop) (cs : List Value) (l : TM) (p : Nat), TRep d w ok cs l → Calls Tryz.prog 167 #[.agg cs.toArray, .int .i64 (p : Nat)] w fun e w' => e = .returned (.bool (l.nm p)) ∧ w.grownBy w' none) := ih
    have HNM : Hid (l.nm p = ((op.toList == [112] && a == (p : Int)) || ks.any (fun x => x.2.nm p))) := hnm p
    clear ih h hnm
    have HKI : Hid (∀ i x, ks[i]? = some x → TRep d w ok x.1 x.2 ∧ ∃ g, sa = some ⟨g, 0, none⟩ ∧ ∀ o v, x.1[o]? = some v → w.cell? ⟨g, i * 6 + o, none⟩ = some v) := hkids
    clear hkids
    unfold trC
    have HLOOP : (op.toList == [112] && a == (p : Int)) = false → Calls Tryz.prog 167 #[.agg #[.string op, .int .i64 a, .int .i64 b, .int .i64 n, .int .i64 at_, .slice sa ks.length c], .int .i64 (p : Nat)] w fun e w' => e = .returned (.bool (l.nm p)) ∧ w.grownBy w' none := by
      intro hno
      rw [hno, Bool.false_or] at HNM
      have hcase : (op.toList == [112]) = false ∨ ((op.toList == [112]) = true ∧ (a == (p : Int)) = false) := by
        cases h1 : (op.toList == [112])
        · exact Or.inl rfl
        · rw [h1] at hno; exact Or.inr ⟨rfl, by simpa using hno⟩
      clear hno
      rcases hcase with e1 | ⟨e1, e2⟩
      all_goals
        go_enter Tryz.func167, Tryz.ntmps167
        go_wp2_with fail
        go_loopw [5] (fun v wr => ∃ i : Nat, i ≤ ks.length ∧ v = .int .i64 i ∧ (w.alloc (.cells #[.string op, .int .i64 a, .int .i64 b, .int .i64 n, .int .i64 at_, .slice sa ks.length c] 146)).grownBy wr none ∧ Hid (l.nm p = (ks.drop i).any (fun x => x.2.nm p))) (fun v _ => ks.length - (intOf v).toNat)
        case atStart => exact ⟨0, Nat.zero_le _, rfl, gb_refl _ _, HNM.out⟩
        case round =>
          obtain ⟨i, hi, rfl, hG, HN⟩ := hrel
          have hbx := heap_gb hG (heap_alloc_new w _) (by simp)
          obtain ⟨a0, a1, a2, a3, a4, a5, af⟩ := loc6 hbx
          by_cases hlt : i < ks.length
          · obtain ⟨x, hx⟩ : ∃ y, ks[i]? = some y := ⟨ks[i], List.getElem?_eq_getElem hlt⟩
            obtain ⟨hT, g, rfl, hcell⟩ := HKI.out i x hx
            have HS : Hid (_ = _) := kids_any_step (fun x : List Value × TM => x.2.nm p) ks i x hx
            obtain ⟨x1, l1⟩ := x
            simp only at hT hcell
            obtain ⟨op3, a3', bb3, nn3, at3, sa3, k3, c3, rfl⟩ := hT.form
            have hgr := gb_trans (gb_alloc (gb_refl w none) (.cells #[.string op, .int .i64 a, .int .i64 b, .int .i64 n, .int .i64 at_, .slice (some ⟨g, 0, none⟩) ks.length c] 146)) hG
            have e0 := gb_cell hgr (hcell 0 _ rfl) (by simp)
            have e1' := gb_cell hgr (hcell 1 _ rfl) (by simp)
            have e2' := gb_cell hgr (hcell 2 _ rfl) (by simp)
            have e3 := gb_cell hgr (hcell 3 _ rfl) (by simp)
            have e4 := gb_cell hgr (hcell 4 _ rfl) (by simp)
            have e5 := gb_cell hgr (hcell 5 _ rfl) (by simp)
            rw [Nat.add_zero] at e0
            have hT2 := hT.mono (ok' := fun _ => True) (fun _ _ => trivial) (fun g' o' _ hh => heap_gb hgr hh (by simp))
            have HT2 : Hid (TRep _ _ _ _ _) := hT2
            clear hT hcell hT2 hx hgr
            go_wp2_with fail
            refine (IH.out wr _ _ l1 p HT2.out).mono ?_
            rintro e w3 ⟨rfl, hg3⟩
            cases hj : l1.nm p
            · have HJ : Hid (l1.nm p = false) := hj
              clear hj
              go_wp2_with fail
              refine ⟨⟨i + 1, by omega, by go_num, gb_trans hG hg3, ?_⟩, by simp [intOf]; omega⟩
              show _ = _
              rw [HN.out, HS.out]
              show (l1.nm p || _) = _
              rw [HJ.out, Bool.false_or]
            · have HJ : Hid (l1.nm p = true) := hj
              clear hj
              go_wp2_with fail
              go_ret
              refine ⟨?_, gb_trans (gb_trans (gb_alloc (gb_refl w none) _) hG) hg3⟩
              rw [HN.out, HS.out]
              show _ = Ending.returned (.bool (l1.nm p || _))
              rw [HJ.out, Bool.true_or]
              rfl
          · go_wp2_with fail
            go_ret
            refine ⟨?_, gb_trans (gb_alloc (gb_refl w none) _) hG⟩
            rw [HN.out, List.drop_eq_nil_of_le (by omega)]
            rfl
    cases hy : (op.toList == [112] && a == (p : Int))
    · exact HLOOP hy
    · clear HLOOP
      rw [hy, Bool.true_or] at HNM
      rw [Bool.and_eq_true] at hy
      obtain ⟨e1, e2⟩ := hy
      go_enter Tryz.func167, Tryz.ntmps167
      go_wp2_with fail
      go_ret
      refine ⟨?_, gb_alloc (gb_refl _ _) _⟩
      rw [HNM.out]
      rfl
end Go.Proofs.YtmpaeladhoomoaaGreatDoor
