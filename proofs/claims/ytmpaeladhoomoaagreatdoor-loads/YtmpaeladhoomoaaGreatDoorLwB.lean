/-
  The statements' own functions: plays, for loads alone, and Loads, walked.
-/
import Derived.Test.YtmpaeladhoomoaaGreatDoorLwA
namespace Go.Proofs.YtmpaeladhoomoaaGreatDoor
open Go.RowKit

/-- The test that must be taken. -/
def first : ByteArray := ⟨#[116, 104, 114, 101, 97, 100, 32, 120, 32, 58, 61, 32, 49, 59, 32, 114, 48, 32, 58, 61, 32, 121, 59, 32, 116, 104, 114, 101, 97, 100, 32, 121, 32, 58, 61, 32, 49, 59, 32, 114, 48, 32, 58, 61, 32, 120, 59, 32, 101, 120, 105, 115, 116, 115, 32, 48, 58, 114, 48, 32, 61, 32, 48, 32, 97, 110, 100, 32, 49, 58, 114, 48, 32, 61, 32, 48]⟩

/-- A step of a script. -/
structure OpV where
  k : Int
  a : Int
  b : Int
  c : Int
  d : Int
  s : ByteArray
  pa : Option Addr
  pl : Nat
  pc : Nat
def opC (o : OpV) : List Value := [.int .i64 o.k, .int .i64 o.a, .int .i64 o.b, .int .i64 o.c, .int .i64 o.d, .string o.s, .slice o.pa o.pl o.pc]
structure Scr (w : World) (sa : Option Addr) (m : Nat) (ops : Nat → OpV) : Prop where
  at_ : ∀ i, i < m → ∃ sb off, sa = some ⟨sb, off, none⟩ ∧ ∀ j v, (opC (ops i))[j]? = some v → w.cell? ⟨sb, off + i * 7 + j, none⟩ = some v
  len : ∀ i, i < m → (ops i).s.size ≤ maxLen
theorem Scr.grow {w w' : World} {sa : Option Addr} {m : Nat} {ops : Nat → OpV} (h : Scr w sa m ops) (hg : w.grownBy w' none) : Scr w' sa m ops :=
  ⟨fun i hi => by obtain ⟨sb, off, h1, h2⟩ := h.at_ i hi; exact ⟨sb, off, h1, fun j v hv => gb_cell hg (h2 j v hv) (by simp)⟩, h.len⟩
theorem LW.start (w : World) : LW w (w.alloc (.cells #[.slice none 0 0, .slice none 0 0] 66)) w.heap.size 0 (.slice none 0 0) [] :=
  ⟨gb_alloc (gb_refl w none) _, Nat.le_refl _, heap_alloc_new w _, World.ownsRow_nil _ _ _ _⟩
theorem grown_le {q n i : Nat} (h : n ≤ i + 1) : grew q n ≤ i + 1 + 1 := by unfold grew; split <;> omega

set_option maxRecDepth 100000 in
set_option maxHeartbeats 4000000 in
theorem plays_any {r : ByteArray → Nat × Nat} (B : Both r) (h0 : (r first).1 = 0) (w : World) (sa : Option Addr) (m cap : Nat) (ops : Nat → OpV) (S : Scr w sa m ops) (hm : m * 80 ≤ 140737488351232) (kb : Nat) (hk : w.cell? ⟨kb, 0, none⟩ = some (.int .i64 1)) :
    Calls Tryz.prog 14 #[.slice sa m cap, .slice (some ⟨kb, 0, none⟩) 1 1] w fun e w' => e = .returned (.bool true) ∧ w.grownBy w' none := by
  have H0 : Hid ((r first).1 = 0) := h0
  clear h0
  have hkl : kb < w.heap.size := World.block_lt_of_cell? w ⟨kb, 0, none⟩ hk
  go_enter Tryz.func14, Tryz.ntmps14
  go_wp2_with fail
  refine (wstep_any B (LW.start w) (by decide) 0 0 0 0 first none 0 0 (by decide)).mono ?_
  rintro e w1 ⟨rfl, tsv1, xs1, L1⟩
  rw [show grew (r first).1 0 = 1 from by rw [H0.out]; rfl] at L1
  obtain ⟨ta1, tcap1, rfl⟩ := own_slice L1.own
  have e0 := cell_of L1.blk 0 _ rfl
  go_wp2_with fail
  clear e0
  go_loopw [7] (fun v7 wr => ∃ (i n : Nat) (tsv : Value) (xs : List Value), v7 = .int .i64 (i : Nat) ∧ i ≤ m ∧ n ≤ i + 1 ∧ LW w wr w.heap.size n tsv xs) (fun v7 _ => m - (intOf v7).toNat)
  case atStart => exact ⟨0, 1, _, _, rfl, Nat.zero_le _, by omega, L1⟩
  case round =>
    obtain ⟨i, n, tsv, xs, rfl, him, hni, LR⟩ := hrel
    clear L1
    by_cases hi : i < m
    · have hi' : decide ((i : Int) < (m : Int)) = true := by simp; omega
      obtain ⟨sb, off, rfl, hc⟩ := S.at_ i hi
      have hsz := S.len i hi
      generalize ops i = o at hc hsz
      obtain ⟨k, a, b, c, d, s, pa, pl, pc⟩ := o
      have HC : Hid (∀ (j : Nat) (v : Value), (opC ⟨k, a, b, c, d, s, pa, pl, pc⟩)[j]? = some v → w.cell? ⟨sb, off + i * 7 + j, none⟩ = some v) := hc
      clear hc
      have HSZ : Hid (s.size ≤ maxLen) := hsz
      clear hsz
      by_cases hk1 : k = 1
      · subst hk1
        go_wp2_with fail
        go_loopw [9, 8] (fun v9 v8 wr2 => ∃ j : Nat, v9 = .int .i64 (j : Nat) ∧ j ≤ 1 ∧ wr.grownBy wr2 none ∧ ((j = 0 ∧ v8 = .bool false) ∨ (j = 1 ∧ v8 = .bool true))) (fun v9 _ _ => 1 - (intOf v9).toNat)
        case atStart => exact ⟨0, rfl, by omega, gb_refl _ _, Or.inl ⟨rfl, rfl⟩⟩
        case round =>
          obtain ⟨j, rfl, hj, hG, hv⟩ := hrel
          have LQ := LR.grow hG
          have q0 := gb_cell LQ.gb (HC.out 0 _ rfl) (by simp)
          have q1 := gb_cell LQ.gb (HC.out 1 _ rfl) (by simp)
          have q2 := gb_cell LQ.gb (HC.out 2 _ rfl) (by simp)
          have q3 := gb_cell LQ.gb (HC.out 3 _ rfl) (by simp)
          have q4 := gb_cell LQ.gb (HC.out 4 _ rfl) (by simp)
          have q5 := gb_cell LQ.gb (HC.out 5 _ rfl) (by simp)
          have q6 := gb_cell LQ.gb (HC.out 6 _ rfl) (by simp)
          simp only [Nat.add_zero] at q0
          have qk := gb_cell LQ.gb hk (by simp)
          rcases hv with ⟨rfl, rfl⟩ | ⟨rfl, rfl⟩
          · go_wp2_with fail
            go_quiet (fail)
            go_wp2_with fail
            exact ⟨⟨1, by go_num, by omega, gb_drewN hG _, Or.inr ⟨rfl, rfl⟩⟩, by simp [intOf]⟩
          · go_wp2_with fail
            refine (wstep_any B LQ (by omega) a b c d s pa pl pc HSZ.out).mono ?_
            rintro e w3 ⟨rfl, tsv3, xs3, L3⟩
            go_wp2_with fail
            refine (looks_any L3).mono ?_
            rintro e w4 ⟨rfl, rfl⟩
            go_wp2_with fail
            go_roundw
            case measure => simp [intOf]; omega
            case rel => exact ⟨i + 1, _, _, _, by go_num, by omega, grown_le hni, L3⟩
      · have hkb : (k == 1) = false := by rw [beq_eq_false_iff_ne]; exact hk1
        clear hk1
        go_wp2_with fail
        go_loopw [9, 8] (fun v9 v8 wr2 => ∃ j : Nat, v9 = .int .i64 (j : Nat) ∧ j ≤ 1 ∧ wr.grownBy wr2 none ∧ v8 = .bool false) (fun v9 _ _ => 1 - (intOf v9).toNat)
        case atStart => exact ⟨0, rfl, by omega, gb_refl _ _, rfl⟩
        case round =>
          obtain ⟨j, rfl, hj, hG, rfl⟩ := hrel
          have LQ := LR.grow hG
          have q0 := gb_cell LQ.gb (HC.out 0 _ rfl) (by simp)
          simp only [Nat.add_zero] at q0
          have qk := gb_cell LQ.gb hk (by simp)
          by_cases hj0 : j = 0
          · subst hj0
            go_wp2_with fail
            go_quiet (fail)
            go_wp2_with fail
            exact ⟨⟨1, by go_num, by omega, gb_drewN hG _, rfl⟩, by simp [intOf]⟩
          · obtain rfl : j = 1 := by omega
            go_wp2_with fail
            go_roundw
            case measure => simp [intOf]; omega
            case rel => exact ⟨i + 1, _, _, _, by go_num, by omega, by omega, LQ⟩
    · have hi' : decide ((i : Int) < (m : Int)) = false := by simp; omega
      go_wp2_with fail
      go_ret
      exact ⟨rfl, LR.gb⟩

set_option maxRecDepth 100000 in
theorem loads_any {r : ByteArray → Nat × Nat} (B : Both r) (h0 : (r first).1 = 0) (w : World) (sa : Option Addr) (m cap : Nat) (ops : Nat → OpV) (S : Scr w sa m ops) (hm : m * 80 ≤ 140737488351232) :
    Calls Tryz.prog 3 #[.slice sa m cap] w fun e w' => e = .returned (.bool true) ∧ w.grownBy w' none := by
  have HB : Hid (Both r) := B
  have H0 : Hid ((r first).1 = 0) := h0
  clear B h0
  go_enter Tryz.func3, Tryz.ntmps3
  go_wp2_with fail
  refine (plays_any HB.out H0.out _ sa m cap ops (S.grow (gb_alloc (gb_refl w none) _)) hm w.heap.size (cell_of (heap_alloc_new w _) 0 _ rfl)).mono ?_
  rintro e w1 ⟨rfl, hg⟩
  go_wp2_with fail
  go_ret
  exact ⟨rfl, gb_trans (gb_alloc (gb_refl w none) _) hg⟩
end Go.Proofs.YtmpaeladhoomoaaGreatDoor
