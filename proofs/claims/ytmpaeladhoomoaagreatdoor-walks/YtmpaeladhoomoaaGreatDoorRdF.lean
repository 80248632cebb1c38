/-
  The program's reader: ends of threads, the question, wrong skips.
-/
import Derived.Test.YtmpaeladhoomoaaGreatDoorRdE
namespace Go.Proofs.YtmpaeladhoomoaaGreatDoor
open Go.RowKit

def endsB (s : ByteArray) (p : PS) : Bool := kd s p == 5 || kd s p == 10 || kd s p == 11

set_option maxHeartbeats 400000 in
theorem threadEnds_any (w : World) (b : Nat) (s : ByteArray) (p : PS) (h : PAt w b s p) :
    Calls Tryz.prog 149 #[.pointer (some ⟨b, 0, none⟩)] w fun e w' => e = .returned (.bool (endsB s p)) ∧ w' = w := by
  obtain ⟨c0, c1, c2, c3, c4, c5, c6, c7, c8, hf, hlt⟩ := h.get
  have HE : Hid (endsB s p = ((tk s p.i).kind == 5 || (tk s p.i).kind == 10 || (tk s p.i).kind == 11)) := rfl
  go_enter Tryz.func149, Tryz.ntmps149
  go_wp2_with fail
  all_goals go_ret
  all_goals refine ⟨ret_bool ?_, rfl⟩
  all_goals rw [HE.out]
  all_goals simp_all
  all_goals omega

def questionS (s : ByteArray) (p : PS) : Except Nat (Bool × PS) :=
  if kd s p = 11 then .ok (true, nxt s p 11) else if kd s p = 10 then .ok (false, nxt s p 10) else .error (pl s p)
def PostB (w : World) (b : Nat) (s : ByteArray) (r : Except Nat (Bool × PS)) (e : Ending) (w' : World) : Prop :=
  w.grownBy w' (some b) ∧ match r with
  | .ok (d, p') => e = .returned (.tuple #[.bool d, .bool true]) ∧ PAt w' b s p'
  | .error q => e = .returned (.tuple #[.bool false, .bool false]) ∧ ∃ p', PAt w' b s p' ∧ pl s p' = q

set_option maxHeartbeats 400000 in
theorem question_any (w : World) (b : Nat) (s : ByteArray) (p : PS) (h : PAt w b s p) :
    Calls Tryz.prog 92 #[.pointer (some ⟨b, 0, none⟩)] w fun e w' => PostB w b s (questionS s p) e w' := by
  go_enter Tryz.func92, Tryz.ntmps92
  go_wp2_with fail
  by_cases h11 : kd s p = 11
  · refine (pass_yes _ b s p 11 h (by show ((kd s p : Nat) : Int) = 11; omega)).mono ?_
    rintro e w1 ⟨rfl, hg1, hp1⟩
    have HS : Hid (questionS s p = .ok (true, nxt s p 11)) := by show _ = _; unfold questionS; rw [if_pos h11]
    go_wp2_with fail
    go_ret2
    refine ⟨hg1, ?_⟩
    rw [HS.out]
    exact ⟨rfl, hp1⟩
  · refine (pass_no _ b s p 11 h (by show ¬ ((kd s p : Nat) : Int) = 11; omega)).mono ?_
    rintro e w1 ⟨rfl, rfl⟩
    go_wp2_with fail
    by_cases h10 : kd s p = 10
    · refine (pass_yes _ b s p 10 h (by show ((kd s p : Nat) : Int) = 10; omega)).mono ?_
      rintro e w1 ⟨rfl, hg1, hp1⟩
      have HS : Hid (questionS s p = .ok (false, nxt s p 10)) := by show _ = _; unfold questionS; rw [if_neg h11, if_pos h10]
      go_wp2_with fail
      go_ret2
      refine ⟨hg1, ?_⟩
      rw [HS.out]
      exact ⟨rfl, hp1⟩
    · refine (pass_no _ b s p 10 h (by show ¬ ((kd s p : Nat) : Int) = 10; omega)).mono ?_
      rintro e w1 ⟨rfl, rfl⟩
      have HS : Hid (questionS s p = .error (pl s p)) := by show _ = _; unfold questionS; rw [if_neg h11, if_neg h10]
      go_wp2_with fail
      go_ret2
      refine ⟨gb_refl _ _, ?_⟩
      rw [HS.out]
      exact ⟨rfl, _, h, rfl⟩

/-- The skips of a thread that go too far: the rest of the steps, each with the place of its last digit. -/
def skipsS : List (St × Nat) → PS → PS
  | [], p => p
  | (x, d) :: r, p => skipsS r (if x.kind = 6 ∧ r.length < x.count then jumped p d else p)
def stCells (x : St) : List Value := [.int .i64 (x.kind : Nat), .int .i64 (x.place : Nat), .int .i64 (x.reg : Nat), .int .i64 (x.digit : Nat), .int .i64 (x.count : Nat)]

/-- The steps of a thread and the places of their last digits, as they lie in memory. -/
def rowsAt (w : World) (g1 g2 : Nat) (l : List (St × Nat)) : Prop := ∀ i x d, l[i]? = some (x, d) →
  w.cell? ⟨g1, i * 5, none⟩ = some (.int .i64 (x.kind : Nat)) ∧ w.cell? ⟨g1, i * 5 + 1, none⟩ = some (.int .i64 (x.place : Nat)) ∧ w.cell? ⟨g1, i * 5 + 2, none⟩ = some (.int .i64 (x.reg : Nat)) ∧
  w.cell? ⟨g1, i * 5 + 3, none⟩ = some (.int .i64 (x.digit : Nat)) ∧ w.cell? ⟨g1, i * 5 + 4, none⟩ = some (.int .i64 (x.count : Nat)) ∧ w.cell? ⟨g2, i, none⟩ = some (.int .i64 (d : Nat))
theorem gb_cell {w w' : World} {row : Option Nat} (hg : w.grownBy w' row) {g o : Nat} {v : Value} (h : w.cell? ⟨g, o, none⟩ = some v) (hne : some g ≠ row) : w'.cell? ⟨g, o, none⟩ = some v := hg.cell h hne
theorem rowsAt_gb {w w' : World} {b g1 g2 : Nat} {l : List (St × Nat)} (h : rowsAt w g1 g2 l) (hg : w.grownBy w' (some b)) (h1 : g1 ≠ b) (h2 : g2 ≠ b) : rowsAt w' g1 g2 l := by
  intro i x d hi
  obtain ⟨a0, a1, a2, a3, a4, a5⟩ := h i x d hi
  exact ⟨gb_cell hg a0 (by simpa using h1), gb_cell hg a1 (by simpa using h1), gb_cell hg a2 (by simpa using h1), gb_cell hg a3 (by simpa using h1), gb_cell hg a4 (by simpa using h1), gb_cell hg a5 (by simpa using h2)⟩

theorem skips_step (l : List (St × Nat)) (k : Nat) (x : St) (d : Nat) (q : PS) (hx : l[k]? = some (x, d)) :
    skipsS (l.drop k) q = skipsS (l.drop (k + 1)) (if x.kind = 6 ∧ l.length - 1 - k < x.count then jumped q d else q) := by
  obtain ⟨hk, hx'⟩ := List.getElem?_eq_some_iff.1 hx
  rw [List.drop_eq_getElem_cons hk, hx']
  rw [skipsS, show (l.drop (k + 1)).length = l.length - 1 - k from by simp; omega]

set_option maxHeartbeats 400000 in
theorem checkSkips_any (w : World) (b : Nat) (s : ByteArray) (p : PS) (h : PAt w b s p) (l : List (St × Nat)) (g1 c1 g2 c2 : Nat) (hn : l.length ≤ 8) (hd : ∀ x ∈ l, x.2 ≤ 400) (hc : ∀ x ∈ l, x.1.count ≤ 9)
    (hrow : rowsAt w g1 g2 l) (hg1 : g1 ≠ b) (hg2 : g2 ≠ b) (n : Nat) (hnn : n = l.length) :
    Calls Tryz.prog 151 #[.pointer (some ⟨b, 0, none⟩), .slice (some ⟨g1, 0, none⟩) n c1, .slice (some ⟨g2, 0, none⟩) n c2] w fun e w' => e = .returned (.tuple #[]) ∧ w.grownBy w' (some b) ∧ PAt w' b s (skipsS l p) := by
  have HN : Hid (n = l.length) := hnn
  have hn8 : n ≤ 8 := by omega
  clear hnn hn
  have hlt := heap_lt h.blk
  go_enter Tryz.func151, Tryz.ntmps151
  go_wp2_with fail
  go_loopw [10] (fun t wr => ∃ (k : Nat) (q : PS), k ≤ n ∧ t = .int .i64 k ∧ Hid (skipsS (l.drop k) q = skipsS l p) ∧ PAt wr b s q ∧ w.grownBy wr (some b)) (fun t _ => n - (intOf t).toNat)
  case atStart => exact ⟨0, p, Nat.zero_le _, rfl, rfl, h, gb_refl _ _⟩
  case round =>
    obtain ⟨k, q, hk, rfl, hq, hP, hG⟩ := hrel
    by_cases hlt2 : k < n
    · obtain ⟨⟨x, d⟩, hx⟩ : ∃ y, l[k]? = some y := ⟨l[k]'(by rw [← HN.out]; exact hlt2), List.getElem?_eq_getElem _⟩
      obtain ⟨e0, e1, e2, e3, e4, e5⟩ := rowsAt_gb hrow hG hg1 hg2 k x d hx
      have hl5 : g2 < wr.heap.size := World.block_lt_of_cell? wr ⟨g2, k, none⟩ e5
      have hxm : (x, d) ∈ l := List.mem_of_getElem? hx
      have hd4 := hd _ hxm
      have hc9 := hc _ hxm
      simp only at hd4 hc9
      have HX : Hid (_ = _) := hx
      have HST : Hid (skipsS (l.drop k) q = skipsS (l.drop (k + 1)) (if x.kind = 6 ∧ n - 1 - k < x.count then jumped q d else q)) := by show _ = _; rw [skips_step l k x d q hx, HN.out]
      clear hx hxm hd hc hrow
      by_cases hk6 : (x.kind : Int) = 6
      · by_cases hcnt : ((n : Int) - 1 - (k : Int)) < (x.count : Int)
        · go_wp2_with fail
          refine (wrongJump_any _ b s q d hd4 (hP.alloc _)).mono ?_
          rintro e w1 ⟨rfl, hg3, hp3⟩
          go_wp2_with fail
          refine ⟨⟨k + 1, jumped q d, by omega, by go_num, ?_, hp3, gb_trans (gb_alloc hG _) hg3⟩, by simp [intOf]; omega⟩
          show _ = _
          rw [← hq.out, HST.out, if_pos ⟨by omega, by omega⟩]
        · go_wp2_with fail
          refine ⟨⟨k + 1, q, by omega, by go_num, ?_, hP.alloc _, gb_alloc hG _⟩, by simp [intOf]; omega⟩
          show _ = _
          rw [← hq.out, HST.out, if_neg (by omega)]
      · go_wp2_with fail
        refine ⟨⟨k + 1, q, by omega, by go_num, ?_, hP.alloc _, gb_alloc hG _⟩, by simp [intOf]; omega⟩
        show _ = _
        rw [← hq.out, HST.out, if_neg (by omega)]
    · go_wp2_with fail
      go_end0
      refine ⟨rfl, hG, ?_⟩
      have : l.drop k = [] := List.drop_eq_nil_of_le (by rw [← HN.out]; omega)
      have hq2 := hq.out
      rw [this] at hq2
      rw [← hq2]
      exact hP
end Go.Proofs.YtmpaeladhoomoaaGreatDoor
