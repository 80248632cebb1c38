/-
  The program's tokens: rows, signs.
-/
import Derived.Test.YtmpaeladhoomoaaGreatDoorLex
namespace Go.Proofs.YtmpaeladhoomoaaGreatDoor
open Go.RowKit

theorem ret_ii {k k' : IntKind} {a b c d : Int} (h : a = b) (h' : c = d) : Ending.returned (.tuple #[.int k a, .int k' c]) = .returned (.tuple #[.int k b, .int k' d]) := by rw [h, h']
theorem rowC_digit (r : ByteArray) (h1 : r.size = 1) (h2 : 48 ≤ bAt r 0) (h3 : bAt r 0 ≤ 57) : rowC r.data.toList = (4, bAt r 0 - 48) := by
  unfold rowC
  rw [if_pos ⟨by simpa using h1, h2, h3⟩]; rfl
theorem rowC_place (r : ByteArray) (h1 : r.size = 1) (h2 : 119 ≤ bAt r 0) (h3 : bAt r 0 ≤ 122) : rowC r.data.toList = (2, bAt r 0 - 119) := by
  unfold rowC
  rw [if_neg (by rintro ⟨_, _, h⟩; have : bAt r 0 ≤ 57 := h; omega), if_pos ⟨by simpa using h1, h2, h3⟩]; rfl
theorem rowC_register (r : ByteArray) (h1 : r.size = 2) (h2 : bAt r 0 = 114) (h3 : 48 ≤ bAt r 1) (h4 : bAt r 1 ≤ 51) : rowC r.data.toList = (3, bAt r 1 - 48) := by
  have hl : r.data.toList.length = 2 := by simpa using h1
  unfold rowC
  rw [if_neg (by omega), if_neg (by omega), if_pos ⟨hl, h2, h3, h4⟩]; rfl
theorem rowC_word (r : ByteArray) (h1 : ¬ (r.size = 1 ∧ 48 ≤ bAt r 0 ∧ bAt r 0 ≤ 57)) (h2 : ¬ (r.size = 1 ∧ 119 ≤ bAt r 0 ∧ bAt r 0 ≤ 122))
    (h3 : ¬ (r.size = 2 ∧ bAt r 0 = 114 ∧ 48 ≤ bAt r 1 ∧ bAt r 1 ≤ 51)) : rowC r.data.toList = (wordC r.data.toList, 0) := by
  have hl : r.data.toList.length = r.size := by simp
  unfold rowC
  rw [if_neg (by rw [hl]; exact h1), if_neg (by rw [hl]; exact h2), if_neg (by rw [hl]; exact h3)]

theorem drewN_zero (w : World) : w = w.drewN 0 := rfl
set_option maxHeartbeats 400000 in
theorem rowKind_any (r : ByteArray) (w : World) (h0 : 0 < r.size) :
    Calls Tryz.prog 146 #[.string r] w fun e w' => e = .returned (.tuple #[.int .i64 ((rowC r.data.toList).1 : Nat), .int .i64 ((rowC r.data.toList).2 : Nat)]) ∧ ∃ n, w' = w.drewN n := by
  have hb := bAt_eq r 0 h0
  have hlt := bAt_lt r 0
  rw [← hb] at hlt
  have Hb : Hid (r[0].toNat = bAt r 0) := hb
  clear hb
  by_cases h1 : (r.size : Int) = 1
  · by_cases hd : 48 ≤ r[0].toNat ∧ r[0].toNat ≤ 57
    · have Hd : Hid (rowC r.data.toList = (4, bAt r 0 - 48)) := rowC_digit r (by omega) (by rw [← Hb.out]; exact hd.1) (by rw [← Hb.out]; exact hd.2)
      go_enter Tryz.func146, Tryz.ntmps146
      go_wp2_with (go_at_call 196; refine (isDigit_any _ _).mono ?_; rintro e w' ⟨rfl, rfl⟩)
      go_quiet (fail)
      go_wp2_with fail
      go_ret2
      exact ⟨ret_ii (by rw [Hd.out]; rfl) (by rw [Hd.out, ← Hb.out]; omega), _, rfl⟩
    · have Hdd : Hid ((decide (48 ≤ r[0].toNat) && decide (r[0].toNat ≤ 57)) = false) := by show _ = _; simp; omega
      by_cases hp : 119 ≤ r[0].toNat ∧ r[0].toNat ≤ 122
      · have Hd : Hid (rowC r.data.toList = (2, bAt r 0 - 119)) := rowC_place r (by omega) (by rw [← Hb.out]; exact hp.1) (by rw [← Hb.out]; exact hp.2)
        go_enter Tryz.func146, Tryz.ntmps146
        go_wp2_with (go_at_call 196; refine (isDigit_any _ _).mono ?_; rintro e w' ⟨rfl, rfl⟩; rw [Hdd.out])
        go_quiet (fail)
        go_wp2_with fail
        go_ret2
        exact ⟨ret_ii (by rw [Hd.out]; rfl) (by rw [Hd.out, ← Hb.out]; omega), _, rfl⟩
      · have Hd : Hid (rowC r.data.toList = (wordC r.data.toList, 0)) := rowC_word r (by rw [← Hb.out]; omega) (by rw [← Hb.out]; omega) (by omega)
        go_enter Tryz.func146, Tryz.ntmps146
        go_wp2_with (first | (go_at_call 196; refine (isDigit_any _ _).mono ?_; rintro e w' ⟨rfl, rfl⟩; rw [Hdd.out]) | (go_at_call 197; refine (wordKind_any _ _).mono ?_; rintro e w' ⟨rfl, rfl⟩))
        all_goals go_ret2
        all_goals exact ⟨ret_ii (by rw [Hd.out]) (by rw [Hd.out]; rfl), 0, rfl⟩
  · by_cases h2 : (r.size : Int) = 2
    · have hb1 := bAt_eq r 1 (by omega)
      have hlt1 := bAt_lt r 1
      rw [← hb1] at hlt1
      have Hb1 : Hid (r[1].toNat = bAt r 1) := hb1
      clear hb1
      by_cases hp : (r[0].toNat = 114 ∧ 48 ≤ r[1].toNat) ∧ r[1].toNat ≤ 51
      · have Hd : Hid (rowC r.data.toList = (3, bAt r 1 - 48)) := rowC_register r (by omega) (by rw [← Hb.out]; exact hp.1.1) (by rw [← Hb1.out]; exact hp.1.2) (by rw [← Hb1.out]; exact hp.2)
        go_enter Tryz.func146, Tryz.ntmps146
        go_wp2_with fail
        all_goals (first | (exfalso; omega) | (go_quiet (fail); go_wp2_with fail; go_ret2; exact ⟨ret_ii (by rw [Hd.out]; rfl) (by rw [Hd.out, ← Hb1.out]; omega), _, rfl⟩))
      · have Hd : Hid (rowC r.data.toList = (wordC r.data.toList, 0)) := rowC_word r (by omega) (by omega) (by rw [← Hb.out, ← Hb1.out]; omega)
        go_enter Tryz.func146, Tryz.ntmps146
        go_wp2_with (go_at_call 197; refine (wordKind_any _ _).mono ?_; rintro e w' ⟨rfl, rfl⟩)
        all_goals (first | (exfalso; omega) | (go_ret2; exact ⟨ret_ii (by rw [Hd.out]) (by rw [Hd.out]; rfl), 0, rfl⟩))
    · have Hd : Hid (rowC r.data.toList = (wordC r.data.toList, 0)) := rowC_word r (by omega) (by omega) (by omega)
      go_enter Tryz.func146, Tryz.ntmps146
      go_wp2_with (go_at_call 197; refine (wordKind_any _ _).mono ?_; rintro e w' ⟨rfl, rfl⟩)
      go_ret2
      exact ⟨ret_ii (by rw [Hd.out]) (by rw [Hd.out]; rfl), 0, rfl⟩
end Go.Proofs.YtmpaeladhoomoaaGreatDoor
