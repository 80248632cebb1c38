/-
  The program's reader: taking tokens.
-/
import Derived.Test.YtmpaeladhoomoaaGreatDoorRdA
namespace Go.Proofs.YtmpaeladhoomoaaGreatDoor
open Go.RowKit

/-- Behind the token at hand, which was of kind k. -/
def nxt (s : ByteArray) (p : PS) (k : Int) : PS := if k = 4 then { p with i := (tk s p.i).end_, dig := (tk s p.i).at_ } else { p with i := (tk s p.i).end_ }
theorem nxt_dig (s : ByteArray) (p : PS) : nxt s p 4 = { p with i := (tk s p.i).end_, dig := (tk s p.i).at_ } := rfl
theorem nxt_thr (s : ByteArray) (p : PS) (k : Int) : (nxt s p k).thr = p.thr ∧ (nxt s p k).opn = p.opn ∧ (nxt s p k).jmp = p.jmp := by
  unfold nxt; split <;> exact ⟨rfl, rfl, rfl⟩
theorem nxt_i (s : ByteArray) (p : PS) (k : Int) : (nxt s p k).i = (tk s p.i).end_ := by unfold nxt; split <;> rfl
theorem nxt_mono (s : ByteArray) (p : PS) (k : Int) (h : p.i ≤ s.size) : p.i ≤ (nxt s p k).i ∧ (nxt s p k).i ≤ s.size := by
  rw [nxt_i]; have := tk_bounds s p.i h; omega
theorem nxt_lt (s : ByteArray) (p : PS) (k : Int) (h : p.i ≤ s.size) (hk : (tk s p.i).kind ≠ 1) : p.i < (nxt s p k).i := by
  rw [nxt_i]; have := tk_bounds s p.i h; have := tk_lt s p.i hk; omega
theorem nxt_oth (s : ByteArray) (p : PS) (k : Int) (h : ¬ k = 4) : nxt s p k = { p with i := (tk s p.i).end_ } := if_neg h

set_option maxHeartbeats 400000 in
theorem take_no (w : World) (b : Nat) (s : ByteArray) (p : PS) (k : Int) (h : PAt w b s p) (hk : ¬ ((tk s p.i).kind : Int) = k) :
    Calls Tryz.prog 199 #[.pointer (some ⟨b, 0, none⟩), .int .i64 k] w fun e w' => e = .returned (.tuple #[.int .i64 0, .bool false]) ∧ w' = w := by
  obtain ⟨c0, c1, c2, c3, c4, c5, c6, c7, c8, hf, hlt⟩ := h.get
  have hk' : (((tk s p.i).kind : Int) != k) = true := by simpa using hk
  go_enter Tryz.func199, Tryz.ntmps199
  go_wp2_with fail
  go_ret2
  exact ⟨rfl, rfl⟩

set_option maxHeartbeats 400000 in
theorem take_yes (w : World) (b : Nat) (s : ByteArray) (p : PS) (k : Int) (h : PAt w b s p) (hk : ((tk s p.i).kind : Int) = k) :
    Calls Tryz.prog 199 #[.pointer (some ⟨b, 0, none⟩), .int .i64 k] w fun e w' => e = .returned (.tuple #[.int .i64 ((tk s p.i).num : Nat), .bool true]) ∧ w.grownBy w' (some b) ∧ PAt w' b s (nxt s p k) := by
  obtain ⟨c0, c1, c2, c3, c4, c5, c6, c7, c8, hf, hlt⟩ := h.get
  have hk' : (((tk s p.i).kind : Int) != k) = false := by simpa using hk
  clear hk
  by_cases h4 : k = 4
  · subst h4
    have hb := tk_bounds s p.i h.isz
    have hs := h.ssz
    go_enter Tryz.func199, Tryz.ntmps199
    go_wp2_with fail
    refine (advance_any _ b s { p with dig := (tk s p.i).at_ } ((h.setDig _ (by omega)).alloc _)).mono ?_
    rintro e w1 ⟨rfl, hg, hp⟩
    have hn := heap_gb hg (new_at (size_set w _ _) _) (by simp; omega)
    have d1 := cell_of hn 1 _ rfl
    clear hn
    go_wp2_with fail
    go_ret2
    exact ⟨rfl, gb_trans (gb_alloc (gb_put (gb_refl _ _) _ _) _) hg, hp⟩
  · have HN := nxt_oth s p k h4
    have HN' : Hid (_ = _) := HN
    clear HN
    have h4' : (k == 4) = false := by simpa using h4
    go_enter Tryz.func199, Tryz.ntmps199
    go_wp2_with fail
    refine (advance_any _ b s p (h.alloc _)).mono ?_
    rintro e w1 ⟨rfl, hg, hp⟩
    have hn := heap_gb hg (heap_alloc_new w _) (by simp; omega)
    have d1 := cell_of hn 1 _ rfl
    clear hn
    go_wp2_with fail
    go_ret2
    rw [HN'.out]
    exact ⟨rfl, gb_trans (gb_alloc (gb_refl _ _) _) hg, hp⟩

set_option maxHeartbeats 400000 in
theorem pass_no (w : World) (b : Nat) (s : ByteArray) (p : PS) (k : Int) (h : PAt w b s p) (hk : ¬ ((tk s p.i).kind : Int) = k) :
    Calls Tryz.prog 148 #[.pointer (some ⟨b, 0, none⟩), .int .i64 k] w fun e w' => e = .returned (.bool false) ∧ w' = w := by
  go_enter Tryz.func148, Tryz.ntmps148
  go_wp2_with (go_at_call 199; refine (take_no _ b s p k h hk).mono ?_; rintro e w1 ⟨rfl, rfl⟩)
  go_ret
  exact ⟨rfl, rfl⟩
set_option maxHeartbeats 400000 in
theorem pass_yes (w : World) (b : Nat) (s : ByteArray) (p : PS) (k : Int) (h : PAt w b s p) (hk : ((tk s p.i).kind : Int) = k) :
    Calls Tryz.prog 148 #[.pointer (some ⟨b, 0, none⟩), .int .i64 k] w fun e w' => e = .returned (.bool true) ∧ w.grownBy w' (some b) ∧ PAt w' b s (nxt s p k) := by
  have HK : Hid (_ = _) := hk
  clear hk
  go_enter Tryz.func148, Tryz.ntmps148
  go_wp2_with (go_at_call 199; refine (take_yes _ b s p k h HK.out).mono ?_; rintro e w1 ⟨rfl, hg, hp⟩)
  go_ret
  exact ⟨rfl, hg, hp⟩

/-- The first wrong jump is kept. -/
def jumped (p : PS) (a : Nat) : PS := if p.jmp < 0 then { p with jmp := (a : Int) } else p
set_option maxHeartbeats 400000 in
theorem wrongJump_any (w : World) (b : Nat) (s : ByteArray) (p : PS) (a : Nat) (ha : a ≤ 400) (h : PAt w b s p) :
    Calls Tryz.prog 203 #[.pointer (some ⟨b, 0, none⟩), .int .i64 (a : Nat)] w fun e w' => e = .returned (.tuple #[]) ∧ w.grownBy w' (some b) ∧ PAt w' b s (jumped p a) := by
  obtain ⟨c0, c1, c2, c3, c4, c5, c6, c7, c8, hf, hlt⟩ := h.get
  by_cases hj : p.jmp < 0
  · have HJ : Hid (jumped p a = { p with jmp := (a : Int) }) := if_pos hj
    go_enter Tryz.func203, Tryz.ntmps203
    go_wp2_with fail
    go_end0
    rw [HJ.out]
    exact ⟨rfl, gb_put (gb_refl _ _) _ _, h.setJmp _ (by omega) (by omega)⟩
  · have HJ : Hid (jumped p a = p) := if_neg hj
    go_enter Tryz.func203, Tryz.ntmps203
    go_wp2_with fail
    go_end0
    rw [HJ.out]
    exact ⟨rfl, gb_refl _ _, h⟩
end Go.Proofs.YtmpaeladhoomoaaGreatDoor
