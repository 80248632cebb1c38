/-
  The document's answer: jump, walked.
-/
import Derived.Test.YtmpaeladhoomoaaGreatDoorRfL
namespace Go.Proofs.YtmpaeladhoomoaaGreatDoor
open Go.RowKit

theorem jumpL_flat (t : Nat) (ks : List (List Value × TM)) (h : ∀ x ∈ ks, jumpL t x.2.jm < 0) : jumpL t (ks.flatMap (·.2.jm)) = -1 := by
  induction ks with
  | nil => rfl
  | cons y r ih =>
    rw [List.flatMap_cons, jumpL_append, if_neg (by have := h y (by simp); omega)]
    exact ih (fun x hx => h x (by simp [hx]))
theorem jumpL_at (t : Nat) (ks : List (List Value × TM)) (i : Nat) (x : List Value × TM) (hx : ks[i]? = some x) (h : ∀ y ∈ ks.take i, jumpL t y.2.jm < 0) (h0 : 0 ≤ jumpL t x.2.jm) : jumpL t (ks.flatMap (·.2.jm)) = jumpL t x.2.jm := by
  induction ks generalizing i with
  | nil => simp at hx
  | cons y r ih =>
    cases i with
    | zero => simp at hx; subst hx; rw [List.flatMap_cons, jumpL_append, if_pos h0]
    | succ i =>
      simp at hx
      rw [List.flatMap_cons, jumpL_append, if_neg (by have := h y (by simp); omega)]
      exact ih i hx (fun z hz => h z (by simp [hz]))

set_option maxRecDepth 100000 in
set_option maxHeartbeats 4000000 in
theorem jump_any : ∀ (d : Nat) (w : World) (ok : Nat → Prop) (cs : List Value) (l : TM) (t : Nat), t ≤ 1000 → TRep d w ok cs l →
    Calls Tryz.prog 109 #[.agg cs.toArray, .int .i64 (t : Nat)] w fun e w' => e = .returned (.int .i64 (jumpL t l.jm)) ∧ w.grownBy w' none := by
  intro d
  induction d with
  | zero => intro w ok cs l t ht h; exact h.elim
  | succ d ih =>
    intro w ok cs l t ht h
    obtain ⟨op, a, b, n, at_, sa, k, c, ks, rfl, rfl, hk2, hcase, _, hkids⟩ := h.kids
    have IH : Hid (∀ (w : World) (ok : Nat → Prop) (cs : List Value) (l : TM) (t : Nat), t ≤ 1000 → TRep d w ok cs l → Calls Tryz.prog 109 #[.agg cs.toArray, .int .i64 (t : Nat)] w fun e w' => e = .returned (.int .i64 (jumpL t l.jm)) ∧ w.grownBy w' none) := ih
    clear ih h
    have HKI : Hid (∀ i x, ks[i]? = some x → TRep d w ok x.1 x.2 ∧ ∃ g, sa = some ⟨g, 0, none⟩ ∧ ∀ o v, x.1[o]? = some v → w.cell? ⟨g, i * 6 + o, none⟩ = some v) := hkids
    clear hkids
    unfold trC
    rcases hcase with ⟨hop, rfl, a', at', rfl, rfl, hjm⟩ | ⟨hop, hjm⟩
    all_goals have HJM : Hid (l.jm = _) := hjm
    all_goals clear hjm
    · have hop2 : (op.toList == [114]) = true := by rw [beq_iff_eq]; exact hop
      clear hop
      by_cases hta : (t : Int) ≤ (a' : Int)
      · have HJ : Hid (jumpL t l.jm = (at' : Int)) := by show _ = _; rw [HJM.out]; simp only [jumpL]; rw [if_pos (by omega)]
        go_enter Tryz.func109, Tryz.ntmps109
        go_wp2_with fail
        go_ret
        exact ⟨ret_int HJ.out.symm, gb_alloc (gb_refl _ _) _⟩
      · have HJ : Hid (jumpL t l.jm = -1) := by show _ = _; rw [HJM.out]; simp only [jumpL]; rw [if_neg (by omega)]
        go_enter Tryz.func109, Tryz.ntmps109
        go_wp2_with fail
        go_loop [5] (fun v => v = .int .i64 0) (fun _ => 0)
        case atStart => rfl
        case round =>
          subst hrel
          go_wp2_with fail
          go_ret
          exact ⟨ret_int HJ.out.symm, gb_alloc (gb_refl _ _) _⟩
    · have hop2 : (op.toList == [114]) = false := by rw [beq_eq_false_iff_ne]; exact hop
      clear hop
      go_enter Tryz.func109, Tryz.ntmps109
      go_wp2_with fail
      go_loopw [5] (fun v wr => ∃ i : Nat, i ≤ ks.length ∧ v = .int .i64 i ∧ (w.alloc (.cells #[.string op, .int .i64 a, .int .i64 b, .int .i64 n, .int .i64 at_, .slice sa ks.length c] 146)).grownBy wr none ∧ Hid (∀ y ∈ ks.take i, jumpL t y.2.jm < 0)) (fun v _ => ks.length - (intOf v).toNat)
      case atStart => exact ⟨0, Nat.zero_le _, rfl, gb_refl _ _, fun y hy => by simp at hy⟩
      case round =>
        obtain ⟨i, hi, rfl, hG, HN⟩ := hrel
        have hbx := heap_gb hG (heap_alloc_new w _) (by simp)
        obtain ⟨a0, a1, a2, a3, a4, a5, af⟩ := loc6 hbx
        by_cases hlt : i < ks.length
        · obtain ⟨x, hx⟩ : ∃ y, ks[i]? = some y := ⟨ks[i], List.getElem?_eq_getElem hlt⟩
          obtain ⟨hT, g, rfl, hcell⟩ := HKI.out i x hx
          obtain ⟨x1, l1⟩ := x
          simp only at hT hcell
          obtain ⟨op3, a3', bb3, nn3, at3, sa3, k3, c3, rfl⟩ := hT.form
          have hgr := gb_trans (gb_alloc (gb_refl w none) (.cells #[.string op, .int .i64 a, .int .i64 b, .int .i64 n, .int .i64 at_, .slice (some ⟨g, 0, none⟩) ks.length c] 146)) hG
          have e0 := gb_cell hgr (hcell 0 _ rfl) (by simp)
          have e1 := gb_cell hgr (hcell 1 _ rfl) (by simp)
          have e2 := gb_cell hgr (hcell 2 _ rfl) (by simp)
          have e3 := gb_cell hgr (hcell 3 _ rfl) (by simp)
          have e4 := gb_cell hgr (hcell 4 _ rfl) (by simp)
          have e5 := gb_cell hgr (hcell 5 _ rfl) (by simp)
          rw [Nat.add_zero] at e0
          have hT2 := hT.mono (ok' := fun _ => True) (fun _ _ => trivial) (fun g' o' _ hh => heap_gb hgr hh (by simp))
          have HT2 : Hid (TRep _ _ _ _ _) := hT2
          have HX : Hid (ks[i]? = some _) := hx
          clear hT hcell hT2 hx hgr
          go_wp2_with fail
          refine (IH.out wr _ _ l1 t ht HT2.out).mono ?_
          rintro e w3 ⟨rfl, hg3⟩
          have hjl := jumpL_lo t l1.jm
          by_cases hj : 0 ≤ jumpL t l1.jm
          · have HJ : Hid (jumpL t l.jm = jumpL t l1.jm) := HJM.out ▸ jumpL_at t ks i _ HX.out HN.out hj
            go_wp2_with fail
            go_ret
            exact ⟨ret_int HJ.out.symm, gb_trans (gb_trans (gb_alloc (gb_refl w none) _) hG) hg3⟩
          · go_wp2_with fail
            refine ⟨⟨i + 1, by omega, by go_num, gb_trans hG hg3, ?_⟩, by simp [intOf]; omega⟩
            intro y hy
            have hlt2 : i < ks.length := hlt
            rw [List.take_succ_eq_append_getElem hlt2, List.mem_append, List.mem_singleton] at hy
            rcases hy with hy | rfl
            · exact HN.out y hy
            · have : ks[i]? = some ks[i] := List.getElem?_eq_getElem hlt2
              rw [this] at HX
              have hxx := HX.out
              simp at hxx
              rw [hxx]
              show jumpL t l1.jm < 0
              omega
        · have HJ : Hid (jumpL t l.jm = -1) := HJM.out ▸ jumpL_flat t ks (fun y hy => HN.out y (by rw [List.take_of_length_le (by omega)]; exact hy))
          go_wp2_with fail
          go_ret
          exact ⟨ret_int HJ.out.symm, gb_trans (gb_alloc (gb_refl w none) _) hG⟩
end Go.Proofs.YtmpaeladhoomoaaGreatDoor
