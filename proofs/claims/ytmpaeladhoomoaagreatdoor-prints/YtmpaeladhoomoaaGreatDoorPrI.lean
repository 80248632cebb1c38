/-
  The program's Print, from the test's pointer.
-/
import Derived.Test.YtmpaeladhoomoaaGreatDoorPrG
namespace Go.Proofs.YtmpaeladhoomoaaGreatDoor
open Go.RowKit

set_option maxHeartbeats 1000000 in
/-- Print of a test in memory. -/
theorem hprint_any (w : World) (ok : Nat → Prop) (g pg : Nat) (ls : List (List St)) (fa : Bool) (ft : Txt) (hg : w.heap[g]? = some (.cells #[.pointer (some ⟨pg, 0, none⟩)] 71 (0, 0))) (h : ProgRep w ok pg ls fa ft) (hokl : ∀ x, ok x → x < w.heap.size) (hst : ∀ l ∈ ls, ∀ x ∈ l, StOk x) (hls : ls.length ≤ 4) (hft : ft.length ≤ 1000000) :
    Calls Tryz.prog 19 #[.pointer (some ⟨g, 0, none⟩)] w fun e w' => e = .returned (.string (bT (testT ls fa ft))) ∧ w.grownBy w' none := by
  have HP : Hid (Calls Tryz.prog 35 #[.pointer (some ⟨pg, 0, none⟩)] w fun e w' => e = .returned (.string (bT (testT ls fa ft))) ∧ w.grownBy w' none) := print_any w ok pg ls fa ft h hokl hst hls hft
  have c0 := cell_of hg 0 _ rfl
  clear h hokl hst hls hft hg
  go_enter Tryz.func19, Tryz.ntmps19
  go_wp2_with (first | (go_at_call 35; go_must (refine HP.out.mono ?_; rintro e w1 ⟨rfl, hg1⟩)) | go_in)
  go_ret
  exact ⟨rfl, hg1⟩
end Go.Proofs.YtmpaeladhoomoaaGreatDoor
