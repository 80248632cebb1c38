/-
  For every script of steps the statement Loads answers true, and its argument reads behind the call as it read before: the program's Load answers at every text as the document's answer does. No condition beyond the row's own: the tables of the library hold what their text lays.
-/
import Derived.Test.YtmpaeladhoomoaaGreatDoorLwX
import Derived.Test.YtmpaeladhoomoaaGreatDoorRfP
namespace Go.Proofs.YtmpaeladhoomoaaGreatDoor

theorem both : Both loadQ := ⟨fun w s h => by have hl := load_any w s h; rw [read_eq] at hl; exact hl, fun w s _ => rload_any w s⟩
theorem first_taken : (loadQ first).1 = 0 := by kernel_rfl
theorem loads_holds : Rows.LoadsCardSaid := loads_card both first_taken
end Go.Proofs.YtmpaeladhoomoaaGreatDoor
