/-
  For every script the statement Loads answers true and leaves its argument as it was, if both readers answer alike at every text: the row and its card, both forms.
-/
import Derived.Test.YtmpaeladhoomoaaGreatDoorLv
import Derived.Test.YtmpaeladhoomoaaGreatDoorCards
import Derived.Test.YtmpaeladhoomoaaGreatDoorTie
import Derived.Test.YtmpaeladhoomoaaGreatDoorLwC
namespace Go.Proofs.YtmpaeladhoomoaaGreatDoor
open Go.ChangeShapes Go.WideShapes Go.ChangeAt Go.RowKit

/-- A listed number as a cell. -/
def laidCell : DataW Unit → Value
  | .lit (.int k n) => .int k n
  | _ => .bool false
def laidCells : DataW Unit → Array Value
  | .agg l => (l.map laidCell).toArray
  | _ => #[]
def laidObj (d : DataW Unit) : Obj → Obj
  | .cells _ t frozen => .cells (laidCells d) t frozen
  | o => o
/-- A world for the witness: the settled one, the three tables holding what their initialisers lay. -/
noncomputable def laidWorld (os : Os) : World :=
  { World.holding Tryz.prog os ⟨#[], #[], []⟩ with heap := (((World.holding Tryz.prog os ⟨#[], #[], []⟩).heap.modify 0 (laidObj Rows.laid_internal_strconv_uint64pow10)).modify 2 (laidObj Rows.laid_math_bits_deBruijn32tab)).modify 3 (laidObj Rows.laid_math_bits_deBruijn64tab) }
theorem loads_laid_met (os : Os) : laidMet Tryz.prog Rows.loadsRow.laid ((laidWorld os).forCall (fun _ _ => 0) ⟨#[], #[.slice none 0 0], []⟩).memory :=
  laidMet_of_run' 8 (by kernel_rfl) (by kernel_rfl)
theorem loads_reads (os : Os) {H : Type} (enc : TypeId × Value → H) : ∃ places, DataW.whole enc Tryz.prog ((laidWorld os).forCall (fun _ _ => 0) ⟨#[], #[.slice none 0 0], []⟩).memory Tryz.f3.params.toList Rows.loadsSpec.vars false #[Value.slice none 0 0].toList 8 = some ([.nil], [], places) :=
  ⟨[], by kernel_rfl⟩

set_option maxRecDepth 100000 in
theorem loads_lifted {r : ByteArray → Nat × Nat} (B : Both r) (hr : (r first).1 = 0) (os : Os) (started : os.Started) (H : Type) (enc : TypeId × Value → H) (F : Stop.Interp) :
    ReturnsInHanded { calm := true } Tryz.checked os 3 .any ((OpenSpec.ofChange Rows.loadsSpec).preRow enc Tryz.prog Tryz.f3 Rows.loadsRow.domain false Rows.loadsRow.laid) (((OpenSpec.ofChange Rows.loadsSpec).at F).post enc Tryz.prog Tryz.f3 false true false false) := by
  obtain ⟨places, hx⟩ := loads_reads os enc
  refine returnsInHanded_of_row (C := Tryz.checked) (s := OpenSpec.ofChange Rows.loadsSpec) lawOwn started (by kernel_rfl) Tryz.func3
    (witness_calm (enc := enc) (C := Tryz.checked) (laidWorld os) #[.slice none 0 0] rfl (by kernel_rfl) (by kernel_rfl) (by kernel_rfl)
      (OpenSpec.preRow_of_cond 8 hx (by kernel_rfl) (fun k hk => by cases hk) (by kernel_rfl) (loads_laid_met os))) ?_
  intro W base args ds gs before hval hW _ _ hsz _ _ _
  exact loads_contract B hr W base args ds gs before hval hW hsz

theorem loads_said {r : ByteArray → Nat × Nat} (B : Both r) (hr : (r first).1 = 0) : Rows.LoadsSaid :=
  OpenClaim.holds_of_wide_leaving_time 3 Tryz.f3 rfl rfl rfl rfl rfl rfl rfl ⟨rfl, rfl, rfl, rfl, rfl⟩ rfl rfl rfl rfl rfl (by kernel_rfl) Tryz.func3 (by kernel_rfl)
    (of_decide_eq_true (by kernel_rfl)) (by unfold Func.isWrapper; first | (rw [if_pos (by decide +kernel)]; kernel_rfl) | (rw [if_neg (by decide +kernel)]; exact ⟨rfl, rfl⟩))
    (fun os started H enc _ F => by rw [OpenClaim.pre_eq_preRow]; exact leaving_of_handed post_with_time (loads_lifted B hr os started H enc F))

/-- No parameter wants a stand-in; the program's own looks are off: what the card asks. -/
theorem loads_plain (f : FuncId) (fn : Func) (hf : Tryz.pinned.checked.prog.funcNamed Rows.loadsRow.func = some f) (hfn : Tryz.pinned.checked.prog.funcs[f]? = some fn) :
    false = Tryz.pinned.checked.prog.looks [] ∧ ∀ (j : Nat) t, fn.params[j]? = some t → Tryz.pinned.checked.prog.wantsStandIn t = false := by
  obtain rfl : f = 3 := Option.some.inj ((show Tryz.prog.funcNamed Rows.loadsRow.func = some 3 by kernel_rfl).symm.trans hf) |>.symm
  obtain rfl : fn = Tryz.f3 := (Option.some.inj (Tryz.func3.symm.trans hfn)).symm
  refine ⟨by kernel_rfl, fun j t ht => ?_⟩
  rw [Tryz.params3] at ht
  obtain rfl : t = 22 := by simpa using Array.mem_of_getElem? ht
  exact (show Tryz.prog.wantsStandIn 22 = false by kernel_rfl)

theorem loads_card {r : ByteArray → Nat × Nat} (B : Both r) (hr : (r first).1 = 0) : Rows.LoadsCardSaid :=
  holds_tied_goes .later _ _ _ _ (loads_said B hr) (by kernel_rfl) loads_row_tie rfl ⟨rfl, rfl⟩ (by kernel_rfl) rfl loads_plain (by kernel_rfl)
end Go.Proofs.YtmpaeladhoomoaaGreatDoor
