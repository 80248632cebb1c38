/-
  DERIVED. GIVEN WITH THE SEED: THE CARDS: each row of YtmpaeladhoomoaaGreatDoorRows.lean that lists a variable, with what it lists TIED to the program's text (the seventh form; the later family's looks); each row that meets fmt, with fmt's text TOLD by the authors' own Lean function (tested against real Go, not proved from fmt's source: count such statements apart). THE CARD IS WHAT COUNTS. Prove the row's statement (the work); the ties are given (YtmpaeladhoomoaaGreatDoorTie.lean); close each card by the builder's one call (the guide's Derived/Test/ToyasCard.lean, 'card_holds'). Laid BY PROGRAM, IN A SANDBOX (cutbox-door.mjs). By AI agents, Wed Nov 11 2026. No macro, syntax, notation, axiom, sorry.
-/
import Derived.Test.YtmpaeladhoomoaaGreatDoorRows
import GoSem.ClaimSeven
namespace Go.Proofs.YtmpaeladhoomoaaGreatDoor
namespace Rows

/-- THE TIED CARD OF 'hearsaylaw.Loads'. -/
def loadsCard : Claim7 := { stood := { row := loadsRow, standIns := [], harness := (true, "1d7d0c4455a8e738366378d55df22aae00542f3406f45cbffab6faef107e7ddf"), looks := false }, kinds := [], alts := [], goes := true, laidByText := true, laidKinds := [.data, .data, .data], laidTests := true, laidLooks := .later }
def LoadsCardSaid : Prop := Claim7.holds Tryz.pinned (.plain (OpenSpec.ofChange loadsSpec)) loadsCard

/-- THE TIED CARD OF 'hearsaylaw.Prints'. -/
def printsCard : Claim7 := { stood := { row := printsRow, standIns := [], harness := (true, "1d7d0c4455a8e738366378d55df22aae00542f3406f45cbffab6faef107e7ddf"), looks := false }, kinds := [], alts := [], goes := true, laidByText := true, laidKinds := [.data, .data, .data], laidTests := true, laidLooks := .later }
def PrintsCardSaid : Prop := Claim7.holds Tryz.pinned (.plain (OpenSpec.ofChange printsSpec)) printsCard

/-- THE TIED CARD OF 'hearsaylaw.Walks'. -/
def walksCard : Claim7 := { stood := { row := walksRow, standIns := [], harness := (true, "1d7d0c4455a8e738366378d55df22aae00542f3406f45cbffab6faef107e7ddf"), looks := false }, kinds := [], alts := [], goes := true, laidByText := true, laidKinds := [.data, .data, .data], laidTests := true, laidLooks := .later }
def WalksCardSaid : Prop := Claim7.holds Tryz.pinned (.plain (OpenSpec.ofChange walksSpec)) walksCard

/-- THE TIED CARD OF 'hearsaylaw.Explores'. -/
def exploresCard : Claim7 := { stood := { row := exploresRow, standIns := [], harness := (true, "1d7d0c4455a8e738366378d55df22aae00542f3406f45cbffab6faef107e7ddf"), looks := false }, kinds := [], alts := [], goes := true, laidByText := true, laidKinds := [.data, .data, .data], laidTests := true, laidLooks := .later }
def ExploresCardSaid : Prop := Claim7.holds Tryz.pinned (.plain (OpenSpec.ofChange exploresSpec)) exploresCard

/-- THE TIED CARD OF 'hearsaylaw.All'. -/
def allCard : Claim7 := { stood := { row := allRow, standIns := [], harness := (true, "1d7d0c4455a8e738366378d55df22aae00542f3406f45cbffab6faef107e7ddf"), looks := false }, kinds := [], alts := [], goes := true, laidByText := true, laidKinds := [.data, .data, .data], laidTests := true, laidLooks := .later }
def AllCardSaid : Prop := Claim7.holds Tryz.pinned (.plain (OpenSpec.ofChange allSpec)) allCard

/-- THE TIED CARD OF 'hearsaykeep.Printed'. -/
def printedCard : Claim7 := { stood := { row := printedRow, standIns := [], harness := (true, "1d7d0c4455a8e738366378d55df22aae00542f3406f45cbffab6faef107e7ddf"), looks := false }, kinds := [], alts := [], goes := true, laidByText := true, laidKinds := [.data, .data, .data], laidTests := true, laidLooks := .later }
def PrintedCardSaid : Prop := Claim7.holds Tryz.pinned (.plain (OpenSpec.ofChange printedSpec)) printedCard

/-- THE TIED CARD OF 'hearsaykeep.Workers'. -/
def workersCard : Claim7 := { stood := { row := workersRow, standIns := [], harness := (true, "1d7d0c4455a8e738366378d55df22aae00542f3406f45cbffab6faef107e7ddf"), looks := false }, kinds := [], alts := [], goes := true, laidByText := true, laidKinds := [.data, .data, .data], laidTests := true, laidLooks := .later }
def WorkersCardSaid : Prop := Claim7.holds Tryz.pinned (.plain (OpenSpec.ofChange workersSpec)) workersCard

/-- THE TIED CARD OF 'hearsaykeep.Reached'. -/
def reachedCard : Claim7 := { stood := { row := reachedRow, standIns := [], harness := (true, "1d7d0c4455a8e738366378d55df22aae00542f3406f45cbffab6faef107e7ddf"), looks := false }, kinds := [], alts := [], goes := true, laidByText := true, laidKinds := [.data, .data, .data], laidTests := true, laidLooks := .later }
def ReachedCardSaid : Prop := Claim7.holds Tryz.pinned (.plain (OpenSpec.ofChange reachedSpec)) reachedCard

/-- THE TIED CARD OF 'hearsaykeep.Weaker'. -/
def weakerCard : Claim7 := { stood := { row := weakerRow, standIns := [], harness := (true, "1d7d0c4455a8e738366378d55df22aae00542f3406f45cbffab6faef107e7ddf"), looks := false }, kinds := [], alts := [], goes := true, laidByText := true, laidKinds := [.data, .data, .data], laidTests := true, laidLooks := .later }
def WeakerCardSaid : Prop := Claim7.holds Tryz.pinned (.plain (OpenSpec.ofChange weakerSpec)) weakerCard

/-- THE TIED CARD OF 'hearsaykeep.Fenced'. -/
def fencedCard : Claim7 := { stood := { row := fencedRow, standIns := [], harness := (true, "1d7d0c4455a8e738366378d55df22aae00542f3406f45cbffab6faef107e7ddf"), looks := false }, kinds := [], alts := [], goes := true, laidByText := true, laidKinds := [.data, .data, .data], laidTests := true, laidLooks := .later }
def FencedCardSaid : Prop := Claim7.holds Tryz.pinned (.plain (OpenSpec.ofChange fencedSpec)) fencedCard

/-- THE TIED CARD OF 'hearsaykeep.Asked'. -/
def askedCard : Claim7 := { stood := { row := askedRow, standIns := [], harness := (true, "1d7d0c4455a8e738366378d55df22aae00542f3406f45cbffab6faef107e7ddf"), looks := false }, kinds := [], alts := [], goes := true, laidByText := true, laidKinds := [.data, .data, .data], laidTests := true, laidLooks := .later }
def AskedCardSaid : Prop := Claim7.holds Tryz.pinned (.plain (OpenSpec.ofChange askedSpec)) askedCard
end Rows
end Go.Proofs.YtmpaeladhoomoaaGreatDoor
