/-
  DERIVED. GIVEN WITH THE SEED: THE CARDS: each row of YtffnilcihneniaaGreatDoorRows.lean that lists a variable, with what it lists TIED to the program's text (the seventh form; the later family's looks); each row that meets fmt, with fmt's text TOLD by the authors' own Lean function (tested against real Go, not proved from fmt's source: count such statements apart). THE CARD IS WHAT COUNTS. Prove the row's statement (the work); the ties are given (YtffnilcihneniaaGreatDoorTie.lean); close each card by the builder's one call (the guide's Derived/Test/ToyasCard.lean, 'card_holds'). Laid BY PROGRAM, IN A SANDBOX (cutbox-door.mjs). By AI agents, Wed Nov 11 2026. No macro, syntax, notation, axiom, sorry.
-/
import Derived.Test.YtffnilcihneniaaGreatDoorRows
import GoSem.ClaimSeven
namespace Go.Proofs.YtffnilcihneniaaGreatDoor
namespace Rows

/-- THE TIED CARD OF 'tillagekeep.Levels'. -/
def levelsCard : Claim7 := { stood := { row := levelsRow, standIns := [], harness := (true, "7e3a866dd8924605d05da0f4b9f1f65aa9de18b7413cb88bd4375caa193b3a5e"), looks := true }, kinds := [], alts := [], laidByText := true, laidKinds := [.data, .data, .data, .data, .sentinel, .sentinel, .data, .data, .data, .data, .data, .data, .data, .pinned], laidTests := true, laidLooks := .later }
def LevelsCardSaid : Prop := Claim7.holds Tryz.pinned (.plain (OpenSpec.ofChange levelsSpec)) levelsCard

/-- THE TIED CARD OF 'tillagekeep.LinesCounted'. -/
def linesCountedCard : Claim7 := { stood := { row := linesCountedRow, standIns := [], harness := (true, "7e3a866dd8924605d05da0f4b9f1f65aa9de18b7413cb88bd4375caa193b3a5e"), looks := true }, kinds := [], alts := [], laidByText := true, laidKinds := [.data, .data, .data, .data, .sentinel, .sentinel, .data, .data, .data, .data, .data, .data, .data, .pinned], laidTests := true, laidLooks := .later }
def LinesCountedCardSaid : Prop := Claim7.holds Tryz.pinned (.plain (OpenSpec.ofChange linesCountedSpec)) linesCountedCard

/-- THE TIED CARD OF 'tillagekeep.FieldsWritten'. -/
def fieldsWrittenCard : Claim7 := { stood := { row := fieldsWrittenRow, standIns := [], harness := (true, "7e3a866dd8924605d05da0f4b9f1f65aa9de18b7413cb88bd4375caa193b3a5e"), looks := true }, kinds := [], alts := [], laidByText := true, laidKinds := [.data, .data, .data, .data, .sentinel, .sentinel, .data, .data, .data, .data, .data, .data, .data, .pinned], laidTests := true, laidLooks := .later }
def FieldsWrittenCardSaid : Prop := Claim7.holds Tryz.pinned (.plain (OpenSpec.ofChange fieldsWrittenSpec)) fieldsWrittenCard

/-- THE TIED CARD OF 'tillagekeep.NextLeaves'. -/
def nextLeavesCard : Claim7 := { stood := { row := nextLeavesRow, standIns := [], harness := (true, "7e3a866dd8924605d05da0f4b9f1f65aa9de18b7413cb88bd4375caa193b3a5e"), looks := true }, kinds := [], alts := [], laidByText := true, laidKinds := [.data, .data, .data, .data, .sentinel, .sentinel, .data, .data, .data, .data, .data, .data, .data, .pinned], laidTests := true, laidLooks := .later }
def NextLeavesCardSaid : Prop := Claim7.holds Tryz.pinned (.plain (OpenSpec.ofChange nextLeavesSpec)) nextLeavesCard

/-- THE TIED CARD OF 'tillagekeep.ListsKeep'. -/
def listsKeepCard : Claim7 := { stood := { row := listsKeepRow, standIns := [], harness := (true, "7e3a866dd8924605d05da0f4b9f1f65aa9de18b7413cb88bd4375caa193b3a5e"), looks := true }, kinds := [], alts := [], laidByText := true, laidKinds := [.data, .data, .data, .data, .sentinel, .sentinel, .data, .data, .data, .data, .data, .data, .data, .pinned], laidTests := true, laidLooks := .later }
def ListsKeepCardSaid : Prop := Claim7.holds Tryz.pinned (.plain (OpenSpec.ofChange listsKeepSpec)) listsKeepCard

/-- THE TIED CARD OF 'tillagekeep.LoopsRound'. -/
def loopsRoundCard : Claim7 := { stood := { row := loopsRoundRow, standIns := [], harness := (true, "7e3a866dd8924605d05da0f4b9f1f65aa9de18b7413cb88bd4375caa193b3a5e"), looks := true }, kinds := [], alts := [], laidByText := true, laidKinds := [.data, .data, .data, .data, .sentinel, .sentinel, .data, .data, .data, .data, .data, .data, .data, .pinned], laidTests := true, laidLooks := .later }
def LoopsRoundCardSaid : Prop := Claim7.holds Tryz.pinned (.plain (OpenSpec.ofChange loopsRoundSpec)) loopsRoundCard

/-- THE SECOND FORM's CARD OF 'tillagekeep.Levels'. -/
def levelsUptoCard : Claim7 := { stood := { row := levelsUptoRow, standIns := [], harness := (true, "7e3a866dd8924605d05da0f4b9f1f65aa9de18b7413cb88bd4375caa193b3a5e"), looks := true }, kinds := [], alts := [], laidByText := true, laidKinds := [.data, .data, .data, .data, .sentinel, .sentinel, .data, .data, .data, .data, .data, .data, .data, .pinned], laidTests := true, laidLooks := .later }
def LevelsUptoCardSaid : Prop := Claim7.holds Tryz.pinned (.plain (OpenSpec.upto levelsSpec)) levelsUptoCard

/-- THE SECOND FORM's CARD OF 'tillagekeep.LinesCounted'. -/
def linesCountedUptoCard : Claim7 := { stood := { row := linesCountedUptoRow, standIns := [], harness := (true, "7e3a866dd8924605d05da0f4b9f1f65aa9de18b7413cb88bd4375caa193b3a5e"), looks := true }, kinds := [], alts := [], laidByText := true, laidKinds := [.data, .data, .data, .data, .sentinel, .sentinel, .data, .data, .data, .data, .data, .data, .data, .pinned], laidTests := true, laidLooks := .later }
def LinesCountedUptoCardSaid : Prop := Claim7.holds Tryz.pinned (.plain (OpenSpec.upto linesCountedSpec)) linesCountedUptoCard

/-- THE SECOND FORM's CARD OF 'tillagekeep.FieldsWritten'. -/
def fieldsWrittenUptoCard : Claim7 := { stood := { row := fieldsWrittenUptoRow, standIns := [], harness := (true, "7e3a866dd8924605d05da0f4b9f1f65aa9de18b7413cb88bd4375caa193b3a5e"), looks := true }, kinds := [], alts := [], laidByText := true, laidKinds := [.data, .data, .data, .data, .sentinel, .sentinel, .data, .data, .data, .data, .data, .data, .data, .pinned], laidTests := true, laidLooks := .later }
def FieldsWrittenUptoCardSaid : Prop := Claim7.holds Tryz.pinned (.plain (OpenSpec.upto fieldsWrittenSpec)) fieldsWrittenUptoCard

/-- THE SECOND FORM's CARD OF 'tillagekeep.NextLeaves'. -/
def nextLeavesUptoCard : Claim7 := { stood := { row := nextLeavesUptoRow, standIns := [], harness := (true, "7e3a866dd8924605d05da0f4b9f1f65aa9de18b7413cb88bd4375caa193b3a5e"), looks := true }, kinds := [], alts := [], laidByText := true, laidKinds := [.data, .data, .data, .data, .sentinel, .sentinel, .data, .data, .data, .data, .data, .data, .data, .pinned], laidTests := true, laidLooks := .later }
def NextLeavesUptoCardSaid : Prop := Claim7.holds Tryz.pinned (.plain (OpenSpec.upto nextLeavesSpec)) nextLeavesUptoCard

/-- THE SECOND FORM's CARD OF 'tillagekeep.ListsKeep'. -/
def listsKeepUptoCard : Claim7 := { stood := { row := listsKeepUptoRow, standIns := [], harness := (true, "7e3a866dd8924605d05da0f4b9f1f65aa9de18b7413cb88bd4375caa193b3a5e"), looks := true }, kinds := [], alts := [], laidByText := true, laidKinds := [.data, .data, .data, .data, .sentinel, .sentinel, .data, .data, .data, .data, .data, .data, .data, .pinned], laidTests := true, laidLooks := .later }
def ListsKeepUptoCardSaid : Prop := Claim7.holds Tryz.pinned (.plain (OpenSpec.upto listsKeepSpec)) listsKeepUptoCard

/-- THE SECOND FORM's CARD OF 'tillagekeep.LoopsRound'. -/
def loopsRoundUptoCard : Claim7 := { stood := { row := loopsRoundUptoRow, standIns := [], harness := (true, "7e3a866dd8924605d05da0f4b9f1f65aa9de18b7413cb88bd4375caa193b3a5e"), looks := true }, kinds := [], alts := [], laidByText := true, laidKinds := [.data, .data, .data, .data, .sentinel, .sentinel, .data, .data, .data, .data, .data, .data, .data, .pinned], laidTests := true, laidLooks := .later }
def LoopsRoundUptoCardSaid : Prop := Claim7.holds Tryz.pinned (.plain (OpenSpec.upto loopsRoundSpec)) loopsRoundUptoCard
end Rows
end Go.Proofs.YtffnilcihneniaaGreatDoor
