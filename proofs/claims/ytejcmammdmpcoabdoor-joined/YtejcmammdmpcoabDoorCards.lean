/-
  DERIVED. GIVEN WITH THE SEED: THE CARDS: each row of YtejcmammdmpcoabDoorRows.lean that lists a variable, with what it lists TIED to the program's text (the seventh form; the later family's looks); each row that meets fmt, with fmt's text TOLD by the authors' own Lean function (tested against real Go, not proved from fmt's source: count such statements apart). THE CARD IS WHAT COUNTS. Prove the row's statement (the work); the ties are given (YtejcmammdmpcoabDoorTie.lean); close each card by the builder's one call (the guide's Derived/Test/ToyasCard.lean, 'card_holds'). Laid BY PROGRAM, IN A SANDBOX (cutbox-door.mjs). By AI agents, Wed Nov 11 2026. No macro, syntax, notation, axiom, sorry.
-/
import Derived.Test.YtejcmammdmpcoabDoorRows
import GoSem.ClaimSeven
namespace Go.Proofs.YtejcmammdmpcoabDoor
namespace Rows

/-- THE TIED CARD OF 'tillagelaw.ValueOps'. -/
def valueOpsCard : Claim7 := { stood := { row := valueOpsRow, standIns := [], harness := (true, "6c26c0187a3396e3fb5204ccd2482c4d779497168c111a81a531b6312885ccb6"), looks := false }, kinds := [], alts := [], laidByText := true, laidKinds := [.data, .data, .data, .data, .pinned], laidTests := true, laidLooks := .later }
def ValueOpsCardSaid : Prop := Claim7.holds Tryd.pinned (.plain (OpenSpec.ofChange valueOpsSpec)) valueOpsCard

/-- THE TIED CARD OF 'tillagelaw.ValueCalls'. -/
def valueCallsCard : Claim7 := { stood := { row := valueCallsRow, standIns := [], harness := (true, "6c26c0187a3396e3fb5204ccd2482c4d779497168c111a81a531b6312885ccb6"), looks := false }, kinds := [], alts := [], laidByText := true, laidKinds := [.data, .data, .data, .data, .pinned], laidTests := true, laidLooks := .later }
def ValueCallsCardSaid : Prop := Claim7.holds Tryd.pinned (.plain (OpenSpec.ofChange valueCallsSpec)) valueCallsCard

/-- THE TIED CARD OF 'tillagekeep.TextsAsNumbers'. -/
def textsAsNumbersCard : Claim7 := { stood := { row := textsAsNumbersRow, standIns := [], harness := (true, "6c26c0187a3396e3fb5204ccd2482c4d779497168c111a81a531b6312885ccb6"), looks := false }, kinds := [], alts := [], laidByText := true, laidKinds := [.data, .data, .data, .data, .pinned], laidTests := true, laidLooks := .later }
def TextsAsNumbersCardSaid : Prop := Claim7.holds Tryd.pinned (.plain (OpenSpec.ofChange textsAsNumbersSpec)) textsAsNumbersCard

/-- THE TIED CARD OF 'tillagekeep.SumsBack'. -/
def sumsBackCard : Claim7 := { stood := { row := sumsBackRow, standIns := [], harness := (true, "6c26c0187a3396e3fb5204ccd2482c4d779497168c111a81a531b6312885ccb6"), looks := false }, kinds := [], alts := [], laidByText := true, laidKinds := [.data, .data, .data, .data, .pinned], laidTests := true, laidLooks := .later }
def SumsBackCardSaid : Prop := Claim7.holds Tryd.pinned (.plain (OpenSpec.ofChange sumsBackSpec)) sumsBackCard

/-- THE TIED CARD OF 'tillagekeep.Compared'. -/
def comparedCard : Claim7 := { stood := { row := comparedRow, standIns := [], harness := (true, "6c26c0187a3396e3fb5204ccd2482c4d779497168c111a81a531b6312885ccb6"), looks := false }, kinds := [], alts := [], laidByText := true, laidKinds := [.data, .data, .data, .data, .pinned], laidTests := true, laidLooks := .later }
def ComparedCardSaid : Prop := Claim7.holds Tryd.pinned (.plain (OpenSpec.ofChange comparedSpec)) comparedCard

/-- THE TIED CARD OF 'tillagekeep.Joined'. -/
def joinedCard : Claim7 := { stood := { row := joinedRow, standIns := [], harness := (true, "6c26c0187a3396e3fb5204ccd2482c4d779497168c111a81a531b6312885ccb6"), looks := false }, kinds := [], alts := [], laidByText := true, laidKinds := [.data, .data, .data, .data, .pinned], laidTests := true, laidLooks := .later }
def JoinedCardSaid : Prop := Claim7.holds Tryd.pinned (.plain (OpenSpec.ofChange joinedSpec)) joinedCard

/-- THE SECOND FORM's CARD OF 'tillagelaw.ValueOps'. -/
def valueOpsUptoCard : Claim7 := { stood := { row := valueOpsUptoRow, standIns := [], harness := (true, "6c26c0187a3396e3fb5204ccd2482c4d779497168c111a81a531b6312885ccb6"), looks := false }, kinds := [], alts := [], laidByText := true, laidKinds := [.data, .data, .data, .data, .pinned], laidTests := true, laidLooks := .later }
def ValueOpsUptoCardSaid : Prop := Claim7.holds Tryd.pinned (.plain (OpenSpec.upto valueOpsSpec)) valueOpsUptoCard

/-- THE SECOND FORM's CARD OF 'tillagelaw.ValueCalls'. -/
def valueCallsUptoCard : Claim7 := { stood := { row := valueCallsUptoRow, standIns := [], harness := (true, "6c26c0187a3396e3fb5204ccd2482c4d779497168c111a81a531b6312885ccb6"), looks := false }, kinds := [], alts := [], laidByText := true, laidKinds := [.data, .data, .data, .data, .pinned], laidTests := true, laidLooks := .later }
def ValueCallsUptoCardSaid : Prop := Claim7.holds Tryd.pinned (.plain (OpenSpec.upto valueCallsSpec)) valueCallsUptoCard

/-- THE SECOND FORM's CARD OF 'tillagekeep.TextsAsNumbers'. -/
def textsAsNumbersUptoCard : Claim7 := { stood := { row := textsAsNumbersUptoRow, standIns := [], harness := (true, "6c26c0187a3396e3fb5204ccd2482c4d779497168c111a81a531b6312885ccb6"), looks := false }, kinds := [], alts := [], laidByText := true, laidKinds := [.data, .data, .data, .data, .pinned], laidTests := true, laidLooks := .later }
def TextsAsNumbersUptoCardSaid : Prop := Claim7.holds Tryd.pinned (.plain (OpenSpec.upto textsAsNumbersSpec)) textsAsNumbersUptoCard

/-- THE SECOND FORM's CARD OF 'tillagekeep.SumsBack'. -/
def sumsBackUptoCard : Claim7 := { stood := { row := sumsBackUptoRow, standIns := [], harness := (true, "6c26c0187a3396e3fb5204ccd2482c4d779497168c111a81a531b6312885ccb6"), looks := false }, kinds := [], alts := [], laidByText := true, laidKinds := [.data, .data, .data, .data, .pinned], laidTests := true, laidLooks := .later }
def SumsBackUptoCardSaid : Prop := Claim7.holds Tryd.pinned (.plain (OpenSpec.upto sumsBackSpec)) sumsBackUptoCard

/-- THE SECOND FORM's CARD OF 'tillagekeep.Compared'. -/
def comparedUptoCard : Claim7 := { stood := { row := comparedUptoRow, standIns := [], harness := (true, "6c26c0187a3396e3fb5204ccd2482c4d779497168c111a81a531b6312885ccb6"), looks := false }, kinds := [], alts := [], laidByText := true, laidKinds := [.data, .data, .data, .data, .pinned], laidTests := true, laidLooks := .later }
def ComparedUptoCardSaid : Prop := Claim7.holds Tryd.pinned (.plain (OpenSpec.upto comparedSpec)) comparedUptoCard

/-- THE SECOND FORM's CARD OF 'tillagekeep.Joined'. -/
def joinedUptoCard : Claim7 := { stood := { row := joinedUptoRow, standIns := [], harness := (true, "6c26c0187a3396e3fb5204ccd2482c4d779497168c111a81a531b6312885ccb6"), looks := false }, kinds := [], alts := [], laidByText := true, laidKinds := [.data, .data, .data, .data, .pinned], laidTests := true, laidLooks := .later }
def JoinedUptoCardSaid : Prop := Claim7.holds Tryd.pinned (.plain (OpenSpec.upto joinedSpec)) joinedUptoCard
end Rows
end Go.Proofs.YtejcmammdmpcoabDoor
