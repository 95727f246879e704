/-
  DERIVED. GIVEN WITH THE SEED: THE CARDS: each row of YtejcmammdmpcoaaDoorRows.lean that lists a variable, with what it lists TIED to the program's text (the seventh form; the later family's looks); each row that meets fmt, with fmt's text TOLD by the authors' own Lean function (tested against real Go, not proved from fmt's source: count such statements apart). THE CARD IS WHAT COUNTS. Prove the row's statement (the work); the ties are given (YtejcmammdmpcoaaDoorTie.lean); close each card by the builder's one call (the guide's Derived/Test/ToyasCard.lean, 'card_holds'). Laid BY PROGRAM, IN A SANDBOX (cutbox-door.mjs). By AI agents, Wed Nov 11 2026. No macro, syntax, notation, axiom, sorry.
-/
import Derived.Test.YtejcmammdmpcoaaDoorRows
import GoSem.ClaimSeven
namespace Go.Proofs.YtejcmammdmpcoaaDoor
namespace Rows

/-- THE TIED CARD OF 'tillagelaw.ValueStrs'. -/
def valueStrsCard : Claim7 := { stood := { row := valueStrsRow, standIns := [], harness := (true, "e169a0cdd2031d3f99c8ea52bd79ea9fdfd837e7f3b7f0d8a0c96f7a8f265bf6"), looks := false }, kinds := [], alts := [], laidByText := true, laidKinds := [.data, .data, .data], laidTests := true, laidLooks := .later }
def ValueStrsCardSaid : Prop := Claim7.holds Tryd.pinned (.plain (OpenSpec.ofChange valueStrsSpec)) valueStrsCard

/-- THE TIED CARD OF 'tillagelaw.ValueNums'. -/
def valueNumsCard : Claim7 := { stood := { row := valueNumsRow, standIns := [], harness := (true, "e169a0cdd2031d3f99c8ea52bd79ea9fdfd837e7f3b7f0d8a0c96f7a8f265bf6"), looks := false }, kinds := [], alts := [], laidByText := true, laidKinds := [.data, .pinned], laidTests := true, laidLooks := .later }
def ValueNumsCardSaid : Prop := Claim7.holds Tryd.pinned (.plain (OpenSpec.ofChange valueNumsSpec)) valueNumsCard

/-- THE SECOND FORM's CARD OF 'tillagelaw.ValueStrs'. -/
def valueStrsUptoCard : Claim7 := { stood := { row := valueStrsUptoRow, standIns := [], harness := (true, "e169a0cdd2031d3f99c8ea52bd79ea9fdfd837e7f3b7f0d8a0c96f7a8f265bf6"), looks := false }, kinds := [], alts := [], laidByText := true, laidKinds := [.data, .data, .data], laidTests := true, laidLooks := .later }
def ValueStrsUptoCardSaid : Prop := Claim7.holds Tryd.pinned (.plain (OpenSpec.upto valueStrsSpec)) valueStrsUptoCard

/-- THE SECOND FORM's CARD OF 'tillagelaw.ValueNums'. -/
def valueNumsUptoCard : Claim7 := { stood := { row := valueNumsUptoRow, standIns := [], harness := (true, "e169a0cdd2031d3f99c8ea52bd79ea9fdfd837e7f3b7f0d8a0c96f7a8f265bf6"), looks := false }, kinds := [], alts := [], laidByText := true, laidKinds := [.data, .pinned], laidTests := true, laidLooks := .later }
def ValueNumsUptoCardSaid : Prop := Claim7.holds Tryd.pinned (.plain (OpenSpec.upto valueNumsSpec)) valueNumsUptoCard
end Rows
end Go.Proofs.YtejcmammdmpcoaaDoor
