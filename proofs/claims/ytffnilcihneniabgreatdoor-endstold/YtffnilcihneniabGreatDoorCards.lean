/-
  DERIVED. GIVEN WITH THE SEED: THE CARDS: each row of YtffnilcihneniabGreatDoorRows.lean that lists a variable, with what it lists TIED to the program's text (the seventh form; the later family's looks); each row that meets fmt, with fmt's text TOLD by the authors' own Lean function (tested against real Go, not proved from fmt's source: count such statements apart). THE CARD IS WHAT COUNTS. Prove the row's statement (the work); the ties are given (YtffnilcihneniabGreatDoorTie.lean); close each card by the builder's one call (the guide's Derived/Test/ToyasCard.lean, 'card_holds'). Laid BY PROGRAM, IN A SANDBOX (cutbox-door.mjs). By AI agents, Wed Nov 11 2026. No macro, syntax, notation, axiom, sorry.
-/
import Derived.Test.YtffnilcihneniabGreatDoorRows
import GoSem.ClaimSeven
namespace Go.Proofs.YtffnilcihneniabGreatDoor
namespace Rows

/-- THE TIED CARD OF 'tillagekeep.EndsTold'. -/
def endsToldCard : Claim7 := { stood := { row := endsToldRow, standIns := [], harness := (true, "54cc9dc6c70f322a36fe5faa5b20c2155e8d7f466d0ca96d0f729d94895e139b"), looks := true }, kinds := [], alts := [], laidByText := true, laidKinds := [.data, .data, .data, .data, .sentinel, .sentinel, .data, .data, .data, .data, .data, .data, .data, .pinned], laidTests := true, laidLooks := .later }
def EndsToldCardSaid : Prop := Claim7.holds Tryz.pinned (.plain (OpenSpec.ofChange endsToldSpec)) endsToldCard

/-- THE SECOND FORM's CARD OF 'tillagekeep.EndsTold'. -/
def endsToldUptoCard : Claim7 := { stood := { row := endsToldUptoRow, standIns := [], harness := (true, "54cc9dc6c70f322a36fe5faa5b20c2155e8d7f466d0ca96d0f729d94895e139b"), looks := true }, kinds := [], alts := [], laidByText := true, laidKinds := [.data, .data, .data, .data, .sentinel, .sentinel, .data, .data, .data, .data, .data, .data, .data, .pinned], laidTests := true, laidLooks := .later }
def EndsToldUptoCardSaid : Prop := Claim7.holds Tryz.pinned (.plain (OpenSpec.upto endsToldSpec)) endsToldUptoCard
end Rows
end Go.Proofs.YtffnilcihneniabGreatDoor
