/-
  DERIVED. GIVEN WITH THE SEED: THE CARDS: each row of YtgijbdhbecnkbaaGreatDoorRows.lean that lists a variable, with what it lists TIED to the program's text (the seventh form; the later family's looks); each row that meets fmt, with fmt's text TOLD by the authors' own Lean function (tested against real Go, not proved from fmt's source: count such statements apart). THE CARD IS WHAT COUNTS. Prove the row's statement (the work); the ties are given (YtgijbdhbecnkbaaGreatDoorTie.lean); close each card by the builder's one call (the guide's Derived/Test/ToyasCard.lean, 'card_holds'). Laid BY PROGRAM, IN A SANDBOX (cutbox-door.mjs). By AI agents, Wed Nov 11 2026. No macro, syntax, notation, axiom, sorry.
-/
import Derived.Test.YtgijbdhbecnkbaaGreatDoorRows
import GoSem.ClaimSeven
namespace Go.Proofs.YtgijbdhbecnkbaaGreatDoor
namespace Rows

/-- THE TIED CARD OF 'tillagekeep.SpecStops'. -/
def specStopsCard : Claim7 := { stood := { row := specStopsRow, standIns := [], harness := (true, "92a7564fae19b286c33a567828c84cef2e2e24969f2bf68b51c052536927db93"), looks := true }, kinds := [], alts := [], laidByText := true, laidKinds := [.data, .data, .data, .data, .sentinel, .sentinel, .data, .data, .data, .data, .data, .data, .data, .pinned], laidTests := true, laidLooks := .later }
def SpecStopsCardSaid : Prop := Claim7.holds Tryz.pinned (.plain (OpenSpec.ofChange specStopsSpec)) specStopsCard

/-- THE SECOND FORM's CARD OF 'tillagekeep.SpecStops'. -/
def specStopsUptoCard : Claim7 := { stood := { row := specStopsUptoRow, standIns := [], harness := (true, "92a7564fae19b286c33a567828c84cef2e2e24969f2bf68b51c052536927db93"), looks := true }, kinds := [], alts := [], laidByText := true, laidKinds := [.data, .data, .data, .data, .sentinel, .sentinel, .data, .data, .data, .data, .data, .data, .data, .pinned], laidTests := true, laidLooks := .later }
def SpecStopsUptoCardSaid : Prop := Claim7.holds Tryz.pinned (.plain (OpenSpec.upto specStopsSpec)) specStopsUptoCard
end Rows
end Go.Proofs.YtgijbdhbecnkbaaGreatDoor
