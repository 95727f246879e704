/-
  DERIVED. GIVEN WITH THE SEED: THE CARDS: each row of YtidfkccmpkmkcaaGreatDoorRows.lean that lists a variable, with what it lists TIED to the program's text (the seventh form; the later family's looks); each row that meets fmt, with fmt's text TOLD by the authors' own Lean function (tested against real Go, not proved from fmt's source: count such statements apart). THE CARD IS WHAT COUNTS. Prove the row's statement (the work); the ties are given (YtidfkccmpkmkcaaGreatDoorTie.lean); close each card by the builder's one call (the guide's Derived/Test/ToyasCard.lean, 'card_holds'). Laid BY PROGRAM, IN A SANDBOX (cutbox-door.mjs). By AI agents, Wed Nov 11 2026. No macro, syntax, notation, axiom, sorry.
-/
import Derived.Test.YtidfkccmpkmkcaaGreatDoorRows
import GoSem.ClaimSeven
namespace Go.Proofs.YtidfkccmpkmkcaaGreatDoor
namespace Rows

/-- THE TIED CARD OF 'tillagetop.TopFuel'. -/
def topFuelCard : Claim7 := { stood := { row := topFuelRow, standIns := [], harness := (true, "51bc2dd69fe9a4d548aae45b2342a9fa644feaad315b44a62c2c34de3def7076"), looks := true }, kinds := [], alts := [], laidByText := true, laidKinds := [.data, .data, .data, .data, .sentinel, .sentinel, .data, .data, .data, .data, .data, .data, .data, .pinned], laidTests := true, laidLooks := .later }
def TopFuelCardSaid : Prop := Claim7.holds Tryz.pinned (.plain (OpenSpec.ofChange topFuelSpec)) topFuelCard

/-- THE SECOND FORM's CARD OF 'tillagetop.TopFuel'. -/
def topFuelUptoCard : Claim7 := { stood := { row := topFuelUptoRow, standIns := [], harness := (true, "51bc2dd69fe9a4d548aae45b2342a9fa644feaad315b44a62c2c34de3def7076"), looks := true }, kinds := [], alts := [], laidByText := true, laidKinds := [.data, .data, .data, .data, .sentinel, .sentinel, .data, .data, .data, .data, .data, .data, .data, .pinned], laidTests := true, laidLooks := .later }
def TopFuelUptoCardSaid : Prop := Claim7.holds Tryz.pinned (.plain (OpenSpec.upto topFuelSpec)) topFuelUptoCard
end Rows
end Go.Proofs.YtidfkccmpkmkcaaGreatDoor
