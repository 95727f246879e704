/-
  DERIVED. GIVEN WITH THE SEED: THE CARDS: each row of YtfbpkbochhfnhaaGreatDoorRows.lean that lists a variable, with what it lists TIED to the program's text (the seventh form; the later family's looks); each row that meets fmt, with fmt's text TOLD by the authors' own Lean function (tested against real Go, not proved from fmt's source: count such statements apart). THE CARD IS WHAT COUNTS. Prove the row's statement (the work); the ties are given (YtfbpkbochhfnhaaGreatDoorTie.lean); close each card by the builder's one call (the guide's Derived/Test/ToyasCard.lean, 'card_holds'). Laid BY PROGRAM, IN A SANDBOX (cutbox-door.mjs). By AI agents, Wed Nov 11 2026. No macro, syntax, notation, axiom, sorry.
-/
import Derived.Test.YtfbpkbochhfnhaaGreatDoorRows
import GoSem.ClaimSeven
namespace Go.Proofs.YtfbpkbochhfnhaaGreatDoor
namespace Rows

/-- THE TIED CARD OF 'tillagekeep.SourcesTorn'. -/
def sourcesTornCard : Claim7 := { stood := { row := sourcesTornRow, standIns := [], harness := (true, "5f47e39fed11de7b8a812e8ee81e6ec1c972562c3b9e5644b0991903c8b36874"), looks := true }, kinds := [], alts := [], laidByText := true, laidKinds := [.data, .data, .data, .data, .sentinel, .sentinel, .data, .data, .data, .data, .data, .data, .data, .pinned], laidTests := true, laidLooks := .later }
def SourcesTornCardSaid : Prop := Claim7.holds Tryz.pinned (.plain (OpenSpec.ofChange sourcesTornSpec)) sourcesTornCard

/-- THE TIED CARD OF 'tillagekeep.SourcesBad'. -/
def sourcesBadCard : Claim7 := { stood := { row := sourcesBadRow, standIns := [], harness := (true, "5f47e39fed11de7b8a812e8ee81e6ec1c972562c3b9e5644b0991903c8b36874"), looks := true }, kinds := [], alts := [], laidByText := true, laidKinds := [.data, .data, .data, .data, .sentinel, .sentinel, .data, .data, .data, .data, .data, .data, .data, .pinned], laidTests := true, laidLooks := .later }
def SourcesBadCardSaid : Prop := Claim7.holds Tryz.pinned (.plain (OpenSpec.ofChange sourcesBadSpec)) sourcesBadCard

/-- THE TIED CARD OF 'tillagekeep.DeepEnough'. -/
def deepEnoughCard : Claim7 := { stood := { row := deepEnoughRow, standIns := [], harness := (true, "5f47e39fed11de7b8a812e8ee81e6ec1c972562c3b9e5644b0991903c8b36874"), looks := true }, kinds := [], alts := [], laidByText := true, laidKinds := [.data, .data, .data, .data, .sentinel, .sentinel, .data, .data, .data, .data, .data, .data, .data, .pinned], laidTests := true, laidLooks := .later }
def DeepEnoughCardSaid : Prop := Claim7.holds Tryz.pinned (.plain (OpenSpec.ofChange deepEnoughSpec)) deepEnoughCard

/-- THE SECOND FORM's CARD OF 'tillagekeep.SourcesTorn'. -/
def sourcesTornUptoCard : Claim7 := { stood := { row := sourcesTornUptoRow, standIns := [], harness := (true, "5f47e39fed11de7b8a812e8ee81e6ec1c972562c3b9e5644b0991903c8b36874"), looks := true }, kinds := [], alts := [], laidByText := true, laidKinds := [.data, .data, .data, .data, .sentinel, .sentinel, .data, .data, .data, .data, .data, .data, .data, .pinned], laidTests := true, laidLooks := .later }
def SourcesTornUptoCardSaid : Prop := Claim7.holds Tryz.pinned (.plain (OpenSpec.upto sourcesTornSpec)) sourcesTornUptoCard

/-- THE SECOND FORM's CARD OF 'tillagekeep.SourcesBad'. -/
def sourcesBadUptoCard : Claim7 := { stood := { row := sourcesBadUptoRow, standIns := [], harness := (true, "5f47e39fed11de7b8a812e8ee81e6ec1c972562c3b9e5644b0991903c8b36874"), looks := true }, kinds := [], alts := [], laidByText := true, laidKinds := [.data, .data, .data, .data, .sentinel, .sentinel, .data, .data, .data, .data, .data, .data, .data, .pinned], laidTests := true, laidLooks := .later }
def SourcesBadUptoCardSaid : Prop := Claim7.holds Tryz.pinned (.plain (OpenSpec.upto sourcesBadSpec)) sourcesBadUptoCard

/-- THE SECOND FORM's CARD OF 'tillagekeep.DeepEnough'. -/
def deepEnoughUptoCard : Claim7 := { stood := { row := deepEnoughUptoRow, standIns := [], harness := (true, "5f47e39fed11de7b8a812e8ee81e6ec1c972562c3b9e5644b0991903c8b36874"), looks := true }, kinds := [], alts := [], laidByText := true, laidKinds := [.data, .data, .data, .data, .sentinel, .sentinel, .data, .data, .data, .data, .data, .data, .data, .pinned], laidTests := true, laidLooks := .later }
def DeepEnoughUptoCardSaid : Prop := Claim7.holds Tryz.pinned (.plain (OpenSpec.upto deepEnoughSpec)) deepEnoughUptoCard
end Rows
end Go.Proofs.YtfbpkbochhfnhaaGreatDoor
