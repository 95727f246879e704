/-
  Runs as data: what a statement that prints does, and rules, when fuel lasts.
-/
import Derived.Test.YtppcohadoilpgaaGreatDoorMSpec
import Derived.Test.YtppcohadoilpgaaGreatDoorGround
namespace Go.Proofs.YtppcohadoilpgaaGreatDoor
open Go.RowKit Go.Proofs.Tryz
set_option linter.unusedVariables false
set_option maxRecDepth 100000
end Go.Proofs.YtppcohadoilpgaaGreatDoor
