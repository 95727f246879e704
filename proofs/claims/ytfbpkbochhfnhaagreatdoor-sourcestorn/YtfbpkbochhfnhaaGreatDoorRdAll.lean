/-
  The contracts of the reader's expressions, whatever the fuel.
-/
import Derived.Test.YtfbpkbochhfnhaaGreatDoorRdWs
import Derived.Test.YtfbpkbochhfnhaaGreatDoorRdWh
import Derived.Test.YtfbpkbochhfnhaaGreatDoorRdNm
import Derived.Test.YtfbpkbochhfnhaaGreatDoorRdKey
namespace Go.Proofs.YtfbpkbochhfnhaaGreatDoor
open Go.ChangeShapes Go.WideShapes Go.ChangeAt Go.RowKit Go.Joins Go.Maps

structure AllC (m : Nat) : Prop where
  whole : WholeC m
  bin : BinC m
  op : OpC m
  sgn : SgnC m
  word : WordC m
  key : KeyC m
  wholes : WholesC m

theorem all_c : ∀ m, AllC m := by
  intro m
  induction m using Nat.strongRecOn with
  | ind m ih =>
    cases m with
    | zero =>
      exact ⟨fun r o ps w h hm => by omega, fun r d o ps w h h1 h2 hm => by omega, fun r o ps w h hm => by omega, fun r o ps w h hm => by omega, fun r o s ps w h hs hm => by omega, fun r o ps w h hm => by omega, fun r o ps w h hm => by omega⟩
    | succ m =>
      have a := ih m (Nat.lt_succ_self m)
      have up : ∀ m', m' ≤ m → AllC m' := fun m' h => ih m' (Nat.lt_succ_of_le h)
      exact ⟨whole_of a.whole a.bin, binary_of a.op fun m' h => (up m' h).bin, operand_of (fun m' e => (up m' (by omega)).sgn) a.word a.whole, signed_of a.op, word_of a.key a.wholes, key_of a.whole, wholes_of fun m' h => (up m' h).whole⟩
end Go.Proofs.YtfbpkbochhfnhaaGreatDoor
