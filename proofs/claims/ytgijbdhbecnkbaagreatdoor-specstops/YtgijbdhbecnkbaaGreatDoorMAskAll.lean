/-
  The contract of the machine's ask: at every expression that may be.
-/
import Derived.Test.YtgijbdhbecnkbaaGreatDoorMAsk
import Derived.Test.YtgijbdhbecnkbaaGreatDoorMAsk9
namespace Go.Proofs.YtgijbdhbecnkbaaGreatDoor
open Go.RowKit
theorem ask_c : ∀ m, AskC m := by
 intro m
 induction m with
 | zero => intro c O w s j x cs hM hx; exact hx.elim
 | succ m ih =>
  intro c O w s j x cs hM hx hok
  cases x with
  | mk k n t l =>
   have h : k = 1 \/ k = 2 \/ k = 3 \/ k = 4 \/ k = 5 \/ k = 6 \/ k = 7 \/ k = 8 \/ k = 9 \/ k = 10 \/ k = 11 \/ k = 12 := by
    obtain ⟨h1, h2, _⟩ := hok
    omega
   rcases h with rfl | rfl | rfl | rfl | rfl | rfl | rfl | rfl | rfl | rfl | rfl | rfl
   . exact ask_1 ih c O w s j n t l cs hM hx hok
   . exact ask_2 ih c O w s j n t l cs hM hx hok
   . exact ask_3 ih c O w s j n t l cs hM hx hok
   . exact ask_4 ih c O w s j n t l cs hM hx hok
   . exact ask_5 ih c O w s j n t l cs hM hx hok
   . exact ask_6 ih c O w s j n t l cs hM hx hok
   . exact ask_7 ih c O w s j n t l cs hM hx hok
   . exact ask_8 ih c O w s j n t l cs hM hx hok
   . exact ask_9 ih c O w s j n t l cs hM hx hok
   . exact ask_10 ih c O w s j n t l cs hM hx hok
   . exact ask_11 ih c O w s j n t l cs hM hx hok
   . exact ask_12 ih c O w s j n t l cs hM hx hok
end Go.Proofs.YtgijbdhbecnkbaaGreatDoor
