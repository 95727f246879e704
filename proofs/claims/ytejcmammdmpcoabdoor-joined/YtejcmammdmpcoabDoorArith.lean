/-
  Contracts of within, bounded, num, text: a number that is not too great, or BadSize.
-/
import Derived.Test.YtejcmammdmpcoabDoorNumText
import Derived.Test.YtejcmammdmpcoabDoorOpSpec
import Derived.Handy
namespace Go.Proofs.YtejcmammdmpcoabDoor
open Go.ChangeShapes Go.WideShapes Go.ChangeAt Go.RowKit Go.Joins

set_option maxHeartbeats 400000 in
theorem within_c (x : Int) (w : World) :
    Calls Tryd.prog 32 #[.int .i64 x] w fun e w' => e = .returned (vt (bnd x)) ∧ Below w.heap.size w w' := by
  by_cases h1 : x < -1099511627776
  · go_enter Tryd.func32, Tryd.ntmps32
    go_wp2
    go_returns
    exact ⟨ret_rE 3 (bnd_bad (.inl h1)), by go_grown⟩
  · by_cases h2 : 1099511627776 < x
    · have h1' : -1099511627776 ≤ x := by omega
      have hd : decide (x ≤ 1099511627776) = false := by simp; omega
      go_enter Tryd.func32, Tryd.ntmps32
      go_wp2
      go_returns
      exact ⟨ret_rE 3 (bnd_bad (.inr h2)), by go_grown⟩
    · have h1' : -1099511627776 ≤ x := by omega
      have h2' : x ≤ 1099511627776 := by omega
      go_enter Tryd.func32, Tryd.ntmps32
      go_wp2
      go_returns
      exact ⟨ret_rN x (bnd_ok h1' h2'), by go_grown⟩
set_option maxHeartbeats 400000 in
theorem bounded_c (x : Int) (w : World) :
    Calls Tryd.prog 41 #[.int .i64 x] w fun e w' => e = .returned (vt (bnd x)) ∧ Below w.heap.size w w' := by
  by_cases h1 : x < -1099511627776
  · go_enter Tryd.func41, Tryd.ntmps41
    go_wp2
    go_returns
    exact ⟨ret_rE 3 (bnd_bad (.inl h1)), by go_grown⟩
  · by_cases h2 : 1099511627776 < x
    · have h1' : -1099511627776 ≤ x := by omega
      have hd : decide (x ≤ 1099511627776) = false := by simp; omega
      go_enter Tryd.func41, Tryd.ntmps41
      go_wp2
      go_returns
      exact ⟨ret_rE 3 (bnd_bad (.inr h2)), by go_grown⟩
    · have h1' : -1099511627776 ≤ x := by omega
      have h2' : x ≤ 1099511627776 := by omega
      go_enter Tryd.func41, Tryd.ntmps41
      go_wp2
      go_returns
      exact ⟨ret_rN x (bnd_ok h1' h2'), by go_grown⟩
end Go.Proofs.YtejcmammdmpcoabDoor
