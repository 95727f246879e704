/-
  Contracts of the two products, value.product and the answer product of the document: the product, or BadSize where it is too great.
-/
import Derived.Test.YtejcmammdmpcoabDoorArith
namespace Go.Proofs.YtejcmammdmpcoabDoor
open Go.ChangeShapes Go.WideShapes Go.ChangeAt Go.RowKit Go.Joins

/-- Too great, asked by division: of amounts. -/
theorem over_nat (a b M : Nat) (ha : 0 < a) : M / a < b ↔ M < b * a := Nat.div_lt_iff_lt_mul ha

theorem amount_div (m : Int) : (1099511627776 : Int) / (m.natAbs : Int) = ((1099511627776 / m.natAbs : Nat) : Int) := rfl

theorem prod_bad {m n : Int} (hm : m ≠ 0) (h : (1099511627776 : Int) / (m.natAbs : Int) < (n.natAbs : Int)) : bnd (m * n) = rEnd 3 := by
  rw [amount_div m] at h
  have h1 : 1099511627776 < n.natAbs * m.natAbs := (over_nat _ _ _ (by omega)).1 (by omega)
  rw [Nat.mul_comm, ← Int.natAbs_mul] at h1
  exact bnd_bad (by omega)
theorem prod_ok {m n : Int} (h : m = 0 ∨ (n.natAbs : Int) ≤ (1099511627776 : Int) / (m.natAbs : Int)) : (-1099511627776 ≤ m * n ∧ m * n ≤ 1099511627776) := by
  rcases h with rfl | h
  · simp
  · by_cases hm : m = 0
    · subst hm; simp
    · rw [amount_div m] at h
      have h1 : ¬ 1099511627776 < n.natAbs * m.natAbs := fun h2 => by have := (over_nat m.natAbs n.natAbs 1099511627776 (by omega)).2 h2; omega
      rw [Nat.mul_comm, ← Int.natAbs_mul] at h1
      omega

set_option maxHeartbeats 400000 in
theorem amount_c (n : Int) (w : World) (h1 : -1099511627776 ≤ n) (h2 : n ≤ 1099511627776) :
    Calls Tryd.prog 51 #[.int .i64 n] w fun e w' => e = .returned (.int .i64 (n.natAbs : Int)) ∧ w' = w := by
  by_cases h : n < 0
  · go_enter Tryd.func51, Tryd.ntmps51
    go_wp2
    go_ret
    exact ⟨ret_int (by omega), rfl⟩
  · go_enter Tryd.func51, Tryd.ntmps51
    go_wp2
    go_ret
    exact ⟨ret_int (by omega), rfl⟩

set_option maxHeartbeats 400000 in
theorem vproduct_c (m n : Int) (w : World) (h1 : -1099511627776 ≤ m) (h2 : m ≤ 1099511627776) (h3 : -1099511627776 ≤ n) (h4 : n ≤ 1099511627776) :
    Calls Tryd.prog 42 #[.int .i64 m, .int .i64 n] w fun e w' => e = .returned (vt (bnd (m * n))) ∧ Below w.heap.size w w' := by
  by_cases hm : m = 0
  · subst hm
    have H : Hid (bnd (0 * n) = rN 0) := by rw [Int.zero_mul]; rfl
    go_enter Tryd.func42, Tryd.ntmps42
    go_wp2
    go_returns
    exact ⟨ret_rN 0 (by first | exact H.out | rfl), by go_grown⟩
  · have hne : (m != 0) = true := by rw [bne_iff_ne]; exact hm
    have ha : 1 ≤ (m.natAbs : Int) := by omega
    have hb : (m.natAbs : Int) ≤ 1099511627776 := by omega
    by_cases h : (1099511627776 : Int) / (m.natAbs : Int) < (n.natAbs : Int)
    · have H : Hid (bnd (m * n) = rEnd 3) := prod_bad hm h
      clear hm
      go_enter Tryd.func42, Tryd.ntmps42
      go_wp2_with fail
      refine (amount_c n _ h3 h4).mono ?_
      rintro e w1 ⟨rfl, rfl⟩
      go_wp2_with fail
      refine (amount_c m _ h1 h2).mono ?_
      rintro e w1 ⟨rfl, rfl⟩
      go_wp2
      go_returns
      exact ⟨ret_rE 3 H.out, by go_grown⟩
    · have H := prod_ok (m := m) (n := n) (.inr (by omega))
      have H1 := H.1
      have H2 := H.2
      clear hm H
      go_enter Tryd.func42, Tryd.ntmps42
      go_wp2_with fail
      refine (amount_c n _ h3 h4).mono ?_
      rintro e w1 ⟨rfl, rfl⟩
      go_wp2_with fail
      refine (amount_c m _ h1 h2).mono ?_
      rintro e w1 ⟨rfl, rfl⟩
      go_wp2
      go_returns
      exact ⟨ret_rN (m * n) (bnd_ok H1 H2), by go_grown⟩
end Go.Proofs.YtejcmammdmpcoabDoor
