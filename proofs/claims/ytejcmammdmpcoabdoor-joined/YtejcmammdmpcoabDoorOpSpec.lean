/-
  Plain functions on numbers: sums, products and quotients that are not too great (P1.4).
-/
import Derived.RowKit
namespace Go.Proofs.YtejcmammdmpcoabDoor

/-- A value and how a run ends: Text, N, S, the end. -/
abbrev R4 := Bool × Int × ByteArray × Int
/-- As Go hands it back. -/
def vt (r : R4) : Value := .tuple #[.agg #[.bool r.1, .int .i64 r.2.1, .string r.2.2.1], .int .i64 r.2.2.2]
def rN (x : Int) : R4 := (false, x, ⟨#[]⟩, 0)
def rEnd (e : Int) : R4 := (false, 0, ⟨#[]⟩, e)
def bnd (x : Int) : R4 := if -1099511627776 ≤ x ∧ x ≤ 1099511627776 then rN x else rEnd 3
theorem bnd_ok {x : Int} (h1 : -1099511627776 ≤ x) (h2 : x ≤ 1099511627776) : bnd x = rN x := if_pos ⟨h1, h2⟩
theorem bnd_bad {x : Int} (h : x < -1099511627776 ∨ 1099511627776 < x) : bnd x = rEnd 3 := if_neg (by omega)
theorem ret_rN (x : Int) {r : R4} (h : r = rN x) : Ending.returned (.tuple #[.agg #[.bool false, .int .i64 x, .string ⟨#[]⟩], .int .i64 0]) = .returned (vt r) := by rw [h]; rfl
theorem ret_rE (e : Int) {r : R4} (h : r = rEnd e) : Ending.returned (.tuple #[.agg #[.bool false, .int .i64 0, .string ⟨#[]⟩], .int .i64 e]) = .returned (vt r) := by rw [h]; rfl

/-- A quotient is never greater than what is divided. -/
theorem tdiv_bd (x y : Int) (h1 : -1099511627776 ≤ x) (h2 : x ≤ 1099511627776) : -1099511627776 ≤ x.tdiv y ∧ x.tdiv y ≤ 1099511627776 := by
  have h : (x.tdiv y).natAbs ≤ x.natAbs := by rw [Int.natAbs_tdiv]; exact Nat.div_le_self _ _
  omega
theorem tmod_bd (x y : Int) (h1 : -1099511627776 ≤ x) (h2 : x ≤ 1099511627776) : -1099511627776 ≤ x.tmod y ∧ x.tmod y ≤ 1099511627776 := by
  have h : (x.tmod y).natAbs ≤ x.natAbs := by rw [Int.natAbs_tmod]; exact Nat.mod_le _ _
  omega
theorem tmod_eq (x y : Int) : x - x.tdiv y * y = x.tmod y := by
  have := Int.tmod_add_mul_tdiv x y
  have e : y * x.tdiv y = x.tdiv y * y := Int.mul_comm _ _
  omega
theorem tdivmul_bd (x y : Int) (h1 : -1099511627776 ≤ x) (h2 : x ≤ 1099511627776) : -2199023255552 ≤ x.tdiv y * y ∧ x.tdiv y * y ≤ 2199023255552 := by
  have h := tmod_eq x y
  have k := tmod_bd x y h1 h2
  omega

end Go.Proofs.YtejcmammdmpcoabDoor
