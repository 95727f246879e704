/-
  Contracts of syntax.hasBody and stmtHasItsParts.
-/
import Derived.Test.YtfbpkbochhfnhaaGreatDoorParts
namespace Go.Proofs.YtfbpkbochhfnhaaGreatDoor
open Go.ChangeShapes Go.WideShapes Go.ChangeAt Go.RowKit Go.Joins
set_option linter.unusedVariables false

theorem hasBody_c (k : Int) (w : World) : Calls Tryz.prog 139 #[.int .i64 k] w fun e w' => e = .returned (.bool (decide (5 ≤ k ∧ k ≤ 7))) ∧ w' = w := by
  by_cases h5 : k = 5
  · subst h5
    go_enter Tryz.func139, Tryz.ntmps139
    go_wp2_with fail
    go_ret
    exact ⟨rfl, rfl⟩
  by_cases h6 : k = 6
  · subst h6
    go_enter Tryz.func139, Tryz.ntmps139
    go_wp2_with fail
    go_ret
    exact ⟨rfl, rfl⟩
  by_cases h7 : k = 7
  · subst h7
    go_enter Tryz.func139, Tryz.ntmps139
    go_wp2_with fail
    go_ret
    exact ⟨rfl, rfl⟩
  have b5 : (k == 5) = false := by simpa using h5
  have b6 : (k == 6) = false := by simpa using h6
  have b7 : (k == 7) = false := by simpa using h7
  have HN : Hid (decide (5 ≤ k ∧ k ≤ 7) = false) := decide_eq_false (by omega)
  clear h5 h6 h7
  go_enter Tryz.func139, Tryz.ntmps139
  go_wp2_with fail
  go_ret
  exact ⟨ret_bool HN.out.symm, rfl⟩

theorem exprs_at (q n : Nat) (h : 1 ≤ q) (h2 : q ≤ 10) : exprsN (q : Int) n = (((n : Int) == exprsL.getD q 0) || (((q : Int) == 4) && decide (exprsL.getD q 0 < (n : Int)))) := by
  have key : ∀ q, q < 11 → 1 ≤ q → q = 1 ∨ q = 2 ∨ q = 3 ∨ q = 4 ∨ q = 5 ∨ q = 6 ∨ q = 7 ∨ q = 8 ∨ q = 9 ∨ q = 10 := by omega
  rcases key q (by omega) h with h | h | h | h | h | h | h | h | h | h
  all_goals subst h
  all_goals simp [exprsN, exprsL, List.getD]
  all_goals (rw [Bool.eq_iff_iff]; simp; try omega)

set_option maxHeartbeats 4000000 in
theorem stmtParts_c (q : Nat) (s t : ByteArray) (a1 a2 a3 : Option Addr) (n1 n2 n3 p1 p2 p3 : Nat) (w : World) (B : Nat) (hT : Tb B w) (k1 : 1 ≤ q) (k2 : q ≤ 10) (l1 : n1 ≤ maxLen) (l2 : n2 ≤ maxLen) (l3 : n3 ≤ maxLen) :
    Calls Tryz.prog 124 #[.agg #[.int .i64 q, .string s, .string t, .slice a1 n1 p1, .slice a2 n2 p2, .slice a3 n3 p3]] w fun e w' => e = .returned (.bool (partsS q n1 n2 n3)) ∧ Below w.heap.size w w' := by
  unfold maxLen at l1 l2 l3
  have hcell : w.cell? ⟨7, q, none⟩ = some (.int .i64 (exprsL.getD q 0)) := by
    rw [hT.exprs.2.cell]
    simp only [intsA, List.getElem?_toArray, List.getElem?_map]
    rw [List.getElem?_eq_getElem (show q < exprsL.length by show q < 11; omega)]
    simp [List.getD, List.getElem?_eq_getElem (show q < exprsL.length by show q < 11; omega)]
  have HA := exprs_at q n1 k1 k2
  obtain ⟨c, hc⟩ : ∃ c, c = exprsL.getD q 0 := ⟨_, rfl⟩
  rw [← hc] at hcell HA
  have HX : Hid (exprsN (q : Int) n1 = (((n1 : Int) == c) || (((q : Int) == 4) && decide (c < (n1 : Int))))) := HA
  have hg := hT.exprs.2.lt
  have i1 : (q : Int) < 11 := by omega
  have i0 : (0 : Int) ≤ (q : Int) := by omega
  have hl : 7 < w.heap.size + 1 := by omega
  have hne : ¬ 7 = w.heap.size := by omega
  clear hT HA hc k1 k2
  by_cases h2 : (n2 : Int) = 0
  · have b2 : ((n2 : Int) == 0) = true := by simpa using h2
    go_enter Tryz.func124, Tryz.ntmps124
    go_wp2_with fail
    go_region
    all_goals go_wp2_with fail
    all_goals go_ret
    all_goals (refine ⟨ret_bool ?_, by go_grown⟩)
    all_goals (have hx := HX.out; have h2' : n2 = 0 := by omega)
    all_goals (simp_all [partsS])
    all_goals (first | omega | (rw [Bool.eq_iff_iff]; simp; omega))
  · have b2 : ((n2 : Int) == 0) = false := by simpa using h2
    go_enter Tryz.func124, Tryz.ntmps124
    go_wp2_with fail
    go_region
    all_goals go_wp2_with (first | (go_at_call 139; refine (hasBody_c _ _).mono ?_; rintro e w1 ⟨rfl, rfl⟩))
    all_goals go_ret
    all_goals (refine ⟨ret_bool ?_, by go_grown⟩)
    all_goals (have hx := HX.out; have h2' : ¬ n2 = 0 := by omega)
    all_goals (simp_all [partsS])
    all_goals (first | omega | (rw [Bool.eq_iff_iff]; simp; omega))
end Go.Proofs.YtfbpkbochhfnhaaGreatDoor
