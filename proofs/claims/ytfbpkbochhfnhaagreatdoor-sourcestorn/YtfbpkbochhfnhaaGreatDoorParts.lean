/-
  Contracts of syntax.exprHasItsParts, hasBody and stmtHasItsParts.
-/
import Derived.Test.YtfbpkbochhfnhaaGreatDoorPartsF
import Derived.Deep.RegionHeld3
import Derived.Deep.RegionWith
import Derived.Handy
namespace Go.Proofs.YtfbpkbochhfnhaaGreatDoor
open Go.ChangeShapes Go.WideShapes Go.ChangeAt Go.RowKit Go.Joins
set_option linter.unusedVariables false

theorem args_at (q : Nat) (h : q < 13) (h2 : q ≠ 11) (s : ByteArray) : argsN (q : Int) s = argsL.getD q 0 := by
  have key : ∀ q : Nat, q < 13 → q ≠ 11 → (if (q : Int) = 4 ∨ (q : Int) = 5 ∨ (q : Int) = 7 ∨ (q : Int) = 8 ∨ (q : Int) = 9 then (1 : Int) else if (q : Int) = 6 then 2 else if (q : Int) = 10 then 3 else 0) = argsL.getD q 0 := by decide
  rw [← key q h h2]
  unfold argsN
  rw [if_neg (by omega)]

set_option maxHeartbeats 2000000 in
theorem exprParts_c (k n : Int) (s : ByteArray) (a : Option Addr) (len cap : Nat) (w : World) (B : Nat) (hT : Tb B w) (k1 : 1 ≤ k) (k2 : k ≤ 12) (hlen : len ≤ maxLen) :
    Calls Tryz.prog 97 #[.agg #[.int .i64 k, .int .i64 n, .string s, .slice a len cap]] w fun e w' => e = .returned (.bool (partsE k n s len)) ∧ Below w.heap.size w w' := by
  unfold maxLen at hlen
  have HF : Hid (RowAt w 6 funcsA) := hT.funcs.2
  by_cases h1 : ¬ k = 1 ∧ ¬ n = 0
  · have HP : Hid (partsE k n s len = false) := by simp [Hid, partsE, h1.1, h1.2]
    have b1 : (k != 1) = true := by simpa using h1.1
    have b2 : (n != 0) = true := by simpa using h1.2
    clear hT h1
    go_enter Tryz.func97, Tryz.ntmps97
    go_wp2_with fail
    go_ret
    exact ⟨ret_bool HP.out.symm, by go_grown⟩
  · have HN : Hid (k = 1 ∨ n = 0) := by unfold Hid; omega
    by_cases h2 : k = 11
    · subst h2
      have h3 : n = 0 := by rcases HN.out with h | h <;> omega
      subst h3
      clear h1 hT k1 k2
      by_cases h4 : 0 < asksN s
      · have HP : Hid (((len : Int) == asksN s) = partsE 11 0 s len) := by simp [Hid, partsE, argsN, h4, BEq.beq]
        go_enter Tryz.func97, Tryz.ntmps97
        go_wp2_with fail
        go_region_held3 (fun w' => w'.cell? ⟨w.heap.size, 2, none⟩ = some (.string s) ∧ w'.cell? ⟨w.heap.size, 3, none⟩ = some (.slice a len cap)) (go_keep) (first
          | (go_at_call 121; refine (argsOf_c s _ ?_).mono ?_; exact HF.out.below (by go_grown); rintro e w1 ⟨rfl, hb⟩; rw [asks_is s]; obtain ⟨hc, hf⟩ := bcell hb; have HB1 : Hid (Below w.heap.size w w1) := bl_trans (by go_grown) hb; have hz : w.heap.size < w1.heap.size := (by have := hb.size; simp at this; omega))
          | (go_at_call 121; refine (argsOf_c s _ ?_).mono ?_; exact HF.out.below HB1.out; rintro e w2 ⟨rfl, hb2⟩; rw [asks_is s]; obtain ⟨hc2, hf2⟩ := bcell hb2; have HB2 : Hid (Below w.heap.size w w2) := bl_trans HB1.out hb2; have hz2 : w.heap.size < w2.heap.size := (by have := hb2.size; omega)))
        go_wp2
        go_ret
        exact ⟨ret_bool HP.out, HB2.out⟩
      · exact exprParts_f s a len cap w HF.out (by have := asks_ge s; omega)
    · obtain ⟨q, rfl⟩ : ∃ q : Nat, k = q := ⟨k.toNat, by omega⟩
      have hq : q < 13 := by omega
      have hq2 : q ≠ 11 := by omega
      have hcell : w.cell? ⟨3, q, none⟩ = some (.int .i64 (argsL.getD q 0)) := by
        rw [hT.args.2.cell]
        simp only [intsA, List.getElem?_toArray, List.getElem?_map]
        rw [List.getElem?_eq_getElem (show q < argsL.length from hq)]
        simp [List.getD, List.getElem?_eq_getElem (show q < argsL.length from hq)]
      have hA : argsN (q : Int) s = argsL.getD q 0 := args_at q hq hq2 s
      obtain ⟨c, hc⟩ : ∃ c, c = argsL.getD q 0 := ⟨_, rfl⟩
      rw [← hc] at hcell hA
      have hg := hT.args.2.lt
      have HP : Hid (((len : Int) == c) = partsE q n s len) := by
        simp only [Hid, partsE, hA]
        rw [decide_eq_true HN.out, decide_eq_true (show ((q : Int) = 11 → 0 < asksN s) from fun h => absurd h h2)]
        simp [BEq.beq]
      have i1 : (q : Int) < 13 := by omega
      have i0 : (0 : Int) ≤ (q : Int) := by omega
      have b11 : ((q : Int) == 11) = false := by simpa using h2
      have hl : 3 < w.heap.size + 1 := by omega
      have hne : ¬ 3 = w.heap.size := by omega
      clear hT hA hc
      rcases HN.out with h | h
      · have b1 : ((q : Int) != 1) = false := by simpa using h
        clear h h1 k1 k2 hq hq2 h2 HN
        go_enter Tryz.func97, Tryz.ntmps97
        go_wp2_with fail
        go_region
        all_goals go_wp2
        all_goals go_ret
        all_goals exact ⟨ret_bool HP.out, by go_grown⟩
      · subst h
        have b1 : ((0 : Int) != 0) = false := rfl
        clear h1 k1 k2 hq hq2 h2 HN
        by_cases hq1 : (q : Int) = 1
        · have b2 : ((q : Int) != 1) = false := by simpa using hq1
          clear hq1
          go_enter Tryz.func97, Tryz.ntmps97
          go_wp2_with fail
          go_region
          all_goals go_wp2
          all_goals go_ret
          all_goals exact ⟨ret_bool HP.out, by go_grown⟩
        · have b2 : ((q : Int) != 1) = true := by simpa using hq1
          clear hq1
          go_enter Tryz.func97, Tryz.ntmps97
          go_wp2_with fail
          go_region
          all_goals go_wp2
          all_goals go_ret
          all_goals exact ⟨ret_bool HP.out, by go_grown⟩
end Go.Proofs.YtfbpkbochhfnhaaGreatDoor
