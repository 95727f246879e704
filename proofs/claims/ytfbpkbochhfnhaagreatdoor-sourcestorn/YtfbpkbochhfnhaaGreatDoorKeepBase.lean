/-
  What the statements of package tillagekeep share: the tables that the row lists; picked.
-/
import Derived.Test.YtfbpkbochhfnhaaGreatDoorRdRead
import Derived.Test.YtfbpkbochhfnhaaGreatDoorTie
import Derived.Lay
import Derived.LaidMore
import Derived.SevenTiedAt
import Derived.Stop.Joined
import Derived.Stop.LaidErr
namespace Go.Proofs.YtfbpkbochhfnhaaGreatDoor
open Go.ChangeShapes Go.WideShapes Go.ChangeAt Go.RowKit Go.Joins
set_option linter.unusedVariables false
set_option maxRecDepth 100000

/-- What is wrong with a source; 0: nothing. -/
def errOf (R : Except Int (List Ru)) : Int := match R with
  | .error e => e
  | .ok _ => 0

/-! ### The tables -/
theorem gLevels : Tryz.prog.globalNamed "tillage/syntax.levels" = some 5 := by kernel_rfl
theorem levels_of {W : World} {r : List (String × DataW Unit)} (hL : laidMet Tryz.prog (("tillage/syntax.levels", Rows.laid_tillage_syntax_levels) :: r) W) : RowAt W 5 levelsA := by
  obtain ⟨cs, u, fr, hh, fuel, p, hd⟩ := row_of (t := 168) gLevels (by kernel_rfl) hL
  have := pairs_cells (l := levelsL) Tryz.underlying168 Tryz.underlying167 (by kernel_rfl) (by kernel_rfl) rfl rfl (by kernel_rfl) (by kernel_rfl) Tryz.underlying9 Tryz.underlying3 hd
  exact ⟨u, fr, by rw [hh, levelsA, ← this]⟩
theorem gFuncs : Tryz.prog.globalNamed "tillage/syntax.functions" = some 6 := by kernel_rfl
theorem funcs_of {W : World} {r : List (String × DataW Unit)} (hL : laidMet Tryz.prog (("tillage/syntax.functions", Rows.laid_tillage_syntax_functions) :: r) W) : RowAt W 6 funcsA := by
  obtain ⟨cs, u, fr, hh, fuel, p, hd⟩ := row_of (t := 170) gFuncs (by kernel_rfl) hL
  have := pairs_cells (l := funcsL) Tryz.underlying170 Tryz.underlying169 (by kernel_rfl) (by kernel_rfl) rfl rfl (by kernel_rfl) (by kernel_rfl) Tryz.underlying9 Tryz.underlying3 hd
  exact ⟨u, fr, by rw [hh, funcsA, ← this]⟩
theorem gPref : Tryz.prog.globalNamed "tillage/syntax.prefixes" = some 2 := by kernel_rfl
theorem pref_of {W : World} {r : List (String × DataW Unit)} (hL : laidMet Tryz.prog (("tillage/syntax.prefixes", Rows.laid_tillage_syntax_prefixes) :: r) W) : RowAt W 2 prefA := by
  obtain ⟨cs, u, fr, hh, fuel, p, hd⟩ := row_of (t := 150) gPref (by kernel_rfl) hL
  have := pairs_cells (l := prefL) Tryz.underlying150 Tryz.underlying149 (by kernel_rfl) (by kernel_rfl) rfl rfl (by kernel_rfl) (by kernel_rfl) Tryz.underlying9 Tryz.underlying3 hd
  exact ⟨u, fr, by rw [hh, prefA, ← this]⟩
theorem gArgs : Tryz.prog.globalNamed "tillage/syntax.argsOfKind" = some 3 := by kernel_rfl
theorem args_of {W : World} {r : List (String × DataW Unit)} (hL : laidMet Tryz.prog (("tillage/syntax.argsOfKind", Rows.laid_tillage_syntax_argsOfKind) :: r) W) : RowAt W 3 (intsA argsL) := by
  obtain ⟨cs, u, fr, hh, fuel, p, hd⟩ := row_of (t := 152) gArgs (by kernel_rfl) hL
  have := Lib.cells_of_tab (k := .i64) (zs := argsL) Tryz.underlying152 Tryz.underlying3 (by kernel_rfl) (by kernel_rfl) hd
  exact ⟨u, fr, by rw [hh, intsA, ← this]⟩
theorem gExprs : Tryz.prog.globalNamed "tillage/syntax.exprsOfKind" = some 7 := by kernel_rfl
theorem exprsTab_of {W : World} {r : List (String × DataW Unit)} (hL : laidMet Tryz.prog (("tillage/syntax.exprsOfKind", Rows.laid_tillage_syntax_exprsOfKind) :: r) W) : RowAt W 7 (intsA exprsL) := by
  obtain ⟨cs, u, fr, hh, fuel, p, hd⟩ := row_of (t := 171) gExprs (by kernel_rfl) hL
  have := Lib.cells_of_tab (k := .i64) (zs := exprsL) Tryz.underlying171 Tryz.underlying3 (by kernel_rfl) (by kernel_rfl) hd
  exact ⟨u, fr, by rw [hh, intsA, ← this]⟩
theorem gSigns : Tryz.prog.globalNamed "tillage/syntax.signs" = some 1 := by kernel_rfl
theorem signs_of {W : World} {r : List (String × DataW Unit)} (hL : laidMet Tryz.prog (("tillage/syntax.signs", Rows.laid_tillage_syntax_signs) :: r) W) : SignsAt W := by
  obtain ⟨cs, u, fr, hh, fuel, p, hd⟩ := row_of (t := 106) gSigns (by kernel_rfl) hL
  have := strs_cells (l := signsL) Tryz.underlying106 Tryz.underlying9 (by kernel_rfl) (by kernel_rfl) hd
  exact ⟨u, fr, by rw [hh]; congr 1; rw [show signsA = (signsL.map strV).toArray from rfl, ← this]⟩
theorem gErr : Tryz.prog.globalNamed "strconv.ErrRange" = some 11 := by kernel_rfl
theorem starErr : "*errors.errorString" = "*" ++ "errors.errorString" := by decide
theorem rowErr (u : TypeId) (h : Tryz.prog.typeName? 3 u = some "*errors.errorString") : u = 186 :=
  typeName_ptr_named (nm := "errors.errorString") (by rw [← starErr]; kernel_rfl) (by kernel_rfl) (by decide) u (by rw [← starErr]; exact h)
theorem err_of {W : World} {r : List (String × DataW Unit)} (hL : laidMet Tryz.prog (("strconv.ErrRange", Rows.laid_strconv_ErrRange) :: r) W) : ErrA W := by
  obtain ⟨tp, p, h⟩ : ∃ tp p, W.var? Tryz.prog "strconv.ErrRange" = some #[.iface tp p] := by
    obtain ⟨pt, _, hv, _⟩ := laid_sentinel hL gErr (ti := 72) (by kernel_rfl) Tryz.underlying72 rowErr Tryz.underlying186 Tryz.underlying188 rfl rfl Tryz.underlying9 (by kernel_rfl) (by kernel_rfl)
    exact ⟨_, _, hv⟩
  simp only [World.var?, gErr, Option.bind_some] at h
  split at h
  · rename_i c u fr hh
    obtain rfl := Option.some.inj h
    exact ⟨tp, p, by simp [World.cell?, hh]⟩
  · cases h
theorem tr_of {W : World} {r1 r2 r3 r4 r5 r6 r7 r8 : List (String × DataW Unit)} (h1 : laidMet Tryz.prog (("tillage/syntax.words", Rows.laid_tillage_syntax_words) :: r1) W) (h2 : laidMet Tryz.prog (("tillage/syntax.levels", Rows.laid_tillage_syntax_levels) :: r2) W) (h3 : laidMet Tryz.prog (("tillage/syntax.functions", Rows.laid_tillage_syntax_functions) :: r3) W) (h4 : laidMet Tryz.prog (("tillage/syntax.argsOfKind", Rows.laid_tillage_syntax_argsOfKind) :: r4) W) (h5 : laidMet Tryz.prog (("tillage/syntax.exprsOfKind", Rows.laid_tillage_syntax_exprsOfKind) :: r5) W) (h6 : laidMet Tryz.prog (("tillage/syntax.prefixes", Rows.laid_tillage_syntax_prefixes) :: r6) W) (h7 : laidMet Tryz.prog (("tillage/syntax.signs", Rows.laid_tillage_syntax_signs) :: r7) W) (h8 : laidMet Tryz.prog (("strconv.ErrRange", Rows.laid_strconv_ErrRange) :: r8) W) : Tr W :=
  ⟨⟨⟨(words_of h1).lt, words_of h1⟩, ⟨(levels_of h2).lt, levels_of h2⟩, ⟨(funcs_of h3).lt, funcs_of h3⟩, ⟨(args_of h4).lt, args_of h4⟩, ⟨(exprsTab_of h5).lt, exprsTab_of h5⟩⟩, pref_of h6, signs_of h7, err_of h8⟩

/-- picked: a number from 0 to many - 1. -/
theorem picked_c (n : Int) (m : Nat) (w : World) (hn : (Lit.int .i64 n).wf = true) (hm : 0 < m) (hm2 : m ≤ 1000000) :
    Calls Tryz.prog 8 #[.int .i64 n, .int .i64 m] w fun e w' => ∃ k : Nat, k < m ∧ e = .returned (.int .i64 k) ∧ w' = w := by
  simp only [Lit.wf, Bool.and_eq_true, decide_eq_true_eq] at hn
  have h1 : (-9223372036854775808 : Int) ≤ n := hn.1
  have h2 : n ≤ 9223372036854775807 := hn.2
  clear hn
  have hm0 : ¬ (m : Int) = 0 := by omega
  have hm1 : ¬ (m : Int) = -1 := by omega
  by_cases h0 : n < 0
  · have i1 : -9223372036854775808 ≤ n + 1 := by omega
    have i2 : n + 1 ≤ 9223372036854775807 := by omega
    have i3 : -9223372036854775808 ≤ -(n + 1) := by omega
    have i4 : -(n + 1) ≤ 9223372036854775807 := by omega
    have HK : Hid (∃ k : Nat, k < m ∧ ((k : Nat) : Int) = -(Int.tmod (n + 1) m)) := by
      have h3 := Int.tmod_nonneg (m : Int) (show 0 ≤ -(n + 1) by omega)
      have h4 := Int.tmod_lt_of_pos (-(n + 1)) (show (0 : Int) < m by omega)
      rw [Int.neg_tmod] at h3 h4
      exact ⟨(-(Int.tmod (n + 1) m)).toNat, by omega, by omega⟩
    go_enter Tryz.func8, Tryz.ntmps8
    go_wp2_with fail
    go_ret
    obtain ⟨k, hk, he⟩ := HK.out
    exact ⟨k, hk, ret_int he.symm, rfl⟩
  · have HK : Hid (∃ k : Nat, k < m ∧ ((k : Nat) : Int) = n % m) := by
      have h3 := Int.emod_nonneg n hm0
      have h4 := Int.emod_lt_of_pos n (show (0 : Int) < m by omega)
      exact ⟨(n % m).toNat, by omega, by omega⟩
    go_enter Tryz.func8, Tryz.ntmps8
    go_wp2_with fail
    go_ret
    obtain ⟨k, hk, he⟩ := HK.out
    exact ⟨k, hk, ret_int he.symm, rfl⟩
end Go.Proofs.YtfbpkbochhfnhaaGreatDoor
