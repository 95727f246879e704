/-
  SyntaxPrints: for every program the law returns true: syntax.Print answers the text that the document lays down for it and 0, or no text and what is wrong with it; what was in memory stays. The row lists eight tables (five of package syntax, three of the library), tied to the text of the program. No condition.
-/
import Derived.Test.YtjconmohifaliaaDoorPrPr
import Derived.Test.YtjconmohifaliaaDoorTie
import Derived.Test.YtjconmohifaliaaDoorCards
import Derived.Lay
import Derived.LaidMore
import Derived.Lib.LaidTab
import Derived.SevenTiedAt
import Derived.Stop.Joined
import Derived.Stop.LaidErr
namespace Go.Proofs.YtjconmohifaliaaDoor
open Go.ChangeShapes Go.WideShapes Go.ChangeAt Go.RowKit Go.Joins
set_option linter.unusedVariables false
set_option maxRecDepth 100000

theorem pow_of {W : World} {r : List (String × DataW Unit)} (hL : laidMet Tryd.prog (("internal/strconv.uint64pow10", Rows.laid_internal_strconv_uint64pow10) :: r) W) : Pow W := by
  obtain ⟨g, hg⟩ := gPow
  have ht : (Tryd.prog.globals[g]?).map (·.type) = some 103 := by
    have e : (match Tryd.prog.globalNamed "internal/strconv.uint64pow10" with | some g => (Tryd.prog.globals[g]?).map (·.type) | none => none) = some 103 := by kernel_rfl
    rw [hg] at e; exact e
  exact Lib.tabIs_of_head hg ht Tryd.underlying103 Tryd.underlying94 (by kernel_rfl) (by kernel_rfl) hL

theorem gLevels : Tryd.prog.globalNamed "tillage/syntax.levels" = some 3 := by kernel_rfl
theorem levels_of {W : World} {r : List (String × DataW Unit)} (hL : laidMet Tryd.prog (("tillage/syntax.levels", Rows.laid_tillage_syntax_levels) :: r) W) : RowAt W 3 levelsA := by
  obtain ⟨cs, u, fr, hh, fuel, p, hd⟩ := row_of (t := 100) gLevels (by kernel_rfl) hL
  have := pairs_cells (l := levelsL) Tryd.underlying100 Tryd.underlying99 (by kernel_rfl) (by kernel_rfl) rfl rfl (by kernel_rfl) (by kernel_rfl) Tryd.underlying9 Tryd.underlying3 hd
  exact ⟨u, fr, by rw [hh, levelsA, ← this]⟩
theorem gFuncs : Tryd.prog.globalNamed "tillage/syntax.functions" = some 1 := by kernel_rfl
theorem funcs_of {W : World} {r : List (String × DataW Unit)} (hL : laidMet Tryd.prog (("tillage/syntax.functions", Rows.laid_tillage_syntax_functions) :: r) W) : RowAt W 1 funcsA := by
  obtain ⟨cs, u, fr, hh, fuel, p, hd⟩ := row_of (t := 90) gFuncs (by kernel_rfl) hL
  have := pairs_cells (l := funcsL) Tryd.underlying90 Tryd.underlying89 (by kernel_rfl) (by kernel_rfl) rfl rfl (by kernel_rfl) (by kernel_rfl) Tryd.underlying9 Tryd.underlying3 hd
  exact ⟨u, fr, by rw [hh, funcsA, ← this]⟩
theorem gArgs : Tryd.prog.globalNamed "tillage/syntax.argsOfKind" = some 0 := by kernel_rfl
theorem args_of {W : World} {r : List (String × DataW Unit)} (hL : laidMet Tryd.prog (("tillage/syntax.argsOfKind", Rows.laid_tillage_syntax_argsOfKind) :: r) W) : RowAt W 0 (intsA argsL) := by
  obtain ⟨cs, u, fr, hh, fuel, p, hd⟩ := row_of (t := 84) gArgs (by kernel_rfl) hL
  have := Lib.cells_of_tab (k := .i64) (zs := argsL) Tryd.underlying84 Tryd.underlying3 (by kernel_rfl) (by kernel_rfl) hd
  exact ⟨u, fr, by rw [hh, intsA, ← this]⟩
theorem gExprs : Tryd.prog.globalNamed "tillage/syntax.exprsOfKind" = some 2 := by kernel_rfl
theorem exprsTab_of {W : World} {r : List (String × DataW Unit)} (hL : laidMet Tryd.prog (("tillage/syntax.exprsOfKind", Rows.laid_tillage_syntax_exprsOfKind) :: r) W) : RowAt W 2 (intsA exprsL) := by
  obtain ⟨cs, u, fr, hh, fuel, p, hd⟩ := row_of (t := 91) gExprs (by kernel_rfl) hL
  have := Lib.cells_of_tab (k := .i64) (zs := exprsL) Tryd.underlying91 Tryd.underlying3 (by kernel_rfl) (by kernel_rfl) hd
  exact ⟨u, fr, by rw [hh, intsA, ← this]⟩
theorem tabs_of {W : World} (h1 : WordsAt W) (h2 : RowAt W 3 levelsA) (h3 : RowAt W 1 funcsA) (h4 : RowAt W 0 (intsA argsL)) (h5 : RowAt W 2 (intsA exprsL)) : Tb W.heap.size W :=
  ⟨⟨h1.lt, h1⟩, ⟨h2.lt, h2⟩, ⟨h3.lt, h3⟩, ⟨h4.lt, h4⟩, ⟨h5.lt, h5⟩⟩

theorem cellsP : Tryd.prog.cellsOf 24 = 1 := by kernel_rfl
theorem cellsLR : Tryd.prog.cellsOf 22 = 1 := by kernel_rfl
/-- A program that came in, opened. -/
theorem open_program {H : Type} {enc : TypeId × Value → H} {w : World} {r : Reach} {b0 base : Nat} {spare : Nat → Bool} {held : Bool} {v : Value} {d : DataW H} {p : List MemPlace}
    (hv : Value.okWide Tryd.prog w r b0 24 v) (h : DataW.Trod enc Tryd.prog w base spare held 24 v d p) :
    ∃ (vs : Value) (l : List Ru) (fuel : Nat), v = .agg #[vs] ∧ Sl w w.heap.size 7 vs l.length (fun i c => ∃ x, l[i]? = some x ∧ RuA w.heap.size w fuel c x) := by
  obtain ⟨cs, rfl, hsz⟩ := okWide_struct Tryd.underlying24 hv
  obtain ⟨fuel, hf⟩ := h
  obtain ⟨xs, n, rfl, _, hl, hxl, hfd⟩ := DataW.trod_struct Tryd.underlying24 hf
  have hs1 : cs.size = 1 := hsz.trans cellsP
  obtain ⟨vs, rfl⟩ : ∃ vs, cs = #[vs] := by
    match cs, hs1 with
    | ⟨[vs]⟩, _ => exact ⟨vs, rfl⟩
  match xs, hxl with
  | [y0], _ =>
    have g0 := hfd 0 _ rfl
    obtain ⟨v', l, e, hs⟩ := openP g0
    simp [Value.cells, cellsLR] at e
    subst e
    exact ⟨_, l, n, rfl, hs⟩
end Go.Proofs.YtjconmohifaliaaDoor
namespace Go.Proofs.YtjconmohifaliaaDoor.syntaxPrints
open Go.ChangeShapes Go.WideShapes Go.ChangeAt Go.RowKit Go.Joins
open Go.ChangeMaps (open_string shut_string)
set_option linter.unusedVariables false

set_option maxHeartbeats 1000000 in
theorem walk (m : Nat) (l : List Ru) (v : Value) (w : World) (hv : Sl w w.heap.size 7 v l.length (fun i c => ∃ x, l[i]? = some x ∧ RuA w.heap.size w m c x)) (hT : Tb w.heap.size w) (hP : Pow w) :
    Calls Tryd.prog 3 #[.agg #[v]] w fun e w' => e = .returned (.bool true) ∧ Below w.heap.size w w' := by
  have HV : Hid (Sl w w.heap.size 7 v l.length (fun i c => ∃ x, l[i]? = some x ∧ RuA w.heap.size w m c x)) := hv
  have HT : Hid (Tb w.heap.size w) := hT
  have HP : Hid (Pow w) := hP
  obtain ⟨a, cap, rfl, _, _⟩ := hv
  obtain ⟨o, ho⟩ : ∃ o, o = Obj.cells #[Value.slice a l.length cap] 24 := ⟨_, rfl⟩
  have HA : Hid (Below w.heap.size w (w.alloc o)) := (Below.refl _ _).alloc (Nat.le_refl _) o
  have HR : Hid (RowAt (w.alloc o) w.heap.size #[Value.slice a l.length cap]) := by rw [ho]; exact RowAt.new w _ _
  clear hT hP
  go_enter Tryd.func3, Tryd.ntmps3
  go_wp2_with fail
  rw [← ho]
  clear ho
  refine (print_c m w.heap.size l _ _ (HV.out.below HA.out fun i c ⟨x, hx, he⟩ => ⟨x, hx, he.below HA.out⟩) HA.out.size (HP.out.stays HA.out) (HT.out.below HA.out)).mono ?_
  rintro e w1 ⟨rfl, hb1⟩
  have HB1 : Hid (Below w.heap.size w w1) := HA.out.trans (hb1.mono HA.out.size)
  have HR1 : Hid (RowAt w1 w.heap.size #[Value.slice a l.length cap]) := HR.out.below hb1
  have q0 := HR1.out.cell 0
  simp only [List.getElem?_toArray, List.getElem?_cons_zero] at q0
  clear hb1
  go_wp2_with fail
  refine (programText_c m w.heap.size l _ _ (HV.out.below HB1.out fun i c ⟨x, hx, he⟩ => ⟨x, hx, he.below HB1.out⟩) HB1.out.size (HP.out.stays HB1.out)).mono ?_
  rintro e w2 ⟨rfl, hb2⟩
  have HB2 : Hid (Below w.heap.size w w2) := HB1.out.trans (hb2.mono HB1.out.size)
  clear hb2
  go_wp2_with fail
  go_ret
  exact ⟨ret_bool (by simp), HB2.out⟩

set_option maxRecDepth 100000 in
theorem lifted (os : Os) (started : os.Started) (H : Type) (enc : TypeId × Value → H) :
    ReturnsInHanded {} Tryd.checked os 3 .any (fun w args => (Rows.syntaxPrintsSpec.pre enc Tryd.prog Tryd.f3 Rows.syntaxPrintsRow.domain false w args ∧ laidMetH Tryd.prog Rows.syntaxPrintsRow.laid w) ∧ sizedMet enc Tryd.prog Tryd.f3 (OpenSpec.ofChange Rows.syntaxPrintsSpec) false w args)
      (Rows.syntaxPrintsSpec.post enc Tryd.prog Tryd.f3 false true false false) := by
  refine returnsInHanded_of_change_and (C := Tryd.checked) (X := fun w _ => laidMetH Tryd.prog Rows.syntaxPrintsRow.laid w) (fun _ _ _ hh h => h.of_heap hh) own started (by kernel_rfl) Tryd.func3
    (ChangeSpec.witness_shaped (enc := enc) (C := Tryd.checked) (os := os) (X := fun w _ => laidMetH Tryd.prog Rows.syntaxPrintsRow.laid w) false (World.laidAll Tryd.prog os Rows.syntaxPrintsRow.laid) #[.agg #[.slice none 0 0]] 8 (World.laidAll_os _ _ _)
      (World.shaped_of_ZipB (by kernel_rfl) (by kernel_rfl)) (by kernel_rfl) (by kernel_rfl) (by kernel_rfl)
      (by rw [MakeChecks.laidMetH_plain _ _ _ (by kernel_rfl)]; exact laidMet_laidAll _ (by kernel_rfl) (by kernel_rfl))) ?_
  intro W base args ds gs before hval0 hW hcnd hsz hL _
  rw [MakeChecks.laidMetH_plain _ _ _ (by kernel_rfl)] at hL
  have hval : ∀ (j : Nat) t v, Tryd.f3.params[j]? = some t → args[j]? = some v → Value.okWide Tryd.prog W .any base t v := hval0
  have hW' := hW
  obtain ⟨p, q, hA0, hV, rfl, hfz, hnd⟩ := hW
  have hA : DataW.TrodAll enc Tryd.prog W 0 (fun _ => true) true Tryd.f3.params.toList args.toList ds p := hA0
  rw [Tryd.params3] at hA hval
  obtain ⟨v0, vs0, d0, ds0, p0, q0, hargs, rfl, rfl, h0, r0⟩ := trodAll_cons hA
  obtain ⟨rfl, rfl, rfl⟩ := trodAll_nil r0
  obtain rfl : args = #[v0] := by cases args; simp_all
  obtain ⟨rfl, rfl⟩ := trodVars_none hV
  have k0 := h0
  have lt0 : ∀ x ∈ p0, x.block < W.heap.size := by obtain ⟨m, hm⟩ := k0; exact DataW.trod_lt m _ _ _ hm
  obtain ⟨vs, l, fuel, rfl, hsl⟩ := open_program (hval 0 24 v0 rfl rfl) h0
  clear hA0 hval0
  refine (walk fuel l vs W hsl (tabs_of (words_of (show laidMet Tryd.prog ((_, Rows.laid_tillage_syntax_words) :: _) W from (laidMet.tail (laidMet.tail (laidMet.tail (hL)))))) (levels_of (show laidMet Tryd.prog ((_, Rows.laid_tillage_syntax_levels) :: _) W from (laidMet.tail (laidMet.tail (laidMet.tail (laidMet.tail (hL))))))) (funcs_of (show laidMet Tryd.prog ((_, Rows.laid_tillage_syntax_functions) :: _) W from (laidMet.tail (laidMet.tail (laidMet.tail (laidMet.tail (laidMet.tail (hL)))))))) (args_of (show laidMet Tryd.prog ((_, Rows.laid_tillage_syntax_argsOfKind) :: _) W from (laidMet.tail (laidMet.tail (laidMet.tail (laidMet.tail (laidMet.tail (laidMet.tail (hL))))))))) (exprsTab_of (show laidMet Tryd.prog ((_, Rows.laid_tillage_syntax_exprsOfKind) :: _) W from (laidMet.tail (laidMet.tail (laidMet.tail (laidMet.tail (laidMet.tail (laidMet.tail (laidMet.tail (hL))))))))))) (pow_of (show laidMet Tryd.prog ((_, Rows.laid_internal_strconv_uint64pow10) :: _) W from (laidMet.tail (laidMet.tail (hL)))))).mono fun e W' ⟨he, bel⟩ => ?_
  subst he
  exact ⟨_, rfl, _, _, _, [], _, [], hW', trodAll_mk1 (shut_bool Tryd.underlying4 _), (trodAll_cons_mk (Below.trod laidOut (by kernel_rfl) (of_decide_eq_true (by kernel_rfl)) k0 bel lt0) trodAll_mk0), rfl, bel.frame _, fun h => by cases h⟩

theorem over : Rows.syntaxPrintsRow.holds Tryd.pinned (OpenSpec.ofChange Rows.syntaxPrintsSpec) :=
  OpenClaim.holds_of_wide 3 Tryd.f3 rfl rfl rfl rfl rfl rfl rfl ⟨rfl, rfl, rfl, rfl, rfl⟩ rfl rfl rfl rfl rfl (by kernel_rfl) Tryd.func3 (by kernel_rfl)
    (of_decide_eq_true (by kernel_rfl)) (by unfold Func.isWrapper; rw [if_neg (of_decide_eq_false (by kernel_rfl))]; exact ⟨rfl, rfl⟩)
    (fun os started H enc _ => lifted os started H enc)

theorem card : Rows.SyntaxPrintsCardSaid :=
  Claim7.holds_tied_plain_at .later [] [.data, .data, .data, .data, .data, .data, .data, .data] true (true, "983f20717da138d5b222cebadfacadde77715d1d900d0ce1081597aab7f2e3a7") true
    over (fun _ h => by cases h) (by kernel_rfl) (fun _ h => by cases h) syntaxPrints_row_tie rfl ⟨rfl, rfl⟩ (by kernel_rfl) rfl
    (fun f fn hf hfn => by
      obtain rfl : f = 3 := Option.some.inj ((show Tryd.prog.funcNamed Rows.syntaxPrintsRow.func = some 3 by kernel_rfl).symm.trans hf) |>.symm
      obtain rfl : fn = Tryd.f3 := (Option.some.inj (Tryd.func3.symm.trans hfn)).symm
      exact ⟨by kernel_rfl, fun j t ht => by
        rw [Tryd.params3] at ht
        have hm : t ∈ [24] := by simpa using Array.mem_of_getElem? ht
        have hall : ([24].all fun u => !Tryd.prog.wantsStandIn u) = true := by kernel_rfl
        exact (show Tryd.prog.wantsStandIn t = false by simpa using List.all_eq_true.1 hall t hm)⟩)
    (by kernel_rfl)
end Go.Proofs.YtjconmohifaliaaDoor.syntaxPrints

namespace Go.Proofs.YtjconmohifaliaaDoor
/-- THE STATEMENT. -/
theorem syntaxPrints_card : Rows.SyntaxPrintsCardSaid := syntaxPrints.card
#print axioms syntaxPrints_card
end Go.Proofs.YtjconmohifaliaaDoor
