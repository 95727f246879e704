/-
  ValueNums: for every value the law returns true: of a value that may be, value.Num answers the number or the error that the document says; what was in memory stays. The row lists the tables of unicode/utf8 that the text names, tied to the text of the program; the call reads none of them.
-/
import Derived.Test.YtejcmammdmpcoaaDoorVf
import Derived.Test.YtejcmammdmpcoaaDoorNumberOf
import Derived.Test.YtejcmammdmpcoaaDoorTie
import Derived.Test.YtejcmammdmpcoaaDoorCards
import Derived.Lay
import Derived.LaidMore
import Derived.SevenTiedAt
import Derived.Stop.Joined
import Derived.Stop.LaidErr
namespace Go.Proofs.YtejcmammdmpcoaaDoor.valueNums
open Go.ChangeShapes Go.WideShapes Go.ChangeAt Go.RowKit Go.Joins
open Go.ChangeMaps (open_string shut_string)
set_option linter.unusedVariables false

theorem may {t : Bool} {n : Int} {s : ByteArray} (h : vf t n s = 0) : s.size ≤ 200 ∧ -1099511627776 ≤ n ∧ n ≤ 1099511627776 := by
  rcases vf_ok h with ⟨_, rfl, h1⟩ | ⟨_, rfl, h1, h2⟩
  · exact ⟨h1, by omega, by omega⟩
  · exact ⟨by decide, h1, h2⟩

set_option maxHeartbeats 400000 in
theorem walk (t : Bool) (n : Int) (s : ByteArray) (wn : (Lit.int .i64 n).wf = true) (hs : s.size ≤ maxLen) (w : World) :
    Calls Tryd.prog 4 #[.agg #[.bool t, .int .i64 n, .string s]] w fun e w' => e = .returned (.bool true) ∧ Below w.heap.size w w' := by
  by_cases h0 : vf t n s = 0
  · obtain ⟨hs2, hr1, hr2⟩ := may h0
    have H0 : Hid (vf t n s = 0) := h0
    clear h0
    go_enter Tryd.func4, Tryd.ntmps4
    go_wp2_with fail
    refine (valueFault_c t n s _ hs).mono ?_
    rintro e w1 ⟨rfl, hb⟩
    rw [H0.out]
    obtain ⟨hc, hf⟩ := bcell hb
    have hz : w.heap.size < w1.heap.size := by have := hb.size; simp at this; omega
    have hB : Below w.heap.size w w1 := bl_trans ((Below.refl _ _).alloc (Nat.le_refl _) _) hb
    go_wp2_with fail
    refine (num_c t n s _ hs2).mono ?_
    rintro e w2 ⟨rfl, hb2⟩
    obtain ⟨hc2, hf2⟩ := bcell hb2
    go_wp2_with fail
    refine (numberOf_c t n s _ hs2 hr1 hr2).mono ?_
    rintro e w3 ⟨rfl, hb3⟩
    go_wp2_with fail
    go_ret
    exact ⟨rfl, bl_trans (bl_trans hB hb2) hb3⟩
  · have h1 : (vf t n s != 0) = true := by rw [bne_iff_ne]; exact h0
    clear h0
    go_enter Tryd.func4, Tryd.ntmps4
    go_wp2_with fail
    refine (valueFault_c t n s _ hs).mono ?_
    rintro e w1 ⟨rfl, hb⟩
    go_wp2_with fail
    go_ret
    exact ⟨rfl, bl_trans ((Below.refl _ _).alloc (Nat.le_refl _) _) hb⟩

set_option maxRecDepth 100000 in
theorem lifted (os : Os) (started : os.Started) (H : Type) (enc : TypeId × Value → H) :
    ReturnsInHanded {} Tryd.checked os 4 .any (fun w args => (Rows.valueNumsSpec.pre enc Tryd.prog Tryd.f4 Rows.valueNumsRow.domain false w args ∧ laidMetH Tryd.prog Rows.valueNumsRow.laid w) ∧ sizedMet enc Tryd.prog Tryd.f4 (OpenSpec.ofChange Rows.valueNumsSpec) false w args)
      (Rows.valueNumsSpec.post enc Tryd.prog Tryd.f4 false true false false) := by
  refine returnsInHanded_of_change_and (C := Tryd.checked) (X := fun w _ => laidMetH Tryd.prog Rows.valueNumsRow.laid w) (fun _ _ _ hh h => h.of_heap hh) own started (by kernel_rfl) Tryd.func4
    (ChangeSpec.witness_shaped (enc := enc) (C := Tryd.checked) (os := os) (X := fun w _ => laidMetH Tryd.prog Rows.valueNumsRow.laid w) false (World.laidAll Tryd.prog os Rows.valueNumsRow.laid) #[.agg #[.bool false, .int .i64 0, .string ByteArray.empty]] 8 (World.laidAll_os _ _ _)
      (World.shaped_of_ZipB (by kernel_rfl) (by kernel_rfl)) (by kernel_rfl) (by kernel_rfl) (by kernel_rfl)
      (by rw [MakeChecks.laidMetH_plain _ _ _ (by kernel_rfl)]; exact laidMet_laidAll _ (by kernel_rfl) (by kernel_rfl))) ?_
  intro W base args ds gs before hval0 hW hcnd hsz hL _
  rw [MakeChecks.laidMetH_plain _ _ _ (by kernel_rfl)] at hL
  have hval : ∀ (j : Nat) t v, Tryd.f4.params[j]? = some t → args[j]? = some v → Value.okWide Tryd.prog W .any base t v := hval0
  have hW' := hW
  obtain ⟨p, q, hA0, hV, rfl, hfz, hnd⟩ := hW
  have hA : DataW.TrodAll enc Tryd.prog W 0 (fun _ => true) true Tryd.f4.params.toList args.toList ds p := hA0
  rw [Tryd.params4] at hA hval
  obtain ⟨v0, vs0, d0, ds0, p0, q0, hargs, rfl, rfl, h0, r0⟩ := trodAll_cons hA
  obtain ⟨rfl, rfl, rfl⟩ := trodAll_nil r0
  obtain rfl : args = #[v0] := by cases args; simp_all
  obtain ⟨rfl, rfl⟩ := trodVars_none hV
  have k0 := h0
  have lt0 : ∀ x ∈ p0, x.block < W.heap.size := by obtain ⟨m, hm⟩ := k0; exact DataW.trod_lt m _ _ _ hm
  obtain ⟨t0, n0, s0, rfl, wn0, hs0⟩ := open_value (hval 0 23 v0 rfl rfl) h0
  clear hA0 hval0
  refine (walk t0 n0 s0 wn0 hs0 W).mono fun e W' ⟨he, bel⟩ => ?_
  subst he
  exact ⟨_, rfl, _, _, _, [], _, [], hW', trodAll_mk1 (shut_bool Tryd.underlying4 _), (trodAll_cons_mk (Below.trod laidOut (by kernel_rfl) (of_decide_eq_true (by kernel_rfl)) k0 bel lt0) trodAll_mk0), rfl, bel.frame _, fun h => by cases h⟩

theorem over : Rows.valueNumsRow.holds Tryd.pinned (OpenSpec.ofChange Rows.valueNumsSpec) :=
  OpenClaim.holds_of_wide 4 Tryd.f4 rfl rfl rfl rfl rfl rfl rfl ⟨rfl, rfl, rfl, rfl, rfl⟩ rfl rfl rfl rfl rfl (by kernel_rfl) Tryd.func4 (by kernel_rfl)
    (of_decide_eq_true (by kernel_rfl)) (by unfold Func.isWrapper; rw [if_neg (of_decide_eq_false (by kernel_rfl))]; exact ⟨rfl, rfl⟩)
    (fun os started H enc _ => lifted os started H enc)

theorem card : Rows.ValueNumsCardSaid :=
  Claim7.holds_tied_plain_at .later [] [.data, .pinned] true (true, "e169a0cdd2031d3f99c8ea52bd79ea9fdfd837e7f3b7f0d8a0c96f7a8f265bf6") false
    over (fun _ h => by cases h) (by kernel_rfl) (fun _ h => by cases h) valueNums_row_tie rfl ⟨rfl, rfl⟩ (by kernel_rfl) rfl
    (fun f fn hf hfn => by
      obtain rfl : f = 4 := Option.some.inj ((show Tryd.prog.funcNamed Rows.valueNumsRow.func = some 4 by kernel_rfl).symm.trans hf) |>.symm
      obtain rfl : fn = Tryd.f4 := (Option.some.inj (Tryd.func4.symm.trans hfn)).symm
      exact ⟨by kernel_rfl, fun j t ht => by
        rw [Tryd.params4] at ht
        have hm : t ∈ [23] := by simpa using Array.mem_of_getElem? ht
        have hall : ([23].all fun u => !Tryd.prog.wantsStandIn u) = true := by kernel_rfl
        exact (show Tryd.prog.wantsStandIn t = false by simpa using List.all_eq_true.1 hall t hm)⟩)
    (by kernel_rfl)
end Go.Proofs.YtejcmammdmpcoaaDoor.valueNums

namespace Go.Proofs.YtejcmammdmpcoaaDoor
/-- THE STATEMENT. -/
theorem valueNums_card : Rows.ValueNumsCardSaid := valueNums.card
#print axioms valueNums_card
end Go.Proofs.YtejcmammdmpcoaaDoor
