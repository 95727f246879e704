/-
  ValueTrues: for every value the law returns true: of a value that may be, value.True answers what the document says; what was in memory stays. No condition.
-/
import Derived.Test.YtejcmammdmpcoaaVf
namespace Go.Proofs.Ytejcmammdmpcoaa.valueTrues
open Go.ChangeShapes Go.WideShapes Go.ChangeAt Go.RowKit Go.Joins
open Go.ChangeMaps (open_string shut_string)
set_option linter.unusedVariables false

/-- P1.2: does a value hold? -/
def tr (t : Bool) (n : Int) (s : ByteArray) : Bool := if t then decide (0 < s.size) else n != 0
theorem tr_n0 {s : ByteArray} : tr false 0 s = false := rfl
theorem tr_n1 {n : Int} {s : ByteArray} (h : ¬ n = 0) : tr false n s = true := by simp [tr, h]
theorem tr_s1 {n : Int} {s : ByteArray} (h : 0 < s.size) : tr true n s = true := by simp [tr, h]
theorem tr_s0 {n : Int} {s : ByteArray} (h : ¬ 0 < s.size) : tr true n s = false := by unfold tr; rw [if_pos rfl]; exact decide_eq_false h

set_option maxHeartbeats 400000 in
theorem true_c (t : Bool) (n : Int) (s : ByteArray) (w : World) (hs : s.size ≤ maxLen) :
    Calls Try.prog 11 #[.agg #[.bool t, .int .i64 n, .string s]] w fun e w' => e = .returned (.bool (tr t n s)) ∧ Below w.heap.size w w' := by
  unfold maxLen at hs
  cases t
  · by_cases h : n = 0
    · subst h
      rw [tr_n0]
      go_enter Try.func11, Try.ntmps11
      go_wp2
      go_ret
      exact ⟨rfl, (Below.refl _ _).alloc (Nat.le_refl _) _⟩
    · rw [tr_n1 h]
      have hb : (n != 0) = true := by rw [bne_iff_ne]; exact h
      go_enter Try.func11, Try.ntmps11
      go_wp2
      go_ret
      exact ⟨rfl, (Below.refl _ _).alloc (Nat.le_refl _) _⟩
  · by_cases h : 0 < s.size
    · rw [tr_s1 h]
      have he := ise_f h
      go_enter Try.func11, Try.ntmps11
      go_wp2
      go_ret
      exact ⟨rfl, (Below.refl _ _).alloc (Nat.le_refl _) _⟩
    · rw [tr_s0 h]
      have he := ise_t h
      go_enter Try.func11, Try.ntmps11
      go_wp2
      go_ret
      exact ⟨rfl, (Below.refl _ _).alloc (Nat.le_refl _) _⟩

set_option maxHeartbeats 400000 in
theorem holds_c (t : Bool) (n : Int) (s : ByteArray) (w : World) (hs : s.size ≤ maxLen) :
    Calls Try.prog 12 #[.agg #[.bool t, .int .i64 n, .string s]] w fun e w' => e = .returned (.bool (tr t n s)) ∧ Below w.heap.size w w' := by
  unfold maxLen at hs
  cases t
  · by_cases h : n = 0
    · subst h
      rw [tr_n0]
      go_enter Try.func12, Try.ntmps12
      go_wp2
      go_ret
      exact ⟨rfl, (Below.refl _ _).alloc (Nat.le_refl _) _⟩
    · rw [tr_n1 h]
      have hb : (n != 0) = true := by rw [bne_iff_ne]; exact h
      go_enter Try.func12, Try.ntmps12
      go_wp2
      go_ret
      exact ⟨rfl, (Below.refl _ _).alloc (Nat.le_refl _) _⟩
  · by_cases h : 0 < s.size
    · rw [tr_s1 h]
      have he := ise_f h
      go_enter Try.func12, Try.ntmps12
      go_wp2
      go_ret
      exact ⟨rfl, (Below.refl _ _).alloc (Nat.le_refl _) _⟩
    · rw [tr_s0 h]
      have he := ise_t h
      go_enter Try.func12, Try.ntmps12
      go_wp2
      go_ret
      exact ⟨rfl, (Below.refl _ _).alloc (Nat.le_refl _) _⟩

set_option maxHeartbeats 400000 in
theorem walk (t : Bool) (n : Int) (s : ByteArray) (wn : (Lit.int .i64 n).wf = true) (hs : s.size ≤ maxLen) (w : World) :
    Calls Try.prog 6 #[.agg #[.bool t, .int .i64 n, .string s]] w fun e w' => e = .returned (.bool true) ∧ Below w.heap.size w w' := by
  by_cases h0 : vf t n s = 0
  · have H0 : Hid (vf t n s = 0) := h0
    clear h0
    go_enter Try.func6, Try.ntmps6
    go_wp2_with fail
    refine (valueFault_c t n s _ hs).mono ?_
    rintro e w1 ⟨rfl, hb⟩
    rw [H0.out]
    obtain ⟨hc, hf⟩ := bcell hb
    have hz : w.heap.size < w1.heap.size := by have := hb.size; simp at this; omega
    go_wp2_with fail
    refine (true_c t n s _ hs).mono ?_
    rintro e w2 ⟨rfl, hb2⟩
    obtain ⟨hc2, hf2⟩ := bcell hb2
    go_wp2_with fail
    refine (holds_c t n s _ hs).mono ?_
    rintro e w3 ⟨rfl, hb3⟩
    go_wp2_with fail
    go_ret
    exact ⟨rfl, bl_trans (bl_trans (bl_trans ((Below.refl _ _).alloc (Nat.le_refl _) _) hb) hb2) hb3⟩
  · have h1 : (vf t n s != 0) = true := by rw [bne_iff_ne]; exact h0
    clear h0
    go_enter Try.func6, Try.ntmps6
    go_wp2_with fail
    refine (valueFault_c t n s _ hs).mono ?_
    rintro e w1 ⟨rfl, hb⟩
    go_wp2_with fail
    go_ret
    exact ⟨rfl, bl_trans ((Below.refl _ _).alloc (Nat.le_refl _) _) hb⟩

set_option maxRecDepth 100000 in
theorem lifted (os : Os) (started : os.Started) (H : Type) (enc : TypeId × Value → H) :
    ReturnsInHanded {} Try.checked os 6 .any (Rows.valueTruesSpec.pre6 enc Try.prog Try.f6 Rows.valueTruesRow.domain false) (Rows.valueTruesSpec.post enc Try.prog Try.f6 false true false false) := by
  refine returnsInHanded_of_change (C := Try.checked) own started (by kernel_rfl) Try.func6
    (ChangeSpec.witness6 (enc := enc) (C := Try.checked) false ⟨#[], #[.agg #[.bool false, .int .i64 0, .string ByteArray.empty]], []⟩ 8 (by kernel_rfl) (by kernel_rfl) (by kernel_rfl) (by kernel_rfl)) ?_
  intro W base args ds gs before hval0 hW hcnd _
  have hval : ∀ (j : Nat) t v, Try.f6.params[j]? = some t → args[j]? = some v → Value.okWide Try.prog W .any base t v := hval0
  have hW' := hW
  obtain ⟨p, q, hA0, hV, rfl, hfz, hnd⟩ := hW
  have hA : DataW.TrodAll enc Try.prog W 0 (fun _ => true) true Try.f6.params.toList args.toList ds p := hA0
  rw [Try.params6] at hA hval
  obtain ⟨v0, vs0, d0, ds0, p0, q0, hargs, rfl, rfl, h0, r0⟩ := trodAll_cons hA
  obtain ⟨rfl, rfl, rfl⟩ := trodAll_nil r0
  obtain rfl : args = #[v0] := by cases args; simp_all
  obtain ⟨rfl, rfl⟩ := trodVars_none hV
  have k0 := h0
  have lt0 : ∀ x ∈ p0, x.block < W.heap.size := by obtain ⟨m, hm⟩ := k0; exact DataW.trod_lt m _ _ _ hm
  obtain ⟨t0, n0, s0, rfl, wn0, hs0⟩ := open_value (hval 0 23 v0 rfl rfl) h0
  clear hA0 hval0
  refine (walk t0 n0 s0 wn0 hs0 W).mono fun e W' ⟨he, bel⟩ => ?_
  subst he
  exact ⟨_, rfl, _, _, _, [], _, [], hW', trodAll_mk1 (shut_bool Try.underlying4 _), (trodAll_cons_mk (Below.trod laidOut (by kernel_rfl) (of_decide_eq_true (by kernel_rfl)) k0 bel lt0) trodAll_mk0), rfl, bel.frame _, fun h => by cases h⟩

theorem over : Rows.valueTruesRow.holds Try.pinned (OpenSpec.ofChange Rows.valueTruesSpec) :=
  OpenClaim.holds_of_wide 6 Try.f6 rfl rfl rfl rfl rfl rfl rfl ⟨rfl, rfl, rfl, rfl, rfl⟩ rfl rfl rfl rfl rfl (by kernel_rfl) Try.func6 (by kernel_rfl)
    (of_decide_eq_true (by kernel_rfl)) (by unfold Func.isWrapper; rw [if_neg (of_decide_eq_false (by kernel_rfl))]; exact ⟨rfl, rfl⟩)
    (fun os started H enc _ => lifted os started H enc)

end Go.Proofs.Ytejcmammdmpcoaa.valueTrues

namespace Go.Proofs.Ytejcmammdmpcoaa
/-- THE STATEMENT. -/
theorem valueTrues_holds : Rows.ValueTruesSaid := valueTrues.over
#print axioms valueTrues_holds
end Go.Proofs.Ytejcmammdmpcoaa
