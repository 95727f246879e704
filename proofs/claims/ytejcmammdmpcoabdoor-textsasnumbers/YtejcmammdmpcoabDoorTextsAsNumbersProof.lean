/-
  TextsAsNumbers: for every int and every string the law returns true: a number as text is that number again, whatever follows it; what was in memory stays. The row lists the tables that the library names, tied to the text of the program; the call reads uint64pow10 alone.
-/
import Derived.Test.YtejcmammdmpcoabDoorCheck
import Derived.Test.YtejcmammdmpcoabDoorOpNum
import Derived.Test.YtejcmammdmpcoabDoorLeadSpec
import Derived.Test.YtejcmammdmpcoabDoorTie
import Derived.Test.YtejcmammdmpcoabDoorCards
import Derived.Lay
import Derived.LaidMore
import Derived.SevenTiedAt
import Derived.Stop.Joined
import Derived.Stop.LaidErr
namespace Go.Proofs.YtejcmammdmpcoabDoor.textsAsNumbers
open Go.ChangeShapes Go.WideShapes Go.ChangeAt Go.RowKit Go.Joins
open Go.ChangeMaps (open_string shut_string)
set_option linter.unusedVariables false

theorem tmodM (a : Int) : -1099511627776 ≤ a.tmod 1099511627777 ∧ a.tmod 1099511627777 ≤ 1099511627776 := by
  have h := Int.natAbs_tmod a 1099511627777
  have k : a.natAbs % 1099511627777 < 1099511627777 := Nat.mod_lt _ (by decide)
  have e : (1099511627777 : Int).natAbs = 1099511627777 := rfl
  rw [e] at h
  omega

theorem num_self (x : Int) (x1 : -1099511627776 ≤ x) (x2 : x ≤ 1099511627776) : numOf true 0 ⟨(Lib.itoa x).toArray⟩ = x := by
  have := lead_itoa x 0 [] x1 x2 (.inl rfl)
  simpa [numOf] using this
theorem num_more (x : Int) (t : ByteArray) (x1 : -1099511627776 ≤ x) (x2 : x ≤ 1099511627776) : numOf true 0 ((⟨#[32, 32]⟩ : ByteArray) ++ ⟨(Lib.itoa x).toArray⟩ ++ ⟨#[32]⟩ ++ t) = x := by
  have h := lead_itoa x 2 (32 :: t.data.toList) x1 x2 (.inr ⟨_, rfl⟩)
  rw [numOf_t]
  have e : ((⟨#[32, 32]⟩ : ByteArray) ++ ⟨(Lib.itoa x).toArray⟩ ++ ⟨#[32]⟩ ++ t).data.toList = List.replicate 2 32 ++ (Lib.itoa x ++ 32 :: t.data.toList) := by
    simp [ByteArray.data_append, List.replicate]
  rw [e]
  exact h

set_option maxRecDepth 100000 in
set_option maxHeartbeats 2000000 in
theorem core (k : Int) (s : ByteArray) (x : Int) (hx : k.tmod 1099511627777 = x) (x1 : -1099511627776 ≤ x) (x2 : x ≤ 1099511627776) (m : Nat) (hm : min (s.size : Int) 100 = (m : Int)) (m1 : (m : Int) ≤ (s.size : Int)) (t : ByteArray) (ht : s.extract 0 m = t) (htz : t.size ≤ 100) (w : World) (hP : Hid (Pow w)) :
    Calls Tryd.prog 5 #[.int .i64 k, .string s] w fun e w' => e = .returned (.bool true) ∧ Below w.heap.size w w' := by
  have hl := itoa_len x x1 x2
  have m0 : (0 : Int) ≤ (m : Int) := by omega
  have d1 : ¬ 9223372036854775807 < 2 + (Lib.itoa x).length := by omega
  have d2 : ¬ 9223372036854775807 < 2 + (Lib.itoa x).length + 1 := by omega
  have d3 : ¬ 9223372036854775807 < 2 + (Lib.itoa x).length + 1 + t.size := by omega
  have HZ1 : Hid ((⟨(Lib.itoa x).toArray⟩ : ByteArray).size ≤ 200) := by show _ ≤ _; simp [ByteArray.size]; omega
  have HZ2 : Hid (((⟨#[32, 32]⟩ : ByteArray) ++ ⟨(Lib.itoa x).toArray⟩ ++ ⟨#[32]⟩ ++ t).size ≤ 200) := by
    show _ ≤ _
    rw [ByteArray.size_append, ByteArray.size_append, ByteArray.size_append]
    have e1 : (⟨(Lib.itoa x).toArray⟩ : ByteArray).size = (Lib.itoa x).length := by simp [ByteArray.size]
    have e2 : (⟨#[32, 32]⟩ : ByteArray).size = 2 := rfl
    have e3 : (⟨#[32]⟩ : ByteArray).size = 1 := rfl
    omega
  have HN1 : Hid (numOf true 0 ⟨(Lib.itoa x).toArray⟩ = x) := num_self x x1 x2
  have HN2 : Hid (numOf true 0 ((⟨#[32, 32]⟩ : ByteArray) ++ ⟨(Lib.itoa x).toArray⟩ ++ ⟨#[32]⟩ ++ t) = x) := num_more x t x1 x2
  have HV : Hid (vf false x ⟨#[]⟩ = 0) := vf_f0 (by decide) x1 x2
  go_enter Tryd.func5, Tryd.ntmps5
  go_wp2_with fail
  refine (number_c x _).mono ?_
  rintro e w1 ⟨rfl, hb1⟩
  have B1 : Hid (Below w.heap.size w w1) := hb1
  go_wp2_with fail
  refine (str_c false x ⟨#[]⟩ _ x1 x2 (hP.out.stays B1.out)).mono ?_
  rintro e w2 ⟨rfl, hb2⟩
  have B2 : Hid (Below w.heap.size w w2) := bl_trans B1.out hb2
  rw [strOf_f]
  go_wp2_with fail
  refine (text_c _ _).mono ?_
  rintro e w3 ⟨rfl, hb3⟩
  have B3 : Hid (Below w.heap.size w w3) := bl_trans B2.out hb3
  clear hb1 hb2 hb3
  go_wp2_with fail
  refine (num_ok true 0 ⟨(Lib.itoa x).toArray⟩ _ HZ1.out (by rw [HN1.out]; exact x1) (by rw [HN1.out]; exact x2)).mono ?_
  rintro e w4 ⟨rfl, hb4⟩
  rw [HN1.out]
  have B4 : Hid (Below w.heap.size w w4) := bl_trans B3.out hb4
  clear hb4
  go_wp2_with fail
  go_region_held3 (fun _ => True) (trivial) (first
    | (go_at_call 18; refine (Tryd.strconv_Itoa x (by omega) (by omega) _ ?_).mono ?_; exact hP.out.stays B4.out.drew; rintro e w5 ⟨rfl, hg5⟩; have hb5 := below_grown_k hg5; have B5 : Hid (Below w.heap.size w w5) := bl_trans B4.out.drew hb5; clear hg5 hb5)
    | (go_at_call 15; refine (text_c _ _).mono ?_; rintro e w6 ⟨rfl, hb6⟩; have B6 : Hid (Below w.heap.size w w6) := bl_trans B5.out hb6; clear hb6)
    | (go_at_call 14; refine (num_ok true 0 _ _ HZ2.out ?_ ?_).mono ?_; (rw [HN2.out]; exact x1); (rw [HN2.out]; exact x2); rintro e w7 ⟨rfl, hb7⟩; rw [HN2.out]; have B7 : Hid (Below w.heap.size w w7) := bl_trans B6.out hb7; clear hb7))
  all_goals
    go_wp2_with fail
    refine (number_c x _).mono ?_
    rintro e w8 ⟨rfl, hb8⟩
    have B8 : Hid (Below w.heap.size w w8) := bl_trans B7.out hb8
    clear hb8
    go_wp2_with fail
    refine (check_c false x ⟨#[]⟩ _ (by decide)).mono ?_
    rintro e w9 ⟨rfl, hb9⟩
    rw [HV.out]
    go_wp2_with fail
    go_ret
    exact ⟨rfl, bl_trans B8.out hb9⟩

theorem walk (a : Int) (wa : (Lit.int .i64 a).wf = true) (s : ByteArray) (hs : s.size ≤ maxLen) (w : World) (hP : Pow w) :
    Calls Tryd.prog 5 #[.int .i64 a, .string s] w fun e w' => e = .returned (.bool true) ∧ Below w.heap.size w w' := by
  obtain ⟨x1, x2⟩ := tmodM a
  refine core a s _ rfl x1 x2 (min s.size 100) (by omega) (by omega) _ rfl ?_ w hP
  rw [ByteArray.size_extract]; omega

set_option maxRecDepth 100000 in
theorem lifted (os : Os) (started : os.Started) (H : Type) (enc : TypeId × Value → H) :
    ReturnsInHanded {} Tryd.checked os 5 .any (fun w args => (Rows.textsAsNumbersSpec.pre enc Tryd.prog Tryd.f5 Rows.textsAsNumbersRow.domain false w args ∧ laidMetH Tryd.prog Rows.textsAsNumbersRow.laid w) ∧ sizedMet enc Tryd.prog Tryd.f5 (OpenSpec.ofChange Rows.textsAsNumbersSpec) false w args)
      (Rows.textsAsNumbersSpec.post enc Tryd.prog Tryd.f5 false true false false) := by
  refine returnsInHanded_of_change_and (C := Tryd.checked) (X := fun w _ => laidMetH Tryd.prog Rows.textsAsNumbersRow.laid w) (fun _ _ _ hh h => h.of_heap hh) own started (by kernel_rfl) Tryd.func5
    (ChangeSpec.witness_shaped (enc := enc) (C := Tryd.checked) (os := os) (X := fun w _ => laidMetH Tryd.prog Rows.textsAsNumbersRow.laid w) false (World.laidAll Tryd.prog os Rows.textsAsNumbersRow.laid) #[.int .i64 0, .string ByteArray.empty] 8 (World.laidAll_os _ _ _)
      (World.shaped_of_ZipB (by kernel_rfl) (by kernel_rfl)) (by kernel_rfl) (by kernel_rfl) (by kernel_rfl)
      (by rw [MakeChecks.laidMetH_plain _ _ _ (by kernel_rfl)]; exact laidMet_laidAll _ (by kernel_rfl) (by kernel_rfl))) ?_
  intro W base args ds gs before hval0 hW hcnd hsz hL _
  rw [MakeChecks.laidMetH_plain _ _ _ (by kernel_rfl)] at hL
  have hval : ∀ (j : Nat) t v, Tryd.f5.params[j]? = some t → args[j]? = some v → Value.okWide Tryd.prog W .any base t v := hval0
  have hW' := hW
  obtain ⟨p, q, hA0, hV, rfl, hfz, hnd⟩ := hW
  have hA : DataW.TrodAll enc Tryd.prog W 0 (fun _ => true) true Tryd.f5.params.toList args.toList ds p := hA0
  rw [Tryd.params5] at hA hval
  have hP : Pow W := pow_of (show laidMet Tryd.prog ((_, Rows.laid_internal_strconv_uint64pow10) :: _) W from (laidMet.tail (laidMet.tail (hL))))
  obtain ⟨v0, vs0, d0, ds0, p0, q0, hargs, rfl, rfl, h0, r0⟩ := trodAll_cons hA
  obtain ⟨v1, vs1, d1, ds1, p1, q1, rfl, rfl, rfl, h1, r1⟩ := trodAll_cons r0
  obtain ⟨rfl, rfl, rfl⟩ := trodAll_nil r1
  obtain rfl : args = #[v0, v1] := by cases args; simp_all
  obtain ⟨rfl, rfl⟩ := trodVars_none hV
  have k0 := h0
  have lt0 : ∀ x ∈ p0, x.block < W.heap.size := by obtain ⟨m, hm⟩ := k0; exact DataW.trod_lt m _ _ _ hm
  obtain ⟨a0, rfl, rfl, rfl, w0⟩ := open_int Tryd.underlying3 (hval 0 3 v0 rfl rfl) h0
  have k1 := h1
  have lt1 : ∀ x ∈ p1, x.block < W.heap.size := by obtain ⟨m, hm⟩ := k1; exact DataW.trod_lt m _ _ _ hm
  obtain ⟨a1, rfl, rfl, rfl, w1⟩ := open_string Tryd.underlying9 (hval 1 9 v1 rfl rfl) h1
  clear hA0 hval0
  refine (walk a0 w0 a1 w1 W hP).mono fun e W' ⟨he, bel⟩ => ?_
  subst he
  exact ⟨_, rfl, _, _, _, [], _, [], hW', trodAll_mk1 (shut_bool Tryd.underlying4 _), (trodAll_cons_mk (Below.trod laidOut (by kernel_rfl) (of_decide_eq_true (by kernel_rfl)) k0 bel lt0) (trodAll_cons_mk (Below.trod laidOut (by kernel_rfl) (of_decide_eq_true (by kernel_rfl)) k1 bel lt1) trodAll_mk0)), rfl, bel.frame _, fun h => by cases h⟩

theorem over : Rows.textsAsNumbersRow.holds Tryd.pinned (OpenSpec.ofChange Rows.textsAsNumbersSpec) :=
  OpenClaim.holds_of_wide 5 Tryd.f5 rfl rfl rfl rfl rfl rfl rfl ⟨rfl, rfl, rfl, rfl, rfl⟩ rfl rfl rfl rfl rfl (by kernel_rfl) Tryd.func5 (by kernel_rfl)
    (of_decide_eq_true (by kernel_rfl)) (by unfold Func.isWrapper; rw [if_neg (of_decide_eq_false (by kernel_rfl))]; exact ⟨rfl, rfl⟩)
    (fun os started H enc _ => lifted os started H enc)

theorem card : Rows.TextsAsNumbersCardSaid :=
  Claim7.holds_tied_plain_at .later [] [.data, .data, .data, .data, .pinned] true (true, "6c26c0187a3396e3fb5204ccd2482c4d779497168c111a81a531b6312885ccb6") false
    over (fun _ h => by cases h) (by kernel_rfl) (fun _ h => by cases h) textsAsNumbers_row_tie rfl ⟨rfl, rfl⟩ (by kernel_rfl) rfl
    (fun f fn hf hfn => by
      obtain rfl : f = 5 := Option.some.inj ((show Tryd.prog.funcNamed Rows.textsAsNumbersRow.func = some 5 by kernel_rfl).symm.trans hf) |>.symm
      obtain rfl : fn = Tryd.f5 := (Option.some.inj (Tryd.func5.symm.trans hfn)).symm
      exact ⟨by kernel_rfl, fun j t ht => by
        rw [Tryd.params5] at ht
        have hm : t ∈ [3, 9] := by simpa using Array.mem_of_getElem? ht
        have hall : ([3, 9].all fun u => !Tryd.prog.wantsStandIn u) = true := by kernel_rfl
        exact (show Tryd.prog.wantsStandIn t = false by simpa using List.all_eq_true.1 hall t hm)⟩)
    (by kernel_rfl)
end Go.Proofs.YtejcmammdmpcoabDoor.textsAsNumbers

namespace Go.Proofs.YtejcmammdmpcoabDoor
/-- THE STATEMENT. -/
theorem textsAsNumbers_card : Rows.TextsAsNumbersCardSaid := textsAsNumbers.card
#print axioms textsAsNumbers_card
end Go.Proofs.YtejcmammdmpcoabDoor
