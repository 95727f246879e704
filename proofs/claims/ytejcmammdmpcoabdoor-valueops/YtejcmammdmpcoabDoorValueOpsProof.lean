/-
  ValueOps: for every operator and two values the law returns true: of values that may be, value.Op answers the value and the end that the document says; what was in memory stays. The row lists the tables that the library names, tied to the text of the program; the call reads uint64pow10 alone.
-/
import Derived.Test.YtejcmammdmpcoabDoorVf
import Derived.Test.YtejcmammdmpcoabDoorOpAll
import Derived.Test.YtejcmammdmpcoabDoorTie
import Derived.Test.YtejcmammdmpcoabDoorCards
import Derived.Lay
import Derived.LaidMore
import Derived.SevenTiedAt
import Derived.Stop.Joined
import Derived.Stop.LaidErr
namespace Go.Proofs.YtejcmammdmpcoabDoor.valueOps
open Go.ChangeShapes Go.WideShapes Go.ChangeAt Go.RowKit Go.Joins
open Go.ChangeMaps (open_string shut_string)
set_option linter.unusedVariables false

theorem may {t : Bool} {n : Int} {s : ByteArray} (h : vf t n s = 0) : s.size ≤ 200 ∧ -1099511627776 ≤ n ∧ n ≤ 1099511627776 := by
  rcases vf_ok h with ⟨_, rfl, h1⟩ | ⟨_, rfl, h1, h2⟩
  · exact ⟨h1, by omega, by omega⟩
  · exact ⟨by decide, h1, h2⟩

set_option maxHeartbeats 1000000 in
theorem walk (op : ByteArray) (wop : op.size ≤ maxLen) (t1 : Bool) (n1 : Int) (s1 : ByteArray) (wn1 : (Lit.int .i64 n1).wf = true) (hs1 : s1.size ≤ maxLen) (t2 : Bool) (n2 : Int) (s2 : ByteArray) (wn2 : (Lit.int .i64 n2).wf = true) (hs2 : s2.size ≤ maxLen) (w : World) (hP : Pow w) :
    Calls Tryd.prog 3 #[.string op, .agg #[.bool t1, .int .i64 n1, .string s1], .agg #[.bool t2, .int .i64 n2, .string s2]] w fun e w' => e = .returned (.bool true) ∧ Below w.heap.size w w' := by
  have HP : Hid (Pow w) := hP
  clear hP wop wn1 wn2
  by_cases h0 : vf t1 n1 s1 = 0
  · obtain ⟨z1, a1, a2⟩ := may h0
    have H0 : Hid (vf t1 n1 s1 = 0) := h0
    clear h0
    by_cases k0 : vf t2 n2 s2 = 0
    · obtain ⟨z2, b1, b2⟩ := may k0
      have K0 : Hid (vf t2 n2 s2 = 0) := k0
      clear k0
      obtain ⟨rt, rn, rs, re, hr⟩ : ∃ rt rn rs re, opSpec op t1 n1 s1 t2 n2 s2 = (rt, rn, rs, re) := ⟨_, _, _, _, rfl⟩
      have HR : Hid (opSpec op t1 n1 s1 t2 n2 s2 = (rt, rn, rs, re)) := hr
      clear hr
      go_enter Tryd.func3, Tryd.ntmps3
      go_wp2_with fail
      refine (valueFault_c t1 n1 s1 _ hs1).mono ?_
      rintro e w1 ⟨rfl, hb⟩
      rw [H0.out]
      obtain ⟨hc, hf⟩ := bcell hb
      have hz : w.heap.size + 1 < w1.heap.size := by have := hb.size; simp at this; omega
      have hz0 : w.heap.size < w1.heap.size := by omega
      have HB1 : Hid (Below w.heap.size w w1) := bl_trans (by go_grown) hb
      go_wp2_with fail
      refine (valueFault_c t2 n2 s2 _ hs2).mono ?_
      rintro e w2 ⟨rfl, hb2⟩
      rw [K0.out]
      obtain ⟨hc2, hf2⟩ := bcell hb2
      have hy : w.heap.size + 1 < w2.heap.size := by have := hb2.size; omega
      have hy0 : w.heap.size < w2.heap.size := by omega
      have HB2 : Hid (Below w.heap.size w w2) := bl_trans HB1.out hb2
      go_wp2_with fail
      refine (op_c op t1 n1 s1 t2 n2 s2 _ z1 z2 a1 a2 b1 b2 (HP.out.stays HB2.out)).mono ?_
      rintro e w3 ⟨rfl, hb3⟩
      rw [HR.out]
      obtain ⟨hc3, hf3⟩ := bcell hb3
      have hx : w.heap.size + 1 < w3.heap.size := by have := hb3.size; omega
      have hx0 : w.heap.size < w3.heap.size := by omega
      have HB3 : Hid (Below w.heap.size w w3) := bl_trans HB2.out hb3
      simp only [vt]
      go_wp2_with fail
      refine (opOf_c op t1 n1 s1 t2 n2 s2 _ z1 z2 a1 a2 b1 b2).mono ?_
      rintro e w4 ⟨rfl, hb4⟩
      rw [HR.out]
      obtain ⟨hc4, hf4⟩ := bcell hb4
      have hv : w3.heap.size < w4.heap.size := by have := hb4.size; simp at this; omega
      have HB4 : Hid (Below w.heap.size w w4) := bl_trans (Below.alloc HB3.out (by omega) _) hb4
      simp only [vt]
      go_wp2_with fail
      go_ret
      exact ⟨rfl, Below.alloc HB4.out (by omega) _⟩
    · have h1 : (vf t2 n2 s2 != 0) = true := by rw [bne_iff_ne]; exact k0
      clear k0
      go_enter Tryd.func3, Tryd.ntmps3
      go_wp2_with fail
      refine (valueFault_c t1 n1 s1 _ hs1).mono ?_
      rintro e w1 ⟨rfl, hb⟩
      rw [H0.out]
      obtain ⟨hc, hf⟩ := bcell hb
      have hz : w.heap.size + 1 < w1.heap.size := by have := hb.size; simp at this; omega
      have HB1 : Hid (Below w.heap.size w w1) := bl_trans (by go_grown) hb
      go_wp2_with fail
      refine (valueFault_c t2 n2 s2 _ hs2).mono ?_
      rintro e w2 ⟨rfl, hb2⟩
      go_wp2_with fail
      go_ret
      exact ⟨rfl, bl_trans HB1.out hb2⟩
  · have h1 : (vf t1 n1 s1 != 0) = true := by rw [bne_iff_ne]; exact h0
    clear h0
    go_enter Tryd.func3, Tryd.ntmps3
    go_wp2_with fail
    refine (valueFault_c t1 n1 s1 _ hs1).mono ?_
    rintro e w1 ⟨rfl, hb⟩
    go_wp2_with fail
    go_ret
    exact ⟨rfl, bl_trans (by go_grown) hb⟩

set_option maxRecDepth 100000 in
theorem lifted (os : Os) (started : os.Started) (H : Type) (enc : TypeId × Value → H) :
    ReturnsInHanded {} Tryd.checked os 3 .any (fun w args => (Rows.valueOpsSpec.pre enc Tryd.prog Tryd.f3 Rows.valueOpsRow.domain false w args ∧ laidMetH Tryd.prog Rows.valueOpsRow.laid w) ∧ sizedMet enc Tryd.prog Tryd.f3 (OpenSpec.ofChange Rows.valueOpsSpec) false w args)
      (Rows.valueOpsSpec.post enc Tryd.prog Tryd.f3 false true false false) := by
  refine returnsInHanded_of_change_and (C := Tryd.checked) (X := fun w _ => laidMetH Tryd.prog Rows.valueOpsRow.laid w) (fun _ _ _ hh h => h.of_heap hh) own started (by kernel_rfl) Tryd.func3
    (ChangeSpec.witness_shaped (enc := enc) (C := Tryd.checked) (os := os) (X := fun w _ => laidMetH Tryd.prog Rows.valueOpsRow.laid w) false (World.laidAll Tryd.prog os Rows.valueOpsRow.laid) #[.string ByteArray.empty, .agg #[.bool false, .int .i64 0, .string ByteArray.empty], .agg #[.bool false, .int .i64 0, .string ByteArray.empty]] 8 (World.laidAll_os _ _ _)
      (World.shaped_of_ZipB (by kernel_rfl) (by kernel_rfl)) (by kernel_rfl) (by kernel_rfl) (by kernel_rfl)
      (by rw [MakeChecks.laidMetH_plain _ _ _ (by kernel_rfl)]; exact laidMet_laidAll _ (by kernel_rfl) (by kernel_rfl))) ?_
  intro W base args ds gs before hval0 hW hcnd hsz hL _
  rw [MakeChecks.laidMetH_plain _ _ _ (by kernel_rfl)] at hL
  have hval : ∀ (j : Nat) t v, Tryd.f3.params[j]? = some t → args[j]? = some v → Value.okWide Tryd.prog W .any base t v := hval0
  have hW' := hW
  obtain ⟨p, q, hA0, hV, rfl, hfz, hnd⟩ := hW
  have hA : DataW.TrodAll enc Tryd.prog W 0 (fun _ => true) true Tryd.f3.params.toList args.toList ds p := hA0
  rw [Tryd.params3] at hA hval
  have hP : Pow W := pow_of (show laidMet Tryd.prog ((_, Rows.laid_internal_strconv_uint64pow10) :: _) W from (laidMet.tail (laidMet.tail (hL))))
  obtain ⟨v0, vs0, d0, ds0, p0, q0, hargs, rfl, rfl, h0, r0⟩ := trodAll_cons hA
  obtain ⟨v1, vs1, d1, ds1, p1, q1, rfl, rfl, rfl, h1, r1⟩ := trodAll_cons r0
  obtain ⟨v2, vs2, d2, ds2, p2, q2, rfl, rfl, rfl, h2, r2⟩ := trodAll_cons r1
  obtain ⟨rfl, rfl, rfl⟩ := trodAll_nil r2
  obtain rfl : args = #[v0, v1, v2] := by cases args; simp_all
  obtain ⟨rfl, rfl⟩ := trodVars_none hV
  have k0 := h0
  have lt0 : ∀ x ∈ p0, x.block < W.heap.size := by obtain ⟨m, hm⟩ := k0; exact DataW.trod_lt m _ _ _ hm
  obtain ⟨a0, rfl, rfl, rfl, w0⟩ := open_string Tryd.underlying9 (hval 0 9 v0 rfl rfl) h0
  have k1 := h1
  have lt1 : ∀ x ∈ p1, x.block < W.heap.size := by obtain ⟨m, hm⟩ := k1; exact DataW.trod_lt m _ _ _ hm
  obtain ⟨t1, n1, s1, rfl, wn1, hs1⟩ := open_value (hval 1 23 v1 rfl rfl) h1
  have k2 := h2
  have lt2 : ∀ x ∈ p2, x.block < W.heap.size := by obtain ⟨m, hm⟩ := k2; exact DataW.trod_lt m _ _ _ hm
  obtain ⟨t2, n2, s2, rfl, wn2, hs2⟩ := open_value (hval 2 23 v2 rfl rfl) h2
  clear hA0 hval0
  refine (walk a0 w0 t1 n1 s1 wn1 hs1 t2 n2 s2 wn2 hs2 W hP).mono fun e W' ⟨he, bel⟩ => ?_
  subst he
  exact ⟨_, rfl, _, _, _, [], _, [], hW', trodAll_mk1 (shut_bool Tryd.underlying4 _), (trodAll_cons_mk (Below.trod laidOut (by kernel_rfl) (of_decide_eq_true (by kernel_rfl)) k0 bel lt0) (trodAll_cons_mk (Below.trod laidOut (by kernel_rfl) (of_decide_eq_true (by kernel_rfl)) k1 bel lt1) (trodAll_cons_mk (Below.trod laidOut (by kernel_rfl) (of_decide_eq_true (by kernel_rfl)) k2 bel lt2) trodAll_mk0))), rfl, bel.frame _, fun h => by cases h⟩

theorem over : Rows.valueOpsRow.holds Tryd.pinned (OpenSpec.ofChange Rows.valueOpsSpec) :=
  OpenClaim.holds_of_wide 3 Tryd.f3 rfl rfl rfl rfl rfl rfl rfl ⟨rfl, rfl, rfl, rfl, rfl⟩ rfl rfl rfl rfl rfl (by kernel_rfl) Tryd.func3 (by kernel_rfl)
    (of_decide_eq_true (by kernel_rfl)) (by unfold Func.isWrapper; rw [if_neg (of_decide_eq_false (by kernel_rfl))]; exact ⟨rfl, rfl⟩)
    (fun os started H enc _ => lifted os started H enc)

theorem card : Rows.ValueOpsCardSaid :=
  Claim7.holds_tied_plain_at .later [] [.data, .data, .data, .data, .pinned] true (true, "6c26c0187a3396e3fb5204ccd2482c4d779497168c111a81a531b6312885ccb6") false
    over (fun _ h => by cases h) (by kernel_rfl) (fun _ h => by cases h) valueOps_row_tie rfl ⟨rfl, rfl⟩ (by kernel_rfl) rfl
    (fun f fn hf hfn => by
      obtain rfl : f = 3 := Option.some.inj ((show Tryd.prog.funcNamed Rows.valueOpsRow.func = some 3 by kernel_rfl).symm.trans hf) |>.symm
      obtain rfl : fn = Tryd.f3 := (Option.some.inj (Tryd.func3.symm.trans hfn)).symm
      exact ⟨by kernel_rfl, fun j t ht => by
        rw [Tryd.params3] at ht
        have hm : t ∈ [9, 23, 23] := by simpa using Array.mem_of_getElem? ht
        have hall : ([9, 23, 23].all fun u => !Tryd.prog.wantsStandIn u) = true := by kernel_rfl
        exact (show Tryd.prog.wantsStandIn t = false by simpa using List.all_eq_true.1 hall t hm)⟩)
    (by kernel_rfl)
end Go.Proofs.YtejcmammdmpcoabDoor.valueOps

namespace Go.Proofs.YtejcmammdmpcoabDoor
/-- THE STATEMENT. -/
theorem valueOps_card : Rows.ValueOpsCardSaid := valueOps.card
#print axioms valueOps_card
end Go.Proofs.YtejcmammdmpcoabDoor
