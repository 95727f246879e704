/-
  SourcesBad: for every number the law returns true: each of twenty texts that are no program is refused by syntax.Read, with the error that the document names; what was in memory stays. The row lists tables of package syntax and of the library, tied to the text of the program. No condition.
-/
import Derived.Test.YtcmipgonogbolaaGreatDoorKeepBase
import Derived.Test.YtcmipgonogbolaaGreatDoorTie
import Derived.Test.YtcmipgonogbolaaGreatDoorCards
namespace Go.Proofs.YtcmipgonogbolaaGreatDoor.sourcesBad
open Go.ChangeShapes Go.WideShapes Go.ChangeAt Go.RowKit Go.Joins
set_option linter.unusedVariables false
set_option maxRecDepth 100000

def oddL : List (List UInt8) := [[123], [123, 32, 120, 32, 125], [123, 32, 120, 32, 61, 32, 59, 32, 125], [123, 32, 112, 114, 105, 110, 116, 59, 32, 125], [66, 69, 71, 73, 78, 32, 123, 32, 110, 101, 120, 116, 59, 32, 125], [123, 32, 108, 111, 97, 100, 32, 34, 97, 34, 32, 98, 59, 32, 125], [123, 32, 120, 32, 61, 32, 49, 59, 32, 120, 91, 49, 93, 32, 61, 32, 50, 59, 32, 125], [123, 32, 120, 32, 61, 32, 48, 49, 59, 32, 125], [123, 32, 120, 32, 61, 32, 49, 48, 57, 57, 53, 49, 49, 54, 50, 55, 55, 55, 55, 59, 32, 125], [123, 32, 120, 32, 61, 32, 34, 97, 32, 125], [123, 32, 120, 32, 61, 32, 34, 92, 113, 34, 59, 32, 125], [123, 32, 120, 32, 61, 32, 63, 59, 32, 125], [123, 32, 105, 102, 32, 61, 32, 49, 59, 32, 125], [123, 32, 97, 98, 99, 100, 101, 102, 103, 104, 105, 32, 61, 32, 49, 59, 32, 125], [123, 32, 120, 32, 61, 32, 108, 101, 110, 103, 116, 104, 40, 49, 44, 32, 50, 41, 59, 32, 125], [123, 32, 120, 32, 61, 32, 115, 117, 98, 115, 116, 114, 40, 49, 41, 59, 32, 125], [120], [123, 32, 102, 111, 114, 32, 40, 120, 32, 105, 110, 32, 49, 41, 32, 123, 32, 125, 32, 125], [69, 78, 68, 32, 120, 32, 123, 32, 125], [123, 32, 120, 32, 61, 32, 34, 97, 10, 98, 34, 59, 32, 125]]
def errL : List Int := [5, 4, 4, 4, 7, 7, 6, 4, 2, 5, 4, 4, 4, 4, 4, 4, 5, 4, 4, 4]

theorem bad_all : (List.range 20).all (fun k => decide (errOf (readR (oddL.getD k [])) = errL.getD k 0)) = true := by kernel_rfl
theorem bad (k : Nat) (hk : k < 20) : readR (oddL.getD k []) = .error (errL.getD k 0) := by
  have h1 := List.all_eq_true.1 bad_all k (by simpa using hk)
  have h2 := of_decide_eq_true h1
  have h3 : ∀ k, k < 20 → errL.getD k 0 ≠ 0 := by decide
  unfold errOf at h2
  split at h2
  · rename_i e he; rw [he, h2]
  · exact absurd h2.symm (h3 k hk)

set_option maxHeartbeats 4000000 in
theorem walk (n : Int) (hn : (Lit.int .i64 n).wf = true) (w : World) (hT : Tr w) :
    Calls Tryz.prog 4 #[.int .i64 n] w fun e w' => e = .returned (.bool true) ∧ Below w.heap.size w w' := by
  obtain ⟨A, hA⟩ : ∃ A : Array Value, A = #[.string ⟨#[123]⟩, .string ⟨#[123, 32, 120, 32, 125]⟩, .string ⟨#[123, 32, 120, 32, 61, 32, 59, 32, 125]⟩, .string ⟨#[123, 32, 112, 114, 105, 110, 116, 59, 32, 125]⟩, .string ⟨#[66, 69, 71, 73, 78, 32, 123, 32, 110, 101, 120, 116, 59, 32, 125]⟩, .string ⟨#[123, 32, 108, 111, 97, 100, 32, 34, 97, 34, 32, 98, 59, 32, 125]⟩, .string ⟨#[123, 32, 120, 32, 61, 32, 49, 59, 32, 120, 91, 49, 93, 32, 61, 32, 50, 59, 32, 125]⟩, .string ⟨#[123, 32, 120, 32, 61, 32, 48, 49, 59, 32, 125]⟩, .string ⟨#[123, 32, 120, 32, 61, 32, 49, 48, 57, 57, 53, 49, 49, 54, 50, 55, 55, 55, 55, 59, 32, 125]⟩, .string ⟨#[123, 32, 120, 32, 61, 32, 34, 97, 32, 125]⟩, .string ⟨#[123, 32, 120, 32, 61, 32, 34, 92, 113, 34, 59, 32, 125]⟩, .string ⟨#[123, 32, 120, 32, 61, 32, 63, 59, 32, 125]⟩, .string ⟨#[123, 32, 105, 102, 32, 61, 32, 49, 59, 32, 125]⟩, .string ⟨#[123, 32, 97, 98, 99, 100, 101, 102, 103, 104, 105, 32, 61, 32, 49, 59, 32, 125]⟩, .string ⟨#[123, 32, 120, 32, 61, 32, 108, 101, 110, 103, 116, 104, 40, 49, 44, 32, 50, 41, 59, 32, 125]⟩, .string ⟨#[123, 32, 120, 32, 61, 32, 115, 117, 98, 115, 116, 114, 40, 49, 41, 59, 32, 125]⟩, .string ⟨#[120]⟩, .string ⟨#[123, 32, 102, 111, 114, 32, 40, 120, 32, 105, 110, 32, 49, 41, 32, 123, 32, 125, 32, 125]⟩, .string ⟨#[69, 78, 68, 32, 120, 32, 123, 32, 125]⟩, .string ⟨#[123, 32, 120, 32, 61, 32, 34, 97, 10, 98, 34, 59, 32, 125]⟩] := ⟨_, rfl⟩
  obtain ⟨B, hB⟩ : ∃ B : Array Value, B = #[.int .i64 5, .int .i64 4, .int .i64 4, .int .i64 4, .int .i64 7, .int .i64 7, .int .i64 6, .int .i64 4, .int .i64 2, .int .i64 5, .int .i64 4, .int .i64 4, .int .i64 4, .int .i64 4, .int .i64 4, .int .i64 4, .int .i64 5, .int .i64 4, .int .i64 4, .int .i64 4] := ⟨_, rfl⟩
  obtain ⟨W, hW⟩ : ∃ W, W = (w.alloc (.cells A 9)).alloc (.cells B 29) := ⟨_, rfl⟩
  have hz : (w.alloc (.cells A 9)).heap.size = w.heap.size + 1 := by simp
  have HA : Hid (Below w.heap.size w W) := by rw [hW]; exact ((Below.refl _ _).alloc (Nat.le_refl _) _).alloc (by rw [hz]; omega) _
  have HO : Hid (RowAt W w.heap.size A) := by rw [hW]; exact (RowAt.new w A _).below ((Below.refl _ _).alloc (Nat.le_refl _) _)
  have HB : Hid (RowAt W (w.heap.size + 1) B) := by
    have h2 := RowAt.new (w.alloc (.cells A 9)) B 29
    rw [hz] at h2
    rw [hW]; exact h2
  have HSW : Hid (w.heap.size + 1 < W.heap.size) := by rw [hW]; simp [Hid]
  have HWW : Hid (W = _) := hW
  have HAA : Hid (∀ k, k < 20 → A[k]? = some (.string (bs (oddL.getD k [])))) := by
    intro k hk
    have e : A = (oddL.map fun t => Value.string (bs t)).toArray := by rw [hA]; rfl
    rw [e, List.getElem?_toArray]
    have h : ∀ k, k < 20 → (oddL.map fun t => Value.string (bs t))[k]? = some (.string (bs (oddL.getD k []))) := fun k hk => by
      rw [List.getElem?_map, List.getElem?_eq_getElem (show k < oddL.length from hk)]
      simp [List.getD, List.getElem?_eq_getElem (show k < oddL.length from hk)]
    exact h k hk
  have HBB : Hid (∀ k, k < 20 → B[k]? = some (.int .i64 (errL.getD k 0))) := by
    intro k hk
    have e : B = (errL.map fun t => Value.int .i64 t).toArray := by rw [hB]; rfl
    rw [e, List.getElem?_toArray]
    have h : ∀ k, k < 20 → (errL.map fun t => Value.int .i64 t)[k]? = some (.int .i64 (errL.getD k 0)) := fun k hk => by
      rw [List.getElem?_map, List.getElem?_eq_getElem (show k < errL.length from hk)]
      simp [List.getD, List.getElem?_eq_getElem (show k < errL.length from hk)]
    exact h k hk
  have HT : Hid (Tr w) := hT
  have HC : Hid _ := picked_c n 20 W hn (by decide) (by decide)
  have HAE : Hid (A = _) := hA
  have HBE : Hid (B = _) := hB
  clear hW hz hT hA hB
  go_enter Tryz.func4, Tryz.ntmps4
  go_wp2_with fail
  rw [← HAE.out, ← HBE.out, ← HWW.out]
  clear HWW HAE HBE
  refine Calls.mono HC.out ?_
  rintro e w1 ⟨k, hk, rfl, hw1⟩
  rw [hw1]
  clear hw1 w1 HC
  have q0 := (HO.out.cell k).trans (HAA.out k hk)
  have i1 : (k : Int) < 20 := by omega
  have i2 : (0 : Int) ≤ (k : Int) := by omega
  obtain ⟨S, hS⟩ : ∃ S, S = bs (oddL.getD k []) := ⟨_, rfl⟩
  have hlen : S.size ≤ maxLen := by
    rw [hS, bs_size]
    have : ∀ k, k < 20 → (oddL.getD k []).length ≤ 100 := by decide
    have := this k hk
    unfold maxLen; omega
  have hrd := read_c S W hlen (HT.out.stays HA.out)
  have hST : readR S.toList = .error (errL.getD k 0) := by rw [hS, bs_list]; exact bad k hk
  have HRD : Hid _ := hrd
  have HRS : Hid _ := hST
  obtain ⟨E, hE⟩ : ∃ E, E = errL.getD k 0 := ⟨_, rfl⟩
  have HEE : Hid (E = errL.getD k 0) := hE
  rw [← hS] at q0
  clear hS hlen hrd hST hE
  go_wp2_with fail
  refine Calls.mono HRD.out ?_
  rintro e w2 ⟨hb, hr⟩
  rw [HRS.out] at hr
  have hr' : e = .returned (.tuple #[.agg #[.slice none 0 0], .int .i64 E]) := by rw [HEE.out]; exact hr
  subst hr'
  have HB2 : Hid (Below w.heap.size w w2) := bl_trans HA.out hb
  have q1 : w2.cell? ⟨w.heap.size + 1, k, none⟩ = some (.int .i64 E) := by
    rw [hb.cell (p := ⟨w.heap.size + 1, k, none⟩) HSW.out, HB.out.cell, HBB.out k hk, HEE.out]
  have hlt2 : w.heap.size + 1 < w2.heap.size := Nat.lt_of_lt_of_le HSW.out hb.size
  have hne2 : ¬ w.heap.size + 1 = w2.heap.size := by omega
  clear hb hr HRD
  go_wp2_with fail
  go_ret
  exact ⟨ret_bool (by simp), HB2.out.alloc HB2.out.size _⟩

theorem lifted (os : Os) (started : os.Started) (H : Type) (enc : TypeId × Value → H) :
    ReturnsInHanded {} Tryz.checked os 4 .any (fun w args => (Rows.sourcesBadSpec.pre enc Tryz.prog Tryz.f4 Rows.sourcesBadRow.domain false w args ∧ laidMetH Tryz.prog Rows.sourcesBadRow.laid w) ∧ sizedMet enc Tryz.prog Tryz.f4 (OpenSpec.ofChange Rows.sourcesBadSpec) false w args)
      (Rows.sourcesBadSpec.post enc Tryz.prog Tryz.f4 false true false false) := by
  refine returnsInHanded_of_change_and (C := Tryz.checked) (X := fun w _ => laidMetH Tryz.prog Rows.sourcesBadRow.laid w) (fun _ _ _ hh h => h.of_heap hh) own started (by kernel_rfl) Tryz.func4
    (ChangeSpec.witness_shaped (enc := enc) (C := Tryz.checked) (os := os) (X := fun w _ => laidMetH Tryz.prog Rows.sourcesBadRow.laid w) false (World.laidAll Tryz.prog os Rows.sourcesBadRow.laid) #[.int .i64 0] 8 (World.laidAll_os _ _ _)
      (World.shaped_of_ZipB (by kernel_rfl) (by kernel_rfl)) (by kernel_rfl) (by kernel_rfl) (by kernel_rfl)
      (by rw [MakeChecks.laidMetH_plain _ _ _ (by kernel_rfl)]; exact laidMet_laidAll _ (by kernel_rfl) (by kernel_rfl))) ?_
  intro W base args ds gs before hval0 hW hcnd hsz hL _
  rw [MakeChecks.laidMetH_plain _ _ _ (by kernel_rfl)] at hL
  have hval : ∀ (j : Nat) t v, Tryz.f4.params[j]? = some t → args[j]? = some v → Value.okWide Tryz.prog W .any base t v := hval0
  have hW' := hW
  obtain ⟨p, q, hA0, hV, rfl, hfz, hnd⟩ := hW
  have hA : DataW.TrodAll enc Tryz.prog W 0 (fun _ => true) true Tryz.f4.params.toList args.toList ds p := hA0
  rw [Tryz.params4] at hA hval
  obtain ⟨v0, vs0, d0, ds0, p0, q0, hargs, rfl, rfl, h0, r0⟩ := trodAll_cons hA
  obtain ⟨rfl, rfl, rfl⟩ := trodAll_nil r0
  obtain rfl : args = #[v0] := by cases args; simp_all
  obtain ⟨rfl, rfl⟩ := trodVars_none hV
  have k0 := h0
  have lt0 : ∀ x ∈ p0, x.block < W.heap.size := by obtain ⟨m, hm⟩ := k0; exact DataW.trod_lt m _ _ _ hm
  obtain ⟨n0, rfl, rfl, rfl, w0⟩ := open_int Tryz.underlying3 (hval 0 3 v0 rfl rfl) h0
  clear hA0 hval0
  refine (walk n0 w0 W (tr_of (show laidMet Tryz.prog ((_, Rows.laid_tillage_syntax_words) :: _) W from (laidMet.tail (laidMet.tail (laidMet.tail (laidMet.tail (laidMet.tail (laidMet.tail (hL)))))))) (show laidMet Tryz.prog ((_, Rows.laid_tillage_syntax_levels) :: _) W from (laidMet.tail (laidMet.tail (laidMet.tail (laidMet.tail (laidMet.tail (laidMet.tail (laidMet.tail (laidMet.tail (hL)))))))))) (show laidMet Tryz.prog ((_, Rows.laid_tillage_syntax_functions) :: _) W from (laidMet.tail (laidMet.tail (laidMet.tail (laidMet.tail (laidMet.tail (laidMet.tail (laidMet.tail (laidMet.tail (laidMet.tail (laidMet.tail (hL)))))))))))) (show laidMet Tryz.prog ((_, Rows.laid_tillage_syntax_argsOfKind) :: _) W from (laidMet.tail (laidMet.tail (laidMet.tail (laidMet.tail (laidMet.tail (laidMet.tail (laidMet.tail (laidMet.tail (laidMet.tail (laidMet.tail (laidMet.tail (hL))))))))))))) (show laidMet Tryz.prog ((_, Rows.laid_tillage_syntax_exprsOfKind) :: _) W from (laidMet.tail (laidMet.tail (laidMet.tail (laidMet.tail (laidMet.tail (laidMet.tail (laidMet.tail (laidMet.tail (laidMet.tail (laidMet.tail (laidMet.tail (laidMet.tail (hL)))))))))))))) (show laidMet Tryz.prog ((_, Rows.laid_tillage_syntax_prefixes) :: _) W from (laidMet.tail (laidMet.tail (laidMet.tail (laidMet.tail (laidMet.tail (laidMet.tail (laidMet.tail (laidMet.tail (laidMet.tail (hL))))))))))) (show laidMet Tryz.prog ((_, Rows.laid_tillage_syntax_signs) :: _) W from (laidMet.tail (laidMet.tail (laidMet.tail (laidMet.tail (laidMet.tail (laidMet.tail (laidMet.tail (hL))))))))) (show laidMet Tryz.prog ((_, Rows.laid_strconv_ErrRange) :: _) W from (laidMet.tail (laidMet.tail (laidMet.tail (laidMet.tail (hL)))))))).mono fun e W' ⟨he, bel⟩ => ?_
  subst he
  exact ⟨_, rfl, _, _, _, [], _, [], hW', trodAll_mk1 (shut_bool Tryz.underlying4 _), (trodAll_cons_mk (Below.trod laidOut (by kernel_rfl) (of_decide_eq_true (by kernel_rfl)) k0 bel lt0) trodAll_mk0), rfl, bel.frame _, fun h => by cases h⟩

theorem over : Rows.sourcesBadRow.holds Tryz.pinned (OpenSpec.ofChange Rows.sourcesBadSpec) :=
  OpenClaim.holds_of_wide 4 Tryz.f4 rfl rfl rfl rfl rfl rfl rfl ⟨rfl, rfl, rfl, rfl, rfl⟩ rfl rfl rfl rfl rfl (by kernel_rfl) Tryz.func4 (by kernel_rfl)
    (of_decide_eq_true (by kernel_rfl)) (by unfold Func.isWrapper; rw [if_neg (of_decide_eq_false (by kernel_rfl))]; exact ⟨rfl, rfl⟩)
    (fun os started H enc _ => lifted os started H enc)

theorem card : Rows.SourcesBadCardSaid :=
  Claim7.holds_tied_plain_at .later [] [.data, .data, .data, .data, .sentinel, .sentinel, .data, .data, .data, .data, .data, .data, .data, .pinned] true (true, "5f47e39fed11de7b8a812e8ee81e6ec1c972562c3b9e5644b0991903c8b36874") true
    over (fun _ h => by cases h) (by kernel_rfl) (fun _ h => by cases h) sourcesBad_row_tie rfl ⟨rfl, rfl⟩ (by kernel_rfl) rfl
    (fun f fn hf hfn => by
      obtain rfl : f = 4 := Option.some.inj ((show Tryz.prog.funcNamed Rows.sourcesBadRow.func = some 4 by kernel_rfl).symm.trans hf) |>.symm
      obtain rfl : fn = Tryz.f4 := (Option.some.inj (Tryz.func4.symm.trans hfn)).symm
      exact ⟨by kernel_rfl, fun j t ht => by
        rw [Tryz.params4] at ht
        have hm : t ∈ [3] := by simpa using Array.mem_of_getElem? ht
        have hall : ([3].all fun u => !Tryz.prog.wantsStandIn u) = true := by kernel_rfl
        exact (show Tryz.prog.wantsStandIn t = false by simpa using List.all_eq_true.1 hall t hm)⟩)
    (by kernel_rfl)
end Go.Proofs.YtcmipgonogbolaaGreatDoor.sourcesBad

namespace Go.Proofs.YtcmipgonogbolaaGreatDoor
/-- THE STATEMENT. -/
theorem sourcesBad_card : Rows.SourcesBadCardSaid := sourcesBad.card
#print axioms sourcesBad_card
end Go.Proofs.YtcmipgonogbolaaGreatDoor
