/-
  DeepEnough: for every number the law returns true: a source whose brackets are too deep is refused by syntax.Read, and the empty program is printed as the empty text; one that is not too deep is read, and what is printed of it holds the innermost bracket; what was in memory stays. The row lists tables of package syntax and of the library, tied to the text of the program; MaxLen is read with whatever int it holds. No condition.
-/
import Derived.Test.YtfbpkbochhfnhaaGreatDoorKeepMore
import Derived.Lib.Repeat
import Derived.Lib.IndexMore
import Derived.Test.YtfbpkbochhfnhaaGreatDoorTie
import Derived.Test.YtfbpkbochhfnhaaGreatDoorCards
namespace Go.Proofs.YtfbpkbochhfnhaaGreatDoor.deepEnough
open Go.ChangeShapes Go.WideShapes Go.ChangeAt Go.RowKit Go.Joins
set_option linter.unusedVariables false
set_option maxRecDepth 100000

/-- The source of depth k. -/
def deepL (k : Nat) : List UInt8 := [123, 32, 120, 32, 61, 32] ++ Lib.repeatL [40, 45] k ++ [49] ++ Lib.repeatL [41] k ++ [59, 32, 125]

/-- What is asked of the reading of depth k. -/
def deepOk (k : Nat) : Bool := match readR (deepL k) with
  | .error e => decide (18 < k) && decide (e = 1)
  | .ok l => decide (k ≤ 18) && decide (ckP 6000 l = 0) && Lib.contains (prT 6000 l) [40, 45, 49, 41] && decide ((prT 6000 l).length ≤ 1000)

theorem deep_all : (List.range 41).all (fun k => decide (k = 0) || deepOk k) = true := by kernel_rfl
theorem deep (k : Nat) (h0 : 0 < k) (hk : k ≤ 40) : deepOk k = true := by
  have h1 := List.all_eq_true.1 deep_all k (List.mem_range.2 (by omega))
  rw [decide_eq_false (show ¬ k = 0 by omega), Bool.false_or] at h1
  exact h1

theorem rep_c (s : ByteArray) (K : Nat) (z : Int) (hz : z = K) (w : World) (hs : s.size ≤ 2) (hK : K ≤ 40) :
    Calls Tryz.prog 10 #[.string s, .int .i64 z] w fun e w' => e = .returned (.string (bs (Lib.repeatL s.data.toList K))) ∧ Below w.heap.size w w' := by
  subst hz
  refine Tryz.strings_Repeat s K w (by omega) ?_
  have : s.size * K ≤ 2 * 40 := Nat.mul_le_mul hs hK
  omega

/-- What comes of depth K. -/
structure Out (K : Nat) (e : Int) (l : List Ru) : Prop where
  ck : ckP 6000 l = 0
  deep : 18 < K → e = 1 ∧ txP 6000 l = ⟨#[]⟩
  fits : K ≤ 18 → e = 0 ∧ Lib.contains (txP 6000 l).data.toList [40, 45, 49, 41] = true ∧ (txP 6000 l).size < 4294967281

theorem read_d (K : Nat) (h0 : 0 < K) (hK : K ≤ 40) (s : ByteArray) (hs : s = bs (deepL K)) (w : World) (hT : Tr w) :
    Calls Tryz.prog 9 #[.string s] w fun e w' => Below w.heap.size w w' ∧ ∃ (v : Value) (er : Int) (l : List Ru), e = .returned (.tuple #[.agg #[v], .int .i64 er]) ∧ Out K er l ∧ Sl w' w'.heap.size 7 v l.length (fun i c => ∃ x, l[i]? = some x ∧ RuA w'.heap.size w' 6000 c x) := by
  have hd := deep K h0 hK
  have hl : (deepL K).length ≤ 200 := by
    have h : ∀ k, k ≤ 40 → (deepL k).length ≤ 200 := by decide
    exact h K hK
  have hlen : s.size ≤ maxLen := by rw [hs, bs_size]; unfold maxLen; omega
  refine (read_c s w hlen hT).mono fun e w' hr => ?_
  obtain ⟨hb, hr⟩ := hr
  refine ⟨hb, ?_⟩
  have hST : s.toList = deepL K := by rw [hs, bs_list]
  rw [hST] at hr
  unfold deepOk at hd
  cases hR : readR (deepL K) with
  | error er =>
    rw [hR] at hr hd
    simp only [Bool.and_eq_true, decide_eq_true_eq] at hd
    have hck : ckP 6000 [] = 0 := by kernel_rfl
    exact ⟨_, er, [], hr, ⟨hck, fun _ => ⟨hd.2, by unfold txP; rw [if_pos hck]; rfl⟩, fun h => absurd h (by omega)⟩, ⟨none, 0, rfl, by simp, fun h => absurd h (by simp)⟩⟩
  | ok l =>
    rw [hR] at hr hd
    simp only [Bool.and_eq_true, decide_eq_true_eq] at hd
    obtain ⟨⟨⟨h1, h2⟩, h3⟩, h4⟩ := hd
    obtain ⟨v, he, hv⟩ := hr
    have ht : txP 6000 l = bs (prT 6000 l) := by unfold txP; rw [if_pos h2]
    refine ⟨v, 0, l, he, ⟨h2, fun h => absurd h (by omega), fun _ => ⟨rfl, by rw [ht]; exact h3, by rw [ht, bs_size]; omega⟩⟩, ?_⟩
    have h5 : SlP (fun b => b < w'.heap.size) w' 7 v l.length (fun i c => ∃ x, l[i]? = some x ∧ RuP (fun b => b < w'.heap.size) w' 6000 c x) :=
      (hv.old (by decide) fun i c ⟨x, hx, he⟩ => ⟨x, hx, (RuP.stays (fun b hb => hb.2) (fun _ _ _ => rfl) (RuP.old he)).le (by omega)⟩).mono (fun b hb => hb.2) fun _ _ h => h
    exact h5.low fun i c ⟨x, hx, he⟩ => ⟨x, hx, he.low⟩

set_option maxHeartbeats 4000000 in
theorem walk (n : Int) (hn : (Lit.int .i64 n).wf = true) (w : World) (hT : Tr w) (hP : Pow w) (hM : Mx w) :
    Calls Tryz.prog 5 #[.int .i64 n] w fun e w' => e = .returned (.bool true) ∧ Below w.heap.size w w' := by
  have HT : Hid (Tr w) := hT
  have HP : Hid (Pow w) := hP
  have HM : Hid (Mx w) := hM
  have HC : Hid _ := picked_c n 40 w hn (by decide) (by decide)
  clear hT hP hM
  go_enter Tryz.func5, Tryz.ntmps5
  go_wp2_with fail
  refine Calls.mono HC.out ?_
  rintro e w1 ⟨k, hk, rfl, hw1⟩
  rw [hw1]
  clear hw1 w1 HC
  have i1 : (-9223372036854775808 : Int) ≤ 1 + (k : Int) := by omega
  have i2 : 1 + (k : Int) ≤ 9223372036854775807 := by omega
  have HR1 : Hid _ := rep_c ⟨#[40, 45]⟩ (k + 1) (1 + (k : Int)) (by omega) w (by decide) (by omega)
  have HR2 : Hid (∀ W : World, _) := fun W => rep_c ⟨#[41]⟩ (k + 1) (1 + (k : Int)) (by omega) W (by decide) (by omega)
  go_wp2_with fail
  refine Calls.mono HR1.out ?_
  rintro e w1 ⟨rfl, hb1⟩
  have HB1 : Hid (Below w.heap.size w w1) := hb1
  clear hb1 HR1
  obtain ⟨Z1, hZ1⟩ : ∃ Z, Z = bs (Lib.repeatL [40, 45] (k + 1)) := ⟨_, rfl⟩
  have z1 : Z1.size ≤ 100 := by rw [hZ1, bs_size, Lib.repeatL_length]; simp; omega
  have HZ1 : Hid _ := hZ1
  rw [show bs (Lib.repeatL (⟨#[40, 45]⟩ : ByteArray).data.toList (k + 1)) = Z1 from hZ1.symm]
  clear hZ1
  go_wp2_with fail
  refine Calls.mono (HR2.out w1) ?_
  rintro e w2 ⟨rfl, hb2⟩
  have HB2 : Hid (Below w.heap.size w w2) := bl_trans HB1.out hb2
  clear hb2 HR2
  obtain ⟨Z2, hZ2⟩ : ∃ Z, Z = bs (Lib.repeatL [41] (k + 1)) := ⟨_, rfl⟩
  have z2 : Z2.size ≤ 100 := by rw [hZ2, bs_size, Lib.repeatL_length]; simp; omega
  have HZ2 : Hid _ := hZ2
  rw [show bs (Lib.repeatL (⟨#[41]⟩ : ByteArray).data.toList (k + 1)) = Z2 from hZ2.symm]
  clear hZ2
  go_wp2_with fail
  refine Calls.mono (read_d (k + 1) (by omega) (by omega) _ (by rw [HZ1.out, HZ2.out]; simp only [deepL, ← bs_app]; rfl) w2 (HT.out.stays HB2.out)) ?_
  rintro e w3 ⟨hb3, v, er, l, rfl, ho, hv⟩
  have HB3 : Hid (Below w.heap.size w w3) := bl_trans HB2.out hb3
  have HV : Hid _ := hv
  obtain ⟨a, cap, rfl, -, -⟩ := hv
  clear z1 z2 HZ1 HZ2 i1 i2
  have HO : Hid (Out (k + 1) er l) := ho
  obtain ⟨W3, hW3⟩ : ∃ W, W = w3.alloc (.cells #[.slice a l.length cap] 28) := ⟨_, rfl⟩
  have HA : Hid (Below w3.heap.size w3 W3) := by rw [hW3]; exact (Below.refl _ _).alloc (Nat.le_refl _) _
  have HA3 : Hid (Below w.heap.size w W3) := bl_trans HB3.out HA.out
  have HPR : Hid _ := print_c 6000 w3.heap.size l _ W3 (Sl.below HV.out HA.out fun i c ⟨x, hx, he⟩ => ⟨x, hx, he.below HA.out⟩) HA.out.size (HP.out.stays HA3.out) ((HT.out.stays HB3.out).tb.below HA.out)
  have HWW : Hid (W3 = _) := hW3
  clear hb3 ho HV hW3 HA
  go_wp2_with fail
  rw [← HWW.out]
  clear HWW
  refine Calls.mono HPR.out ?_
  rintro e w4 ⟨rfl, hb4⟩
  have HB4 : Hid (Below w.heap.size w w4) := bl_trans HA3.out hb4
  clear hb4 HPR
  rw [HO.out.ck]
  obtain ⟨X, hX⟩ : ∃ X, X = txP 6000 l := ⟨_, rfl⟩
  rw [← hX]
  by_cases h : 17 < k
  · obtain ⟨rfl, hx⟩ := HO.out.deep (by omega)
    rw [← hX] at hx
    subst hx
    have c1 : 1 + (k : Int) + 2 > 20 := by omega
    have i3 : (-9223372036854775808 : Int) ≤ 1 + (k : Int) + 2 := by omega
    have i4 : 1 + (k : Int) + 2 ≤ 9223372036854775807 := by omega
    clear hX HO
    go_wp2_with fail
    go_ret
    exact ⟨ret_bool (by simp), HB4.out⟩
  · obtain ⟨rfl, hx, hl⟩ := HO.out.fits (by omega)
    rw [← hX] at hx hl
    obtain ⟨z, hz⟩ : ∃ z : Int, z = 1 + (k : Int) := ⟨_, rfl⟩
    have c1 : ¬ z + 2 > 20 := by omega
    have i3 : (-9223372036854775808 : Int) ≤ z + 2 := by omega
    have i4 : z + 2 ≤ 9223372036854775807 := by omega
    rw [← hz]
    obtain ⟨m, -, hm⟩ := HM.out.stays HB4.out
    have HCN : Hid _ := Tryz.strings_Contains X ⟨#[40, 45, 49, 41]⟩ m w4 hl hm
    have HX : Hid _ := hx
    clear hX HO hx hl hm h hk hn HM HP HT HB3 HA3 hz
    go_wp2_with fail
    refine Calls.mono HCN.out ?_
    rintro e w5 ⟨rfl, hw5⟩
    rw [hw5]
    clear hw5 w5 HCN
    go_wp2_with fail
    go_ret
    exact ⟨ret_bool HX.out, HB4.out⟩

theorem lifted (os : Os) (started : os.Started) (H : Type) (enc : TypeId × Value → H) :
    ReturnsInHanded {} Tryz.checked os 5 .any (fun w args => (Rows.deepEnoughSpec.pre enc Tryz.prog Tryz.f5 Rows.deepEnoughRow.domain false w args ∧ laidMetH Tryz.prog Rows.deepEnoughRow.laid w) ∧ sizedMet enc Tryz.prog Tryz.f5 (OpenSpec.ofChange Rows.deepEnoughSpec) false w args)
      (Rows.deepEnoughSpec.post enc Tryz.prog Tryz.f5 false true false false) := by
  refine handed (C := Tryz.checked) (X := fun w => laidMetH Tryz.prog Rows.deepEnoughRow.laid w) (fun _ _ hh h => h.of_heap hh) own started (by kernel_rfl) Tryz.func5
    (ChangeSpec.witness_shaped (enc := enc) (C := Tryz.checked) (os := os) (X := fun w _ => laidMetH Tryz.prog Rows.deepEnoughRow.laid w) false (World.laidAll Tryz.prog os Rows.deepEnoughRow.laid) #[.int .i64 0] 8 (World.laidAll_os _ _ _)
      (World.shaped_of_ZipB (by kernel_rfl) (by kernel_rfl)) (by kernel_rfl) (by kernel_rfl) (by kernel_rfl)
      (by rw [MakeChecks.laidMetH_plain _ _ _ (by kernel_rfl)]; exact laidMet_laidAll _ (by kernel_rfl) (by kernel_rfl))) ?_
  intro W base args ds gs before hval0 hW hL hSh
  rw [MakeChecks.laidMetH_plain _ _ _ (by kernel_rfl)] at hL
  have hval : ∀ (j : Nat) t v, Tryz.f5.params[j]? = some t → args[j]? = some v → Value.okWide Tryz.prog W .any base t v := hval0
  have hW' := hW
  obtain ⟨p, q, hA0, hV, rfl, hfz, hnd⟩ := hW
  have hA : DataW.TrodAll enc Tryz.prog W 0 (fun _ => true) true Tryz.f5.params.toList args.toList ds p := hA0
  rw [Tryz.params5] at hA hval
  obtain ⟨v0, vs0, d0, ds0, p0, q0, hargs, rfl, rfl, h0, r0⟩ := trodAll_cons hA
  obtain ⟨rfl, rfl, rfl⟩ := trodAll_nil r0
  obtain rfl : args = #[v0] := by cases args; simp_all
  obtain ⟨rfl, rfl⟩ := trodVars_none hV
  have k0 := h0
  have lt0 : ∀ x ∈ p0, x.block < W.heap.size := by obtain ⟨m, hm⟩ := k0; exact DataW.trod_lt m _ _ _ hm
  obtain ⟨n0, rfl, rfl, rfl, w0⟩ := open_int Tryz.underlying3 (hval 0 3 v0 rfl rfl) h0
  clear hA0 hval0
  refine (walk n0 w0 W (tr_of (show laidMet Tryz.prog ((_, Rows.laid_tillage_syntax_words) :: _) W from (laidMet.tail (laidMet.tail (laidMet.tail (laidMet.tail (laidMet.tail (laidMet.tail (hL)))))))) (show laidMet Tryz.prog ((_, Rows.laid_tillage_syntax_levels) :: _) W from (laidMet.tail (laidMet.tail (laidMet.tail (laidMet.tail (laidMet.tail (laidMet.tail (laidMet.tail (laidMet.tail (hL)))))))))) (show laidMet Tryz.prog ((_, Rows.laid_tillage_syntax_functions) :: _) W from (laidMet.tail (laidMet.tail (laidMet.tail (laidMet.tail (laidMet.tail (laidMet.tail (laidMet.tail (laidMet.tail (laidMet.tail (laidMet.tail (hL)))))))))))) (show laidMet Tryz.prog ((_, Rows.laid_tillage_syntax_argsOfKind) :: _) W from (laidMet.tail (laidMet.tail (laidMet.tail (laidMet.tail (laidMet.tail (laidMet.tail (laidMet.tail (laidMet.tail (laidMet.tail (laidMet.tail (laidMet.tail (hL))))))))))))) (show laidMet Tryz.prog ((_, Rows.laid_tillage_syntax_exprsOfKind) :: _) W from (laidMet.tail (laidMet.tail (laidMet.tail (laidMet.tail (laidMet.tail (laidMet.tail (laidMet.tail (laidMet.tail (laidMet.tail (laidMet.tail (laidMet.tail (laidMet.tail (hL)))))))))))))) (show laidMet Tryz.prog ((_, Rows.laid_tillage_syntax_prefixes) :: _) W from (laidMet.tail (laidMet.tail (laidMet.tail (laidMet.tail (laidMet.tail (laidMet.tail (laidMet.tail (laidMet.tail (laidMet.tail (hL))))))))))) (show laidMet Tryz.prog ((_, Rows.laid_tillage_syntax_signs) :: _) W from (laidMet.tail (laidMet.tail (laidMet.tail (laidMet.tail (laidMet.tail (laidMet.tail (laidMet.tail (hL))))))))) (show laidMet Tryz.prog ((_, Rows.laid_strconv_ErrRange) :: _) W from (laidMet.tail (laidMet.tail (laidMet.tail (laidMet.tail (hL))))))) (pow_of (show laidMet Tryz.prog ((_, Rows.laid_internal_strconv_uint64pow10) :: _) W from (laidMet.tail (laidMet.tail (hL))))) (mx_of hSh)).mono fun e W' ⟨he, bel⟩ => ?_
  subst he
  exact ⟨_, rfl, _, _, _, [], _, [], hW', trodAll_mk1 (shut_bool Tryz.underlying4 _), (trodAll_cons_mk (Below.trod laidOut (by kernel_rfl) (of_decide_eq_true (by kernel_rfl)) k0 bel lt0) trodAll_mk0), rfl, bel.frame _, fun h => by cases h⟩

theorem over : Rows.deepEnoughRow.holds Tryz.pinned (OpenSpec.ofChange Rows.deepEnoughSpec) :=
  OpenClaim.holds_of_wide 5 Tryz.f5 rfl rfl rfl rfl rfl rfl rfl ⟨rfl, rfl, rfl, rfl, rfl⟩ rfl rfl rfl rfl rfl (by kernel_rfl) Tryz.func5 (by kernel_rfl)
    (of_decide_eq_true (by kernel_rfl)) (by unfold Func.isWrapper; rw [if_neg (of_decide_eq_false (by kernel_rfl))]; exact ⟨rfl, rfl⟩)
    (fun os started H enc _ => lifted os started H enc)

theorem card : Rows.DeepEnoughCardSaid :=
  Claim7.holds_tied_plain_at .later [] [.data, .data, .data, .data, .sentinel, .sentinel, .data, .data, .data, .data, .data, .data, .data, .pinned] true (true, "5f47e39fed11de7b8a812e8ee81e6ec1c972562c3b9e5644b0991903c8b36874") true
    over (fun _ h => by cases h) (by kernel_rfl) (fun _ h => by cases h) deepEnough_row_tie rfl ⟨rfl, rfl⟩ (by kernel_rfl) rfl
    (fun f fn hf hfn => by
      obtain rfl : f = 5 := Option.some.inj ((show Tryz.prog.funcNamed Rows.deepEnoughRow.func = some 5 by kernel_rfl).symm.trans hf) |>.symm
      obtain rfl : fn = Tryz.f5 := (Option.some.inj (Tryz.func5.symm.trans hfn)).symm
      exact ⟨by kernel_rfl, fun j t ht => by
        rw [Tryz.params5] at ht
        have hm : t ∈ [3] := by simpa using Array.mem_of_getElem? ht
        have hall : ([3].all fun u => !Tryz.prog.wantsStandIn u) = true := by kernel_rfl
        exact (show Tryz.prog.wantsStandIn t = false by simpa using List.all_eq_true.1 hall t hm)⟩)
    (by kernel_rfl)
end Go.Proofs.YtfbpkbochhfnhaaGreatDoor.deepEnough

namespace Go.Proofs.YtfbpkbochhfnhaaGreatDoor
/-- THE STATEMENT. -/
theorem deepEnough_card : Rows.DeepEnoughCardSaid := deepEnough.card
#print axioms deepEnough_card
end Go.Proofs.YtfbpkbochhfnhaaGreatDoor
