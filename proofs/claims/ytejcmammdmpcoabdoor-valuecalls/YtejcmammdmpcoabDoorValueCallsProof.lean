/-
  ValueCalls: for every name and every list of values the law returns true: of values that may be, value.Call answers the value and the end that the document says; what was in memory stays. The row lists the tables that the library names, tied to the text of the program; the call reads uint64pow10 and MaxLen alone, MaxLen with whatever int it holds.
-/
import Derived.Test.YtejcmammdmpcoabDoorCallBoth
import Derived.Test.YtejcmammdmpcoabDoorShape
import Derived.Test.YtejcmammdmpcoabDoorTie
import Derived.Test.YtejcmammdmpcoabDoorCards
import Derived.Lay
import Derived.LaidMore
import Derived.SevenTiedAt
import Derived.Stop.Joined
import Derived.Stop.LaidErr
namespace Go.Proofs.YtejcmammdmpcoabDoor.valueCalls
open Go.ChangeShapes Go.WideShapes Go.ChangeAt Go.RowKit Go.Joins
open Go.ChangeMaps (open_string shut_string)
set_option linter.unusedVariables false

set_option maxRecDepth 100000
set_option maxHeartbeats 2000000
/-- The law at an empty list. -/
theorem walk_nil (nm : ByteArray) (a : Option Addr) (cap : Nat) (w : World) :
    Calls Tryd.prog 4 #[.string nm, .slice a 0 cap] w fun e w' => e = .returned (.bool true) ∧ Below w.heap.size w w' := by
  obtain ⟨c1, c2⟩ := both_nil nm a cap
  have C1 : Hid _ := c1
  have C2 : Hid _ := c2
  clear c1 c2
  go_enter Tryd.func4, Tryd.ntmps4
  go_wp2_with fail
  go_loop [5] (fun v => v = .int .i64 0) (fun _ => 0)
  case atStart => rfl
  case round =>
    subst hrel
    go_wp2_with fail
    refine (C1.out _).mono ?_
    rintro e w1 ⟨rfl, hb⟩
    simp only [vt, rEnd]
    have B1 : Hid (Below w.heap.size w w1) := hb
    clear hb
    go_wp2_with fail
    refine (C2.out _).mono ?_
    rintro e w2 ⟨rfl, hb2⟩
    simp only [vt, rEnd]
    obtain ⟨hc2, hf2⟩ := bcell hb2
    have hz : w1.heap.size < w2.heap.size := by have := hb2.size; simp at this; omega
    have B2 : Hid (Below w.heap.size w w2) := bl_trans (B1.out.alloc B1.out.size _) hb2
    go_wp2_with fail
    go_ret
    exact ⟨rfl, B2.out.alloc B2.out.size _⟩

set_option maxRecDepth 100000 in
set_option maxHeartbeats 2000000 in
theorem walk_some (nm : ByteArray) (b off len cap : Nat) (t : Nat → Bool) (n : Nat → Int) (s : Nat → ByteArray) (w : World) (hlen : len ≤ maxLen) (hP : Hid (Pow w)) (hM : Hid (Mx w)) (hE : Hid (Els w b off len t n s)) (hs : ∀ i, i < len → (s i).size ≤ maxLen) :
    Calls Tryd.prog 4 #[.string nm, .slice (some ⟨b, off, none⟩) len cap] w fun e w' => e = .returned (.bool true) ∧ Below w.heap.size w w' := by
  have HS : Hid (∀ i, i < len → (s i).size ≤ maxLen) := hs
  clear hs
  unfold maxLen at hlen
  go_enter Tryd.func4, Tryd.ntmps4
  go_wp2_with fail
  go_loopw [5] (fun v wr => ∃ k : Nat, k ≤ len ∧ v = .int .i64 k ∧ Hid (Below w.heap.size w wr ∧ ∀ q, q < k → vf (t q) (n q) (s q) = 0)) (fun v _ => len - (intOf v).toNat)
  case atStart => exact ⟨0, by omega, rfl, Below.refl _ _, fun q hq => absurd hq (Nat.not_lt_zero _)⟩
  case round =>
    obtain ⟨k, hk, rfl, HK⟩ := hrel
    by_cases hlt : k < len
    · have i1 : (k : Int) < (len : Int) := by omega
      have i2 : (0 : Int) ≤ (k : Int) := by omega
      have hE2 := hE.out.below HK.out.1
      obtain ⟨l0, c0, c1, c2⟩ := hE2 k hlt
      clear hE2
      by_cases hv : vf (t k) (n k) (s k) = 0
      · have HV : Hid (vf (t k) (n k) (s k) = 0) := hv
        clear hv
        go_wp2_with fail
        refine (valueFault_c (t k) (n k) (s k) _ (HS.out k hlt)).mono ?_
        rintro e w1 ⟨rfl, hb⟩
        rw [HV.out]
        have R2 : Hid (Below w.heap.size w w1 ∧ ∀ q, q < k + 1 → vf (t q) (n q) (s q) = 0) := ⟨bl_trans HK.out.1 hb, fun q hq => by
          by_cases e : q = k
          · subst e; exact HV.out
          · exact HK.out.2 q (by omega)⟩
        clear hb c0 c1 c2 HK
        go_wp2_with fail
        go_roundw
        case rel => exact ⟨k + 1, by omega, by go_num, R2⟩
        case measure => simp [intOf]; omega
      · have hv1 : (vf (t k) (n k) (s k) != 0) = true := by rw [bne_iff_ne]; exact hv
        clear hv
        go_wp2_with fail
        refine (valueFault_c (t k) (n k) (s k) _ (HS.out k hlt)).mono ?_
        rintro e w1 ⟨rfl, hb⟩
        have R2 : Hid (Below w.heap.size w w1) := bl_trans HK.out.1 hb
        clear hb c0 c1 c2 HK
        go_wp2_with fail
        go_ret
        exact ⟨rfl, R2.out⟩
    · obtain ⟨r, cb⟩ := both nm b off len cap t n s (fun i hi => HK.out.2 i (by omega))
      obtain ⟨rt, rn, rs, re⟩ := r
      have C1 : Hid _ := cb.1
      have C2 : Hid _ := cb.2
      have i1 : ¬ (k : Int) < (len : Int) := by omega
      have B0 : Hid (Below w.heap.size w _) := HK.out.1
      clear cb HK
      go_wp2_with fail
      refine (C1.out _ (hP.out.stays B0.out) (hM.out.stays B0.out) (hE.out.below B0.out)).mono ?_
      rintro e w1 ⟨rfl, hb⟩
      simp only [vt]
      have B1 : Hid (Below w.heap.size w w1) := bl_trans B0.out hb
      clear hb B0
      go_wp2_with fail
      refine (C2.out _ (hE.out.below (B1.out.alloc B1.out.size _))).mono ?_
      rintro e w2 ⟨rfl, hb2⟩
      simp only [vt]
      obtain ⟨hc2, hf2⟩ := bcell hb2
      have hz : w1.heap.size < w2.heap.size := by have := hb2.size; simp at this; omega
      have B2 : Hid (Below w.heap.size w w2) := bl_trans (B1.out.alloc B1.out.size _) hb2
      go_wp2_with fail
      go_ret
      exact ⟨rfl, B2.out.alloc B2.out.size _⟩

theorem walk (nm : ByteArray) (hn : nm.size ≤ maxLen) (a : Option Addr) (len cap : Nat) (w : World) (hP : Pow w) (hM : Mx w)
    (h : (Value.slice a len cap).cells.toList = [.slice none 0 0] ∨ ∃ (b off len1 cap1 : Nat) (t : Nat → Bool) (n : Nat → Int) (s : Nat → ByteArray), ((Value.slice a len cap).cells.toList = [.slice (some ⟨b, off, none⟩) len1 cap1] ∧ 0 < len1 ∧ len1 ≤ maxLen ∧ Els w b off len1 t n s ∧ ∀ i, i < len1 → (s i).size ≤ maxLen) ∨ ∃ a1, (Value.slice a len cap).cells.toList = [.slice (some a1) 0 cap1]) :
    Calls Tryd.prog 4 #[.string nm, .slice a len cap] w fun e w' => e = .returned (.bool true) ∧ Below w.heap.size w w' := by
  rcases h with h | ⟨b, off, len1, cap1, t, n, s, ⟨h, h0, h1, h2, h3⟩ | ⟨a1, h⟩⟩
  · simp [Value.cells] at h
    obtain ⟨rfl, rfl, rfl⟩ := h
    exact walk_nil nm none 0 w
  · simp [Value.cells] at h
    obtain ⟨rfl, rfl, rfl⟩ := h
    exact walk_some nm b off len cap t n s w h1 hP hM h2 h3
  · simp [Value.cells] at h
    obtain ⟨rfl, rfl, rfl⟩ := h
    exact walk_nil nm (some a1) cap w

set_option maxRecDepth 100000 in
theorem lifted (os : Os) (started : os.Started) (H : Type) (enc : TypeId × Value → H) :
    ReturnsInHanded {} Tryd.checked os 4 .any (fun w args => (Rows.valueCallsSpec.pre enc Tryd.prog Tryd.f4 Rows.valueCallsRow.domain false w args ∧ laidMetH Tryd.prog Rows.valueCallsRow.laid w) ∧ sizedMet enc Tryd.prog Tryd.f4 (OpenSpec.ofChange Rows.valueCallsSpec) false w args)
      (Rows.valueCallsSpec.post enc Tryd.prog Tryd.f4 false true false false) := by
  refine handed (C := Tryd.checked) (X := fun w => laidMetH Tryd.prog Rows.valueCallsRow.laid w) (fun _ _ hh h => h.of_heap hh) own started (by kernel_rfl) Tryd.func4
    (ChangeSpec.witness_shaped (enc := enc) (C := Tryd.checked) (os := os) (X := fun w _ => laidMetH Tryd.prog Rows.valueCallsRow.laid w) false (World.laidAll Tryd.prog os Rows.valueCallsRow.laid) #[.string ByteArray.empty, .slice none 0 0] 8 (World.laidAll_os _ _ _)
      (World.shaped_of_ZipB (by kernel_rfl) (by kernel_rfl)) (by kernel_rfl) (by kernel_rfl) (by kernel_rfl)
      (by rw [MakeChecks.laidMetH_plain _ _ _ (by kernel_rfl)]; exact laidMet_laidAll _ (by kernel_rfl) (by kernel_rfl))) ?_
  intro W base args ds gs before hval0 hW hL hSh
  rw [MakeChecks.laidMetH_plain _ _ _ (by kernel_rfl)] at hL
  have hval : ∀ (j : Nat) t v, Tryd.f4.params[j]? = some t → args[j]? = some v → Value.okWide Tryd.prog W .any base t v := hval0
  have hW' := hW
  obtain ⟨p, q, hA0, hV, rfl, hfz, hnd⟩ := hW
  have hA : DataW.TrodAll enc Tryd.prog W 0 (fun _ => true) true Tryd.f4.params.toList args.toList ds p := hA0
  rw [Tryd.params4] at hA hval
  have hP : Pow W := pow_of (show laidMet Tryd.prog ((_, Rows.laid_internal_strconv_uint64pow10) :: _) W from (laidMet.tail (laidMet.tail (hL))))
  obtain ⟨v0, vs0, d0, ds0, p0, q0, hargs, rfl, rfl, h0, r0⟩ := trodAll_cons hA
  obtain ⟨v1, vs1, d1, ds1, p1, q1, rfl, rfl, rfl, h1, r1⟩ := trodAll_cons r0
  obtain ⟨rfl, rfl, rfl⟩ := trodAll_nil r1
  obtain rfl : args = #[v0, v1] := by cases args; simp_all
  obtain ⟨rfl, rfl⟩ := trodVars_none hV
  have k0 := h0
  have lt0 : ∀ x ∈ p0, x.block < W.heap.size := by obtain ⟨m, hm⟩ := k0; exact DataW.trod_lt m _ _ _ hm
  obtain ⟨a0, rfl, rfl, rfl, w0⟩ := open_string Tryd.underlying9 (hval 0 9 v0 rfl rfl) h0
  have k1 := h1
  have lt1 : ∀ x ∈ p1, x.block < W.heap.size := by obtain ⟨m, hm⟩ := k1; exact DataW.trod_lt m _ _ _ hm
  obtain ⟨a1, len1, cap1, rfl⟩ := okWide_slice Tryd.underlying29 (hval 1 29 v1 rfl rfl)
  obtain ⟨fuel1, hf1⟩ := h1
  have op1 := open_values hf1
  clear hA0 hval0
  refine (walk a0 w0 a1 len1 cap1 W hP (mx_of hSh) op1).mono fun e W' ⟨he, bel⟩ => ?_
  subst he
  exact ⟨_, rfl, _, _, _, [], _, [], hW', trodAll_mk1 (shut_bool Tryd.underlying4 _), (trodAll_cons_mk (Below.trod laidOut (by kernel_rfl) (of_decide_eq_true (by kernel_rfl)) k0 bel lt0) (trodAll_cons_mk (Below.trod laidOut (by kernel_rfl) (of_decide_eq_true (by kernel_rfl)) k1 bel lt1) trodAll_mk0)), rfl, bel.frame _, fun h => by cases h⟩

theorem over : Rows.valueCallsRow.holds Tryd.pinned (OpenSpec.ofChange Rows.valueCallsSpec) :=
  OpenClaim.holds_of_wide 4 Tryd.f4 rfl rfl rfl rfl rfl rfl rfl ⟨rfl, rfl, rfl, rfl, rfl⟩ rfl rfl rfl rfl rfl (by kernel_rfl) Tryd.func4 (by kernel_rfl)
    (of_decide_eq_true (by kernel_rfl)) (by unfold Func.isWrapper; rw [if_neg (of_decide_eq_false (by kernel_rfl))]; exact ⟨rfl, rfl⟩)
    (fun os started H enc _ => lifted os started H enc)

theorem card : Rows.ValueCallsCardSaid :=
  Claim7.holds_tied_plain_at .later [] [.data, .data, .data, .data, .pinned] true (true, "6c26c0187a3396e3fb5204ccd2482c4d779497168c111a81a531b6312885ccb6") false
    over (fun _ h => by cases h) (by kernel_rfl) (fun _ h => by cases h) valueCalls_row_tie rfl ⟨rfl, rfl⟩ (by kernel_rfl) rfl
    (fun f fn hf hfn => by
      obtain rfl : f = 4 := Option.some.inj ((show Tryd.prog.funcNamed Rows.valueCallsRow.func = some 4 by kernel_rfl).symm.trans hf) |>.symm
      obtain rfl : fn = Tryd.f4 := (Option.some.inj (Tryd.func4.symm.trans hfn)).symm
      exact ⟨by kernel_rfl, fun j t ht => by
        rw [Tryd.params4] at ht
        have hm : t ∈ [9, 29] := by simpa using Array.mem_of_getElem? ht
        have hall : ([9, 29].all fun u => !Tryd.prog.wantsStandIn u) = true := by kernel_rfl
        exact (show Tryd.prog.wantsStandIn t = false by simpa using List.all_eq_true.1 hall t hm)⟩)
    (by kernel_rfl)
end Go.Proofs.YtejcmammdmpcoabDoor.valueCalls

namespace Go.Proofs.YtejcmammdmpcoabDoor
/-- THE STATEMENT. -/
theorem valueCalls_card : Rows.ValueCallsCardSaid := valueCalls.card
#print axioms valueCalls_card
end Go.Proofs.YtejcmammdmpcoabDoor
