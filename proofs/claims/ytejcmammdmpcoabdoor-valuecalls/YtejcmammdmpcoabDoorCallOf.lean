/-
  Contract of the answer CallOf of the document: length, index, substr of values that may be; all else is BadSize (P1.5).
-/
import Derived.Test.YtejcmammdmpcoabDoorCall
import Derived.Test.YtejcmammdmpcoabDoorOpOf
import Derived.Lib.IndexLaws
import Derived.Lib.RabinKarpLaws
namespace Go.Proofs.YtejcmammdmpcoabDoor
open Go.ChangeShapes Go.WideShapes Go.ChangeAt Go.RowKit Go.Joins
set_option linter.unusedVariables false

set_option maxHeartbeats 1000000 in
theorem callOf_length (b off cap : Nat) (t1 : Bool) (n1 : Int) (s1 : ByteArray) (w : World) (z1 : s1.size ≤ 200) (h1 : -1099511627776 ≤ n1) (h2 : n1 ≤ 1099511627776) (hL : LiesAt w b off t1 n1 s1) (A : ByteArray) (HA : Hid (strOf t1 n1 s1 = A)) (zA : A.size ≤ 200) :
    Calls Tryd.prog 13 #[.string ⟨#[108, 101, 110, 103, 116, 104]⟩, .slice (some ⟨b, off, none⟩) 1 cap] w fun e w' => e = .returned (vt (rN (A.size : Int))) ∧ Below w.heap.size w w' := by
  obtain ⟨hb0, c0, c1, c2⟩ := hL
  have hne : ¬ b = w.heap.size := by omega
  go_enter Tryd.func13, Tryd.ntmps13
  go_wp2_with fail
  refine (textOf_c t1 n1 s1 _ h1 h2).mono ?_
  rintro e w1 ⟨rfl, hb⟩
  rw [HA.out]
  obtain ⟨hc, hf⟩ := bcell hb
  have hz : w.heap.size < w1.heap.size := by have := hb.size; simp at this; omega
  have HB1 : Hid (Below w.heap.size w w1) := bl_trans (by go_grown) hb
  go_wp2_with fail
  refine (rnum_c (A.size : Int) _).mono ?_
  rintro e w2 ⟨rfl, hb2⟩
  obtain ⟨hc2, hf2⟩ := bcell hb2
  go_wp2
  exact bodyPost_ret (v := .tuple #[.agg #[.bool false, .int .i64 (A.size : Int), .string ⟨#[]⟩], .int .i64 0]) (by simp [results, Tryd.results13, go_sem, hc, hc2, hz]) rfl ⟨rfl, below_set3 (bl_trans HB1.out hb2) (Nat.le_refl _) _ _ _⟩

theorem noOcc_end {A B : ByteArray} {k : Nat} (h : ∀ q, q < k → Lib.occAt A.data.toList B.data.toList q = false) (hk : A.size < k + B.size) : Lib.index A.data.toList B.data.toList = -1 := by
  have eA : A.data.toList.length = A.size := by simp
  have eB : B.data.toList.length = B.size := by simp
  apply Lib.index_none
  intro q hq
  by_cases hqk : q < k
  · exact h q hqk
  · rw [eA] at hq
    unfold Lib.occAt
    cases e : B.data.toList.isPrefixOf (A.data.toList.drop q) with
    | false => rfl
    | true =>
      have hp := List.isPrefixOf_iff_prefix.1 e
      have hl := hp.length_le
      rw [List.length_drop, eA, eB] at hl
      by_cases hB : B.size = 0
      · have hB' : B.data.toList = [] := List.eq_nil_of_length_eq_zero (by omega)
        have h0 := h 0 (by omega)
        rw [hB'] at h0
        simp [Lib.occAt] at h0
      · omega

set_option maxHeartbeats 2000000 in
theorem callOf_index (b off cap : Nat) (t1 : Bool) (n1 : Int) (s1 : ByteArray) (t2 : Bool) (n2 : Int) (s2 : ByteArray) (w : World) (z1 : s1.size ≤ 200) (h1 : -1099511627776 ≤ n1) (h2 : n1 ≤ 1099511627776) (z2 : s2.size ≤ 200) (h3 : -1099511627776 ≤ n2) (h4 : n2 ≤ 1099511627776) (hL1 : LiesAt w b off t1 n1 s1) (hL2 : LiesAt w b (off + 3) t2 n2 s2)
    (A B : ByteArray) (HA : Hid (strOf t1 n1 s1 = A)) (HB : Hid (strOf t2 n2 s2 = B)) (zA : A.size ≤ 200) (zB : B.size ≤ 200) (j : Int) (HJ : Hid (Lib.index A.data.toList B.data.toList = j)) :
    Calls Tryd.prog 13 #[.string ⟨#[105, 110, 100, 101, 120]⟩, .slice (some ⟨b, off, none⟩) 2 cap] w fun e w' => e = .returned (vt (rN (j + 1))) ∧ Below w.heap.size w w' := by
  obtain ⟨hb0, c0, c1, c2⟩ := hL1
  obtain ⟨_, d0, d1, d2⟩ := hL2
  simp only [Nat.add_assoc] at d1 d2
  have hne : ¬ b = w.heap.size := by omega
  have hlt : b < w.heap.size + 1 := by omega
  go_enter Tryd.func13, Tryd.ntmps13
  go_wp2_with fail
  refine (textOf_c t1 n1 s1 _ h1 h2).mono ?_
  rintro e w1 ⟨rfl, hb⟩
  rw [HA.out]
  obtain ⟨hc, hf⟩ := bcell hb
  have hz : w.heap.size < w1.heap.size := by have := hb.size; simp at this; omega
  have hzb : b < w1.heap.size := by omega
  have HB1 : Hid (Below w.heap.size w w1) := bl_trans (by go_grown) hb
  go_wp2_with fail
  refine (textOf_c t2 n2 s2 _ h3 h4).mono ?_
  rintro e w2 ⟨rfl, hb2⟩
  rw [HB.out]
  obtain ⟨hc2, hf2⟩ := bcell hb2
  have hy : w.heap.size < w2.heap.size := by have := hb2.size; omega
  have HB2 : Hid (Below w.heap.size w w2) := bl_trans HB1.out hb2
  have g0 : w2.cell? ⟨w.heap.size, 0, none⟩ = some (.bool false) := by simp [hc2, hc, hz]
  have g1 : w2.cell? ⟨w.heap.size, 1, none⟩ = some (.int .i64 0) := by simp [hc2, hc, hz]
  have g2 : w2.cell? ⟨w.heap.size, 2, none⟩ = some (.string ⟨#[]⟩) := by simp [hc2, hc, hz]
  have k0 : w2.frozen? ⟨w.heap.size, 0, none⟩ = false := by simp [hf2, hf, hz]
  have k1 : w2.frozen? ⟨w.heap.size, 1, none⟩ = false := by simp [hf2, hf, hz]
  have k2 : w2.frozen? ⟨w.heap.size, 2, none⟩ = false := by simp [hf2, hf, hz]
  clear hb hb2 hc hc2 hf hf2 c0 c1 c2 d0 d1 d2
  go_wp2_with fail
  go_loop [8] (fun v => ∃ k : Nat, k ≤ 201 ∧ v = .int .i64 k ∧ Hid (∀ q, q < k → Lib.occAt A.data.toList B.data.toList q = false)) (fun v => 201 - (intOf v).toNat)
  case atStart => exact ⟨0, by omega, rfl, fun q hq => absurd hq (Nat.not_lt_zero _)⟩
  case round =>
    obtain ⟨k, hk, rfl, HN⟩ := hrel
    by_cases hin : k + B.size ≤ A.size
    · have i1 : (k : Int) + (B.size : Int) ≤ (A.size : Int) := by omega
      have i2 : (0 : Int) ≤ (k : Int) := by omega
      have i3 : (k : Int) ≤ (k : Int) + (B.size : Int) := by omega
      cases hq : (A.extract k (k + B.size)).toList == B.toList
      · have HQ : Hid (Lib.occAt A.data.toList B.data.toList k = false) := Go.Proofs.occ_no A B k hin hq
        go_wp2
        go_round
        case rel => exact ⟨k + 1, by omega, by go_num, fun q hqk => by
          by_cases e : q = k
          · subst e; exact HQ.out
          · exact HN.out q (by omega)⟩
        case measure => simp [intOf]; omega
      · have HQ : Hid (j = (k : Int)) := by
          show _ = _
          rw [← HJ.out]
          exact Lib.index_first (by have : A.data.toList.length = A.size := by simp
                                    omega) (Go.Proofs.occ_yes A B k hin hq) HN.out
        go_wp2_with fail
        refine (rnum_c ((k : Int) + 1) _).mono ?_
        rintro e w3 ⟨rfl, hb3⟩
        obtain ⟨hc3, hf3⟩ := bcell hb3
        go_wp2
        exact bodyPost_ret (v := .tuple #[.agg #[.bool false, .int .i64 ((k : Int) + 1), .string ⟨#[]⟩], .int .i64 0]) (by simp [results, Tryd.results13, go_sem, hc3, hy, g0, g1, g2]) rfl ⟨by rw [HQ.out]; rfl, below_set3 (bl_trans HB2.out hb3) (Nat.le_refl _) _ _ _⟩
    · have HQ : Hid (j = -1) := by
        show _ = _
        rw [← HJ.out]
        exact noOcc_end HN.out (by omega)
      have i1 : ¬ (k : Int) + (B.size : Int) ≤ (A.size : Int) := by omega
      go_wp2_with fail
      refine (rnum_c 0 _).mono ?_
      rintro e w3 ⟨rfl, hb3⟩
      obtain ⟨hc3, hf3⟩ := bcell hb3
      go_wp2
      exact bodyPost_ret (v := .tuple #[.agg #[.bool false, .int .i64 0, .string ⟨#[]⟩], .int .i64 0]) (by simp [results, Tryd.results13, go_sem, hc3, hy, g0, g1, g2]) rfl ⟨by rw [HQ.out]; rfl, below_set3 (bl_trans HB2.out hb3) (Nat.le_refl _) _ _ _⟩

set_option maxHeartbeats 1000000 in
theorem callOf_other (nm : ByteArray) (a : Option Addr) (len cap : Nat) (w : World)
    (h : ((nm.toList == [108, 101, 110, 103, 116, 104]) = true ∧ ((len : Int) == 1) = false ∧ (nm.toList == [105, 110, 100, 101, 120]) = false ∧ (nm.toList == [115, 117, 98, 115, 116, 114]) = false) ∨
      ((nm.toList == [108, 101, 110, 103, 116, 104]) = false ∧ (nm.toList == [105, 110, 100, 101, 120]) = true ∧ ((len : Int) == 2) = false ∧ (nm.toList == [115, 117, 98, 115, 116, 114]) = false) ∨
      ((nm.toList == [108, 101, 110, 103, 116, 104]) = false ∧ (nm.toList == [105, 110, 100, 101, 120]) = false ∧ (nm.toList == [115, 117, 98, 115, 116, 114]) = true ∧ ((len : Int) == 3) = false) ∨
      ((nm.toList == [108, 101, 110, 103, 116, 104]) = false ∧ (nm.toList == [105, 110, 100, 101, 120]) = false ∧ (nm.toList == [115, 117, 98, 115, 116, 114]) = false)) :
    Calls Tryd.prog 13 #[.string nm, .slice a len cap] w fun e w' => e = .returned (vt (rEnd 3)) ∧ Below w.heap.size w w' := by
  obtain ⟨k1, k2, k3, k4⟩ | ⟨k1, k2, k3, k4⟩ | ⟨k1, k2, k3, k4⟩ | ⟨k1, k2, k3⟩ := h
  all_goals go_enter Tryd.func13, Tryd.ntmps13
  all_goals go_wp2
  all_goals go_returns
  all_goals exact ⟨rfl, by go_grown⟩
end Go.Proofs.YtejcmammdmpcoabDoor
