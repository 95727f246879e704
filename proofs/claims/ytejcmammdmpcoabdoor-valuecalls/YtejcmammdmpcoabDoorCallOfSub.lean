/-
  Contract of the answer CallOf of the document at substr (P1.5).
-/
import Derived.Test.YtejcmammdmpcoabDoorCallOf
namespace Go.Proofs.YtejcmammdmpcoabDoor
open Go.ChangeShapes Go.WideShapes Go.ChangeAt Go.RowKit Go.Joins
set_option linter.unusedVariables false

/-- What was taken of the first k bytes. -/
def outL (l : List UInt8) (x y : Int) (k : Nat) : List UInt8 := (l.take (min k (x - 1 + y).toNat)).drop (max x 1 - 1).toNat
theorem outL_zero (l : List UInt8) (x y : Int) : outL l x y 0 = [] := by unfold outL; simp
theorem outL_len (l : List UInt8) (x y : Int) (k : Nat) : (outL l x y k).length ≤ k := by
  unfold outL; rw [List.length_drop, List.length_take]; omega
theorem outL_end (A : ByteArray) (x y : Int) : outL A.data.toList x y A.size = subL A.data.toList x y := by
  unfold outL subL
  have e : A.data.toList.length = A.size := by simp
  congr 1
  by_cases h : A.size ≤ (x - 1 + y).toNat
  · rw [Nat.min_eq_left h, List.take_of_length_le (by omega), List.take_of_length_le (by omega)]
  · rw [Nat.min_eq_right (by omega)]
theorem outL_in (A : ByteArray) (x y : Int) (k : Nat) (hk : k < A.size) (h1 : x ≤ (k : Int) + 1) (h2 : (k : Int) + 1 < x + y) : outL A.data.toList x y (k + 1) = outL A.data.toList x y k ++ [A[k]] := by
  unfold outL
  have e : A.data.toList.length = A.size := by simp
  have m1 : min (k + 1) (x - 1 + y).toNat = k + 1 := by omega
  have m2 : min k (x - 1 + y).toNat = k := by omega
  rw [m1, m2, List.take_succ_eq_append_getElem (by omega), List.drop_append_of_le_length (by rw [List.length_take]; omega)]
  rfl
theorem outL_out (A : ByteArray) (x y : Int) (k : Nat) (h : (k : Int) + 1 < x ∨ x + y ≤ (k : Int) + 1) : outL A.data.toList x y (k + 1) = outL A.data.toList x y k := by
  unfold outL
  by_cases h1 : (k : Int) + 1 < x
  · rw [List.drop_eq_nil_of_le (by rw [List.length_take]; omega), List.drop_eq_nil_of_le (by rw [List.length_take]; omega)]
  · have m : min (k + 1) (x - 1 + y).toNat = min k (x - 1 + y).toNat := by omega
    rw [m]
theorem extract_one (A : ByteArray) (k : Nat) (hk : k < A.size) : (A.extract k (k + 1)).data.toList = [A[k]] := by
  rw [ByteArray.data_extract, Array.toList_extract, List.extract_eq_take_drop]
  have e : A.data.toList.length = A.size := by simp
  rw [List.drop_eq_getElem_cons (by omega)]
  simp
  rfl
theorem size_data (O : ByteArray) : O.size = O.data.toList.length := by simp

set_option maxHeartbeats 1000000 in
theorem callOf_sub1 (b off cap : Nat) (t1 : Bool) (n1 : Int) (s1 : ByteArray) (t2 : Bool) (n2 : Int) (s2 : ByteArray) (t3 : Bool) (n3 : Int) (s3 : ByteArray) (w : World) (z1 : s1.size ≤ 200) (h1 : -1099511627776 ≤ n1) (h2 : n1 ≤ 1099511627776) (z2 : s2.size ≤ 200) (h3 : -1099511627776 ≤ n2) (h4 : n2 ≤ 1099511627776) (z3 : s3.size ≤ 200) (h5 : -1099511627776 ≤ n3) (h6 : n3 ≤ 1099511627776) (hL1 : LiesAt w b off t1 n1 s1) (hL2 : LiesAt w b (off + 3) t2 n2 s2) (hL3 : LiesAt w b (off + 6) t3 n3 s3) (HBAD : Hid (numOf t2 n2 s2 < -1099511627776 ∨ 1099511627776 < numOf t2 n2 s2)) :
    Calls Tryd.prog 13 #[.string ⟨#[115, 117, 98, 115, 116, 114]⟩, .slice (some ⟨b, off, none⟩) 3 cap] w fun e w' => e = .returned (vt (rEnd 3)) ∧ Below w.heap.size w w' := by
  obtain ⟨hb0, c0, c1, c2⟩ := hL1
  obtain ⟨_, d0, d1, d2⟩ := hL2
  obtain ⟨_, e0, e1, e2⟩ := hL3
  simp only [Nat.add_assoc] at d1 d2 e1 e2
  have hne : ¬ b = w.heap.size := by omega
  have hlt : b < w.heap.size + 1 := by omega
  go_enter Tryd.func13, Tryd.ntmps13
  go_wp2_with fail
  refine (numberOf_bad t2 n2 s2 _ z2 h3 h4 HBAD.out).mono ?_
  rintro e w1 ⟨rfl, hb⟩
  obtain ⟨hc, hf⟩ := bcell hb
  have hz : w.heap.size < w1.heap.size := by have := hb.size; simp at this; omega
  have hzb : b < w1.heap.size := by omega
  have HB1 : Hid (Below w.heap.size w w1) := bl_trans (by go_grown) hb
  go_wp2_with fail
  refine (numberOf_c t3 n3 s3 _ z3 h5 h6).mono ?_
  rintro e w2 ⟨rfl, hb2⟩
  obtain ⟨hc2, hf2⟩ := bcell hb2
  have hy : w.heap.size < w2.heap.size := by have := hb2.size; omega
  have hyb : b < w2.heap.size := by omega
  have HB2 : Hid (Below w.heap.size w w2) := bl_trans HB1.out hb2
  go_wp2
  exact bodyPost_ret (v := .tuple #[.agg #[.bool false, .int .i64 0, .string ⟨#[]⟩], .int .i64 3]) (by simp [results, Tryd.results13, go_sem, hc, hc2, hz]) rfl ⟨rfl, below_set3 HB2.out (Nat.le_refl _) _ _ _⟩

set_option maxHeartbeats 1000000 in
theorem callOf_sub2 (b off cap : Nat) (t1 : Bool) (n1 : Int) (s1 : ByteArray) (t2 : Bool) (n2 : Int) (s2 : ByteArray) (t3 : Bool) (n3 : Int) (s3 : ByteArray) (w : World) (z1 : s1.size ≤ 200) (h1 : -1099511627776 ≤ n1) (h2 : n1 ≤ 1099511627776) (z2 : s2.size ≤ 200) (h3 : -1099511627776 ≤ n2) (h4 : n2 ≤ 1099511627776) (z3 : s3.size ≤ 200) (h5 : -1099511627776 ≤ n3) (h6 : n3 ≤ 1099511627776) (hL1 : LiesAt w b off t1 n1 s1) (hL2 : LiesAt w b (off + 3) t2 n2 s2) (hL3 : LiesAt w b (off + 6) t3 n3 s3) (HOK1 : Hid (okN t2 n2 s2)) (HBAD : Hid (numOf t3 n3 s3 < -1099511627776 ∨ 1099511627776 < numOf t3 n3 s3)) :
    Calls Tryd.prog 13 #[.string ⟨#[115, 117, 98, 115, 116, 114]⟩, .slice (some ⟨b, off, none⟩) 3 cap] w fun e w' => e = .returned (vt (rEnd 3)) ∧ Below w.heap.size w w' := by
  obtain ⟨hb0, c0, c1, c2⟩ := hL1
  obtain ⟨_, d0, d1, d2⟩ := hL2
  obtain ⟨_, e0, e1, e2⟩ := hL3
  simp only [Nat.add_assoc] at d1 d2 e1 e2
  have hne : ¬ b = w.heap.size := by omega
  have hlt : b < w.heap.size + 1 := by omega
  go_enter Tryd.func13, Tryd.ntmps13
  go_wp2_with fail
  refine (numberOf_ok t2 n2 s2 _ z2 h3 h4 HOK1.out).mono ?_
  rintro e w1 ⟨rfl, hb⟩
  obtain ⟨hc, hf⟩ := bcell hb
  have hz : w.heap.size < w1.heap.size := by have := hb.size; simp at this; omega
  have hzb : b < w1.heap.size := by omega
  have HB1 : Hid (Below w.heap.size w w1) := bl_trans (by go_grown) hb
  go_wp2_with fail
  refine (numberOf_bad t3 n3 s3 _ z3 h5 h6 HBAD.out).mono ?_
  rintro e w2 ⟨rfl, hb2⟩
  obtain ⟨hc2, hf2⟩ := bcell hb2
  have hy : w.heap.size < w2.heap.size := by have := hb2.size; omega
  have hyb : b < w2.heap.size := by omega
  have HB2 : Hid (Below w.heap.size w w2) := bl_trans HB1.out hb2
  go_wp2
  exact bodyPost_ret (v := .tuple #[.agg #[.bool false, .int .i64 0, .string ⟨#[]⟩], .int .i64 3]) (by simp [results, Tryd.results13, go_sem, hc, hc2, hz]) rfl ⟨rfl, below_set3 HB2.out (Nat.le_refl _) _ _ _⟩

set_option maxRecDepth 100000 in
set_option maxHeartbeats 2000000 in
theorem callOf_sub (b off cap : Nat) (t1 : Bool) (n1 : Int) (s1 : ByteArray) (t2 : Bool) (n2 : Int) (s2 : ByteArray) (t3 : Bool) (n3 : Int) (s3 : ByteArray) (w : World) (z1 : s1.size ≤ 200) (h1 : -1099511627776 ≤ n1) (h2 : n1 ≤ 1099511627776) (z2 : s2.size ≤ 200) (h3 : -1099511627776 ≤ n2) (h4 : n2 ≤ 1099511627776) (z3 : s3.size ≤ 200) (h5 : -1099511627776 ≤ n3) (h6 : n3 ≤ 1099511627776) (hL1 : LiesAt w b off t1 n1 s1) (hL2 : LiesAt w b (off + 3) t2 n2 s2) (hL3 : LiesAt w b (off + 6) t3 n3 s3) (A : ByteArray) (HA : Hid (strOf t1 n1 s1 = A)) (zA : A.size ≤ 200)
    (x y : Int) (HX : Hid (numOf t2 n2 s2 = x)) (HY : Hid (numOf t3 n3 s3 = y)) (x1 : -1099511627776 ≤ x) (x2 : x ≤ 1099511627776) (y1 : -1099511627776 ≤ y) (y2 : y ≤ 1099511627776) :
    Calls Tryd.prog 13 #[.string ⟨#[115, 117, 98, 115, 116, 114]⟩, .slice (some ⟨b, off, none⟩) 3 cap] w fun e w' => e = .returned (vt (subR A x y)) ∧ Below w.heap.size w w' := by
  have HOK1 : Hid (okN t2 n2 s2) := by have h := HX.out; unfold okN; show _ ∧ _; rw [h]; exact ⟨x1, x2⟩
  have HOK2 : Hid (okN t3 n3 s3) := by have h := HY.out; unfold okN; show _ ∧ _; rw [h]; exact ⟨y1, y2⟩
  obtain ⟨hb0, c0, c1, c2⟩ := hL1
  obtain ⟨_, d0, d1, d2⟩ := hL2
  obtain ⟨_, e0, e1, e2⟩ := hL3
  simp only [Nat.add_assoc] at d1 d2 e1 e2
  have hne : ¬ b = w.heap.size := by omega
  have hlt : b < w.heap.size + 1 := by omega
  go_enter Tryd.func13, Tryd.ntmps13
  go_wp2_with fail
  refine (numberOf_ok t2 n2 s2 _ z2 h3 h4 HOK1.out).mono ?_
  rintro e w1 ⟨rfl, hb⟩
  rw [HX.out]
  obtain ⟨hc, hf⟩ := bcell hb
  have hz : w.heap.size < w1.heap.size := by have := hb.size; simp at this; omega
  have hzb : b < w1.heap.size := by omega
  have HB1 : Hid (Below w.heap.size w w1) := bl_trans (by go_grown) hb
  go_wp2_with fail
  refine (numberOf_ok t3 n3 s3 _ z3 h5 h6 HOK2.out).mono ?_
  rintro e w2 ⟨rfl, hb2⟩
  rw [HY.out]
  obtain ⟨hc2, hf2⟩ := bcell hb2
  have hy : w.heap.size < w2.heap.size := by have := hb2.size; omega
  have hyb : b < w2.heap.size := by omega
  have HB2 : Hid (Below w.heap.size w w2) := bl_trans HB1.out hb2
  go_wp2_with fail
  refine (textOf_c t1 n1 s1 _ h1 h2).mono ?_
  rintro e w3 ⟨rfl, hb3⟩
  rw [HA.out]
  obtain ⟨hc3, hf3⟩ := bcell hb3
  have hx3 : w.heap.size < w3.heap.size := by have := hb3.size; omega
  have HB3 : Hid (Below w.heap.size w w3) := bl_trans HB2.out hb3
  have g0 : w3.cell? ⟨w.heap.size, 0, none⟩ = some (.bool false) := by simp [hc3, hc2, hc, hz, hy]
  have g1 : w3.cell? ⟨w.heap.size, 1, none⟩ = some (.int .i64 0) := by simp [hc3, hc2, hc, hz, hy]
  have g2 : w3.cell? ⟨w.heap.size, 2, none⟩ = some (.string ⟨#[]⟩) := by simp [hc3, hc2, hc, hz, hy]
  have k0 : w3.frozen? ⟨w.heap.size, 0, none⟩ = false := by simp [hf3, hf2, hf, hz, hy]
  have k1 : w3.frozen? ⟨w.heap.size, 1, none⟩ = false := by simp [hf3, hf2, hf, hz, hy]
  have k2 : w3.frozen? ⟨w.heap.size, 2, none⟩ = false := by simp [hf3, hf2, hf, hz, hy]
  clear hb hb2 hb3 hc hc2 hc3 hf hf2 hf3 c0 c1 c2 d0 d1 d2 e0 e1 e2
  go_wp2_with fail
  go_loop [14, 15] (fun vo vi => ∃ (k : Nat) (O : ByteArray), k ≤ A.size ∧ vi = .int .i64 ((k : Int) + 1) ∧ vo = .string O ∧ O.size ≤ 200 ∧ Hid (O.data.toList = outL A.data.toList x y k)) (fun _ vi => 202 - (intOf vi).toNat)
  case atStart => exact ⟨0, ⟨#[]⟩, by omega, rfl, rfl, by decide, (outL_zero _ _ _).symm⟩
  case round =>
    obtain ⟨k, O, hk, rfl, rfl, hO, HO⟩ := hrel
    by_cases hlt2 : k < A.size
    · have i1 : (k : Int) + 1 ≤ (A.size : Int) := by omega
      have i2 : (0 : Int) ≤ (k : Int) := by omega
      have i3 : (0 : Int) ≤ (k : Int) + 1 := by omega
      have i4 : (k : Int) ≤ (k : Int) + 1 := by omega
      have i5 : ((k : Int) + 1).toNat = k + 1 := by omega
      by_cases hin : x ≤ (k : Int) + 1 ∧ (k : Int) + 1 < x + y
      · obtain ⟨h7, h8⟩ := hin
        have HE : Hid ((O ++ A.extract k (k + 1)).data.toList = outL A.data.toList x y (k + 1)) := by
          show _ = _
          rw [ByteArray.data_append, Array.toList_append, HO.out, extract_one A k hlt2, outL_in A x y k hlt2 h7 h8]
        have zE : (O ++ A.extract k (k + 1)).size ≤ 200 := by
          rw [size_data, HE.out]
          have := outL_len A.data.toList x y (k + 1)
          omega
        obtain ⟨P1, hP1⟩ : ∃ P1, A.extract k (k + 1) = P1 := ⟨_, rfl⟩
        rw [hP1] at HE zE
        have zP : ¬ 9223372036854775807 < O.size + P1.size := by rw [ByteArray.size_append] at zE; omega
        go_wp2
        go_round
        case rel => exact ⟨k + 1, O ++ P1, by omega, by go_num, by go_num, zE, HE⟩
        case measure => simp [intOf]; omega
      · have HE : Hid (O.data.toList = outL A.data.toList x y (k + 1)) := HO.out.trans (outL_out A x y k (by omega)).symm
        by_cases h7 : x ≤ (k : Int) + 1
        · have h8 : decide ((k : Int) + 1 < x + y) = false := by simp; omega
          clear hin
          go_wp2
          go_round
          case rel => exact ⟨k + 1, O, by omega, by go_num, by go_num, hO, HE⟩
          case measure => simp [intOf]; omega
        · have h7' : ¬ x ≤ (k : Int) + 1 := h7
          clear hin h7
          go_wp2
          go_round
          case rel => exact ⟨k + 1, O, by omega, by go_num, by go_num, hO, HE⟩
          case measure => simp [intOf]; omega
    · have HE : Hid (O = ⟨(subL A.data.toList x y).toArray⟩) := by
        show _ = _
        have hk' : k = A.size := by omega
        have h := HO.out
        rw [hk', outL_end] at h
        rw [← h]
      have i1 : ¬ (k : Int) + 1 ≤ (A.size : Int) := by omega
      go_wp2_with fail
      refine (rtext_c O _).mono ?_
      rintro e w4 ⟨rfl, hb4⟩
      obtain ⟨hc4, hf4⟩ := bcell hb4
      go_wp2
      exact bodyPost_ret (v := .tuple #[.agg #[.bool true, .int .i64 0, .string O], .int .i64 0]) (by simp [results, Tryd.results13, go_sem, hc4, hx3, g0, g1, g2]) rfl ⟨by rw [HE.out]; rfl, below_set3 (bl_trans HB3.out hb4) (Nat.le_refl _) _ _ _⟩

theorem callOf_substr (b off cap : Nat) (t1 : Bool) (n1 : Int) (s1 : ByteArray) (t2 : Bool) (n2 : Int) (s2 : ByteArray) (t3 : Bool) (n3 : Int) (s3 : ByteArray) (w : World) (z1 : s1.size ≤ 200) (h1 : -1099511627776 ≤ n1) (h2 : n1 ≤ 1099511627776) (z2 : s2.size ≤ 200) (h3 : -1099511627776 ≤ n2) (h4 : n2 ≤ 1099511627776) (z3 : s3.size ≤ 200) (h5 : -1099511627776 ≤ n3) (h6 : n3 ≤ 1099511627776) (hL1 : LiesAt w b off t1 n1 s1) (hL2 : LiesAt w b (off + 3) t2 n2 s2) (hL3 : LiesAt w b (off + 6) t3 n3 s3) (A : ByteArray) (HA : Hid (strOf t1 n1 s1 = A)) (zA : A.size ≤ 200) :
    Calls Tryd.prog 13 #[.string ⟨#[115, 117, 98, 115, 116, 114]⟩, .slice (some ⟨b, off, none⟩) 3 cap] w fun e w' => e = .returned (vt (pieceR A t2 n2 s2 t3 n3 s3)) ∧ Below w.heap.size w w' := by
  unfold pieceR
  split
  · rename_i hk
    obtain ⟨⟨x1, x2⟩, ⟨y1, y2⟩⟩ := hk
    exact callOf_sub b off cap t1 n1 s1 t2 n2 s2 t3 n3 s3 w z1 h1 h2 z2 h3 h4 z3 h5 h6 hL1 hL2 hL3 A HA zA _ _ rfl rfl x1 x2 y1 y2
  · rename_i hk
    by_cases k1 : okN t2 n2 s2
    · exact callOf_sub2 b off cap t1 n1 s1 t2 n2 s2 t3 n3 s3 w z1 h1 h2 z2 h3 h4 z3 h5 h6 hL1 hL2 hL3 k1 (okN_not fun k2 => hk ⟨k1, k2⟩)
    · exact callOf_sub1 b off cap t1 n1 s1 t2 n2 s2 t3 n3 s3 w z1 h1 h2 z2 h3 h4 z3 h5 h6 hL1 hL2 hL3 (okN_not k1)
end Go.Proofs.YtejcmammdmpcoabDoor
