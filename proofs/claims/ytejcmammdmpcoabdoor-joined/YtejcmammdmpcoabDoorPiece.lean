/-
  Contract of value.piece: the bytes of a text from a place on, as many as asked for, those that there are (P1.5).
-/
import Derived.Test.YtejcmammdmpcoabDoorOp2
namespace Go.Proofs.YtejcmammdmpcoabDoor
open Go.ChangeShapes Go.WideShapes Go.ChangeAt Go.RowKit Go.Joins
set_option linter.unusedVariables false

/-- The bytes at the places x .. x + y - 1 (from 1 on), those that there are. -/
def subL (l : List UInt8) (x y : Int) : List UInt8 := (l.take (x - 1 + y).toNat).drop (max x 1 - 1).toNat
def subR (A : ByteArray) (x y : Int) : R4 := (true, 0, ⟨(subL A.data.toList x y).toArray⟩, 0)

theorem sub_none {A : ByteArray} {x y e : Int} {p : Nat} (hp : max x 1 = (p : Int) + 1) (he : min (x - 1 + y) (A.size : Int) = e) (h : e ≤ (p : Int)) : (⟨(subL A.data.toList x y).toArray⟩ : ByteArray) = ⟨#[]⟩ := by
  have : subL A.data.toList x y = [] := by
    unfold subL
    apply List.drop_eq_nil_of_le
    rw [List.length_take]
    have h3 : A.data.toList.length = A.size := by simp
    rw [hp, h3]
    omega
  rw [this]
theorem sub_some {A : ByteArray} {x y : Int} {p q : Nat} (hp : max x 1 = (p : Int) + 1) (he : min (x - 1 + y) (A.size : Int) = (q : Int)) : A.extract p q = ⟨(subL A.data.toList x y).toArray⟩ := by
  apply ByteArray.ext
  rw [ByteArray.data_extract]
  apply Array.toList_inj.1
  rw [Array.toList_extract, List.extract_eq_take_drop]
  show _ = subL A.data.toList x y
  unfold subL
  have e1 : (max x 1 - 1).toNat = p := by omega
  rw [e1, List.drop_take]
  by_cases h : x - 1 + y ≤ (A.size : Int)
  · have e2 : (x - 1 + y).toNat = q := by omega
    rw [e2]
  · have h3 : A.data.toList.length = A.size := by simp
    rw [List.take_of_length_le (by rw [List.length_drop, h3]; omega), List.take_of_length_le (by rw [List.length_drop, h3]; omega)]

set_option maxHeartbeats 1000000 in
theorem piece_bad1 (A : ByteArray) (t1 : Bool) (n1 : Int) (s1 : ByteArray) (t2 : Bool) (n2 : Int) (s2 : ByteArray) (w : World) (z1 : s1.size ≤ 200) (z2 : s2.size ≤ 200) (HBAD : Hid (numOf t1 n1 s1 < -1099511627776 ∨ 1099511627776 < numOf t1 n1 s1)) :
    Calls Tryd.prog 35 #[.string A, .agg #[.bool t1, .int .i64 n1, .string s1], .agg #[.bool t2, .int .i64 n2, .string s2]] w fun e w' => e = .returned (vt (rEnd 3)) ∧ Below w.heap.size w w' := by
  go_enter Tryd.func35, Tryd.ntmps35
  go_wp2_with fail
  refine (num_bad t1 n1 s1 _ z1 HBAD.out).mono ?_
  rintro e w1 ⟨rfl, hb⟩
  obtain ⟨hc, hf⟩ := bcell hb
  have hz : w.heap.size + 2 < w1.heap.size := by have := hb.size; simp at this; omega
  have hz1 : w.heap.size + 1 < w1.heap.size := by omega
  have HB1 : Hid (Below w.heap.size w w1) := bl_trans (by go_grown) hb
  go_wp2_with fail
  refine (num_c t2 n2 s2 _ z2).mono ?_
  rintro e w2 ⟨rfl, hb2⟩
  obtain ⟨hc2, hf2⟩ := bcell hb2
  have hy : w.heap.size + 2 < w2.heap.size := by have := hb2.size; omega
  have HB2 : Hid (Below w.heap.size w w2) := bl_trans HB1.out hb2
  go_wp2
  exact bodyPost_ret (v := .tuple #[.agg #[.bool false, .int .i64 0, .string ⟨#[]⟩], .int .i64 3]) (by simp [results, Tryd.results35, go_sem, hc, hc2, hz]) rfl ⟨rfl, below_set3 HB2.out (by omega) _ _ _⟩

set_option maxHeartbeats 1000000 in
theorem piece_bad2 (A : ByteArray) (t1 : Bool) (n1 : Int) (s1 : ByteArray) (t2 : Bool) (n2 : Int) (s2 : ByteArray) (w : World) (z1 : s1.size ≤ 200) (z2 : s2.size ≤ 200) (HOK1 : Hid (okN t1 n1 s1)) (HBAD : Hid (numOf t2 n2 s2 < -1099511627776 ∨ 1099511627776 < numOf t2 n2 s2)) :
    Calls Tryd.prog 35 #[.string A, .agg #[.bool t1, .int .i64 n1, .string s1], .agg #[.bool t2, .int .i64 n2, .string s2]] w fun e w' => e = .returned (vt (rEnd 3)) ∧ Below w.heap.size w w' := by
  go_enter Tryd.func35, Tryd.ntmps35
  go_wp2_with fail
  refine (num_ok t1 n1 s1 _ z1 HOK1.out.1 HOK1.out.2).mono ?_
  rintro e w1 ⟨rfl, hb⟩
  obtain ⟨hc, hf⟩ := bcell hb
  have hz : w.heap.size + 2 < w1.heap.size := by have := hb.size; simp at this; omega
  have hz1 : w.heap.size + 1 < w1.heap.size := by omega
  have HB1 : Hid (Below w.heap.size w w1) := bl_trans (by go_grown) hb
  go_wp2_with fail
  refine (num_bad t2 n2 s2 _ z2 HBAD.out).mono ?_
  rintro e w2 ⟨rfl, hb2⟩
  obtain ⟨hc2, hf2⟩ := bcell hb2
  have hy : w.heap.size + 2 < w2.heap.size := by have := hb2.size; omega
  have HB2 : Hid (Below w.heap.size w w2) := bl_trans HB1.out hb2
  go_wp2
  exact bodyPost_ret (v := .tuple #[.agg #[.bool false, .int .i64 0, .string ⟨#[]⟩], .int .i64 3]) (by simp [results, Tryd.results35, go_sem, hc, hc2, hz]) rfl ⟨rfl, below_set3 HB2.out (by omega) _ _ _⟩

set_option maxHeartbeats 1000000 in
theorem piece_none (A : ByteArray) (t1 : Bool) (n1 : Int) (s1 : ByteArray) (t2 : Bool) (n2 : Int) (s2 : ByteArray) (w : World) (z1 : s1.size ≤ 200) (z2 : s2.size ≤ 200) (x y : Int) (HX : Hid (numOf t1 n1 s1 = x)) (HY : Hid (numOf t2 n2 s2 = y)) (x1 : -1099511627776 ≤ x) (x2 : x ≤ 1099511627776) (y1 : -1099511627776 ≤ y) (y2 : y ≤ 1099511627776) (hA : A.size ≤ 200) (p : Nat) (e0 : Int) (hp : max x 1 = (p : Int) + 1) (he : min (x - 1 + y) (A.size : Int) = e0) (h : e0 ≤ (p : Int)) :
    Calls Tryd.prog 35 #[.string A, .agg #[.bool t1, .int .i64 n1, .string s1], .agg #[.bool t2, .int .i64 n2, .string s2]] w fun e w' => e = .returned (.tuple #[.agg #[.bool true, .int .i64 0, .string ⟨#[]⟩], .int .i64 0]) ∧ Below w.heap.size w w' := by
  have HOK1 : Hid (okN t1 n1 s1) := by have h := HX.out; unfold okN; show _ ∧ _; rw [h]; exact ⟨x1, x2⟩
  have HOK2 : Hid (okN t2 n2 s2) := by have h := HY.out; unfold okN; show _ ∧ _; rw [h]; exact ⟨y1, y2⟩
  go_enter Tryd.func35, Tryd.ntmps35
  go_wp2_with fail
  refine (num_ok t1 n1 s1 _ z1 HOK1.out.1 HOK1.out.2).mono ?_
  rintro e w1 ⟨rfl, hb⟩
  rw [HX.out]
  obtain ⟨hc, hf⟩ := bcell hb
  have hz : w.heap.size + 2 < w1.heap.size := by have := hb.size; simp at this; omega
  have hz1 : w.heap.size + 1 < w1.heap.size := by omega
  have HB1 : Hid (Below w.heap.size w w1) := bl_trans (by go_grown) hb
  go_wp2_with fail
  refine (num_ok t2 n2 s2 _ z2 HOK2.out.1 HOK2.out.2).mono ?_
  rintro e w2 ⟨rfl, hb2⟩
  rw [HY.out]
  obtain ⟨hc2, hf2⟩ := bcell hb2
  have hy : w.heap.size + 2 < w2.heap.size := by have := hb2.size; omega
  have HB2 : Hid (Below w.heap.size w w2) := bl_trans HB1.out hb2
  go_wp2_with fail
  refine (text_c ⟨#[]⟩ _).mono ?_
  rintro e w3 ⟨rfl, hb3⟩
  obtain ⟨hc3, hf3⟩ := bcell hb3
  go_wp2
  exact bodyPost_ret (v := .tuple #[.agg #[.bool true, .int .i64 0, .string ⟨#[]⟩], .int .i64 0]) (by simp [results, Tryd.results35, go_sem, hc, hc2, hc3, hz, hy]) rfl ⟨rfl, below_set3 (bl_trans HB2.out hb3) (by omega) _ _ _⟩

set_option maxHeartbeats 1000000 in
theorem piece_some (A : ByteArray) (t1 : Bool) (n1 : Int) (s1 : ByteArray) (t2 : Bool) (n2 : Int) (s2 : ByteArray) (w : World) (z1 : s1.size ≤ 200) (z2 : s2.size ≤ 200) (x y : Int) (HX : Hid (numOf t1 n1 s1 = x)) (HY : Hid (numOf t2 n2 s2 = y)) (x1 : -1099511627776 ≤ x) (x2 : x ≤ 1099511627776) (y1 : -1099511627776 ≤ y) (y2 : y ≤ 1099511627776) (hA : A.size ≤ 200) (p q : Nat) (hp : max x 1 = (p : Int) + 1) (he : min (x - 1 + y) (A.size : Int) = (q : Int)) (h : (p : Int) < (q : Int)) (hq : (q : Int) ≤ (A.size : Int)) :
    Calls Tryd.prog 35 #[.string A, .agg #[.bool t1, .int .i64 n1, .string s1], .agg #[.bool t2, .int .i64 n2, .string s2]] w fun e w' => e = .returned (.tuple #[.agg #[.bool true, .int .i64 0, .string (A.extract p q)], .int .i64 0]) ∧ Below w.heap.size w w' := by
  have p0 : (0 : Int) ≤ (p : Int) := by omega
  have q0 : (0 : Int) ≤ (q : Int) := by omega
  have hpq : (p : Int) ≤ (q : Int) := by omega
  have hpqn : p ≤ q := by omega
  have hqn : q ≤ A.size := by omega
  have HOK1 : Hid (okN t1 n1 s1) := by have h := HX.out; unfold okN; show _ ∧ _; rw [h]; exact ⟨x1, x2⟩
  have HOK2 : Hid (okN t2 n2 s2) := by have h := HY.out; unfold okN; show _ ∧ _; rw [h]; exact ⟨y1, y2⟩
  go_enter Tryd.func35, Tryd.ntmps35
  go_wp2_with fail
  refine (num_ok t1 n1 s1 _ z1 HOK1.out.1 HOK1.out.2).mono ?_
  rintro e w1 ⟨rfl, hb⟩
  rw [HX.out]
  obtain ⟨hc, hf⟩ := bcell hb
  have hz : w.heap.size + 2 < w1.heap.size := by have := hb.size; simp at this; omega
  have hz1 : w.heap.size + 1 < w1.heap.size := by omega
  have HB1 : Hid (Below w.heap.size w w1) := bl_trans (by go_grown) hb
  go_wp2_with fail
  refine (num_ok t2 n2 s2 _ z2 HOK2.out.1 HOK2.out.2).mono ?_
  rintro e w2 ⟨rfl, hb2⟩
  rw [HY.out]
  obtain ⟨hc2, hf2⟩ := bcell hb2
  have hy : w.heap.size + 2 < w2.heap.size := by have := hb2.size; omega
  have HB2 : Hid (Below w.heap.size w w2) := bl_trans HB1.out hb2
  go_wp2_with fail
  refine (text_c (A.extract p q) _).mono ?_
  rintro e w3 ⟨rfl, hb3⟩
  obtain ⟨hc3, hf3⟩ := bcell hb3
  go_wp2
  exact bodyPost_ret (v := .tuple #[.agg #[.bool true, .int .i64 0, .string (A.extract p q)], .int .i64 0]) (by simp [results, Tryd.results35, go_sem, hc, hc2, hc3, hz, hy]) rfl ⟨rfl, below_set3 (bl_trans HB2.out hb3) (by omega) _ _ _⟩

/-- What piece answers. -/
def pieceR (A : ByteArray) (t1 : Bool) (n1 : Int) (s1 : ByteArray) (t2 : Bool) (n2 : Int) (s2 : ByteArray) : R4 :=
  if (-1099511627776 ≤ numOf t1 n1 s1 ∧ numOf t1 n1 s1 ≤ 1099511627776) ∧ (-1099511627776 ≤ numOf t2 n2 s2 ∧ numOf t2 n2 s2 ≤ 1099511627776) then subR A (numOf t1 n1 s1) (numOf t2 n2 s2) else rEnd 3

theorem piece_c (A : ByteArray) (t1 : Bool) (n1 : Int) (s1 : ByteArray) (t2 : Bool) (n2 : Int) (s2 : ByteArray) (w : World) (z1 : s1.size ≤ 200) (z2 : s2.size ≤ 200) (hA : A.size ≤ 200) :
    Calls Tryd.prog 35 #[.string A, .agg #[.bool t1, .int .i64 n1, .string s1], .agg #[.bool t2, .int .i64 n2, .string s2]] w fun e w' => e = .returned (vt (pieceR A t1 n1 s1 t2 n2 s2)) ∧ Below w.heap.size w w' := by
  unfold pieceR
  split
  · rename_i hk
    obtain ⟨⟨x1, x2⟩, ⟨y1, y2⟩⟩ := hk
    generalize hx : numOf t1 n1 s1 = x at x1 x2 ⊢
    generalize hy : numOf t2 n2 s2 = y at y1 y2 ⊢
    have hp : max x 1 = (((max x 1 - 1).toNat : Nat) : Int) + 1 := by omega
    by_cases h : min (x - 1 + y) (A.size : Int) ≤ (((max x 1 - 1).toNat : Nat) : Int)
    · have e : vt (subR A x y) = .tuple #[.agg #[.bool true, .int .i64 0, .string ⟨#[]⟩], .int .i64 0] := by
        unfold subR vt; rw [sub_none hp rfl h]
      rw [e]
      exact piece_none A t1 n1 s1 t2 n2 s2 w z1 z2 x y hx hy x1 x2 y1 y2 hA _ _ hp rfl h
    · have hq : min (x - 1 + y) (A.size : Int) = (((min (x - 1 + y) (A.size : Int)).toNat : Nat) : Int) := by omega
      have e : vt (subR A x y) = .tuple #[.agg #[.bool true, .int .i64 0, .string (A.extract (max x 1 - 1).toNat (min (x - 1 + y) (A.size : Int)).toNat)], .int .i64 0] := by
        unfold subR vt; rw [sub_some hp hq]
      rw [e]
      exact piece_some A t1 n1 s1 t2 n2 s2 w z1 z2 x y hx hy x1 x2 y1 y2 hA _ _ hp hq (by omega) (by omega)
  · rename_i hk
    by_cases k1 : okN t1 n1 s1
    · exact piece_bad2 A t1 n1 s1 t2 n2 s2 w z1 z2 k1 (okN_not fun k2 => hk ⟨k1, k2⟩)
    · exact piece_bad1 A t1 n1 s1 t2 n2 s2 w z1 z2 (okN_not k1)
end Go.Proofs.YtejcmammdmpcoabDoor
