/-
  Contract of value.Op at the operators of numbers (P1.4).
-/
import Derived.Test.YtejcmammdmpcoabDoorOp
namespace Go.Proofs.YtejcmammdmpcoabDoor
open Go.ChangeShapes Go.WideShapes Go.ChangeAt Go.RowKit Go.Joins

/-- Can a value be a number? -/
def okN (t : Bool) (n : Int) (s : ByteArray) : Prop := -1099511627776 ≤ numOf t n s ∧ numOf t n s ≤ 1099511627776
theorem okN_not {t : Bool} {n : Int} {s : ByteArray} (h : ¬ okN t n s) : numOf t n s < -1099511627776 ∨ 1099511627776 < numOf t n s := by
  unfold okN at h; omega

set_option maxHeartbeats 1000000 in
theorem op_bad1 (op : ByteArray) (t1 : Bool) (n1 : Int) (s1 : ByteArray) (t2 : Bool) (n2 : Int) (s2 : ByteArray) (w : World) (z1 : s1.size ≤ 200) (z2 : s2.size ≤ 200) (o1 : (op.toList == [60]) = false) (o2 : (op.toList == [60, 61]) = false) (o3 : (op.toList == [61, 61]) = false) (o4 : (op.toList == [33, 61]) = false) (o5 : (op.toList == [62]) = false) (o6 : (op.toList == [62, 61]) = false) (o7 : (op.toList == [46, 46]) = false) (hbad : numOf t1 n1 s1 < -1099511627776 ∨ 1099511627776 < numOf t1 n1 s1) :
    Calls Tryd.prog 10 #[.string op, .agg #[.bool t1, .int .i64 n1, .string s1], .agg #[.bool t2, .int .i64 n2, .string s2]] w fun e w' => e = .returned (vt (rEnd 3)) ∧ Below w.heap.size w w' := by
  have HBAD : Hid (numOf t1 n1 s1 < -1099511627776 ∨ 1099511627776 < numOf t1 n1 s1) := hbad
  clear hbad
  go_enter Tryd.func10, Tryd.ntmps10
  go_wp2_with fail
  refine (num_bad t1 n1 s1 _ z1 HBAD.out).mono ?_
  rintro e w1 ⟨rfl, hb⟩
  obtain ⟨hc, hf⟩ := bcell hb
  have hz : w.heap.size + 2 < w1.heap.size := by have := hb.size; simp at this; omega
  have hz1 : w.heap.size + 1 < w1.heap.size := by omega
  have HB1 : Hid (Below w.heap.size w w1) := bl_trans (by go_grown) hb
  go_wp2_with fail
  refine (num_c t2 n2 s2 _ z2).mono ?_
  rintro e w2 ⟨rfl, hb2⟩
  obtain ⟨hc2, hf2⟩ := bcell hb2
  go_wp2
  exact bodyPost_ret (v := .tuple #[.agg #[.bool false, .int .i64 0, .string ⟨#[]⟩], .int .i64 3]) (by simp [results, Tryd.results10, go_sem, hc, hc2, hz]) rfl ⟨rfl, below_set3 (bl_trans HB1.out hb2) (by omega) _ _ _⟩

set_option maxHeartbeats 1000000 in
theorem op_bad2 (op : ByteArray) (t1 : Bool) (n1 : Int) (s1 : ByteArray) (t2 : Bool) (n2 : Int) (s2 : ByteArray) (w : World) (z1 : s1.size ≤ 200) (z2 : s2.size ≤ 200) (o1 : (op.toList == [60]) = false) (o2 : (op.toList == [60, 61]) = false) (o3 : (op.toList == [61, 61]) = false) (o4 : (op.toList == [33, 61]) = false) (o5 : (op.toList == [62]) = false) (o6 : (op.toList == [62, 61]) = false) (o7 : (op.toList == [46, 46]) = false) (hok : okN t1 n1 s1) (hbad : numOf t2 n2 s2 < -1099511627776 ∨ 1099511627776 < numOf t2 n2 s2) :
    Calls Tryd.prog 10 #[.string op, .agg #[.bool t1, .int .i64 n1, .string s1], .agg #[.bool t2, .int .i64 n2, .string s2]] w fun e w' => e = .returned (vt (rEnd 3)) ∧ Below w.heap.size w w' := by
  have HBAD : Hid (numOf t2 n2 s2 < -1099511627776 ∨ 1099511627776 < numOf t2 n2 s2) := hbad
  have HOK : Hid (okN t1 n1 s1) := hok
  clear hbad hok
  go_enter Tryd.func10, Tryd.ntmps10
  go_wp2_with fail
  refine (num_ok t1 n1 s1 _ z1 HOK.out.1 HOK.out.2).mono ?_
  rintro e w1 ⟨rfl, hb⟩
  obtain ⟨hc, hf⟩ := bcell hb
  have hz : w.heap.size + 2 < w1.heap.size := by have := hb.size; simp at this; omega
  have hz1 : w.heap.size + 1 < w1.heap.size := by omega
  have HB1 : Hid (Below w.heap.size w w1) := bl_trans (by go_grown) hb
  go_wp2_with fail
  refine (num_bad t2 n2 s2 _ z2 HBAD.out).mono ?_
  rintro e w2 ⟨rfl, hb2⟩
  obtain ⟨hc2, hf2⟩ := bcell hb2
  go_wp2
  exact bodyPost_ret (v := .tuple #[.agg #[.bool false, .int .i64 0, .string ⟨#[]⟩], .int .i64 3]) (by simp [results, Tryd.results10, go_sem, hc, hc2, hz]) rfl ⟨rfl, below_set3 (bl_trans HB1.out hb2) (by omega) _ _ _⟩

set_option maxHeartbeats 1000000 in
theorem op_good (op : ByteArray) (t1 : Bool) (n1 : Int) (s1 : ByteArray) (t2 : Bool) (n2 : Int) (s2 : ByteArray) (w : World) (z1 : s1.size ≤ 200) (z2 : s2.size ≤ 200) (o1 : (op.toList == [60]) = false) (o2 : (op.toList == [60, 61]) = false) (o3 : (op.toList == [61, 61]) = false) (o4 : (op.toList == [33, 61]) = false) (o5 : (op.toList == [62]) = false) (o6 : (op.toList == [62, 61]) = false) (o7 : (op.toList == [46, 46]) = false) (hok1 : okN t1 n1 s1) (hok2 : okN t2 n2 s2) :
    Calls Tryd.prog 10 #[.string op, .agg #[.bool t1, .int .i64 n1, .string s1], .agg #[.bool t2, .int .i64 n2, .string s2]] w fun e w' => e = .returned (vt (reck op.toList (numOf t1 n1 s1) (numOf t2 n2 s2))) ∧ Below w.heap.size w w' := by
  have HOK1 : Hid (okN t1 n1 s1) := hok1
  have HOK2 : Hid (okN t2 n2 s2) := hok2
  clear hok1 hok2
  obtain ⟨rt, rn, rs, re, hr⟩ : ∃ rt rn rs re, reck op.toList (numOf t1 n1 s1) (numOf t2 n2 s2) = (rt, rn, rs, re) := ⟨_, _, _, _, rfl⟩
  have HR : Hid (reck op.toList (numOf t1 n1 s1) (numOf t2 n2 s2) = (rt, rn, rs, re)) := hr
  clear hr
  go_enter Tryd.func10, Tryd.ntmps10
  go_wp2_with fail
  refine (num_ok t1 n1 s1 _ z1 HOK1.out.1 HOK1.out.2).mono ?_
  rintro e w1 ⟨rfl, hb⟩
  obtain ⟨hc, hf⟩ := bcell hb
  have hz : w.heap.size + 2 < w1.heap.size := by have := hb.size; simp at this; omega
  have hz1 : w.heap.size + 1 < w1.heap.size := by omega
  have HB1 : Hid (Below w.heap.size w w1) := bl_trans (by go_grown) hb
  go_wp2_with fail
  refine (num_ok t2 n2 s2 _ z2 HOK2.out.1 HOK2.out.2).mono ?_
  rintro e w2 ⟨rfl, hb2⟩
  obtain ⟨hc2, hf2⟩ := bcell hb2
  have hy : w.heap.size + 2 < w2.heap.size := by have := hb2.size; omega
  have HB2 : Hid (Below w.heap.size w w2) := bl_trans HB1.out hb2
  go_wp2_with fail
  refine (reckon_c op (numOf t1 n1 s1) (numOf t2 n2 s2) _ HOK1.out.1 HOK1.out.2 HOK2.out.1 HOK2.out.2).mono ?_
  rintro e w3 ⟨rfl, hb3⟩
  rw [HR.out]
  obtain ⟨hc3, hf3⟩ := bcell hb3
  simp only [vt]
  go_wp2
  exact bodyPost_ret (v := .tuple #[.agg #[.bool rt, .int .i64 rn, .string rs], .int .i64 re]) (by simp [results, Tryd.results10, go_sem, hc, hc2, hc3, hz, hy]) rfl ⟨by rw [HR.out]; rfl, below_set3 (bl_trans HB2.out hb3) (by omega) _ _ _⟩
end Go.Proofs.YtejcmammdmpcoabDoor
