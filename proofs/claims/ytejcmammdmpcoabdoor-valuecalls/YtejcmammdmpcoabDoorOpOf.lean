/-
  Contract of the answer OpOf of the document, of two values that may be (P1.3, P1.4).
-/
import Derived.Test.YtejcmammdmpcoabDoorOpJoin
namespace Go.Proofs.YtejcmammdmpcoabDoor
open Go.ChangeShapes Go.WideShapes Go.ChangeAt Go.RowKit Go.Joins

set_option maxHeartbeats 400000 in
theorem isAsk_no (op : ByteArray) (o1 : (op.toList == [60]) = false) (o2 : (op.toList == [60, 61]) = false) (o3 : (op.toList == [61, 61]) = false) (o4 : (op.toList == [33, 61]) = false) (o5 : (op.toList == [62]) = false) (o6 : (op.toList == [62, 61]) = false) (w : World) :
    Calls Tryd.prog 26 #[.string op] w fun e w' => e = .returned (.bool false) ∧ w' = w := by
  go_enter Tryd.func26, Tryd.ntmps26
  go_wp2
  go_ret
  exact ⟨rfl, rfl⟩

set_option maxHeartbeats 400000 in
theorem isAsk_yes (op : ByteArray) (hop : AskOp op) (w : World) :
    Calls Tryd.prog 26 #[.string op] w fun e w' => e = .returned (.bool true) ∧ w' = w := by
  obtain rfl | rfl | rfl | rfl | rfl | rfl := hop
  all_goals go_enter Tryd.func26, Tryd.ntmps26
  all_goals go_wp2
  all_goals go_ret
  all_goals exact ⟨rfl, rfl⟩

set_option maxHeartbeats 400000 in
theorem rnum_c (n : Int) (w : World) :
    Calls Tryd.prog 28 #[.int .i64 n] w fun e w' => e = .returned (.agg #[.bool false, .int .i64 n, .string ⟨#[]⟩]) ∧ Below w.heap.size w w' := by
  go_enter Tryd.func28, Tryd.ntmps28
  go_wp2
  go_returns
  exact ⟨rfl, by go_grown⟩

set_option maxHeartbeats 400000 in
theorem rtext_c (s : ByteArray) (w : World) :
    Calls Tryd.prog 30 #[.string s] w fun e w' => e = .returned (.agg #[.bool true, .int .i64 0, .string s]) ∧ Below w.heap.size w w' := by
  go_enter Tryd.func30, Tryd.ntmps30
  go_wp2
  go_returns
  exact ⟨rfl, by go_grown⟩

theorem numberOf_ok (t : Bool) (n : Int) (s : ByteArray) (w : World) (hs : s.size ≤ 200) (h0 : -1099511627776 ≤ n) (h1 : n ≤ 1099511627776) (h : okN t n s) :
    Calls Tryd.prog 31 #[.agg #[.bool t, .int .i64 n, .string s]] w fun e w' => e = .returned (.tuple #[.int .i64 (numOf t n s), .int .i64 0]) ∧ Below w.heap.size w w' :=
  (numberOf_c t n s w hs h0 h1).mono fun _ _ ⟨he, hb⟩ => ⟨he.trans (ret_ok rfl h.1 h.2).symm, hb⟩
theorem numberOf_bad (t : Bool) (n : Int) (s : ByteArray) (w : World) (hs : s.size ≤ 200) (h0 : -1099511627776 ≤ n) (h1 : n ≤ 1099511627776) (h : numOf t n s < -1099511627776 ∨ 1099511627776 < numOf t n s) :
    Calls Tryd.prog 31 #[.agg #[.bool t, .int .i64 n, .string s]] w fun e w' => e = .returned (.tuple #[.int .i64 0, .int .i64 2]) ∧ Below w.heap.size w w' :=
  (numberOf_c t n s w hs h0 h1).mono fun _ _ ⟨he, hb⟩ => ⟨he.trans (ret_bad h).symm, hb⟩

theorem tl (l m : List UInt8) (h : (l == m) = false) : ((⟨l.toArray⟩ : ByteArray).toList == m) = false := by rw [ByteArray.toList_eq]; exact h

set_option maxHeartbeats 1000000 in
theorem opOf_ask_L (op : ByteArray) (hop : AskOp op) (t1 : Bool) (n1 : Int) (s1 : ByteArray) (t2 : Bool) (n2 : Int) (s2 : ByteArray) (w : World) (h1 : -1099511627776 ≤ n1) (h2 : n1 ≤ 1099511627776) (h3 : -1099511627776 ≤ n2) (h4 : n2 ≤ 1099511627776) (L : Bool) (HL : Hid (askL op.data.toList (decide (ordV t1 n1 s1 t2 n2 s2 < 0)) (decide (ordV t1 n1 s1 t2 n2 s2 = 0)) = L)) :
    Calls Tryd.prog 11 #[.string op, .agg #[.bool t1, .int .i64 n1, .string s1], .agg #[.bool t2, .int .i64 n2, .string s2]] w fun e w' => e = .returned (vt (rN (b2i L))) ∧ Below w.heap.size w w' := by
  have HK : Hid (AskOp op) := hop
  clear hop
  cases L
  · go_enter Tryd.func11, Tryd.ntmps11
    go_wp2_with fail
    refine (isAsk_yes op HK.out _).mono ?_
    rintro e wa ⟨rfl, rfl⟩
    go_wp2_with fail
    refine (askedOf_c op HK.out t1 n1 s1 t2 n2 s2 _ h1 h2 h3 h4).mono ?_
    rintro e w1 ⟨rfl, hb⟩
    rw [HL.out]
    obtain ⟨hc, hf⟩ := bcell hb
    have hz : w.heap.size + 2 < w1.heap.size := by have := hb.size; simp at this; omega
    have HB1 : Hid (Below w.heap.size w w1) := bl_trans (by go_grown) hb
    go_wp2_with fail
    refine (rnum_c 0 _).mono ?_
    rintro e w3 ⟨rfl, hb3⟩
    obtain ⟨hc3, hf3⟩ := bcell hb3
    go_wp2
    exact bodyPost_ret (v := .tuple #[.agg #[.bool false, .int .i64 0, .string ⟨#[]⟩], .int .i64 0]) (by simp [results, Tryd.results11, go_sem, hc, hc3, hz]) rfl ⟨rfl, below_set3 (bl_trans HB1.out hb3) (by omega) _ _ _⟩
  · go_enter Tryd.func11, Tryd.ntmps11
    go_wp2_with fail
    refine (isAsk_yes op HK.out _).mono ?_
    rintro e wa ⟨rfl, rfl⟩
    go_wp2_with fail
    refine (askedOf_c op HK.out t1 n1 s1 t2 n2 s2 _ h1 h2 h3 h4).mono ?_
    rintro e w1 ⟨rfl, hb⟩
    rw [HL.out]
    obtain ⟨hc, hf⟩ := bcell hb
    have hz : w.heap.size + 2 < w1.heap.size := by have := hb.size; simp at this; omega
    have HB1 : Hid (Below w.heap.size w w1) := bl_trans (by go_grown) hb
    go_wp2_with fail
    refine (rnum_c 1 _).mono ?_
    rintro e w3 ⟨rfl, hb3⟩
    obtain ⟨hc3, hf3⟩ := bcell hb3
    go_wp2
    exact bodyPost_ret (v := .tuple #[.agg #[.bool false, .int .i64 1, .string ⟨#[]⟩], .int .i64 0]) (by simp [results, Tryd.results11, go_sem, hc, hc3, hz]) rfl ⟨rfl, below_set3 (bl_trans HB1.out hb3) (by omega) _ _ _⟩

theorem opOf_ask_c (op : ByteArray) (hop : AskOp op) (t1 : Bool) (n1 : Int) (s1 : ByteArray) (t2 : Bool) (n2 : Int) (s2 : ByteArray) (w : World) (h1 : -1099511627776 ≤ n1) (h2 : n1 ≤ 1099511627776) (h3 : -1099511627776 ≤ n2) (h4 : n2 ≤ 1099511627776) :
    Calls Tryd.prog 11 #[.string op, .agg #[.bool t1, .int .i64 n1, .string s1], .agg #[.bool t2, .int .i64 n2, .string s2]] w fun e w' => e = .returned (vt (rN (b2i (askL op.data.toList (decide (ordV t1 n1 s1 t2 n2 s2 < 0)) (decide (ordV t1 n1 s1 t2 n2 s2 = 0)))))) ∧ Below w.heap.size w w' :=
  opOf_ask_L op hop t1 n1 s1 t2 n2 s2 w h1 h2 h3 h4 _ rfl

set_option maxHeartbeats 1000000 in
theorem opOf_bad1 (op : ByteArray) (t1 : Bool) (n1 : Int) (s1 : ByteArray) (t2 : Bool) (n2 : Int) (s2 : ByteArray) (w : World) (z1 : s1.size ≤ 200) (z2 : s2.size ≤ 200) (h1 : -1099511627776 ≤ n1) (h2 : n1 ≤ 1099511627776) (h3 : -1099511627776 ≤ n2) (h4 : n2 ≤ 1099511627776) (o1 : (op.toList == [60]) = false) (o2 : (op.toList == [60, 61]) = false) (o3 : (op.toList == [61, 61]) = false) (o4 : (op.toList == [33, 61]) = false) (o5 : (op.toList == [62]) = false) (o6 : (op.toList == [62, 61]) = false) (o7 : (op.toList == [46, 46]) = false) (HBAD : Hid (numOf t1 n1 s1 < -1099511627776 ∨ 1099511627776 < numOf t1 n1 s1)) :
    Calls Tryd.prog 11 #[.string op, .agg #[.bool t1, .int .i64 n1, .string s1], .agg #[.bool t2, .int .i64 n2, .string s2]] w fun e w' => e = .returned (vt (rEnd 3)) ∧ Below w.heap.size w w' := by
  go_enter Tryd.func11, Tryd.ntmps11
  go_wp2_with fail
  refine (isAsk_no _ o1 o2 o3 o4 o5 o6 _).mono ?_
  rintro e wa ⟨rfl, rfl⟩
  go_wp2_with fail
  refine (numberOf_bad t1 n1 s1 _ z1 h1 h2 HBAD.out).mono ?_
  rintro e w1 ⟨rfl, hb⟩
  obtain ⟨hc, hf⟩ := bcell hb
  have hz : w.heap.size + 2 < w1.heap.size := by have := hb.size; simp at this; omega
  have hz1 : w.heap.size + 1 < w1.heap.size := by omega
  have HB1 : Hid (Below w.heap.size w w1) := bl_trans (by go_grown) hb
  go_wp2_with fail
  refine (numberOf_c t2 n2 s2 _ z2 h3 h4).mono ?_
  rintro e w2 ⟨rfl, hb2⟩
  obtain ⟨hc2, hf2⟩ := bcell hb2
  have hy : w.heap.size + 2 < w2.heap.size := by have := hb2.size; omega
  have HB2 : Hid (Below w.heap.size w w2) := bl_trans HB1.out hb2
  go_wp2
  exact bodyPost_ret (v := .tuple #[.agg #[.bool false, .int .i64 0, .string ⟨#[]⟩], .int .i64 3]) (by simp [results, Tryd.results11, go_sem, hc, hc2, hz]) rfl ⟨rfl, below_set3 HB2.out (by omega) _ _ _⟩

set_option maxHeartbeats 1000000 in
theorem opOf_bad2 (op : ByteArray) (t1 : Bool) (n1 : Int) (s1 : ByteArray) (t2 : Bool) (n2 : Int) (s2 : ByteArray) (w : World) (z1 : s1.size ≤ 200) (z2 : s2.size ≤ 200) (h1 : -1099511627776 ≤ n1) (h2 : n1 ≤ 1099511627776) (h3 : -1099511627776 ≤ n2) (h4 : n2 ≤ 1099511627776) (o1 : (op.toList == [60]) = false) (o2 : (op.toList == [60, 61]) = false) (o3 : (op.toList == [61, 61]) = false) (o4 : (op.toList == [33, 61]) = false) (o5 : (op.toList == [62]) = false) (o6 : (op.toList == [62, 61]) = false) (o7 : (op.toList == [46, 46]) = false) (HOK1 : Hid (okN t1 n1 s1)) (HBAD : Hid (numOf t2 n2 s2 < -1099511627776 ∨ 1099511627776 < numOf t2 n2 s2)) :
    Calls Tryd.prog 11 #[.string op, .agg #[.bool t1, .int .i64 n1, .string s1], .agg #[.bool t2, .int .i64 n2, .string s2]] w fun e w' => e = .returned (vt (rEnd 3)) ∧ Below w.heap.size w w' := by
  go_enter Tryd.func11, Tryd.ntmps11
  go_wp2_with fail
  refine (isAsk_no _ o1 o2 o3 o4 o5 o6 _).mono ?_
  rintro e wa ⟨rfl, rfl⟩
  go_wp2_with fail
  refine (numberOf_ok t1 n1 s1 _ z1 h1 h2 HOK1.out).mono ?_
  rintro e w1 ⟨rfl, hb⟩
  obtain ⟨hc, hf⟩ := bcell hb
  have hz : w.heap.size + 2 < w1.heap.size := by have := hb.size; simp at this; omega
  have hz1 : w.heap.size + 1 < w1.heap.size := by omega
  have HB1 : Hid (Below w.heap.size w w1) := bl_trans (by go_grown) hb
  go_wp2_with fail
  refine (numberOf_bad t2 n2 s2 _ z2 h3 h4 HBAD.out).mono ?_
  rintro e w2 ⟨rfl, hb2⟩
  obtain ⟨hc2, hf2⟩ := bcell hb2
  have hy : w.heap.size + 2 < w2.heap.size := by have := hb2.size; omega
  have HB2 : Hid (Below w.heap.size w w2) := bl_trans HB1.out hb2
  go_wp2
  exact bodyPost_ret (v := .tuple #[.agg #[.bool false, .int .i64 0, .string ⟨#[]⟩], .int .i64 3]) (by simp [results, Tryd.results11, go_sem, hc, hc2, hz]) rfl ⟨rfl, below_set3 HB2.out (by omega) _ _ _⟩

set_option maxHeartbeats 1000000 in
theorem opOf_add (t1 : Bool) (n1 : Int) (s1 : ByteArray) (t2 : Bool) (n2 : Int) (s2 : ByteArray) (w : World) (z1 : s1.size ≤ 200) (z2 : s2.size ≤ 200) (h1 : -1099511627776 ≤ n1) (h2 : n1 ≤ 1099511627776) (h3 : -1099511627776 ≤ n2) (h4 : n2 ≤ 1099511627776)  (x y : Int) (HX : Hid (numOf t1 n1 s1 = x)) (HY : Hid (numOf t2 n2 s2 = y)) (x1 : -1099511627776 ≤ x) (x2 : x ≤ 1099511627776) (y1 : -1099511627776 ≤ y) (y2 : y ≤ 1099511627776) :
    Calls Tryd.prog 11 #[.string ⟨#[43]⟩, .agg #[.bool t1, .int .i64 n1, .string s1], .agg #[.bool t2, .int .i64 n2, .string s2]] w fun e w' => e = .returned (vt (bnd (x + y))) ∧ Below w.heap.size w w' := by
  have HOK1 : Hid (okN t1 n1 s1) := by have h := HX.out; unfold okN; show _ ∧ _; rw [h]; exact ⟨x1, x2⟩
  have HOK2 : Hid (okN t2 n2 s2) := by have h := HY.out; unfold okN; show _ ∧ _; rw [h]; exact ⟨y1, y2⟩
  obtain ⟨rt, rn, rs, re, hr⟩ : ∃ rt rn rs re, bnd (x + y) = (rt, rn, rs, re) := ⟨_, _, _, _, rfl⟩
  have HR : Hid (bnd (x + y) = (rt, rn, rs, re)) := hr
  clear hr
  go_enter Tryd.func11, Tryd.ntmps11
  go_wp2_with fail
  refine (isAsk_no _ (tl [43] _ rfl) (tl [43] _ rfl) (tl [43] _ rfl) (tl [43] _ rfl) (tl [43] _ rfl) (tl [43] _ rfl) _).mono ?_
  rintro e wa ⟨rfl, rfl⟩
  go_wp2_with fail
  refine (numberOf_ok t1 n1 s1 _ z1 h1 h2 HOK1.out).mono ?_
  rintro e w1 ⟨rfl, hb⟩
  rw [HX.out]
  obtain ⟨hc, hf⟩ := bcell hb
  have hz : w.heap.size + 2 < w1.heap.size := by have := hb.size; simp at this; omega
  have hz1 : w.heap.size + 1 < w1.heap.size := by omega
  have HB1 : Hid (Below w.heap.size w w1) := bl_trans (by go_grown) hb
  go_wp2_with fail
  refine (numberOf_ok t2 n2 s2 _ z2 h3 h4 HOK2.out).mono ?_
  rintro e w2 ⟨rfl, hb2⟩
  rw [HY.out]
  obtain ⟨hc2, hf2⟩ := bcell hb2
  have hy : w.heap.size + 2 < w2.heap.size := by have := hb2.size; omega
  have HB2 : Hid (Below w.heap.size w w2) := bl_trans HB1.out hb2
  go_wp2_with fail
  refine (within_c (x + y) _).mono ?_
  rintro e w3 ⟨rfl, hb3⟩
  rw [HR.out]
  obtain ⟨hc3, hf3⟩ := bcell hb3
  simp only [vt]
  go_wp2
  exact bodyPost_ret (v := .tuple #[.agg #[.bool rt, .int .i64 rn, .string rs], .int .i64 re]) (by simp [results, Tryd.results11, go_sem, hc, hc2, hc3, hz, hy]) rfl ⟨by rw [HR.out]; rfl, below_set3 (bl_trans HB2.out hb3) (by omega) _ _ _⟩

set_option maxHeartbeats 1000000 in
theorem opOf_sub (t1 : Bool) (n1 : Int) (s1 : ByteArray) (t2 : Bool) (n2 : Int) (s2 : ByteArray) (w : World) (z1 : s1.size ≤ 200) (z2 : s2.size ≤ 200) (h1 : -1099511627776 ≤ n1) (h2 : n1 ≤ 1099511627776) (h3 : -1099511627776 ≤ n2) (h4 : n2 ≤ 1099511627776)  (x y : Int) (HX : Hid (numOf t1 n1 s1 = x)) (HY : Hid (numOf t2 n2 s2 = y)) (x1 : -1099511627776 ≤ x) (x2 : x ≤ 1099511627776) (y1 : -1099511627776 ≤ y) (y2 : y ≤ 1099511627776) :
    Calls Tryd.prog 11 #[.string ⟨#[45]⟩, .agg #[.bool t1, .int .i64 n1, .string s1], .agg #[.bool t2, .int .i64 n2, .string s2]] w fun e w' => e = .returned (vt (bnd (x - y))) ∧ Below w.heap.size w w' := by
  have HOK1 : Hid (okN t1 n1 s1) := by have h := HX.out; unfold okN; show _ ∧ _; rw [h]; exact ⟨x1, x2⟩
  have HOK2 : Hid (okN t2 n2 s2) := by have h := HY.out; unfold okN; show _ ∧ _; rw [h]; exact ⟨y1, y2⟩
  obtain ⟨rt, rn, rs, re, hr⟩ : ∃ rt rn rs re, bnd (x - y) = (rt, rn, rs, re) := ⟨_, _, _, _, rfl⟩
  have HR : Hid (bnd (x - y) = (rt, rn, rs, re)) := hr
  clear hr
  go_enter Tryd.func11, Tryd.ntmps11
  go_wp2_with fail
  refine (isAsk_no _ (tl [45] _ rfl) (tl [45] _ rfl) (tl [45] _ rfl) (tl [45] _ rfl) (tl [45] _ rfl) (tl [45] _ rfl) _).mono ?_
  rintro e wa ⟨rfl, rfl⟩
  go_wp2_with fail
  refine (numberOf_ok t1 n1 s1 _ z1 h1 h2 HOK1.out).mono ?_
  rintro e w1 ⟨rfl, hb⟩
  rw [HX.out]
  obtain ⟨hc, hf⟩ := bcell hb
  have hz : w.heap.size + 2 < w1.heap.size := by have := hb.size; simp at this; omega
  have hz1 : w.heap.size + 1 < w1.heap.size := by omega
  have HB1 : Hid (Below w.heap.size w w1) := bl_trans (by go_grown) hb
  go_wp2_with fail
  refine (numberOf_ok t2 n2 s2 _ z2 h3 h4 HOK2.out).mono ?_
  rintro e w2 ⟨rfl, hb2⟩
  rw [HY.out]
  obtain ⟨hc2, hf2⟩ := bcell hb2
  have hy : w.heap.size + 2 < w2.heap.size := by have := hb2.size; omega
  have HB2 : Hid (Below w.heap.size w w2) := bl_trans HB1.out hb2
  go_wp2_with fail
  refine (within_c (x - y) _).mono ?_
  rintro e w3 ⟨rfl, hb3⟩
  rw [HR.out]
  obtain ⟨hc3, hf3⟩ := bcell hb3
  simp only [vt]
  go_wp2
  exact bodyPost_ret (v := .tuple #[.agg #[.bool rt, .int .i64 rn, .string rs], .int .i64 re]) (by simp [results, Tryd.results11, go_sem, hc, hc2, hc3, hz, hy]) rfl ⟨by rw [HR.out]; rfl, below_set3 (bl_trans HB2.out hb3) (by omega) _ _ _⟩

set_option maxHeartbeats 1000000 in
theorem opOf_mul (t1 : Bool) (n1 : Int) (s1 : ByteArray) (t2 : Bool) (n2 : Int) (s2 : ByteArray) (w : World) (z1 : s1.size ≤ 200) (z2 : s2.size ≤ 200) (h1 : -1099511627776 ≤ n1) (h2 : n1 ≤ 1099511627776) (h3 : -1099511627776 ≤ n2) (h4 : n2 ≤ 1099511627776)  (x y : Int) (HX : Hid (numOf t1 n1 s1 = x)) (HY : Hid (numOf t2 n2 s2 = y)) (x1 : -1099511627776 ≤ x) (x2 : x ≤ 1099511627776) (y1 : -1099511627776 ≤ y) (y2 : y ≤ 1099511627776) :
    Calls Tryd.prog 11 #[.string ⟨#[42]⟩, .agg #[.bool t1, .int .i64 n1, .string s1], .agg #[.bool t2, .int .i64 n2, .string s2]] w fun e w' => e = .returned (vt (bnd (x * y))) ∧ Below w.heap.size w w' := by
  have HOK1 : Hid (okN t1 n1 s1) := by have h := HX.out; unfold okN; show _ ∧ _; rw [h]; exact ⟨x1, x2⟩
  have HOK2 : Hid (okN t2 n2 s2) := by have h := HY.out; unfold okN; show _ ∧ _; rw [h]; exact ⟨y1, y2⟩
  obtain ⟨rt, rn, rs, re, hr⟩ : ∃ rt rn rs re, bnd (x * y) = (rt, rn, rs, re) := ⟨_, _, _, _, rfl⟩
  have HR : Hid (bnd (x * y) = (rt, rn, rs, re)) := hr
  clear hr
  go_enter Tryd.func11, Tryd.ntmps11
  go_wp2_with fail
  refine (isAsk_no _ (tl [42] _ rfl) (tl [42] _ rfl) (tl [42] _ rfl) (tl [42] _ rfl) (tl [42] _ rfl) (tl [42] _ rfl) _).mono ?_
  rintro e wa ⟨rfl, rfl⟩
  go_wp2_with fail
  refine (numberOf_ok t1 n1 s1 _ z1 h1 h2 HOK1.out).mono ?_
  rintro e w1 ⟨rfl, hb⟩
  rw [HX.out]
  obtain ⟨hc, hf⟩ := bcell hb
  have hz : w.heap.size + 2 < w1.heap.size := by have := hb.size; simp at this; omega
  have hz1 : w.heap.size + 1 < w1.heap.size := by omega
  have HB1 : Hid (Below w.heap.size w w1) := bl_trans (by go_grown) hb
  go_wp2_with fail
  refine (numberOf_ok t2 n2 s2 _ z2 h3 h4 HOK2.out).mono ?_
  rintro e w2 ⟨rfl, hb2⟩
  rw [HY.out]
  obtain ⟨hc2, hf2⟩ := bcell hb2
  have hy : w.heap.size + 2 < w2.heap.size := by have := hb2.size; omega
  have HB2 : Hid (Below w.heap.size w w2) := bl_trans HB1.out hb2
  go_wp2_with fail
  refine (rproduct_c x y _ x1 x2 y1 y2).mono ?_
  rintro e w3 ⟨rfl, hb3⟩
  rw [HR.out]
  obtain ⟨hc3, hf3⟩ := bcell hb3
  simp only [vt]
  go_wp2
  exact bodyPost_ret (v := .tuple #[.agg #[.bool rt, .int .i64 rn, .string rs], .int .i64 re]) (by simp [results, Tryd.results11, go_sem, hc, hc2, hc3, hz, hy]) rfl ⟨by rw [HR.out]; rfl, below_set3 (bl_trans HB2.out hb3) (by omega) _ _ _⟩

set_option maxHeartbeats 1000000 in
theorem opOf_zero (op : ByteArray) (t1 : Bool) (n1 : Int) (s1 : ByteArray) (t2 : Bool) (n2 : Int) (s2 : ByteArray) (w : World) (z1 : s1.size ≤ 200) (z2 : s2.size ≤ 200) (h1 : -1099511627776 ≤ n1) (h2 : n1 ≤ 1099511627776) (h3 : -1099511627776 ≤ n2) (h4 : n2 ≤ 1099511627776) (o1 : (op.toList == [60]) = false) (o2 : (op.toList == [60, 61]) = false) (o3 : (op.toList == [61, 61]) = false) (o4 : (op.toList == [33, 61]) = false) (o5 : (op.toList == [62]) = false) (o6 : (op.toList == [62, 61]) = false) (o7 : (op.toList == [46, 46]) = false) (p1 : (op.toList == [43]) = false) (p2 : (op.toList == [45]) = false) (p3 : (op.toList == [42]) = false) (x : Int) (HX : Hid (numOf t1 n1 s1 = x)) (HY : Hid (numOf t2 n2 s2 = 0)) (x1 : -1099511627776 ≤ x) (x2 : x ≤ 1099511627776) :
    Calls Tryd.prog 11 #[.string op, .agg #[.bool t1, .int .i64 n1, .string s1], .agg #[.bool t2, .int .i64 n2, .string s2]] w fun e w' => e = .returned (vt (rEnd 2)) ∧ Below w.heap.size w w' := by
  have HOK1 : Hid (okN t1 n1 s1) := by have h := HX.out; unfold okN; show _ ∧ _; rw [h]; exact ⟨x1, x2⟩
  have HOK2 : Hid (okN t2 n2 s2) := by have h := HY.out; unfold okN; show _ ∧ _; rw [h]; omega
  go_enter Tryd.func11, Tryd.ntmps11
  go_wp2_with fail
  refine (isAsk_no _ o1 o2 o3 o4 o5 o6 _).mono ?_
  rintro e wa ⟨rfl, rfl⟩
  go_wp2_with fail
  refine (numberOf_ok t1 n1 s1 _ z1 h1 h2 HOK1.out).mono ?_
  rintro e w1 ⟨rfl, hb⟩
  rw [HX.out]
  obtain ⟨hc, hf⟩ := bcell hb
  have hz : w.heap.size + 2 < w1.heap.size := by have := hb.size; simp at this; omega
  have hz1 : w.heap.size + 1 < w1.heap.size := by omega
  have HB1 : Hid (Below w.heap.size w w1) := bl_trans (by go_grown) hb
  go_wp2_with fail
  refine (numberOf_ok t2 n2 s2 _ z2 h3 h4 HOK2.out).mono ?_
  rintro e w2 ⟨rfl, hb2⟩
  rw [HY.out]
  obtain ⟨hc2, hf2⟩ := bcell hb2
  have hy : w.heap.size + 2 < w2.heap.size := by have := hb2.size; omega
  have HB2 : Hid (Below w.heap.size w w2) := bl_trans HB1.out hb2
  go_wp2
  exact bodyPost_ret (v := .tuple #[.agg #[.bool false, .int .i64 0, .string ⟨#[]⟩], .int .i64 2]) (by simp [results, Tryd.results11, go_sem, hc, hc2, hz]) rfl ⟨rfl, below_set3 HB2.out (by omega) _ _ _⟩

set_option maxHeartbeats 1000000 in
theorem opOf_div (t1 : Bool) (n1 : Int) (s1 : ByteArray) (t2 : Bool) (n2 : Int) (s2 : ByteArray) (w : World) (z1 : s1.size ≤ 200) (z2 : s2.size ≤ 200) (h1 : -1099511627776 ≤ n1) (h2 : n1 ≤ 1099511627776) (h3 : -1099511627776 ≤ n2) (h4 : n2 ≤ 1099511627776)  (x y : Int) (HX : Hid (numOf t1 n1 s1 = x)) (HY : Hid (numOf t2 n2 s2 = y)) (x1 : -1099511627776 ≤ x) (x2 : x ≤ 1099511627776) (y1 : -1099511627776 ≤ y) (y2 : y ≤ 1099511627776) (hy0 : (y == 0) = false) (hy1 : ¬ y = 0) :
    Calls Tryd.prog 11 #[.string ⟨#[47]⟩, .agg #[.bool t1, .int .i64 n1, .string s1], .agg #[.bool t2, .int .i64 n2, .string s2]] w fun e w' => e = .returned (vt (bnd (x.tdiv y))) ∧ Below w.heap.size w w' := by
  have HOK1 : Hid (okN t1 n1 s1) := by have h := HX.out; unfold okN; show _ ∧ _; rw [h]; exact ⟨x1, x2⟩
  have HOK2 : Hid (okN t2 n2 s2) := by have h := HY.out; unfold okN; show _ ∧ _; rw [h]; exact ⟨y1, y2⟩
  obtain ⟨rt, rn, rs, re, hr⟩ : ∃ rt rn rs re, bnd (x.tdiv y) = (rt, rn, rs, re) := ⟨_, _, _, _, rfl⟩
  have HR : Hid (bnd (x.tdiv y) = (rt, rn, rs, re)) := hr
  clear hr
  obtain ⟨k1, k2⟩ := tdiv_bd x y x1 x2
  go_enter Tryd.func11, Tryd.ntmps11
  go_wp2_with fail
  refine (isAsk_no _ (tl [47] _ rfl) (tl [47] _ rfl) (tl [47] _ rfl) (tl [47] _ rfl) (tl [47] _ rfl) (tl [47] _ rfl) _).mono ?_
  rintro e wa ⟨rfl, rfl⟩
  go_wp2_with fail
  refine (numberOf_ok t1 n1 s1 _ z1 h1 h2 HOK1.out).mono ?_
  rintro e w1 ⟨rfl, hb⟩
  rw [HX.out]
  obtain ⟨hc, hf⟩ := bcell hb
  have hz : w.heap.size + 2 < w1.heap.size := by have := hb.size; simp at this; omega
  have hz1 : w.heap.size + 1 < w1.heap.size := by omega
  have HB1 : Hid (Below w.heap.size w w1) := bl_trans (by go_grown) hb
  go_wp2_with fail
  refine (numberOf_ok t2 n2 s2 _ z2 h3 h4 HOK2.out).mono ?_
  rintro e w2 ⟨rfl, hb2⟩
  rw [HY.out]
  obtain ⟨hc2, hf2⟩ := bcell hb2
  have hy : w.heap.size + 2 < w2.heap.size := by have := hb2.size; omega
  have HB2 : Hid (Below w.heap.size w w2) := bl_trans HB1.out hb2
  go_wp2_with fail
  refine (within_c (x.tdiv y) _).mono ?_
  rintro e w3 ⟨rfl, hb3⟩
  rw [HR.out]
  obtain ⟨hc3, hf3⟩ := bcell hb3
  simp only [vt]
  go_wp2
  exact bodyPost_ret (v := .tuple #[.agg #[.bool rt, .int .i64 rn, .string rs], .int .i64 re]) (by simp [results, Tryd.results11, go_sem, hc, hc2, hc3, hz, hy]) rfl ⟨by rw [HR.out]; rfl, below_set3 (bl_trans HB2.out hb3) (by omega) _ _ _⟩

set_option maxHeartbeats 1000000 in
theorem opOf_rem (op : ByteArray) (t1 : Bool) (n1 : Int) (s1 : ByteArray) (t2 : Bool) (n2 : Int) (s2 : ByteArray) (w : World) (z1 : s1.size ≤ 200) (z2 : s2.size ≤ 200) (h1 : -1099511627776 ≤ n1) (h2 : n1 ≤ 1099511627776) (h3 : -1099511627776 ≤ n2) (h4 : n2 ≤ 1099511627776) (o1 : (op.toList == [60]) = false) (o2 : (op.toList == [60, 61]) = false) (o3 : (op.toList == [61, 61]) = false) (o4 : (op.toList == [33, 61]) = false) (o5 : (op.toList == [62]) = false) (o6 : (op.toList == [62, 61]) = false) (o7 : (op.toList == [46, 46]) = false) (p1 : (op.toList == [43]) = false) (p2 : (op.toList == [45]) = false) (p3 : (op.toList == [42]) = false) (p4 : (op.toList == [47]) = false) (x y : Int) (HX : Hid (numOf t1 n1 s1 = x)) (HY : Hid (numOf t2 n2 s2 = y)) (x1 : -1099511627776 ≤ x) (x2 : x ≤ 1099511627776) (y1 : -1099511627776 ≤ y) (y2 : y ≤ 1099511627776) (hy0 : (y == 0) = false) (hy1 : ¬ y = 0) :
    Calls Tryd.prog 11 #[.string op, .agg #[.bool t1, .int .i64 n1, .string s1], .agg #[.bool t2, .int .i64 n2, .string s2]] w fun e w' => e = .returned (vt (bnd (x - x.tdiv y * y))) ∧ Below w.heap.size w w' := by
  have HOK1 : Hid (okN t1 n1 s1) := by have h := HX.out; unfold okN; show _ ∧ _; rw [h]; exact ⟨x1, x2⟩
  have HOK2 : Hid (okN t2 n2 s2) := by have h := HY.out; unfold okN; show _ ∧ _; rw [h]; exact ⟨y1, y2⟩
  obtain ⟨rt, rn, rs, re, hr⟩ : ∃ rt rn rs re, bnd (x - x.tdiv y * y) = (rt, rn, rs, re) := ⟨_, _, _, _, rfl⟩
  have HR : Hid (bnd (x - x.tdiv y * y) = (rt, rn, rs, re)) := hr
  clear hr
  obtain ⟨k1, k2⟩ := tdiv_bd x y x1 x2
  obtain ⟨k3, k4⟩ := tdivmul_bd x y x1 x2
  go_enter Tryd.func11, Tryd.ntmps11
  go_wp2_with fail
  refine (isAsk_no _ o1 o2 o3 o4 o5 o6 _).mono ?_
  rintro e wa ⟨rfl, rfl⟩
  go_wp2_with fail
  refine (numberOf_ok t1 n1 s1 _ z1 h1 h2 HOK1.out).mono ?_
  rintro e w1 ⟨rfl, hb⟩
  rw [HX.out]
  obtain ⟨hc, hf⟩ := bcell hb
  have hz : w.heap.size + 2 < w1.heap.size := by have := hb.size; simp at this; omega
  have hz1 : w.heap.size + 1 < w1.heap.size := by omega
  have HB1 : Hid (Below w.heap.size w w1) := bl_trans (by go_grown) hb
  go_wp2_with fail
  refine (numberOf_ok t2 n2 s2 _ z2 h3 h4 HOK2.out).mono ?_
  rintro e w2 ⟨rfl, hb2⟩
  rw [HY.out]
  obtain ⟨hc2, hf2⟩ := bcell hb2
  have hy : w.heap.size + 2 < w2.heap.size := by have := hb2.size; omega
  have HB2 : Hid (Below w.heap.size w w2) := bl_trans HB1.out hb2
  go_wp2_with fail
  refine (within_c (x - x.tdiv y * y) _).mono ?_
  rintro e w3 ⟨rfl, hb3⟩
  rw [HR.out]
  obtain ⟨hc3, hf3⟩ := bcell hb3
  simp only [vt]
  go_wp2
  exact bodyPost_ret (v := .tuple #[.agg #[.bool rt, .int .i64 rn, .string rs], .int .i64 re]) (by simp [results, Tryd.results11, go_sem, hc, hc2, hc3, hz, hy]) rfl ⟨by rw [HR.out]; rfl, below_set3 (bl_trans HB2.out hb3) (by omega) _ _ _⟩

end Go.Proofs.YtejcmammdmpcoabDoor
