/-
  Contracts of value.isSo and value.reckon: a comparison by its order; sums, products and quotients (P1.3, P1.4).
-/
import Derived.Test.YtejcmammdmpcoabDoorAsked
namespace Go.Proofs.YtejcmammdmpcoabDoor
open Go.ChangeShapes Go.WideShapes Go.ChangeAt Go.RowKit Go.Joins

set_option maxHeartbeats 1000000 in
theorem isSo_c (op : ByteArray) (hop : AskOp op) (o : Int) (w : World) :
    Calls Tryd.prog 22 #[.string op, .int .i64 o] w fun e w' => e = .returned (.bool (askL op.data.toList (decide (o < 0)) (decide (o = 0)))) ∧ w' = w := by
  rcases Int.lt_trichotomy o 0 with h | h | h
  · have d1 : decide (o < 0) = true := by simp; omega
    have d2 : decide (o = 0) = false := by simp; omega
    rw [d1, d2]
    clear d1 d2
    obtain rfl | rfl | rfl | rfl | rfl | rfl := hop
    all_goals go_enter Tryd.func22, Tryd.ntmps22
    all_goals go_wp2
    all_goals go_ret
    all_goals exact ⟨ret_bool (by first | rfl | (simp [askL]; omega)), rfl⟩
  · subst h
    obtain rfl | rfl | rfl | rfl | rfl | rfl := hop
    all_goals go_enter Tryd.func22, Tryd.ntmps22
    all_goals go_wp2
    all_goals go_ret
    all_goals exact ⟨rfl, rfl⟩
  · have d1 : decide (o < 0) = false := by simp; omega
    have d2 : decide (o = 0) = false := by simp; omega
    rw [d1, d2]
    clear d1 d2
    obtain rfl | rfl | rfl | rfl | rfl | rfl := hop
    all_goals go_enter Tryd.func22, Tryd.ntmps22
    all_goals go_wp2
    all_goals go_ret
    all_goals exact ⟨ret_bool (by first | rfl | (simp [askL]; omega)), rfl⟩

/-- P1.4: of two numbers. -/
def reck (l : List UInt8) (m n : Int) : R4 :=
  if l = [43] then bnd (m + n) else if l = [45] then bnd (m - n) else if l = [42] then bnd (m * n) else if n = 0 then rEnd 2 else if l = [47] then rN (m.tdiv n) else rN (m.tmod n)

set_option maxHeartbeats 1000000 in
theorem reckon_add (m n : Int) (w : World) (h1 : -1099511627776 ≤ m) (h2 : m ≤ 1099511627776) (h3 : -1099511627776 ≤ n) (h4 : n ≤ 1099511627776) :
    Calls Tryd.prog 25 #[.string ⟨#[43]⟩, .int .i64 m, .int .i64 n] w fun e w' => e = .returned (vt (bnd (m + n))) ∧ Below w.heap.size w w' := by
  obtain ⟨rt, rn, rs, re, hr⟩ : ∃ rt rn rs re, bnd (m + n) = (rt, rn, rs, re) := ⟨_, _, _, _, rfl⟩
  have HR : Hid (bnd (m + n) = (rt, rn, rs, re)) := hr
  clear hr
  go_enter Tryd.func25, Tryd.ntmps25
  go_wp2_with fail
  refine (bounded_c (m + n) _).mono ?_
  rintro e w1 ⟨rfl, hb⟩
  rw [HR.out]
  obtain ⟨hc, hf⟩ := bcell hb
  have hz : w.heap.size < w1.heap.size := by have := hb.size; simp at this; omega
  simp only [vt]
  go_wp2
  exact bodyPost_ret (v := .tuple #[.agg #[.bool rt, .int .i64 rn, .string rs], .int .i64 re]) (by simp [results, Tryd.results25, go_sem, hc]) rfl ⟨by rw [HR.out]; rfl, by
    refine Below.setCell (Below.setCell (Below.setCell ?_ (by simp) _) (by simp) _) (by simp) _
    exact bl_trans (by go_grown) hb⟩

set_option maxHeartbeats 1000000 in
theorem reckon_sub (m n : Int) (w : World) (h1 : -1099511627776 ≤ m) (h2 : m ≤ 1099511627776) (h3 : -1099511627776 ≤ n) (h4 : n ≤ 1099511627776) :
    Calls Tryd.prog 25 #[.string ⟨#[45]⟩, .int .i64 m, .int .i64 n] w fun e w' => e = .returned (vt (bnd (m - n))) ∧ Below w.heap.size w w' := by
  obtain ⟨rt, rn, rs, re, hr⟩ : ∃ rt rn rs re, bnd (m - n) = (rt, rn, rs, re) := ⟨_, _, _, _, rfl⟩
  have HR : Hid (bnd (m - n) = (rt, rn, rs, re)) := hr
  clear hr
  go_enter Tryd.func25, Tryd.ntmps25
  go_wp2_with fail
  refine (bounded_c (m - n) _).mono ?_
  rintro e w1 ⟨rfl, hb⟩
  rw [HR.out]
  obtain ⟨hc, hf⟩ := bcell hb
  have hz : w.heap.size < w1.heap.size := by have := hb.size; simp at this; omega
  simp only [vt]
  go_wp2
  exact bodyPost_ret (v := .tuple #[.agg #[.bool rt, .int .i64 rn, .string rs], .int .i64 re]) (by simp [results, Tryd.results25, go_sem, hc]) rfl ⟨by rw [HR.out]; rfl, by
    refine Below.setCell (Below.setCell (Below.setCell ?_ (by simp) _) (by simp) _) (by simp) _
    exact bl_trans (by go_grown) hb⟩

set_option maxHeartbeats 1000000 in
theorem reckon_mul (m n : Int) (w : World) (h1 : -1099511627776 ≤ m) (h2 : m ≤ 1099511627776) (h3 : -1099511627776 ≤ n) (h4 : n ≤ 1099511627776) :
    Calls Tryd.prog 25 #[.string ⟨#[42]⟩, .int .i64 m, .int .i64 n] w fun e w' => e = .returned (vt (bnd (m * n))) ∧ Below w.heap.size w w' := by
  obtain ⟨rt, rn, rs, re, hr⟩ : ∃ rt rn rs re, bnd (m * n) = (rt, rn, rs, re) := ⟨_, _, _, _, rfl⟩
  have HR : Hid (bnd (m * n) = (rt, rn, rs, re)) := hr
  clear hr
  go_enter Tryd.func25, Tryd.ntmps25
  go_wp2_with fail
  refine (vproduct_c m n _ h1 h2 h3 h4).mono ?_
  rintro e w1 ⟨rfl, hb⟩
  rw [HR.out]
  obtain ⟨hc, hf⟩ := bcell hb
  have hz : w.heap.size < w1.heap.size := by have := hb.size; simp at this; omega
  simp only [vt]
  go_wp2
  exact bodyPost_ret (v := .tuple #[.agg #[.bool rt, .int .i64 rn, .string rs], .int .i64 re]) (by simp [results, Tryd.results25, go_sem, hc]) rfl ⟨by rw [HR.out]; rfl, by
    refine Below.setCell (Below.setCell (Below.setCell ?_ (by simp) _) (by simp) _) (by simp) _
    exact bl_trans (by go_grown) hb⟩

set_option maxHeartbeats 1000000 in
theorem reckon_div (m n : Int) (w : World) (h1 : -1099511627776 ≤ m) (h2 : m ≤ 1099511627776) (h3 : -1099511627776 ≤ n) (h4 : n ≤ 1099511627776) :
    Calls Tryd.prog 25 #[.string ⟨#[47]⟩, .int .i64 m, .int .i64 n] w fun e w' => e = .returned (vt (if n = 0 then rEnd 2 else rN (m.tdiv n))) ∧ Below w.heap.size w w' := by
  by_cases h : n = 0
  · rw [if_pos h]
    subst h
    go_enter Tryd.func25, Tryd.ntmps25
    go_wp2
    go_returns
    exact ⟨ret_rE 2 rfl, by go_grown⟩
  · rw [if_neg h]
    obtain ⟨k1, k2⟩ := tdiv_bd m n h1 h2
    have hn : (n == 0) = false := by simp [h]
    go_enter Tryd.func25, Tryd.ntmps25
    go_wp2
    go_returns
    exact ⟨ret_rN _ rfl, by go_grown⟩

set_option maxHeartbeats 1000000 in
theorem reckon_rem (op : ByteArray) (m n : Int) (w : World) (h1 : -1099511627776 ≤ m) (h2 : m ≤ 1099511627776) (h3 : -1099511627776 ≤ n) (h4 : n ≤ 1099511627776) (o1 : (op.toList == [43]) = false) (o2 : (op.toList == [45]) = false) (o3 : (op.toList == [42]) = false) (o4 : (op.toList == [47]) = false) :
    Calls Tryd.prog 25 #[.string op, .int .i64 m, .int .i64 n] w fun e w' => e = .returned (vt (if n = 0 then rEnd 2 else rN (m.tmod n))) ∧ Below w.heap.size w w' := by
  by_cases h : n = 0
  · rw [if_pos h]
    subst h
    go_enter Tryd.func25, Tryd.ntmps25
    go_wp2
    go_returns
    exact ⟨ret_rE 2 rfl, by go_grown⟩
  · rw [if_neg h]
    obtain ⟨k1, k2⟩ := tmod_bd m n h1 h2
    have hn : (n == 0) = false := by simp [h]
    go_enter Tryd.func25, Tryd.ntmps25
    go_wp2
    go_returns
    exact ⟨ret_rN _ rfl, by go_grown⟩

theorem op_of {op : ByteArray} {l : List UInt8} (h : op.toList = l) : op = ⟨l.toArray⟩ := by
  rw [ByteArray.toList_eq] at h
  cases op; subst h; rfl

theorem reckon_c (op : ByteArray) (m n : Int) (w : World) (h1 : -1099511627776 ≤ m) (h2 : m ≤ 1099511627776) (h3 : -1099511627776 ≤ n) (h4 : n ≤ 1099511627776) :
    Calls Tryd.prog 25 #[.string op, .int .i64 m, .int .i64 n] w fun e w' => e = .returned (vt (reck op.toList m n)) ∧ Below w.heap.size w w' := by
  by_cases o1 : op.toList = [43]
  · rw [o1, op_of o1]; exact reckon_add m n w h1 h2 h3 h4
  by_cases o2 : op.toList = [45]
  · rw [o2, op_of o2]; exact reckon_sub m n w h1 h2 h3 h4
  by_cases o3 : op.toList = [42]
  · rw [o3, op_of o3]; exact reckon_mul m n w h1 h2 h3 h4
  by_cases o4 : op.toList = [47]
  · rw [o4, op_of o4]; exact reckon_div m n w h1 h2 h3 h4
  have e : reck op.toList m n = if n = 0 then rEnd 2 else rN (m.tmod n) := by
    unfold reck; rw [if_neg o1, if_neg o2, if_neg o3, if_neg o4]
  rw [e]
  exact reckon_rem op m n w h1 h2 h3 h4 (by simp [o1]) (by simp [o2]) (by simp [o3]) (by simp [o4])
end Go.Proofs.YtejcmammdmpcoabDoor
