/-
  Contract of the answer OpOf of the document at the operator that puts texts together (P1.3).
-/
import Derived.Test.YtejcmammdmpcoabDoorOpOf
namespace Go.Proofs.YtejcmammdmpcoabDoor
open Go.ChangeShapes Go.WideShapes Go.ChangeAt Go.RowKit Go.Joins
set_option linter.unusedVariables false

set_option maxHeartbeats 2000000 in
theorem opOf_join_ok (t1 : Bool) (n1 : Int) (s1 : ByteArray) (t2 : Bool) (n2 : Int) (s2 : ByteArray) (w : World) (z1 : s1.size ≤ 200) (z2 : s2.size ≤ 200) (h1 : -1099511627776 ≤ n1) (h2 : n1 ≤ 1099511627776) (h3 : -1099511627776 ≤ n2) (h4 : n2 ≤ 1099511627776)
    (A B : ByteArray) (HA : Hid (strOf t1 n1 s1 = A)) (HB : Hid (strOf t2 n2 s2 = B)) (zA : A.size ≤ 200) (zB : B.size ≤ 200) (hl : A.size + B.size ≤ 200) :
    Calls Tryd.prog 11 #[.string ⟨#[46, 46]⟩, .agg #[.bool t1, .int .i64 n1, .string s1], .agg #[.bool t2, .int .i64 n2, .string s2]] w fun e w' => e = .returned (vt ((true, 0, A ++ B, 0))) ∧ Below w.heap.size w w' := by
  have hlt2 : w.heap.size < w.heap.size + 1 + 1 + 1 := by omega
  have hlt3 : w.heap.size + 1 < w.heap.size + 1 + 1 + 1 := by omega
  have hcat : ¬ 9223372036854775807 < A.size + B.size := by omega
  go_enter Tryd.func11, Tryd.ntmps11
  go_wp2_with fail
  refine (isAsk_no _ (tl [46, 46] _ rfl) (tl [46, 46] _ rfl) (tl [46, 46] _ rfl) (tl [46, 46] _ rfl) (tl [46, 46] _ rfl) (tl [46, 46] _ rfl) _).mono ?_
  rintro e wa ⟨rfl, rfl⟩
  go_wp2_with fail
  go_region_held3 (fun w' => w'.cell? ⟨w.heap.size, 0, none⟩ = some (.bool t1) ∧ w'.cell? ⟨w.heap.size, 1, none⟩ = some (.int .i64 n1) ∧ w'.cell? ⟨w.heap.size, 2, none⟩ = some (.string s1) ∧ w'.cell? ⟨w.heap.size + 1, 0, none⟩ = some (.bool t2) ∧ w'.cell? ⟨w.heap.size + 1, 1, none⟩ = some (.int .i64 n2) ∧ w'.cell? ⟨w.heap.size + 1, 2, none⟩ = some (.string s2)) (go_keep) (first
    | (go_at_call_of 29 (Value.string s1); refine (textOf_c _ n1 s1 _ h1 h2).mono ?_; rintro e w1 ⟨rfl, hb⟩; rw [HA.out]; obtain ⟨hc, hf⟩ := bcell hb; have HB1 : Hid (Below w.heap.size w w1) := bl_trans (by go_grown) hb; have hz : w.heap.size + 2 < w1.heap.size := (by have := hb.size; simp at this; omega); have hz1 : w.heap.size + 1 < w1.heap.size := (by omega); have hz0 : w.heap.size < w1.heap.size := (by omega))
    | (go_at_call_of 29 (Value.string s2); refine (textOf_c _ n2 s2 _ h3 h4).mono ?_; rintro e w2 ⟨rfl, hb2⟩; rw [HB.out]; obtain ⟨hc2, hf2⟩ := bcell hb2; have HB2 : Hid (Below w.heap.size w w2) := bl_trans HB1.out hb2; have hy : w.heap.size + 2 < w2.heap.size := (by have := hb2.size; omega); have hy1 : w.heap.size + 1 < w2.heap.size := (by omega); have hy0 : w.heap.size < w2.heap.size := (by omega)))
  go_wp2_with fail
  refine (rtext_c (A ++ B) _).mono ?_
  rintro e w3 ⟨rfl, hb3⟩
  obtain ⟨hc3, hf3⟩ := bcell hb3
  go_wp2
  exact bodyPost_ret (v := .tuple #[.agg #[.bool true, .int .i64 0, .string (A ++ B)], .int .i64 0]) (by simp [results, Tryd.results11, go_sem, hc, hc2, hc3, hz, hy]) rfl ⟨rfl, below_set3 (bl_trans HB2.out hb3) (by omega) _ _ _⟩

set_option maxHeartbeats 2000000 in
theorem opOf_join_bad (t1 : Bool) (n1 : Int) (s1 : ByteArray) (t2 : Bool) (n2 : Int) (s2 : ByteArray) (w : World) (z1 : s1.size ≤ 200) (z2 : s2.size ≤ 200) (h1 : -1099511627776 ≤ n1) (h2 : n1 ≤ 1099511627776) (h3 : -1099511627776 ≤ n2) (h4 : n2 ≤ 1099511627776)
    (A B : ByteArray) (HA : Hid (strOf t1 n1 s1 = A)) (HB : Hid (strOf t2 n2 s2 = B)) (zA : A.size ≤ 200) (zB : B.size ≤ 200) (hl : 200 < A.size + B.size) :
    Calls Tryd.prog 11 #[.string ⟨#[46, 46]⟩, .agg #[.bool t1, .int .i64 n1, .string s1], .agg #[.bool t2, .int .i64 n2, .string s2]] w fun e w' => e = .returned (vt (rEnd 3)) ∧ Below w.heap.size w w' := by
  have hlt2 : w.heap.size < w.heap.size + 1 + 1 + 1 := by omega
  have hlt3 : w.heap.size + 1 < w.heap.size + 1 + 1 + 1 := by omega
  have hcat : ¬ 9223372036854775807 < A.size + B.size := by omega
  go_enter Tryd.func11, Tryd.ntmps11
  go_wp2_with fail
  refine (isAsk_no _ (tl [46, 46] _ rfl) (tl [46, 46] _ rfl) (tl [46, 46] _ rfl) (tl [46, 46] _ rfl) (tl [46, 46] _ rfl) (tl [46, 46] _ rfl) _).mono ?_
  rintro e wa ⟨rfl, rfl⟩
  go_wp2_with fail
  go_region_held3 (fun w' => w'.cell? ⟨w.heap.size, 0, none⟩ = some (.bool t1) ∧ w'.cell? ⟨w.heap.size, 1, none⟩ = some (.int .i64 n1) ∧ w'.cell? ⟨w.heap.size, 2, none⟩ = some (.string s1) ∧ w'.cell? ⟨w.heap.size + 1, 0, none⟩ = some (.bool t2) ∧ w'.cell? ⟨w.heap.size + 1, 1, none⟩ = some (.int .i64 n2) ∧ w'.cell? ⟨w.heap.size + 1, 2, none⟩ = some (.string s2)) (go_keep) (first
    | (go_at_call_of 29 (Value.string s1); refine (textOf_c _ n1 s1 _ h1 h2).mono ?_; rintro e w1 ⟨rfl, hb⟩; rw [HA.out]; obtain ⟨hc, hf⟩ := bcell hb; have HB1 : Hid (Below w.heap.size w w1) := bl_trans (by go_grown) hb; have hz : w.heap.size + 2 < w1.heap.size := (by have := hb.size; simp at this; omega); have hz1 : w.heap.size + 1 < w1.heap.size := (by omega); have hz0 : w.heap.size < w1.heap.size := (by omega))
    | (go_at_call_of 29 (Value.string s2); refine (textOf_c _ n2 s2 _ h3 h4).mono ?_; rintro e w2 ⟨rfl, hb2⟩; rw [HB.out]; obtain ⟨hc2, hf2⟩ := bcell hb2; have HB2 : Hid (Below w.heap.size w w2) := bl_trans HB1.out hb2; have hy : w.heap.size + 2 < w2.heap.size := (by have := hb2.size; omega); have hy1 : w.heap.size + 1 < w2.heap.size := (by omega); have hy0 : w.heap.size < w2.heap.size := (by omega)))
  go_wp2
  exact bodyPost_ret (v := .tuple #[.agg #[.bool false, .int .i64 0, .string ⟨#[]⟩], .int .i64 3]) (by simp [results, Tryd.results11, go_sem, hc, hc2, hz]) rfl ⟨rfl, below_set3 HB2.out (by omega) _ _ _⟩

theorem opOf_join_c (t1 : Bool) (n1 : Int) (s1 : ByteArray) (t2 : Bool) (n2 : Int) (s2 : ByteArray) (w : World) (z1 : s1.size ≤ 200) (z2 : s2.size ≤ 200) (h1 : -1099511627776 ≤ n1) (h2 : n1 ≤ 1099511627776) (h3 : -1099511627776 ≤ n2) (h4 : n2 ≤ 1099511627776) :
    Calls Tryd.prog 11 #[.string ⟨#[46, 46]⟩, .agg #[.bool t1, .int .i64 n1, .string s1], .agg #[.bool t2, .int .i64 n2, .string s2]] w fun e w' => e = .returned (vt (joinR (strOf t1 n1 s1) (strOf t2 n2 s2))) ∧ Below w.heap.size w w' := by
  by_cases h : (strOf t1 n1 s1).size + (strOf t2 n2 s2).size ≤ 200
  · have e : joinR (strOf t1 n1 s1) (strOf t2 n2 s2) = (true, 0, strOf t1 n1 s1 ++ strOf t2 n2 s2, 0) := if_pos h
    rw [e]
    exact opOf_join_ok t1 n1 s1 t2 n2 s2 w z1 z2 h1 h2 h3 h4 _ _ rfl rfl (strOf_len h1 h2 z1) (strOf_len h3 h4 z2) h
  · have e : joinR (strOf t1 n1 s1) (strOf t2 n2 s2) = rEnd 3 := if_neg h
    rw [e]
    exact opOf_join_bad t1 n1 s1 t2 n2 s2 w z1 z2 h1 h2 h3 h4 _ _ rfl rfl (strOf_len h1 h2 z1) (strOf_len h3 h4 z2) (by omega)
end Go.Proofs.YtejcmammdmpcoabDoor
