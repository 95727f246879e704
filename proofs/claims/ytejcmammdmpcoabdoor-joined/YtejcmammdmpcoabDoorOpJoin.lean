/-
  Contracts of value.join and of value.Op at the operator that puts texts together (P1.3).
-/
import Derived.Test.YtejcmammdmpcoabDoorOp2
namespace Go.Proofs.YtejcmammdmpcoabDoor
open Go.ChangeShapes Go.WideShapes Go.ChangeAt Go.RowKit Go.Joins

/-- Two texts, one behind the other, if that is not too long. -/
def joinR (s t : ByteArray) : R4 := if s.size + t.size ≤ 200 then (true, 0, s ++ t, 0) else rEnd 3

set_option maxHeartbeats 400000 in
theorem join_c (s t : ByteArray) (w : World) (hs : s.size ≤ 200) (ht : t.size ≤ 200) :
    Calls Tryd.prog 24 #[.string s, .string t] w fun e w' => e = .returned (vt (joinR s t)) ∧ Below w.heap.size w w' := by
  by_cases h : s.size + t.size ≤ 200
  · have e : joinR s t = (true, 0, s ++ t, 0) := if_pos h
    rw [e]
    go_enter Tryd.func24, Tryd.ntmps24
    go_wp2
    go_returns
    exact ⟨rfl, by go_grown⟩
  · have e : joinR s t = rEnd 3 := if_neg h
    rw [e]
    have h' : 200 < s.size + t.size := by omega
    go_enter Tryd.func24, Tryd.ntmps24
    go_wp2
    go_returns
    exact ⟨rfl, by go_grown⟩

theorem strOf_len {t : Bool} {n : Int} {s : ByteArray} (h1 : -1099511627776 ≤ n) (h2 : n ≤ 1099511627776) (h : s.size ≤ 200) : (strOf t n s).size ≤ 200 := by
  cases t
  · rw [strOf_f]
    have h3 := itoa_len n h1 h2
    have h4 : (⟨(Lib.itoa n).toArray⟩ : ByteArray).size = (Lib.itoa n).length := by simp [ByteArray.size]
    omega
  · exact h

set_option maxHeartbeats 2000000 in
theorem op_join_c (t1 : Bool) (n1 : Int) (s1 : ByteArray) (t2 : Bool) (n2 : Int) (s2 : ByteArray) (w : World) (z1 : s1.size ≤ 200) (z2 : s2.size ≤ 200) (h1 : -1099511627776 ≤ n1) (h2 : n1 ≤ 1099511627776) (h3 : -1099511627776 ≤ n2) (h4 : n2 ≤ 1099511627776) (hp : Pow w) :
    Calls Tryd.prog 10 #[.string ⟨#[46, 46]⟩, .agg #[.bool t1, .int .i64 n1, .string s1], .agg #[.bool t2, .int .i64 n2, .string s2]] w fun e w' =>
      e = .returned (vt (joinR (strOf t1 n1 s1) (strOf t2 n2 s2))) ∧ Below w.heap.size w w' := by
  have HP : Hid (Pow w) := hp
  have HL1 : Hid ((strOf t1 n1 s1).size ≤ 200) := strOf_len h1 h2 z1
  have HL2 : Hid ((strOf t2 n2 s2).size ≤ 200) := strOf_len h3 h4 z2
  clear hp z1 z2
  obtain ⟨rt, rn, rs, re, hr⟩ : ∃ rt rn rs re, joinR (strOf t1 n1 s1) (strOf t2 n2 s2) = (rt, rn, rs, re) := ⟨_, _, _, _, rfl⟩
  have HR : Hid (joinR (strOf t1 n1 s1) (strOf t2 n2 s2) = (rt, rn, rs, re)) := hr
  clear hr
  have hlt2 : w.heap.size < w.heap.size + 1 + 1 + 1 := by omega
  have hlt3 : w.heap.size + 1 < w.heap.size + 1 + 1 + 1 := by omega
  have hne1 : ¬ w.heap.size + 1 + 1 = w.heap.size := by omega
  have hne2 : ¬ w.heap.size = w.heap.size + 1 + 1 := by omega
  go_enter Tryd.func10, Tryd.ntmps10
  go_wp2_with fail
  go_region_held3 (fun w' => w'.cell? ⟨w.heap.size, 0, none⟩ = some (.bool t1) ∧ w'.cell? ⟨w.heap.size, 1, none⟩ = some (.int .i64 n1) ∧ w'.cell? ⟨w.heap.size, 2, none⟩ = some (.string s1) ∧ w'.cell? ⟨w.heap.size + 1, 0, none⟩ = some (.bool t2) ∧ w'.cell? ⟨w.heap.size + 1, 1, none⟩ = some (.int .i64 n2) ∧ w'.cell? ⟨w.heap.size + 1, 2, none⟩ = some (.string s2)) (go_keep) (first
    | (go_at_call_of 16 (Value.string s1); refine (str_c _ n1 s1 _ h1 h2 ?_).mono ?_; exact HP.out.stays (by go_grown); rintro e w1 ⟨rfl, hb⟩; obtain ⟨hc, hf⟩ := bcell hb; have HB1 : Hid (Below w.heap.size w w1) := bl_trans (by go_grown) hb; have hz : w.heap.size + 2 < w1.heap.size := (by have := hb.size; simp at this; omega); have hz1 : w.heap.size + 1 < w1.heap.size := (by omega); have hz0 : w.heap.size < w1.heap.size := (by omega))
    | (go_at_call_of 16 (Value.string s2); refine (str_c _ n2 s2 _ h3 h4 ?_).mono ?_; exact HP.out.stays HB1.out; rintro e w2 ⟨rfl, hb2⟩; obtain ⟨hc2, hf2⟩ := bcell hb2; have HB2 : Hid (Below w.heap.size w w2) := bl_trans HB1.out hb2; have hy : w.heap.size + 2 < w2.heap.size := (by have := hb2.size; omega); have hy1 : w.heap.size + 1 < w2.heap.size := (by omega); have hy0 : w.heap.size < w2.heap.size := (by omega))
    | (go_at_call 24; refine (join_c _ _ _ HL1.out HL2.out).mono ?_; rintro e w3 ⟨rfl, hb3⟩; rw [HR.out]; obtain ⟨hc3, hf3⟩ := bcell hb3; have HB3 : Hid (Below w.heap.size w w3) := bl_trans HB2.out hb3; simp only [vt]))
  go_wp2
  exact bodyPost_ret (v := .tuple #[.agg #[.bool rt, .int .i64 rn, .string rs], .int .i64 re]) (by simp [results, Tryd.results10, go_sem, hc, hc2, hc3, hz, hy]) rfl ⟨by rw [HR.out]; rfl, below_set3 HB3.out (by omega) _ _ _⟩
end Go.Proofs.YtejcmammdmpcoabDoor
