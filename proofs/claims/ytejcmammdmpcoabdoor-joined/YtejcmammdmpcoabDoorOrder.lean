/-
  Contract of value.order: below 0, 0 or above 0, as the first value is less than, equal to or greater than the second (P1.3).
-/
import Derived.Test.YtejcmammdmpcoabDoorStr
import Derived.Test.YtejcmammdmpcoabDoorProd2
import Derived.Deep.RegionHeld3
import Derived.Lib.Small
import Derived.Lib.Bytealg
namespace Go.Proofs.YtejcmammdmpcoabDoor
open Go.ChangeShapes Go.WideShapes Go.ChangeAt Go.RowKit Go.Joins

/-- P1.3: how two values stand to one another. -/
def ordV (t1 : Bool) (n1 : Int) (s1 : ByteArray) (t2 : Bool) (n2 : Int) (s2 : ByteArray) : Int :=
  if t1 = false ∧ t2 = false then Lib.compareInt n1 n2 else Lib.compareBytes (strOf t1 n1 s1).data.toList (strOf t2 n2 s2).data.toList
theorem ordV_n (n1 : Int) (s1 : ByteArray) (n2 : Int) (s2 : ByteArray) : ordV false n1 s1 false n2 s2 = Lib.compareInt n1 n2 := if_pos ⟨rfl, rfl⟩
theorem ordV_s {t1 t2 : Bool} (n1 : Int) (s1 : ByteArray) (n2 : Int) (s2 : ByteArray) (h : t1 = true ∨ t2 = true) :
    ordV t1 n1 s1 t2 n2 s2 = Lib.compareBytes (strOf t1 n1 s1).data.toList (strOf t2 n2 s2).data.toList := if_neg (by rcases h with rfl | rfl <;> simp)

set_option maxHeartbeats 400000 in
theorem order_n (n1 : Int) (s1 : ByteArray) (n2 : Int) (s2 : ByteArray) (w : World) :
    Calls Tryd.prog 23 #[.agg #[.bool false, .int .i64 n1, .string s1], .agg #[.bool false, .int .i64 n2, .string s2]] w fun e w' => e = .returned (.int .i64 (ordV false n1 s1 false n2 s2)) ∧ Below w.heap.size w w' := by
  rw [ordV_n]
  go_enter Tryd.func23, Tryd.ntmps23
  go_wp2_with fail
  refine (Tryd.cmp_Compare_int n1 n2 _).mono ?_
  rintro e w1 ⟨rfl, rfl⟩
  go_wp2_with fail
  go_ret
  exact ⟨rfl, by go_grown⟩

set_option maxHeartbeats 1000000 in
theorem order_s1 (t2 : Bool) (n1 : Int) (s1 : ByteArray) (n2 : Int) (s2 : ByteArray) (w : World) (h1 : -1099511627776 ≤ n1) (h2 : n1 ≤ 1099511627776) (h3 : -1099511627776 ≤ n2) (h4 : n2 ≤ 1099511627776) (hp : Pow w) :
    Calls Tryd.prog 23 #[.agg #[.bool true, .int .i64 n1, .string s1], .agg #[.bool t2, .int .i64 n2, .string s2]] w fun e w' => e = .returned (.int .i64 (ordV true n1 s1 t2 n2 s2)) ∧ Below w.heap.size w w' := by
  rw [ordV_s n1 s1 n2 s2 (by simp)]
  have HP : Hid (Pow w) := hp
  clear hp
  have hlt2 : w.heap.size < w.heap.size + 1 + 1 := by omega
  go_enter Tryd.func23, Tryd.ntmps23
  go_wp2_with fail
  go_region_held3 (fun w' => w'.cell? ⟨w.heap.size, 0, none⟩ = some (.bool true) ∧ w'.cell? ⟨w.heap.size, 1, none⟩ = some (.int .i64 n1) ∧ w'.cell? ⟨w.heap.size, 2, none⟩ = some (.string s1) ∧ w'.cell? ⟨w.heap.size + 1, 0, none⟩ = some (.bool t2) ∧ w'.cell? ⟨w.heap.size + 1, 1, none⟩ = some (.int .i64 n2) ∧ w'.cell? ⟨w.heap.size + 1, 2, none⟩ = some (.string s2)) (go_keep) (first
    | (go_at_call_of 16 (Value.string s1); refine (str_c _ n1 s1 _ h1 h2 ?_).mono ?_; exact HP.out.stays (by go_grown); rintro e w1 ⟨rfl, hb⟩; obtain ⟨hc, hf⟩ := bcell hb; have HB1 : Hid (Below w.heap.size w w1) := bl_trans (by go_grown) hb)
    | (go_at_call_of 16 (Value.string s2); refine (str_c _ n2 s2 _ h3 h4 ?_).mono ?_; exact HP.out.stays HB1.out; rintro e w2 ⟨rfl, hb2⟩; obtain ⟨hc2, hf2⟩ := bcell hb2; have hz : w.heap.size + 1 < w1.heap.size := (by have := hb.size; simp at this; omega); have hz0 : w.heap.size < w1.heap.size := (by omega); have HB2 : Hid (Below w.heap.size w w2) := bl_trans HB1.out hb2)
    | (go_at_call 40; refine (Tryd.strings_Compare _ _ _).mono ?_; rintro e w3 ⟨rfl, rfl⟩))
  all_goals go_wp2
  all_goals go_ret
  all_goals exact ⟨rfl, HB2.out⟩

set_option maxHeartbeats 1000000 in
theorem order_s2 (n1 : Int) (s1 : ByteArray) (n2 : Int) (s2 : ByteArray) (w : World) (h1 : -1099511627776 ≤ n1) (h2 : n1 ≤ 1099511627776) (h3 : -1099511627776 ≤ n2) (h4 : n2 ≤ 1099511627776) (hp : Pow w) :
    Calls Tryd.prog 23 #[.agg #[.bool false, .int .i64 n1, .string s1], .agg #[.bool true, .int .i64 n2, .string s2]] w fun e w' => e = .returned (.int .i64 (ordV false n1 s1 true n2 s2)) ∧ Below w.heap.size w w' := by
  rw [ordV_s n1 s1 n2 s2 (by simp)]
  have HP : Hid (Pow w) := hp
  clear hp
  have hlt2 : w.heap.size < w.heap.size + 1 + 1 := by omega
  go_enter Tryd.func23, Tryd.ntmps23
  go_wp2_with fail
  go_region_held3 (fun w' => w'.cell? ⟨w.heap.size, 0, none⟩ = some (.bool false) ∧ w'.cell? ⟨w.heap.size, 1, none⟩ = some (.int .i64 n1) ∧ w'.cell? ⟨w.heap.size, 2, none⟩ = some (.string s1) ∧ w'.cell? ⟨w.heap.size + 1, 0, none⟩ = some (.bool true) ∧ w'.cell? ⟨w.heap.size + 1, 1, none⟩ = some (.int .i64 n2) ∧ w'.cell? ⟨w.heap.size + 1, 2, none⟩ = some (.string s2)) (go_keep) (first
    | (go_at_call_of 16 (Value.string s1); refine (str_c _ n1 s1 _ h1 h2 ?_).mono ?_; exact HP.out.stays (by go_grown); rintro e w1 ⟨rfl, hb⟩; obtain ⟨hc, hf⟩ := bcell hb; have HB1 : Hid (Below w.heap.size w w1) := bl_trans (by go_grown) hb)
    | (go_at_call_of 16 (Value.string s2); refine (str_c _ n2 s2 _ h3 h4 ?_).mono ?_; exact HP.out.stays HB1.out; rintro e w2 ⟨rfl, hb2⟩; obtain ⟨hc2, hf2⟩ := bcell hb2; have hz : w.heap.size + 1 < w1.heap.size := (by have := hb.size; simp at this; omega); have hz0 : w.heap.size < w1.heap.size := (by omega); have HB2 : Hid (Below w.heap.size w w2) := bl_trans HB1.out hb2)
    | (go_at_call 40; refine (Tryd.strings_Compare _ _ _).mono ?_; rintro e w3 ⟨rfl, rfl⟩))
  all_goals go_wp2
  all_goals go_ret
  all_goals exact ⟨rfl, HB2.out⟩

theorem order_c (t1 : Bool) (n1 : Int) (s1 : ByteArray) (t2 : Bool) (n2 : Int) (s2 : ByteArray) (w : World) (h1 : -1099511627776 ≤ n1) (h2 : n1 ≤ 1099511627776) (h3 : -1099511627776 ≤ n2) (h4 : n2 ≤ 1099511627776) (hp : Pow w) :
    Calls Tryd.prog 23 #[.agg #[.bool t1, .int .i64 n1, .string s1], .agg #[.bool t2, .int .i64 n2, .string s2]] w fun e w' => e = .returned (.int .i64 (ordV t1 n1 s1 t2 n2 s2)) ∧ Below w.heap.size w w' := by
  cases t1
  · cases t2
    · exact order_n n1 s1 n2 s2 w
    · exact order_s2 n1 s1 n2 s2 w h1 h2 h3 h4 hp
  · exact order_s1 t2 n1 s1 n2 s2 w h1 h2 h3 h4 hp
end Go.Proofs.YtejcmammdmpcoabDoor
