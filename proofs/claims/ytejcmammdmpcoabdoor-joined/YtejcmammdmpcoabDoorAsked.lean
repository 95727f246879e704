/-
  Contract of the answer askedOf of the document: is a comparison of two values so? (P1.3)
-/
import Derived.Test.YtejcmammdmpcoabDoorOrder
namespace Go.Proofs.YtejcmammdmpcoabDoor
open Go.ChangeShapes Go.WideShapes Go.ChangeAt Go.RowKit Go.Joins

/-- The six comparisons. -/
def AskOp (op : ByteArray) : Prop := op = ⟨#[60]⟩ ∨ op = ⟨#[60, 61]⟩ ∨ op = ⟨#[61, 61]⟩ ∨ op = ⟨#[33, 61]⟩ ∨ op = ⟨#[62]⟩ ∨ op = ⟨#[62, 61]⟩
/-- What a comparison says, where L: less, S: the same. -/
def askL (l : List UInt8) (L S : Bool) : Bool :=
  if l = [60] then L else if l = [60, 61] then L || S else if l = [61, 61] then S else if l = [33, 61] then !S else if l = [62] then !L && !S else !L

theorem less_cmp : ∀ a b : List UInt8, Op.bytesLess a b = decide (Lib.compareBytes a b < 0)
  | [], [] => rfl
  | [], _ :: _ => rfl
  | _ :: _, [] => rfl
  | a :: x, b :: y => by
    have ih := less_cmp x y
    unfold Op.bytesLess Lib.compareBytes
    by_cases h1 : a < b
    · simp [h1]
    · by_cases h2 : b < a
      · have hne : (a == b) = false := by rw [beq_eq_false_iff_ne]; rintro rfl; exact UInt8.lt_irrefl _ h2
        simp [h1, h2, hne]
      · have he : a = b := by rw [← UInt8.toNat_inj]; rw [UInt8.lt_iff_toNat_lt] at h1 h2; omega
        subst he
        simp [ih]
theorem same_cmp : ∀ a b : List UInt8, (a == b) = decide (Lib.compareBytes a b = 0)
  | [], [] => rfl
  | [], _ :: _ => rfl
  | _ :: _, [] => rfl
  | a :: x, b :: y => by
    have ih := same_cmp x y
    unfold Lib.compareBytes
    rw [List.cons_beq_cons]
    by_cases h1 : a < b
    · have hne : (a == b) = false := by rw [beq_eq_false_iff_ne]; rintro rfl; exact UInt8.lt_irrefl _ h1
      simp [h1, hne]
    · by_cases h2 : b < a
      · have hne : (a == b) = false := by rw [beq_eq_false_iff_ne]; rintro rfl; exact UInt8.lt_irrefl _ h2
        simp [h1, h2, hne]
      · have he : a = b := by rw [← UInt8.toNat_inj]; rw [UInt8.lt_iff_toNat_lt] at h1 h2; omega
        subst he
        simp [ih]

set_option maxHeartbeats 2000000 in
theorem asked_s1 (t2 : Bool) (op : ByteArray) (hop : AskOp op) (n1 : Int) (s1 : ByteArray) (n2 : Int) (s2 : ByteArray) (w : World) (h1 : -1099511627776 ≤ n1) (h2 : n1 ≤ 1099511627776) (h3 : -1099511627776 ≤ n2) (h4 : n2 ≤ 1099511627776)
    (L S : Bool) (hL : Op.bytesLess (strOf true n1 s1).toList (strOf t2 n2 s2).toList = L) (hS : ((strOf true n1 s1).toList == (strOf t2 n2 s2).toList) = S) :
    Calls Tryd.prog 27 #[.string op, .agg #[.bool true, .int .i64 n1, .string s1], .agg #[.bool t2, .int .i64 n2, .string s2]] w fun e w' => e = .returned (.bool (askL op.data.toList L S)) ∧ Below w.heap.size w w' := by
  have hlt2 : w.heap.size < w.heap.size + 1 + 1 := by omega
  have HOP : Hid (AskOp op) := hop
  clear hop
  go_enter Tryd.func27, Tryd.ntmps27
  go_wp2_with fail
  go_region_held3 (fun w' => w'.cell? ⟨w.heap.size, 0, none⟩ = some (.bool true) ∧ w'.cell? ⟨w.heap.size, 1, none⟩ = some (.int .i64 n1) ∧ w'.cell? ⟨w.heap.size, 2, none⟩ = some (.string s1) ∧ w'.cell? ⟨w.heap.size + 1, 0, none⟩ = some (.bool t2) ∧ w'.cell? ⟨w.heap.size + 1, 1, none⟩ = some (.int .i64 n2) ∧ w'.cell? ⟨w.heap.size + 1, 2, none⟩ = some (.string s2)) (go_keep) (first
    | (go_at_call_of 29 (Value.string s1); refine (textOf_c _ n1 s1 _ h1 h2).mono ?_; rintro e w1 ⟨rfl, hb⟩; obtain ⟨hc, hf⟩ := bcell hb; have HB1 : Hid (Below w.heap.size w w1) := bl_trans (by go_grown) hb)
    | (go_at_call_of 29 (Value.string s2); refine (textOf_c _ n2 s2 _ h3 h4).mono ?_; rintro e w2 ⟨rfl, hb2⟩; obtain ⟨hc2, hf2⟩ := bcell hb2; have hz : w.heap.size + 1 < w1.heap.size := (by have := hb.size; simp at this; omega); have hz0 : w.heap.size < w1.heap.size := (by omega); have HB2 : Hid (Below w.heap.size w w2) := bl_trans HB1.out hb2))
  go_wp2_with fail
  have hy : w.heap.size + 1 < w2.heap.size := by have := hb2.size; omega
  have hy0 : w.heap.size < w2.heap.size := by omega
  have c0 : w2.cell? ⟨w.heap.size, 0, none⟩ = some (.bool true) := by simp [*]
  have c1 : w2.cell? ⟨w.heap.size, 1, none⟩ = some (.int .i64 n1) := by simp [*]
  have c2 : w2.cell? ⟨w.heap.size, 2, none⟩ = some (.string s1) := by simp [*]
  have c3 : w2.cell? ⟨w.heap.size + 1, 0, none⟩ = some (.bool t2) := by simp [*]
  have c4 : w2.cell? ⟨w.heap.size + 1, 1, none⟩ = some (.int .i64 n2) := by simp [*]
  have c5 : w2.cell? ⟨w.heap.size + 1, 2, none⟩ = some (.string s2) := by simp [*]
  clear hb hb2 hc hc2 hf hf2 hlt2 hz hz0 HB1
  go_region_held3 (fun w' => w'.cell? ⟨w.heap.size, 0, none⟩ = some (.bool true) ∧ w'.cell? ⟨w.heap.size, 1, none⟩ = some (.int .i64 n1) ∧ w'.cell? ⟨w.heap.size, 2, none⟩ = some (.string s1) ∧ w'.cell? ⟨w.heap.size + 1, 0, none⟩ = some (.bool t2) ∧ w'.cell? ⟨w.heap.size + 1, 1, none⟩ = some (.int .i64 n2) ∧ w'.cell? ⟨w.heap.size + 1, 2, none⟩ = some (.string s2)) (go_keep) (first
    | (go_at_call_of 29 (Value.string s1); refine (textOf_c _ n1 s1 _ h1 h2).mono ?_; rintro e w3 ⟨rfl, hb3⟩; have hc3 : ∀ b o, b < w2.heap.size → w3.cell? ⟨b, o, none⟩ = w2.cell? ⟨b, o, none⟩ := (fun b o h => hb3.cell (p := ⟨b, o, none⟩) h); have HB3 : Hid (Below w.heap.size w w3) := bl_trans HB2.out.drew hb3)
    | (go_at_call_of 29 (Value.string s2); refine (textOf_c _ n2 s2 _ h3 h4).mono ?_; rintro e w4 ⟨rfl, hb4⟩; obtain ⟨hc4, hf4⟩ := bcell hb4; have hv : w.heap.size + 1 < w3.heap.size := (by have := hb3.size; simp at this; omega); have hv0 : w.heap.size < w3.heap.size := (by omega); have HB4 : Hid (Below w.heap.size w w4) := bl_trans HB3.out hb4))
  clear hb3 hb4 hc3 hc4 hf4 c0 c1 c2 c3 c4 c5
  obtain rfl | rfl | rfl | rfl | rfl | rfl := HOP.out
  all_goals cases L
  all_goals cases S
  all_goals go_wp2
  all_goals go_ret
  all_goals exact ⟨rfl, HB4.out⟩

set_option maxHeartbeats 2000000 in
theorem asked_s2 (op : ByteArray) (hop : AskOp op) (n1 : Int) (s1 : ByteArray) (n2 : Int) (s2 : ByteArray) (w : World) (h1 : -1099511627776 ≤ n1) (h2 : n1 ≤ 1099511627776) (h3 : -1099511627776 ≤ n2) (h4 : n2 ≤ 1099511627776)
    (L S : Bool) (hL : Op.bytesLess (strOf false n1 s1).toList (strOf true n2 s2).toList = L) (hS : ((strOf false n1 s1).toList == (strOf true n2 s2).toList) = S) :
    Calls Tryd.prog 27 #[.string op, .agg #[.bool false, .int .i64 n1, .string s1], .agg #[.bool true, .int .i64 n2, .string s2]] w fun e w' => e = .returned (.bool (askL op.data.toList L S)) ∧ Below w.heap.size w w' := by
  have hlt2 : w.heap.size < w.heap.size + 1 + 1 := by omega
  have HOP : Hid (AskOp op) := hop
  clear hop
  go_enter Tryd.func27, Tryd.ntmps27
  go_wp2_with fail
  go_region_held3 (fun w' => w'.cell? ⟨w.heap.size, 0, none⟩ = some (.bool false) ∧ w'.cell? ⟨w.heap.size, 1, none⟩ = some (.int .i64 n1) ∧ w'.cell? ⟨w.heap.size, 2, none⟩ = some (.string s1) ∧ w'.cell? ⟨w.heap.size + 1, 0, none⟩ = some (.bool true) ∧ w'.cell? ⟨w.heap.size + 1, 1, none⟩ = some (.int .i64 n2) ∧ w'.cell? ⟨w.heap.size + 1, 2, none⟩ = some (.string s2)) (go_keep) (first
    | (go_at_call_of 29 (Value.string s1); refine (textOf_c _ n1 s1 _ h1 h2).mono ?_; rintro e w1 ⟨rfl, hb⟩; obtain ⟨hc, hf⟩ := bcell hb; have HB1 : Hid (Below w.heap.size w w1) := bl_trans (by go_grown) hb)
    | (go_at_call_of 29 (Value.string s2); refine (textOf_c _ n2 s2 _ h3 h4).mono ?_; rintro e w2 ⟨rfl, hb2⟩; obtain ⟨hc2, hf2⟩ := bcell hb2; have hz : w.heap.size + 1 < w1.heap.size := (by have := hb.size; simp at this; omega); have hz0 : w.heap.size < w1.heap.size := (by omega); have HB2 : Hid (Below w.heap.size w w2) := bl_trans HB1.out hb2))
  go_wp2_with fail
  have hy : w.heap.size + 1 < w2.heap.size := by have := hb2.size; omega
  have hy0 : w.heap.size < w2.heap.size := by omega
  have c0 : w2.cell? ⟨w.heap.size, 0, none⟩ = some (.bool false) := by simp [*]
  have c1 : w2.cell? ⟨w.heap.size, 1, none⟩ = some (.int .i64 n1) := by simp [*]
  have c2 : w2.cell? ⟨w.heap.size, 2, none⟩ = some (.string s1) := by simp [*]
  have c3 : w2.cell? ⟨w.heap.size + 1, 0, none⟩ = some (.bool true) := by simp [*]
  have c4 : w2.cell? ⟨w.heap.size + 1, 1, none⟩ = some (.int .i64 n2) := by simp [*]
  have c5 : w2.cell? ⟨w.heap.size + 1, 2, none⟩ = some (.string s2) := by simp [*]
  clear hb hb2 hc hc2 hf hf2 hlt2 hz hz0 HB1
  go_region_held3 (fun w' => w'.cell? ⟨w.heap.size, 0, none⟩ = some (.bool false) ∧ w'.cell? ⟨w.heap.size, 1, none⟩ = some (.int .i64 n1) ∧ w'.cell? ⟨w.heap.size, 2, none⟩ = some (.string s1) ∧ w'.cell? ⟨w.heap.size + 1, 0, none⟩ = some (.bool true) ∧ w'.cell? ⟨w.heap.size + 1, 1, none⟩ = some (.int .i64 n2) ∧ w'.cell? ⟨w.heap.size + 1, 2, none⟩ = some (.string s2)) (go_keep) (first
    | (go_at_call_of 29 (Value.string s1); refine (textOf_c _ n1 s1 _ h1 h2).mono ?_; rintro e w3 ⟨rfl, hb3⟩; have hc3 : ∀ b o, b < w2.heap.size → w3.cell? ⟨b, o, none⟩ = w2.cell? ⟨b, o, none⟩ := (fun b o h => hb3.cell (p := ⟨b, o, none⟩) h); have HB3 : Hid (Below w.heap.size w w3) := bl_trans HB2.out.drew hb3)
    | (go_at_call_of 29 (Value.string s2); refine (textOf_c _ n2 s2 _ h3 h4).mono ?_; rintro e w4 ⟨rfl, hb4⟩; obtain ⟨hc4, hf4⟩ := bcell hb4; have hv : w.heap.size + 1 < w3.heap.size := (by have := hb3.size; simp at this; omega); have hv0 : w.heap.size < w3.heap.size := (by omega); have HB4 : Hid (Below w.heap.size w w4) := bl_trans HB3.out hb4))
  clear hb3 hb4 hc3 hc4 hf4 c0 c1 c2 c3 c4 c5
  obtain rfl | rfl | rfl | rfl | rfl | rfl := HOP.out
  all_goals cases L
  all_goals cases S
  all_goals go_wp2
  all_goals go_ret
  all_goals exact ⟨rfl, HB4.out⟩

set_option maxHeartbeats 2000000 in
theorem asked_n (op : ByteArray) (hop : AskOp op) (n1 : Int) (s1 : ByteArray) (n2 : Int) (s2 : ByteArray) (w : World) (L S : Bool) (hL : decide (n1 < n2) = L) (hS : (n1 == n2) = S) :
    Calls Tryd.prog 27 #[.string op, .agg #[.bool false, .int .i64 n1, .string s1], .agg #[.bool false, .int .i64 n2, .string s2]] w fun e w' => e = .returned (.bool (askL op.data.toList L S)) ∧ Below w.heap.size w w' := by
  obtain rfl | rfl | rfl | rfl | rfl | rfl := hop
  all_goals cases L
  all_goals cases S
  all_goals go_enter Tryd.func27, Tryd.ntmps27
  all_goals go_wp2
  all_goals go_ret
  all_goals exact ⟨rfl, by go_grown⟩

theorem askedOf_c (op : ByteArray) (hop : AskOp op) (t1 : Bool) (n1 : Int) (s1 : ByteArray) (t2 : Bool) (n2 : Int) (s2 : ByteArray) (w : World) (h1 : -1099511627776 ≤ n1) (h2 : n1 ≤ 1099511627776) (h3 : -1099511627776 ≤ n2) (h4 : n2 ≤ 1099511627776) :
    Calls Tryd.prog 27 #[.string op, .agg #[.bool t1, .int .i64 n1, .string s1], .agg #[.bool t2, .int .i64 n2, .string s2]] w fun e w' => e = .returned (.bool (askL op.data.toList (decide (ordV t1 n1 s1 t2 n2 s2 < 0)) (decide (ordV t1 n1 s1 t2 n2 s2 = 0)))) ∧ Below w.heap.size w w' := by
  cases t1
  · cases t2
    · rw [ordV_n]
      refine asked_n op hop n1 s1 n2 s2 w _ _ ?_ ?_
      · unfold Lib.compareInt; split
        · simp [*]
        · split <;> simp <;> omega
      · unfold Lib.compareInt; split
        · simp; omega
        · split
          · simp; omega
          · simp; omega
    · rw [ordV_s n1 s1 n2 s2 (by simp)]
      exact asked_s2 op hop n1 s1 n2 s2 w h1 h2 h3 h4 _ _ (by rw [ByteArray.toList_eq, ByteArray.toList_eq]; exact less_cmp _ _) (by rw [ByteArray.toList_eq, ByteArray.toList_eq]; exact same_cmp _ _)
  · rw [ordV_s n1 s1 n2 s2 (by simp)]
    exact asked_s1 t2 op hop n1 s1 n2 s2 w h1 h2 h3 h4 _ _ (by rw [ByteArray.toList_eq, ByteArray.toList_eq]; exact less_cmp _ _) (by rw [ByteArray.toList_eq, ByteArray.toList_eq]; exact same_cmp _ _)
end Go.Proofs.YtejcmammdmpcoabDoor
