/-
  Contract of value.Op, of two values that may be (P1.3, P1.4): comparisons, texts put together, numbers.
-/
import Derived.Test.YtejcmammdmpcoabDoorReckon
import Derived.Test.YtejcmammdmpcoabDoorNumberOf
namespace Go.Proofs.YtejcmammdmpcoabDoor
open Go.ChangeShapes Go.WideShapes Go.ChangeAt Go.RowKit Go.Joins

def b2i (b : Bool) : Int := if b then 1 else 0

set_option maxHeartbeats 400000 in
theorem truth_c (b : Bool) (w : World) :
    Calls Tryd.prog 21 #[.bool b] w fun e w' => e = .returned (.agg #[.bool false, .int .i64 (b2i b), .string ⟨#[]⟩]) ∧ Below w.heap.size w w' := by
  cases b
  all_goals go_enter Tryd.func21, Tryd.ntmps21
  all_goals go_wp2
  all_goals go_returns
  all_goals exact ⟨rfl, by go_grown⟩

theorem bsize {w w1 : World} (hb : Below w.heap.size w w1) {k : Nat} (h : k < w.heap.size) : k < w1.heap.size := Nat.lt_of_lt_of_le h hb.size

theorem below_set3 {w0 w : World} (h : Below w0.heap.size w0 w) {k : Nat} (hk : w0.heap.size ≤ k) (v0 v1 v2 : Value) :
    Below w0.heap.size w0 (((w.setCell ⟨k, 0, none⟩ v0).setCell ⟨k, 1, none⟩ v1).setCell ⟨k, 2, none⟩ v2) :=
  ((h.setCell hk v0).setCell hk v1).setCell hk v2

set_option maxHeartbeats 1000000 in
theorem op_ask_c (op : ByteArray) (hop : AskOp op) (t1 : Bool) (n1 : Int) (s1 : ByteArray) (t2 : Bool) (n2 : Int) (s2 : ByteArray) (w : World) (h1 : -1099511627776 ≤ n1) (h2 : n1 ≤ 1099511627776) (h3 : -1099511627776 ≤ n2) (h4 : n2 ≤ 1099511627776) (hp : Pow w) :
    Calls Tryd.prog 10 #[.string op, .agg #[.bool t1, .int .i64 n1, .string s1], .agg #[.bool t2, .int .i64 n2, .string s2]] w fun e w' =>
      e = .returned (vt (rN (b2i (askL op.data.toList (decide (ordV t1 n1 s1 t2 n2 s2 < 0)) (decide (ordV t1 n1 s1 t2 n2 s2 = 0)))))) ∧ Below w.heap.size w w' := by
  have HP : Hid (Pow w) := hp
  clear hp
  have hk : Hid (AskOp op) := hop
  obtain rfl | rfl | rfl | rfl | rfl | rfl := hop
  all_goals
    go_enter Tryd.func10, Tryd.ntmps10
    go_wp2_with fail
    refine (order_c t1 n1 s1 t2 n2 s2 _ h1 h2 h3 h4 (HP.out.stays (by go_grown))).mono ?_
    rintro e w1 ⟨rfl, hb⟩
    obtain ⟨hc, hf⟩ := bcell hb
    have hz : w.heap.size + 2 < w1.heap.size := by have := hb.size; simp at this; omega
    have HB1 : Hid (Below w.heap.size w w1) := bl_trans (by go_grown) hb
    go_wp2_with fail
    refine (isSo_c _ hk.out _ _).mono ?_
    rintro e w2 ⟨rfl, rfl⟩
    go_wp2_with fail
    refine (truth_c _ _).mono ?_
    rintro e w3 ⟨rfl, hb3⟩
    obtain ⟨hc3, hf3⟩ := bcell hb3
    go_wp2
    exact bodyPost_ret (v := .tuple #[.agg #[.bool false, .int .i64 (b2i _), .string ⟨#[]⟩], .int .i64 0]) (by simp [results, Tryd.results10, go_sem, hc, hc3, hz]) rfl ⟨rfl, below_set3 (bl_trans HB1.out hb3) (by omega) _ _ _⟩
end Go.Proofs.YtejcmammdmpcoabDoor
