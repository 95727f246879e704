/-
  Compared: for every int, two strings and a bool the law returns true: of two values exactly one is so: less, the same, greater; what was in memory stays. The row lists the tables that the library names, tied to the text of the program; the call reads uint64pow10 alone.
-/
import Derived.Test.YtejcmammdmpcoabDoorOpAsk
import Derived.Test.YtejcmammdmpcoabDoorTie
import Derived.Test.YtejcmammdmpcoabDoorCards
import Derived.Lay
import Derived.LaidMore
import Derived.SevenTiedAt
import Derived.Stop.Joined
import Derived.Stop.LaidErr
namespace Go.Proofs.YtejcmammdmpcoabDoor.compared
open Go.ChangeShapes Go.WideShapes Go.ChangeAt Go.RowKit Go.Joins
open Go.ChangeMaps (open_string shut_string)
set_option linter.unusedVariables false

theorem tmodM (a : Int) : -1099511627775 ≤ a.tmod 1099511627776 ∧ a.tmod 1099511627776 ≤ 1099511627775 := by
  have h := Int.natAbs_tmod a 1099511627776
  have k : a.natAbs % 1099511627776 < 1099511627776 := Nat.mod_lt _ (by decide)
  have e : (1099511627776 : Int).natAbs = 1099511627776 := rfl
  rw [e] at h
  omega

/-- What stays while the loop goes round: the two values and the list of operators. -/
def RelC (w wr : World) (t1 : Bool) (n1 : Int) (s1 : ByteArray) (t' : ByteArray) (k : Nat) : Prop :=
  Below w.heap.size w wr ∧ Lies wr (w.heap.size + 1) t1 n1 s1 ∧ Lies wr (w.heap.size + k) true 0 t' ∧ Sits wr (w.heap.size + k + 1) 0 (.string ⟨#[60]⟩) ∧ Sits wr (w.heap.size + k + 1) 1 (.string ⟨#[61, 61]⟩) ∧ Sits wr (w.heap.size + k + 1) 2 (.string ⟨#[62]⟩)

set_option maxRecDepth 100000 in
set_option maxHeartbeats 2000000 in
theorem core_true (a : Int) (s t : ByteArray) (w : World) (hP : Hid (Pow w)) (x : Int) (hx : a.tmod 1099511627776 = x) (x1 : -1099511627776 ≤ x) (x2 : x ≤ 1099511627776)
    (m : Nat) (hm : min (s.size : Int) 50 = (m : Int)) (m1 : (m : Int) ≤ (s.size : Int)) (s' : ByteArray) (hs' : s.extract 0 m = s')
    (l : Nat) (hl : min (t.size : Int) 50 = (l : Int)) (l1 : (l : Int) ≤ (t.size : Int)) (t' : ByteArray) (ht' : t.extract 0 l = t')
    (v0 v1 v2 : Int) (p0 : 0 ≤ v0) (q0 : v0 ≤ 1) (p1 : 0 ≤ v1) (q1 : v1 ≤ 1) (p2 : 0 ≤ v2) (q2 : v2 ≤ 1) (HS : Hid (v0 + v1 + v2 = 1)) (e1 : (v0 + v1 + v2 == 1) = true) (e2 : (v1 + (v0 + v2) == 1) = true)
    (H0 : Hid (b2i (askL [60] (decide (ordV true 0 s' true 0 t' < 0)) (decide (ordV true 0 s' true 0 t' = 0))) = v0)) (H1 : Hid (b2i (askL [61, 61] (decide (ordV true 0 s' true 0 t' < 0)) (decide (ordV true 0 s' true 0 t' = 0))) = v1)) (H2 : Hid (b2i (askL [62] (decide (ordV true 0 s' true 0 t' < 0)) (decide (ordV true 0 s' true 0 t' = 0))) = v2)) (H3 : Hid (b2i (askL [60, 61] (decide (ordV true 0 s' true 0 t' < 0)) (decide (ordV true 0 s' true 0 t' = 0))) = v0 + v1)) (H4 : Hid (b2i (askL [33, 61] (decide (ordV true 0 s' true 0 t' < 0)) (decide (ordV true 0 s' true 0 t' = 0))) = v0 + v2)) :
    Calls Tryd.prog 7 #[.int .i64 a, .string s, .string t, .bool true] w fun e w' => e = .returned (.bool true) ∧ Below w.heap.size w w' := by
  have m0 : (0 : Int) ≤ (m : Int) := by omega
  have l0 : (0 : Int) ≤ (l : Int) := by omega
  go_enter Tryd.func7, Tryd.ntmps7
  go_wp2_with (first
    | (go_at_call 17; go_in)
    | (go_at_call 15; go_in))
  go_loopw [11, 42] (fun n i wr => Hid (RelC w wr true 0 s' t' 4) ∧ ((i = .int .i64 0 ∧ n = .int .i64 0) ∨ (i = .int .i64 1 ∧ n = .int .i64 v0) ∨ (i = .int .i64 2 ∧ n = .int .i64 (v0 + v1)) ∨ (i = .int .i64 3 ∧ n = .int .i64 1))) (fun _ i _ => 3 - (intOf i).toNat)
  case atStart =>
    refine ⟨?_, .inl ⟨rfl, rfl⟩⟩
    exact ⟨by go_grown, ((((Lies.here (by simp) _ _ _ _).over _).over _).over _).over _, (Lies.here (by simp) _ _ _ _).over _, Sits.here (by simp) _ _ _ _ rfl, Sits.here (by simp) _ _ _ _ rfl, Sits.here (by simp) _ _ _ _ rfl⟩
  case round =>
    clear hx hm hs' hl ht'
    obtain ⟨RX, ⟨rfl, rfl⟩ | ⟨rfl, rfl⟩ | ⟨rfl, rfl⟩ | ⟨rfl, rfl⟩⟩ := hrel
    · have RB : Hid (Below w.heap.size w _) := RX.out.1
      obtain ⟨_, ⟨lx, x0, x1c, x2c⟩, ⟨ly, y0, y1, y2⟩, ⟨lg, g0⟩, ⟨_, g1⟩, ⟨_, g2⟩⟩ := RX.out
      go_wp2_with fail
      refine (op_ask_r ⟨#[60]⟩ (.inl rfl) true 0 s' true 0 t' _ (by omega) (by omega) (by omega) (by omega) (hP.out.stays RB.out) (v0) H0.out).mono ?_
      rintro e wk ⟨rfl, hb⟩
      have B2 : Hid (Below w.heap.size w wk) := bl_trans RB.out hb
      have R2 : Hid (RelC w (wk.alloc (.cells #[.bool false, .int .i64 v0, .string ⟨#[]⟩] 23)) true 0 s' t' 4) := by
        obtain ⟨a1, a2, a3, a4, a5, a6⟩ := RX.out
        exact ⟨B2.out.alloc B2.out.size _, (a2.below hb).over _, (a3.below hb).over _, (a4.below hb).over _, (a5.below hb).over _, (a6.below hb).over _⟩
      clear hb RX x0 x1c x2c y0 y1 y2 g0 g1 g2 lx ly lg RB B2
      go_wp2_with fail
      go_roundw
      case rel => exact ⟨R2, .inr (.inl ⟨by go_num, by go_num⟩)⟩
      case measure => simp [intOf]
    · have RB : Hid (Below w.heap.size w _) := RX.out.1
      obtain ⟨_, ⟨lx, x0, x1c, x2c⟩, ⟨ly, y0, y1, y2⟩, ⟨lg, g0⟩, ⟨_, g1⟩, ⟨_, g2⟩⟩ := RX.out
      go_wp2_with fail
      refine (op_ask_r ⟨#[61, 61]⟩ (.inr (.inr (.inl rfl))) true 0 s' true 0 t' _ (by omega) (by omega) (by omega) (by omega) (hP.out.stays RB.out) (v1) H1.out).mono ?_
      rintro e wk ⟨rfl, hb⟩
      have B2 : Hid (Below w.heap.size w wk) := bl_trans RB.out hb
      have R2 : Hid (RelC w (wk.alloc (.cells #[.bool false, .int .i64 v1, .string ⟨#[]⟩] 23)) true 0 s' t' 4) := by
        obtain ⟨a1, a2, a3, a4, a5, a6⟩ := RX.out
        exact ⟨B2.out.alloc B2.out.size _, (a2.below hb).over _, (a3.below hb).over _, (a4.below hb).over _, (a5.below hb).over _, (a6.below hb).over _⟩
      clear hb RX x0 x1c x2c y0 y1 y2 g0 g1 g2 lx ly lg RB B2
      go_wp2_with fail
      go_roundw
      case rel => exact ⟨R2, .inr (.inr (.inl ⟨by go_num, by go_num⟩))⟩
      case measure => simp [intOf]
    · have RB : Hid (Below w.heap.size w _) := RX.out.1
      obtain ⟨_, ⟨lx, x0, x1c, x2c⟩, ⟨ly, y0, y1, y2⟩, ⟨lg, g0⟩, ⟨_, g1⟩, ⟨_, g2⟩⟩ := RX.out
      go_wp2_with fail
      refine (op_ask_r ⟨#[62]⟩ (.inr (.inr (.inr (.inr (.inl rfl))))) true 0 s' true 0 t' _ (by omega) (by omega) (by omega) (by omega) (hP.out.stays RB.out) (v2) H2.out).mono ?_
      rintro e wk ⟨rfl, hb⟩
      have B2 : Hid (Below w.heap.size w wk) := bl_trans RB.out hb
      have R2 : Hid (RelC w (wk.alloc (.cells #[.bool false, .int .i64 v2, .string ⟨#[]⟩] 23)) true 0 s' t' 4) := by
        obtain ⟨a1, a2, a3, a4, a5, a6⟩ := RX.out
        exact ⟨B2.out.alloc B2.out.size _, (a2.below hb).over _, (a3.below hb).over _, (a4.below hb).over _, (a5.below hb).over _, (a6.below hb).over _⟩
      clear hb RX x0 x1c x2c y0 y1 y2 g0 g1 g2 lx ly lg RB B2
      go_wp2_with fail
      go_roundw
      case rel => exact ⟨R2, .inr (.inr (.inr ⟨by go_num, by rw [← HS.out]⟩))⟩
      case measure => simp [intOf]
    · have RB : Hid (Below w.heap.size w _) := RX.out.1
      have L_x : Hid (Lies _ (w.heap.size + 1) true 0 s') := RX.out.2.1
      have L_y : Hid (Lies _ (w.heap.size + 4) true 0 t') := RX.out.2.2.1
      clear RX
      obtain ⟨lx, x0, x1c, x2c⟩ := L_x.out
      obtain ⟨ly, y0, y1, y2⟩ := L_y.out
      go_wp2_with fail
      refine (op_ask_r ⟨#[60, 61]⟩ (.inr (.inl rfl)) true 0 s' true 0 t' _ (by omega) (by omega) (by omega) (by omega) (hP.out.stays RB.out) (v0 + v1) H3.out).mono ?_
      rintro e u1 ⟨rfl, hb⟩
      have B1 : Hid (Below w.heap.size w u1) := bl_trans RB.out hb
      clear lx x0 x1c x2c ly y0 y1 y2
      have L_x : Hid (Lies u1 (w.heap.size + 1) true 0 s') := L_x.out.below hb
      have L_y : Hid (Lies u1 (w.heap.size + 4) true 0 t') := L_y.out.below hb
      clear hb
      obtain ⟨l_x, c0_x, c1_x, c2_x⟩ := L_x.out
      obtain ⟨l_y, c0_y, c1_y, c2_y⟩ := L_y.out
      have BA : Hid (Below w.heap.size w (u1.alloc (.cells #[.bool false, .int .i64 (v0 + v1), .string ⟨#[]⟩] 23))) := B1.out.alloc B1.out.size _
      go_wp2_with fail
      refine (op_ask_r ⟨#[62]⟩ (.inr (.inr (.inr (.inr (.inl rfl))))) true 0 s' true 0 t' _ (by omega) (by omega) (by omega) (by omega) (hP.out.stays BA.out) (v2) H2.out).mono ?_
      rintro e u2 ⟨rfl, hb⟩
      have B2 : Hid (Below w.heap.size w u2) := bl_trans BA.out hb
      clear l_x c0_x c1_x c2_x l_y c0_y c1_y c2_y
      have L_x : Hid (Lies u2 (w.heap.size + 1) true 0 s') := (L_x.out.over _).below hb
      have L_y : Hid (Lies u2 (w.heap.size + 4) true 0 t') := (L_y.out.over _).below hb
      have L_le : Hid (Lies u2 (u1.heap.size) false (v0 + v1) ⟨#[]⟩) := (Lies.new _ false (v0 + v1) ⟨#[]⟩ 23).below hb
      clear hb
      obtain ⟨l_x, c0_x, c1_x, c2_x⟩ := L_x.out
      obtain ⟨l_y, c0_y, c1_y, c2_y⟩ := L_y.out
      obtain ⟨l_le, c0_le, c1_le, c2_le⟩ := L_le.out
      have BA : Hid (Below w.heap.size w (u2.alloc (.cells #[.bool false, .int .i64 (v2), .string ⟨#[]⟩] 23))) := B2.out.alloc B2.out.size _
      go_wp2_with fail
      refine (op_ask_r ⟨#[61, 61]⟩ (.inr (.inr (.inl rfl))) true 0 s' true 0 t' _ (by omega) (by omega) (by omega) (by omega) (hP.out.stays BA.out) (v1) H1.out).mono ?_
      rintro e u3 ⟨rfl, hb⟩
      have B3 : Hid (Below w.heap.size w u3) := bl_trans BA.out hb
      clear l_x c0_x c1_x c2_x l_y c0_y c1_y c2_y l_le c0_le c1_le c2_le
      have L_x : Hid (Lies u3 (w.heap.size + 1) true 0 s') := (L_x.out.over _).below hb
      have L_y : Hid (Lies u3 (w.heap.size + 4) true 0 t') := (L_y.out.over _).below hb
      have L_le : Hid (Lies u3 (u1.heap.size) false (v0 + v1) ⟨#[]⟩) := (L_le.out.over _).below hb
      have L_gt : Hid (Lies u3 (u2.heap.size) false (v2) ⟨#[]⟩) := (Lies.new _ false (v2) ⟨#[]⟩ 23).below hb
      clear hb
      obtain ⟨l_x, c0_x, c1_x, c2_x⟩ := L_x.out
      obtain ⟨l_y, c0_y, c1_y, c2_y⟩ := L_y.out
      obtain ⟨l_le, c0_le, c1_le, c2_le⟩ := L_le.out
      obtain ⟨l_gt, c0_gt, c1_gt, c2_gt⟩ := L_gt.out
      have BA : Hid (Below w.heap.size w (u3.alloc (.cells #[.bool false, .int .i64 (v1), .string ⟨#[]⟩] 23))) := B3.out.alloc B3.out.size _
      go_wp2_with fail
      refine (op_ask_r ⟨#[33, 61]⟩ (.inr (.inr (.inr (.inl rfl)))) true 0 s' true 0 t' _ (by omega) (by omega) (by omega) (by omega) (hP.out.stays BA.out) (v0 + v2) H4.out).mono ?_
      rintro e u4 ⟨rfl, hb⟩
      have B4 : Hid (Below w.heap.size w u4) := bl_trans BA.out hb
      clear l_x c0_x c1_x c2_x l_y c0_y c1_y c2_y l_le c0_le c1_le c2_le l_gt c0_gt c1_gt c2_gt
      have L_x : Hid (Lies u4 (w.heap.size + 1) true 0 s') := (L_x.out.over _).below hb
      have L_y : Hid (Lies u4 (w.heap.size + 4) true 0 t') := (L_y.out.over _).below hb
      have L_le : Hid (Lies u4 (u1.heap.size) false (v0 + v1) ⟨#[]⟩) := (L_le.out.over _).below hb
      have L_gt : Hid (Lies u4 (u2.heap.size) false (v2) ⟨#[]⟩) := (L_gt.out.over _).below hb
      have L_eq : Hid (Lies u4 (u3.heap.size) false (v1) ⟨#[]⟩) := (Lies.new _ false (v1) ⟨#[]⟩ 23).below hb
      clear hb
      obtain ⟨l_x, c0_x, c1_x, c2_x⟩ := L_x.out
      obtain ⟨l_y, c0_y, c1_y, c2_y⟩ := L_y.out
      obtain ⟨l_le, c0_le, c1_le, c2_le⟩ := L_le.out
      obtain ⟨l_gt, c0_gt, c1_gt, c2_gt⟩ := L_gt.out
      obtain ⟨l_eq, c0_eq, c1_eq, c2_eq⟩ := L_eq.out
      have BA : Hid (Below w.heap.size w (u4.alloc (.cells #[.bool false, .int .i64 (v0 + v2), .string ⟨#[]⟩] 23))) := B4.out.alloc B4.out.size _
      go_wp2_with fail
      go_ret
      exact ⟨rfl, BA.out⟩

set_option maxRecDepth 100000 in
set_option maxHeartbeats 2000000 in
theorem core_false (a : Int) (s t : ByteArray) (w : World) (hP : Hid (Pow w)) (x : Int) (hx : a.tmod 1099511627776 = x) (x1 : -1099511627776 ≤ x) (x2 : x ≤ 1099511627776)
    (m : Nat) (hm : min (s.size : Int) 50 = (m : Int)) (m1 : (m : Int) ≤ (s.size : Int)) (s' : ByteArray) (hs' : s.extract 0 m = s')
    (l : Nat) (hl : min (t.size : Int) 50 = (l : Int)) (l1 : (l : Int) ≤ (t.size : Int)) (t' : ByteArray) (ht' : t.extract 0 l = t')
    (v0 v1 v2 : Int) (p0 : 0 ≤ v0) (q0 : v0 ≤ 1) (p1 : 0 ≤ v1) (q1 : v1 ≤ 1) (p2 : 0 ≤ v2) (q2 : v2 ≤ 1) (HS : Hid (v0 + v1 + v2 = 1)) (e1 : (v0 + v1 + v2 == 1) = true) (e2 : (v1 + (v0 + v2) == 1) = true)
    (H0 : Hid (b2i (askL [60] (decide (ordV false x ⟨#[]⟩ true 0 t' < 0)) (decide (ordV false x ⟨#[]⟩ true 0 t' = 0))) = v0)) (H1 : Hid (b2i (askL [61, 61] (decide (ordV false x ⟨#[]⟩ true 0 t' < 0)) (decide (ordV false x ⟨#[]⟩ true 0 t' = 0))) = v1)) (H2 : Hid (b2i (askL [62] (decide (ordV false x ⟨#[]⟩ true 0 t' < 0)) (decide (ordV false x ⟨#[]⟩ true 0 t' = 0))) = v2)) (H3 : Hid (b2i (askL [60, 61] (decide (ordV false x ⟨#[]⟩ true 0 t' < 0)) (decide (ordV false x ⟨#[]⟩ true 0 t' = 0))) = v0 + v1)) (H4 : Hid (b2i (askL [33, 61] (decide (ordV false x ⟨#[]⟩ true 0 t' < 0)) (decide (ordV false x ⟨#[]⟩ true 0 t' = 0))) = v0 + v2)) :
    Calls Tryd.prog 7 #[.int .i64 a, .string s, .string t, .bool false] w fun e w' => e = .returned (.bool true) ∧ Below w.heap.size w w' := by
  have m0 : (0 : Int) ≤ (m : Int) := by omega
  have l0 : (0 : Int) ≤ (l : Int) := by omega
  go_enter Tryd.func7, Tryd.ntmps7
  go_wp2_with (first
    | (go_at_call 17; go_in)
    | (go_at_call 15; go_in))
  go_loopw [11, 42] (fun n i wr => Hid (RelC w wr false x ⟨#[]⟩ t' 3) ∧ ((i = .int .i64 0 ∧ n = .int .i64 0) ∨ (i = .int .i64 1 ∧ n = .int .i64 v0) ∨ (i = .int .i64 2 ∧ n = .int .i64 (v0 + v1)) ∨ (i = .int .i64 3 ∧ n = .int .i64 1))) (fun _ i _ => 3 - (intOf i).toNat)
  case atStart =>
    refine ⟨?_, .inl ⟨rfl, rfl⟩⟩
    exact ⟨by go_grown, (((Lies.here (by simp) _ _ _ _).over _).over _).over _, (Lies.here (by simp) _ _ _ _).over _, Sits.here (by simp) _ _ _ _ rfl, Sits.here (by simp) _ _ _ _ rfl, Sits.here (by simp) _ _ _ _ rfl⟩
  case round =>
    clear hx hm hs' hl ht'
    obtain ⟨RX, ⟨rfl, rfl⟩ | ⟨rfl, rfl⟩ | ⟨rfl, rfl⟩ | ⟨rfl, rfl⟩⟩ := hrel
    · have RB : Hid (Below w.heap.size w _) := RX.out.1
      obtain ⟨_, ⟨lx, x0, x1c, x2c⟩, ⟨ly, y0, y1, y2⟩, ⟨lg, g0⟩, ⟨_, g1⟩, ⟨_, g2⟩⟩ := RX.out
      go_wp2_with fail
      refine (op_ask_r ⟨#[60]⟩ (.inl rfl) false x ⟨#[]⟩ true 0 t' _ (by omega) (by omega) (by omega) (by omega) (hP.out.stays RB.out) (v0) H0.out).mono ?_
      rintro e wk ⟨rfl, hb⟩
      have B2 : Hid (Below w.heap.size w wk) := bl_trans RB.out hb
      have R2 : Hid (RelC w (wk.alloc (.cells #[.bool false, .int .i64 v0, .string ⟨#[]⟩] 23)) false x ⟨#[]⟩ t' 3) := by
        obtain ⟨a1, a2, a3, a4, a5, a6⟩ := RX.out
        exact ⟨B2.out.alloc B2.out.size _, (a2.below hb).over _, (a3.below hb).over _, (a4.below hb).over _, (a5.below hb).over _, (a6.below hb).over _⟩
      clear hb RX x0 x1c x2c y0 y1 y2 g0 g1 g2 lx ly lg RB B2
      go_wp2_with fail
      go_roundw
      case rel => exact ⟨R2, .inr (.inl ⟨by go_num, by go_num⟩)⟩
      case measure => simp [intOf]
    · have RB : Hid (Below w.heap.size w _) := RX.out.1
      obtain ⟨_, ⟨lx, x0, x1c, x2c⟩, ⟨ly, y0, y1, y2⟩, ⟨lg, g0⟩, ⟨_, g1⟩, ⟨_, g2⟩⟩ := RX.out
      go_wp2_with fail
      refine (op_ask_r ⟨#[61, 61]⟩ (.inr (.inr (.inl rfl))) false x ⟨#[]⟩ true 0 t' _ (by omega) (by omega) (by omega) (by omega) (hP.out.stays RB.out) (v1) H1.out).mono ?_
      rintro e wk ⟨rfl, hb⟩
      have B2 : Hid (Below w.heap.size w wk) := bl_trans RB.out hb
      have R2 : Hid (RelC w (wk.alloc (.cells #[.bool false, .int .i64 v1, .string ⟨#[]⟩] 23)) false x ⟨#[]⟩ t' 3) := by
        obtain ⟨a1, a2, a3, a4, a5, a6⟩ := RX.out
        exact ⟨B2.out.alloc B2.out.size _, (a2.below hb).over _, (a3.below hb).over _, (a4.below hb).over _, (a5.below hb).over _, (a6.below hb).over _⟩
      clear hb RX x0 x1c x2c y0 y1 y2 g0 g1 g2 lx ly lg RB B2
      go_wp2_with fail
      go_roundw
      case rel => exact ⟨R2, .inr (.inr (.inl ⟨by go_num, by go_num⟩))⟩
      case measure => simp [intOf]
    · have RB : Hid (Below w.heap.size w _) := RX.out.1
      obtain ⟨_, ⟨lx, x0, x1c, x2c⟩, ⟨ly, y0, y1, y2⟩, ⟨lg, g0⟩, ⟨_, g1⟩, ⟨_, g2⟩⟩ := RX.out
      go_wp2_with fail
      refine (op_ask_r ⟨#[62]⟩ (.inr (.inr (.inr (.inr (.inl rfl))))) false x ⟨#[]⟩ true 0 t' _ (by omega) (by omega) (by omega) (by omega) (hP.out.stays RB.out) (v2) H2.out).mono ?_
      rintro e wk ⟨rfl, hb⟩
      have B2 : Hid (Below w.heap.size w wk) := bl_trans RB.out hb
      have R2 : Hid (RelC w (wk.alloc (.cells #[.bool false, .int .i64 v2, .string ⟨#[]⟩] 23)) false x ⟨#[]⟩ t' 3) := by
        obtain ⟨a1, a2, a3, a4, a5, a6⟩ := RX.out
        exact ⟨B2.out.alloc B2.out.size _, (a2.below hb).over _, (a3.below hb).over _, (a4.below hb).over _, (a5.below hb).over _, (a6.below hb).over _⟩
      clear hb RX x0 x1c x2c y0 y1 y2 g0 g1 g2 lx ly lg RB B2
      go_wp2_with fail
      go_roundw
      case rel => exact ⟨R2, .inr (.inr (.inr ⟨by go_num, by rw [← HS.out]⟩))⟩
      case measure => simp [intOf]
    · have RB : Hid (Below w.heap.size w _) := RX.out.1
      have L_x : Hid (Lies _ (w.heap.size + 1) false x ⟨#[]⟩) := RX.out.2.1
      have L_y : Hid (Lies _ (w.heap.size + 3) true 0 t') := RX.out.2.2.1
      clear RX
      obtain ⟨lx, x0, x1c, x2c⟩ := L_x.out
      obtain ⟨ly, y0, y1, y2⟩ := L_y.out
      go_wp2_with fail
      refine (op_ask_r ⟨#[60, 61]⟩ (.inr (.inl rfl)) false x ⟨#[]⟩ true 0 t' _ (by omega) (by omega) (by omega) (by omega) (hP.out.stays RB.out) (v0 + v1) H3.out).mono ?_
      rintro e u1 ⟨rfl, hb⟩
      have B1 : Hid (Below w.heap.size w u1) := bl_trans RB.out hb
      clear lx x0 x1c x2c ly y0 y1 y2
      have L_x : Hid (Lies u1 (w.heap.size + 1) false x ⟨#[]⟩) := L_x.out.below hb
      have L_y : Hid (Lies u1 (w.heap.size + 3) true 0 t') := L_y.out.below hb
      clear hb
      obtain ⟨l_x, c0_x, c1_x, c2_x⟩ := L_x.out
      obtain ⟨l_y, c0_y, c1_y, c2_y⟩ := L_y.out
      have BA : Hid (Below w.heap.size w (u1.alloc (.cells #[.bool false, .int .i64 (v0 + v1), .string ⟨#[]⟩] 23))) := B1.out.alloc B1.out.size _
      go_wp2_with fail
      refine (op_ask_r ⟨#[62]⟩ (.inr (.inr (.inr (.inr (.inl rfl))))) false x ⟨#[]⟩ true 0 t' _ (by omega) (by omega) (by omega) (by omega) (hP.out.stays BA.out) (v2) H2.out).mono ?_
      rintro e u2 ⟨rfl, hb⟩
      have B2 : Hid (Below w.heap.size w u2) := bl_trans BA.out hb
      clear l_x c0_x c1_x c2_x l_y c0_y c1_y c2_y
      have L_x : Hid (Lies u2 (w.heap.size + 1) false x ⟨#[]⟩) := (L_x.out.over _).below hb
      have L_y : Hid (Lies u2 (w.heap.size + 3) true 0 t') := (L_y.out.over _).below hb
      have L_le : Hid (Lies u2 (u1.heap.size) false (v0 + v1) ⟨#[]⟩) := (Lies.new _ false (v0 + v1) ⟨#[]⟩ 23).below hb
      clear hb
      obtain ⟨l_x, c0_x, c1_x, c2_x⟩ := L_x.out
      obtain ⟨l_y, c0_y, c1_y, c2_y⟩ := L_y.out
      obtain ⟨l_le, c0_le, c1_le, c2_le⟩ := L_le.out
      have BA : Hid (Below w.heap.size w (u2.alloc (.cells #[.bool false, .int .i64 (v2), .string ⟨#[]⟩] 23))) := B2.out.alloc B2.out.size _
      go_wp2_with fail
      refine (op_ask_r ⟨#[61, 61]⟩ (.inr (.inr (.inl rfl))) false x ⟨#[]⟩ true 0 t' _ (by omega) (by omega) (by omega) (by omega) (hP.out.stays BA.out) (v1) H1.out).mono ?_
      rintro e u3 ⟨rfl, hb⟩
      have B3 : Hid (Below w.heap.size w u3) := bl_trans BA.out hb
      clear l_x c0_x c1_x c2_x l_y c0_y c1_y c2_y l_le c0_le c1_le c2_le
      have L_x : Hid (Lies u3 (w.heap.size + 1) false x ⟨#[]⟩) := (L_x.out.over _).below hb
      have L_y : Hid (Lies u3 (w.heap.size + 3) true 0 t') := (L_y.out.over _).below hb
      have L_le : Hid (Lies u3 (u1.heap.size) false (v0 + v1) ⟨#[]⟩) := (L_le.out.over _).below hb
      have L_gt : Hid (Lies u3 (u2.heap.size) false (v2) ⟨#[]⟩) := (Lies.new _ false (v2) ⟨#[]⟩ 23).below hb
      clear hb
      obtain ⟨l_x, c0_x, c1_x, c2_x⟩ := L_x.out
      obtain ⟨l_y, c0_y, c1_y, c2_y⟩ := L_y.out
      obtain ⟨l_le, c0_le, c1_le, c2_le⟩ := L_le.out
      obtain ⟨l_gt, c0_gt, c1_gt, c2_gt⟩ := L_gt.out
      have BA : Hid (Below w.heap.size w (u3.alloc (.cells #[.bool false, .int .i64 (v1), .string ⟨#[]⟩] 23))) := B3.out.alloc B3.out.size _
      go_wp2_with fail
      refine (op_ask_r ⟨#[33, 61]⟩ (.inr (.inr (.inr (.inl rfl)))) false x ⟨#[]⟩ true 0 t' _ (by omega) (by omega) (by omega) (by omega) (hP.out.stays BA.out) (v0 + v2) H4.out).mono ?_
      rintro e u4 ⟨rfl, hb⟩
      have B4 : Hid (Below w.heap.size w u4) := bl_trans BA.out hb
      clear l_x c0_x c1_x c2_x l_y c0_y c1_y c2_y l_le c0_le c1_le c2_le l_gt c0_gt c1_gt c2_gt
      have L_x : Hid (Lies u4 (w.heap.size + 1) false x ⟨#[]⟩) := (L_x.out.over _).below hb
      have L_y : Hid (Lies u4 (w.heap.size + 3) true 0 t') := (L_y.out.over _).below hb
      have L_le : Hid (Lies u4 (u1.heap.size) false (v0 + v1) ⟨#[]⟩) := (L_le.out.over _).below hb
      have L_gt : Hid (Lies u4 (u2.heap.size) false (v2) ⟨#[]⟩) := (L_gt.out.over _).below hb
      have L_eq : Hid (Lies u4 (u3.heap.size) false (v1) ⟨#[]⟩) := (Lies.new _ false (v1) ⟨#[]⟩ 23).below hb
      clear hb
      obtain ⟨l_x, c0_x, c1_x, c2_x⟩ := L_x.out
      obtain ⟨l_y, c0_y, c1_y, c2_y⟩ := L_y.out
      obtain ⟨l_le, c0_le, c1_le, c2_le⟩ := L_le.out
      obtain ⟨l_gt, c0_gt, c1_gt, c2_gt⟩ := L_gt.out
      obtain ⟨l_eq, c0_eq, c1_eq, c2_eq⟩ := L_eq.out
      have BA : Hid (Below w.heap.size w (u4.alloc (.cells #[.bool false, .int .i64 (v0 + v2), .string ⟨#[]⟩] 23))) := B4.out.alloc B4.out.size _
      go_wp2_with fail
      go_ret
      exact ⟨rfl, BA.out⟩

theorem walk (a : Int) (wa : (Lit.int .i64 a).wf = true) (s : ByteArray) (hs : s.size ≤ maxLen) (t : ByteArray) (ht : t.size ≤ maxLen) (b : Bool) (w : World) (hP : Pow w) :
    Calls Tryd.prog 7 #[.int .i64 a, .string s, .string t, .bool b] w fun e w' => e = .returned (.bool true) ∧ Below w.heap.size w w' := by
  obtain ⟨x1, x2⟩ := tmodM a
  cases b
  · obtain ⟨v0, v1, v2, p0, p1, p2, hs, k0, k1, k2, k3, k4⟩ := three (ordV false (a.tmod 1099511627776) ⟨#[]⟩ true 0 (t.extract 0 (min t.size 50)))
    exact core_false a s t w hP _ rfl (by omega) (by omega) (min s.size 50) (by omega) (by omega) _ rfl (min t.size 50) (by omega) (by omega) _ rfl v0 v1 v2 (by omega) (by omega) (by omega) (by omega) (by omega) (by omega) hs (by simp; omega) (by simp; omega) k0 k1 k2 k3 k4
  · obtain ⟨v0, v1, v2, p0, p1, p2, hs, k0, k1, k2, k3, k4⟩ := three (ordV true 0 (s.extract 0 (min s.size 50)) true 0 (t.extract 0 (min t.size 50)))
    exact core_true a s t w hP _ rfl (by omega) (by omega) (min s.size 50) (by omega) (by omega) _ rfl (min t.size 50) (by omega) (by omega) _ rfl v0 v1 v2 (by omega) (by omega) (by omega) (by omega) (by omega) (by omega) hs (by simp; omega) (by simp; omega) k0 k1 k2 k3 k4

set_option maxRecDepth 100000 in
theorem lifted (os : Os) (started : os.Started) (H : Type) (enc : TypeId × Value → H) :
    ReturnsInHanded {} Tryd.checked os 7 .any (fun w args => (Rows.comparedSpec.pre enc Tryd.prog Tryd.f7 Rows.comparedRow.domain false w args ∧ laidMetH Tryd.prog Rows.comparedRow.laid w) ∧ sizedMet enc Tryd.prog Tryd.f7 (OpenSpec.ofChange Rows.comparedSpec) false w args)
      (Rows.comparedSpec.post enc Tryd.prog Tryd.f7 false true false false) := by
  refine returnsInHanded_of_change_and (C := Tryd.checked) (X := fun w _ => laidMetH Tryd.prog Rows.comparedRow.laid w) (fun _ _ _ hh h => h.of_heap hh) own started (by kernel_rfl) Tryd.func7
    (ChangeSpec.witness_shaped (enc := enc) (C := Tryd.checked) (os := os) (X := fun w _ => laidMetH Tryd.prog Rows.comparedRow.laid w) false (World.laidAll Tryd.prog os Rows.comparedRow.laid) #[.int .i64 0, .string ByteArray.empty, .string ByteArray.empty, .bool false] 8 (World.laidAll_os _ _ _)
      (World.shaped_of_ZipB (by kernel_rfl) (by kernel_rfl)) (by kernel_rfl) (by kernel_rfl) (by kernel_rfl)
      (by rw [MakeChecks.laidMetH_plain _ _ _ (by kernel_rfl)]; exact laidMet_laidAll _ (by kernel_rfl) (by kernel_rfl))) ?_
  intro W base args ds gs before hval0 hW hcnd hsz hL _
  rw [MakeChecks.laidMetH_plain _ _ _ (by kernel_rfl)] at hL
  have hval : ∀ (j : Nat) t v, Tryd.f7.params[j]? = some t → args[j]? = some v → Value.okWide Tryd.prog W .any base t v := hval0
  have hW' := hW
  obtain ⟨p, q, hA0, hV, rfl, hfz, hnd⟩ := hW
  have hA : DataW.TrodAll enc Tryd.prog W 0 (fun _ => true) true Tryd.f7.params.toList args.toList ds p := hA0
  rw [Tryd.params7] at hA hval
  have hP : Pow W := pow_of (show laidMet Tryd.prog ((_, Rows.laid_internal_strconv_uint64pow10) :: _) W from (laidMet.tail (laidMet.tail (hL))))
  obtain ⟨v0, vs0, d0, ds0, p0, q0, hargs, rfl, rfl, h0, r0⟩ := trodAll_cons hA
  obtain ⟨v1, vs1, d1, ds1, p1, q1, rfl, rfl, rfl, h1, r1⟩ := trodAll_cons r0
  obtain ⟨v2, vs2, d2, ds2, p2, q2, rfl, rfl, rfl, h2, r2⟩ := trodAll_cons r1
  obtain ⟨v3, vs3, d3, ds3, p3, q3, rfl, rfl, rfl, h3, r3⟩ := trodAll_cons r2
  obtain ⟨rfl, rfl, rfl⟩ := trodAll_nil r3
  obtain rfl : args = #[v0, v1, v2, v3] := by cases args; simp_all
  obtain ⟨rfl, rfl⟩ := trodVars_none hV
  have k0 := h0
  have lt0 : ∀ x ∈ p0, x.block < W.heap.size := by obtain ⟨m, hm⟩ := k0; exact DataW.trod_lt m _ _ _ hm
  obtain ⟨a0, rfl, rfl, rfl, w0⟩ := open_int Tryd.underlying3 (hval 0 3 v0 rfl rfl) h0
  have k1 := h1
  have lt1 : ∀ x ∈ p1, x.block < W.heap.size := by obtain ⟨m, hm⟩ := k1; exact DataW.trod_lt m _ _ _ hm
  obtain ⟨a1, rfl, rfl, rfl, w1⟩ := open_string Tryd.underlying9 (hval 1 9 v1 rfl rfl) h1
  have k2 := h2
  have lt2 : ∀ x ∈ p2, x.block < W.heap.size := by obtain ⟨m, hm⟩ := k2; exact DataW.trod_lt m _ _ _ hm
  obtain ⟨a2, rfl, rfl, rfl, w2⟩ := open_string Tryd.underlying9 (hval 2 9 v2 rfl rfl) h2
  have k3 := h3
  have lt3 : ∀ x ∈ p3, x.block < W.heap.size := by obtain ⟨m, hm⟩ := k3; exact DataW.trod_lt m _ _ _ hm
  obtain ⟨a3, rfl, rfl, rfl⟩ := open_bool Tryd.underlying4 (hval 3 4 v3 rfl rfl) h3
  clear hA0 hval0
  refine (walk a0 w0 a1 w1 a2 w2 a3 W hP).mono fun e W' ⟨he, bel⟩ => ?_
  subst he
  exact ⟨_, rfl, _, _, _, [], _, [], hW', trodAll_mk1 (shut_bool Tryd.underlying4 _), (trodAll_cons_mk (Below.trod laidOut (by kernel_rfl) (of_decide_eq_true (by kernel_rfl)) k0 bel lt0) (trodAll_cons_mk (Below.trod laidOut (by kernel_rfl) (of_decide_eq_true (by kernel_rfl)) k1 bel lt1) (trodAll_cons_mk (Below.trod laidOut (by kernel_rfl) (of_decide_eq_true (by kernel_rfl)) k2 bel lt2) (trodAll_cons_mk (Below.trod laidOut (by kernel_rfl) (of_decide_eq_true (by kernel_rfl)) k3 bel lt3) trodAll_mk0)))), rfl, bel.frame _, fun h => by cases h⟩

theorem over : Rows.comparedRow.holds Tryd.pinned (OpenSpec.ofChange Rows.comparedSpec) :=
  OpenClaim.holds_of_wide 7 Tryd.f7 rfl rfl rfl rfl rfl rfl rfl ⟨rfl, rfl, rfl, rfl, rfl⟩ rfl rfl rfl rfl rfl (by kernel_rfl) Tryd.func7 (by kernel_rfl)
    (of_decide_eq_true (by kernel_rfl)) (by unfold Func.isWrapper; rw [if_neg (of_decide_eq_false (by kernel_rfl))]; exact ⟨rfl, rfl⟩)
    (fun os started H enc _ => lifted os started H enc)

theorem card : Rows.ComparedCardSaid :=
  Claim7.holds_tied_plain_at .later [] [.data, .data, .data, .data, .pinned] true (true, "6c26c0187a3396e3fb5204ccd2482c4d779497168c111a81a531b6312885ccb6") false
    over (fun _ h => by cases h) (by kernel_rfl) (fun _ h => by cases h) compared_row_tie rfl ⟨rfl, rfl⟩ (by kernel_rfl) rfl
    (fun f fn hf hfn => by
      obtain rfl : f = 7 := Option.some.inj ((show Tryd.prog.funcNamed Rows.comparedRow.func = some 7 by kernel_rfl).symm.trans hf) |>.symm
      obtain rfl : fn = Tryd.f7 := (Option.some.inj (Tryd.func7.symm.trans hfn)).symm
      exact ⟨by kernel_rfl, fun j t ht => by
        rw [Tryd.params7] at ht
        have hm : t ∈ [3, 9, 9, 4] := by simpa using Array.mem_of_getElem? ht
        have hall : ([3, 9, 9, 4].all fun u => !Tryd.prog.wantsStandIn u) = true := by kernel_rfl
        exact (show Tryd.prog.wantsStandIn t = false by simpa using List.all_eq_true.1 hall t hm)⟩)
    (by kernel_rfl)
end Go.Proofs.YtejcmammdmpcoabDoor.compared

namespace Go.Proofs.YtejcmammdmpcoabDoor
/-- THE STATEMENT. -/
theorem compared_card : Rows.ComparedCardSaid := compared.card
#print axioms compared_card
end Go.Proofs.YtejcmammdmpcoabDoor
