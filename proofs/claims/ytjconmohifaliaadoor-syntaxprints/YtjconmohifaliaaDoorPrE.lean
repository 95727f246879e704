/-
  The program's exprText: kind by kind, then its contract.
-/
import Derived.Test.YtjconmohifaliaaDoorPrKid
import Derived.BigQuiet
import Derived.Test.YtjconmohifaliaaDoorPrEs
import Derived.Test.YtjconmohifaliaaDoorPrQd
namespace Go.Proofs.YtjconmohifaliaaDoor
open Go.ChangeShapes Go.WideShapes Go.ChangeAt Go.RowKit Go.Joins
set_option linter.unusedVariables false
set_option maxRecDepth 100000

set_option maxHeartbeats 2000000 in
theorem prE_6 {m : Nat} (hX : TextE 18 m) (B : Nat) (n : Int) (s : ByteArray) (l : List Ex) (cs : List Value) (w : World) (hx : ExA B w (m + 1) cs (.mk 6 n s l)) (hB : B ≤ w.heap.size) (hok : okE (m + 1) (.mk 6 n s l)) (hlen : (exT (m + 1) (.mk 6 n s l)).length ≤ 100000000) (hP : Pow w) :
    Calls Tryd.prog 18 #[.agg cs.toArray] w fun e w' => e = .returned (.string (bs (exT (m + 1) (.mk 6 n s l)))) ∧ Below w.heap.size w w' := by
  obtain ⟨v, rfl, wk, wn, ws, a, cap, rfl, hmax, hsl⟩ := hx
  obtain ⟨-, -, hpa, hs2, hn0, hn1, hall⟩ := hok
  have hll : l.length = 2 := by have := argsN_of hpa; simp [argsN] at this; omega
  have HT : Hid (exT (m + 1) (.mk 6 n s l) = [40] ++ exT m (l.getD 0 default) ++ [32] ++ s.toList ++ [32] ++ exT m (l.getD 1 default) ++ [41]) := by simp [exT, Hid]
  obtain ⟨b, off, rfl, hb, hi⟩ := hsl (by omega)
  show Calls Tryd.prog 18 #[.agg #[.int .i64 6, .int .i64 n, .string s, .slice (some ⟨b, off, none⟩) l.length cap]] w _
  rw [hll]
  obtain ⟨k0, n0, s0, a0, len0, cap0, p00, p01, p02, p03, hx0, hm0⟩ := kid hi 0 off (by omega) (by omega)
  obtain ⟨k1, n1, s1, a1, len1, cap1, p10, p11, p12, p13, hx1, hm1⟩ := kid hi 1 (off + 4) (by omega) (by omega)
  have hlt := congrArg List.length HT.out
  simp only [List.length_append, List.length_cons, List.length_nil] at hlt
  have HW : Hid (Below w.heap.size w (w.alloc (.cells #[.int .i64 6, .int .i64 n, .string s, .slice (some ⟨b, off, none⟩) 2 cap] 36))) := (Below.refl _ _).alloc (Nat.le_refl _) _
  have HR : Hid (RowAt (w.alloc (.cells #[.int .i64 6, .int .i64 n, .string s, .slice (some ⟨b, off, none⟩) 2 cap] 36)) w.heap.size #[.int .i64 6, .int .i64 n, .string s, .slice (some ⟨b, off, none⟩) 2 cap]) := RowAt.new w _ _
  obtain ⟨W, hW⟩ : ∃ W, W = w.alloc (.cells #[.int .i64 6, .int .i64 n, .string s, .slice (some ⟨b, off, none⟩) 2 cap] 36) := ⟨_, rfl⟩
  rw [← hW] at HW HR
  have HWW : Hid (W = _) := hW
  clear hW
  obtain ⟨T0, hT0⟩ : ∃ T, T = bs (exT m (l.getD 0 default)) := ⟨_, rfl⟩
  obtain ⟨T1, hT1⟩ : ∃ T, T = bs (exT m (l.getD 1 default)) := ⟨_, rfl⟩
  have t0 : T0.size = (exT m (l.getD 0 default)).length := by rw [hT0, bs_size]
  have t1 : T1.size = (exT m (l.getD 1 default)).length := by rw [hT1, bs_size]
  have c0 := kid_c hX hx0.out HW.out hB (hall _ hm0) (by omega) hP hT0
  have c1 := kid_c hX hx1.out HW.out hB (hall _ hm1) (by omega) hP hT1
  have HE : Hid (⟨#[40]⟩ ++ T0 ++ ⟨#[32]⟩ ++ s ++ ⟨#[32]⟩ ++ T1 ++ ⟨#[41]⟩ = bs (exT (m + 1) (.mk 6 n s l))) := bs_of (by rw [HT.out, hT0, hT1]; simp only [toL_append, bs_list, toL_mk])
  have z1 : ¬ 9223372036854775807 < 1 + T0.size := by omega
  have z2 : ¬ 9223372036854775807 < 1 + T0.size + 1 := by omega
  have z3 : ¬ 9223372036854775807 < 1 + T0.size + 1 + s.size := by omega
  have z4 : ¬ 9223372036854775807 < 1 + T0.size + 1 + s.size + 1 := by omega
  have z5 : ¬ 9223372036854775807 < 1 + T0.size + 1 + s.size + 1 + T1.size := by omega
  have z6 : ¬ 9223372036854775807 < 1 + T0.size + 1 + s.size + 1 + T1.size + 1 := by omega
  have hbw : b < w.heap.size := by omega
  have r00 := cell_regrown ((HW.out.cell (p := ⟨b, off, none⟩) hbw).trans p00)
  have r01 := cell_regrown ((HW.out.cell (p := ⟨b, off + 1, none⟩) hbw).trans p01)
  have r02 := cell_regrown ((HW.out.cell (p := ⟨b, off + 2, none⟩) hbw).trans p02)
  have r03 := cell_regrown ((HW.out.cell (p := ⟨b, off + 3, none⟩) hbw).trans p03)
  have r10 := cell_regrown ((HW.out.cell (p := ⟨b, off + 4, none⟩) hbw).trans p10)
  have r11 := cell_regrown ((HW.out.cell (p := ⟨b, off + 4 + 1, none⟩) hbw).trans p11)
  have r12 := cell_regrown ((HW.out.cell (p := ⟨b, off + 4 + 2, none⟩) hbw).trans p12)
  have r13 := cell_regrown ((HW.out.cell (p := ⟨b, off + 4 + 3, none⟩) hbw).trans p13)
  have q0 := HR.out.cell 0
  have q2 := HR.out.cell 2
  have q3 := HR.out.cell 3
  simp only [List.getElem?_toArray, List.getElem?_cons_zero, List.getElem?_cons_succ] at q0 q2 q3
  have Q2 := cell_regrown q2
  have Q3 := cell_regrown q3
  clear hX hi hall hx0 hx1 p00 p01 p02 p03 p10 p11 p12 p13 hT0 hT1 t0 t1 hlt HT hpa hlen hs2 hm0 hm1 hP hsl wk wn ws hll
  go_enter Tryd.func18, Tryd.ntmps18
  go_wp2_with fail
  rw [← HWW.out]
  clear HWW
  refine wp_region_quiet_below (by kernel_rfl) (by kernel_rfl) ?_
  repeat (go_big_quiet_step (first | with_reducible exact c0 _ _ | with_reducible exact c1 _ _))
  refine wpQuiet_nil ?_
  intro _ hw'
  obtain ⟨⟨dq, osq⟩, hw''⟩ := hw'
  subst hw''
  go_wp2
  go_ret
  exact ⟨ret_str HE.out, bl_trans HW.out (below_regrown W dq osq)⟩

set_option maxHeartbeats 2000000 in
theorem prE_4 {m : Nat} (hX : TextE 18 m) (B : Nat) (n : Int) (s : ByteArray) (l : List Ex) (cs : List Value) (w : World) (hx : ExA B w (m + 1) cs (.mk 4 n s l)) (hB : B ≤ w.heap.size) (hok : okE (m + 1) (.mk 4 n s l)) (hlen : (exT (m + 1) (.mk 4 n s l)).length ≤ 100000000) (hP : Pow w) :
    Calls Tryd.prog 18 #[.agg cs.toArray] w fun e w' => e = .returned (.string (bs (exT (m + 1) (.mk 4 n s l)))) ∧ Below w.heap.size w w' := by
  obtain ⟨v, rfl, wk, wn, ws, a, cap, rfl, hmax, hsl⟩ := hx
  obtain ⟨-, -, hpa, hs2, hn0, hn1, hall⟩ := hok
  have hll : l.length = 1 := by have := argsN_of hpa; simp [argsN] at this; omega
  have HT : Hid (exT (m + 1) (.mk 4 n s l) = [40, 36] ++ exT m (l.getD 0 default) ++ [41]) := by simp [exT, Hid]
  obtain ⟨b, off, rfl, hb, hi⟩ := hsl (by omega)
  show Calls Tryd.prog 18 #[.agg #[.int .i64 4, .int .i64 n, .string s, .slice (some ⟨b, off, none⟩) l.length cap]] w _
  rw [hll]
  obtain ⟨k0, n0, s0, a0, len0, cap0, p00, p01, p02, p03, hx0, hm0⟩ := kid hi 0 off (by omega) (by omega)
  have hlt := congrArg List.length HT.out
  simp only [List.length_append, List.length_cons, List.length_nil] at hlt
  have HW : Hid (Below w.heap.size w (w.alloc (.cells #[.int .i64 4, .int .i64 n, .string s, .slice (some ⟨b, off, none⟩) 1 cap] 36))) := (Below.refl _ _).alloc (Nat.le_refl _) _
  have HR : Hid (RowAt (w.alloc (.cells #[.int .i64 4, .int .i64 n, .string s, .slice (some ⟨b, off, none⟩) 1 cap] 36)) w.heap.size #[.int .i64 4, .int .i64 n, .string s, .slice (some ⟨b, off, none⟩) 1 cap]) := RowAt.new w _ _
  obtain ⟨W, hW⟩ : ∃ W, W = w.alloc (.cells #[.int .i64 4, .int .i64 n, .string s, .slice (some ⟨b, off, none⟩) 1 cap] 36) := ⟨_, rfl⟩
  rw [← hW] at HW HR
  have HWW : Hid (W = _) := hW
  clear hW
  obtain ⟨T0, hT0⟩ : ∃ T, T = bs (exT m (l.getD 0 default)) := ⟨_, rfl⟩
  have t0 : T0.size = (exT m (l.getD 0 default)).length := by rw [hT0, bs_size]
  have HC0 : Hid (Calls Tryd.prog 18 #[.agg #[.int .i64 k0, .int .i64 n0, .string s0, .slice a0 len0 cap0]] W fun e w' => e = .returned (.string T0) ∧ Below W.heap.size W w') := by rw [hT0]; exact hX B _ _ W (hx0.out.below (HW.out.mono hB)) (Nat.le_trans hB HW.out.size) (hall _ hm0) (by omega) (hP.stays HW.out)
  have HE : Hid (⟨#[40, 36]⟩ ++ T0 ++ ⟨#[41]⟩ = bs (exT (m + 1) (.mk 4 n s l))) := bs_of (by rw [HT.out, hT0]; simp only [toL_append, bs_list, toL_mk])
  have z1 : ¬ 9223372036854775807 < 2 + T0.size := by omega
  have z2 : ¬ 9223372036854775807 < 2 + T0.size + 1 := by omega
  have hbw : b < w.heap.size := by omega
  have hbn : ¬ b = w.heap.size := by omega
  clear hX hi hall hx0 hm0 hT0 t0  hlt HT hpa hlen hs2 hP hsl wk wn ws hll HR
  go_enter Tryd.func18, Tryd.ntmps18
  go_wp2_with fail
  rw [← HWW.out]
  clear HWW
  refine Calls.mono HC0.out ?_
  rintro e w1 ⟨rfl, hb1⟩
  have HB1 : Hid (Below w.heap.size w w1) := bl_trans HW.out hb1
  clear hb1 HC0
  go_wp2_with fail
  go_ret
  exact ⟨ret_str HE.out, HB1.out⟩

set_option maxHeartbeats 2000000 in
theorem prE_7 {m : Nat} (hX : TextE 18 m) (B : Nat) (n : Int) (s : ByteArray) (l : List Ex) (cs : List Value) (w : World) (hx : ExA B w (m + 1) cs (.mk 7 n s l)) (hB : B ≤ w.heap.size) (hok : okE (m + 1) (.mk 7 n s l)) (hlen : (exT (m + 1) (.mk 7 n s l)).length ≤ 100000000) (hP : Pow w) :
    Calls Tryd.prog 18 #[.agg cs.toArray] w fun e w' => e = .returned (.string (bs (exT (m + 1) (.mk 7 n s l)))) ∧ Below w.heap.size w w' := by
  obtain ⟨v, rfl, wk, wn, ws, a, cap, rfl, hmax, hsl⟩ := hx
  obtain ⟨-, -, hpa, hs2, hn0, hn1, hall⟩ := hok
  have hll : l.length = 1 := by have := argsN_of hpa; simp [argsN] at this; omega
  have HT : Hid (exT (m + 1) (.mk 7 n s l) = [40, 45] ++ exT m (l.getD 0 default) ++ [41]) := by simp [exT, Hid]
  obtain ⟨b, off, rfl, hb, hi⟩ := hsl (by omega)
  show Calls Tryd.prog 18 #[.agg #[.int .i64 7, .int .i64 n, .string s, .slice (some ⟨b, off, none⟩) l.length cap]] w _
  rw [hll]
  obtain ⟨k0, n0, s0, a0, len0, cap0, p00, p01, p02, p03, hx0, hm0⟩ := kid hi 0 off (by omega) (by omega)
  have hlt := congrArg List.length HT.out
  simp only [List.length_append, List.length_cons, List.length_nil] at hlt
  have HW : Hid (Below w.heap.size w (w.alloc (.cells #[.int .i64 7, .int .i64 n, .string s, .slice (some ⟨b, off, none⟩) 1 cap] 36))) := (Below.refl _ _).alloc (Nat.le_refl _) _
  have HR : Hid (RowAt (w.alloc (.cells #[.int .i64 7, .int .i64 n, .string s, .slice (some ⟨b, off, none⟩) 1 cap] 36)) w.heap.size #[.int .i64 7, .int .i64 n, .string s, .slice (some ⟨b, off, none⟩) 1 cap]) := RowAt.new w _ _
  obtain ⟨W, hW⟩ : ∃ W, W = w.alloc (.cells #[.int .i64 7, .int .i64 n, .string s, .slice (some ⟨b, off, none⟩) 1 cap] 36) := ⟨_, rfl⟩
  rw [← hW] at HW HR
  have HWW : Hid (W = _) := hW
  clear hW
  obtain ⟨T0, hT0⟩ : ∃ T, T = bs (exT m (l.getD 0 default)) := ⟨_, rfl⟩
  have t0 : T0.size = (exT m (l.getD 0 default)).length := by rw [hT0, bs_size]
  have HC0 : Hid (Calls Tryd.prog 18 #[.agg #[.int .i64 k0, .int .i64 n0, .string s0, .slice a0 len0 cap0]] W fun e w' => e = .returned (.string T0) ∧ Below W.heap.size W w') := by rw [hT0]; exact hX B _ _ W (hx0.out.below (HW.out.mono hB)) (Nat.le_trans hB HW.out.size) (hall _ hm0) (by omega) (hP.stays HW.out)
  have HE : Hid (⟨#[40, 45]⟩ ++ T0 ++ ⟨#[41]⟩ = bs (exT (m + 1) (.mk 7 n s l))) := bs_of (by rw [HT.out, hT0]; simp only [toL_append, bs_list, toL_mk])
  have z1 : ¬ 9223372036854775807 < 2 + T0.size := by omega
  have z2 : ¬ 9223372036854775807 < 2 + T0.size + 1 := by omega
  have hbw : b < w.heap.size := by omega
  have hbn : ¬ b = w.heap.size := by omega
  clear hX hi hall hx0 hm0 hT0 t0  hlt HT hpa hlen hs2 hP hsl wk wn ws hll HR
  go_enter Tryd.func18, Tryd.ntmps18
  go_wp2_with fail
  rw [← HWW.out]
  clear HWW
  refine Calls.mono HC0.out ?_
  rintro e w1 ⟨rfl, hb1⟩
  have HB1 : Hid (Below w.heap.size w w1) := bl_trans HW.out hb1
  clear hb1 HC0
  go_wp2_with fail
  go_ret
  exact ⟨ret_str HE.out, HB1.out⟩

set_option maxHeartbeats 2000000 in
theorem prE_8 {m : Nat} (hX : TextE 18 m) (B : Nat) (n : Int) (s : ByteArray) (l : List Ex) (cs : List Value) (w : World) (hx : ExA B w (m + 1) cs (.mk 8 n s l)) (hB : B ≤ w.heap.size) (hok : okE (m + 1) (.mk 8 n s l)) (hlen : (exT (m + 1) (.mk 8 n s l)).length ≤ 100000000) (hP : Pow w) :
    Calls Tryd.prog 18 #[.agg cs.toArray] w fun e w' => e = .returned (.string (bs (exT (m + 1) (.mk 8 n s l)))) ∧ Below w.heap.size w w' := by
  obtain ⟨v, rfl, wk, wn, ws, a, cap, rfl, hmax, hsl⟩ := hx
  obtain ⟨-, -, hpa, hs2, hn0, hn1, hall⟩ := hok
  have hll : l.length = 1 := by have := argsN_of hpa; simp [argsN] at this; omega
  have HT : Hid (exT (m + 1) (.mk 8 n s l) = [40, 33] ++ exT m (l.getD 0 default) ++ [41]) := by simp [exT, Hid]
  obtain ⟨b, off, rfl, hb, hi⟩ := hsl (by omega)
  show Calls Tryd.prog 18 #[.agg #[.int .i64 8, .int .i64 n, .string s, .slice (some ⟨b, off, none⟩) l.length cap]] w _
  rw [hll]
  obtain ⟨k0, n0, s0, a0, len0, cap0, p00, p01, p02, p03, hx0, hm0⟩ := kid hi 0 off (by omega) (by omega)
  have hlt := congrArg List.length HT.out
  simp only [List.length_append, List.length_cons, List.length_nil] at hlt
  have HW : Hid (Below w.heap.size w (w.alloc (.cells #[.int .i64 8, .int .i64 n, .string s, .slice (some ⟨b, off, none⟩) 1 cap] 36))) := (Below.refl _ _).alloc (Nat.le_refl _) _
  have HR : Hid (RowAt (w.alloc (.cells #[.int .i64 8, .int .i64 n, .string s, .slice (some ⟨b, off, none⟩) 1 cap] 36)) w.heap.size #[.int .i64 8, .int .i64 n, .string s, .slice (some ⟨b, off, none⟩) 1 cap]) := RowAt.new w _ _
  obtain ⟨W, hW⟩ : ∃ W, W = w.alloc (.cells #[.int .i64 8, .int .i64 n, .string s, .slice (some ⟨b, off, none⟩) 1 cap] 36) := ⟨_, rfl⟩
  rw [← hW] at HW HR
  have HWW : Hid (W = _) := hW
  clear hW
  obtain ⟨T0, hT0⟩ : ∃ T, T = bs (exT m (l.getD 0 default)) := ⟨_, rfl⟩
  have t0 : T0.size = (exT m (l.getD 0 default)).length := by rw [hT0, bs_size]
  have HC0 : Hid (Calls Tryd.prog 18 #[.agg #[.int .i64 k0, .int .i64 n0, .string s0, .slice a0 len0 cap0]] W fun e w' => e = .returned (.string T0) ∧ Below W.heap.size W w') := by rw [hT0]; exact hX B _ _ W (hx0.out.below (HW.out.mono hB)) (Nat.le_trans hB HW.out.size) (hall _ hm0) (by omega) (hP.stays HW.out)
  have HE : Hid (⟨#[40, 33]⟩ ++ T0 ++ ⟨#[41]⟩ = bs (exT (m + 1) (.mk 8 n s l))) := bs_of (by rw [HT.out, hT0]; simp only [toL_append, bs_list, toL_mk])
  have z1 : ¬ 9223372036854775807 < 2 + T0.size := by omega
  have z2 : ¬ 9223372036854775807 < 2 + T0.size + 1 := by omega
  have hbw : b < w.heap.size := by omega
  have hbn : ¬ b = w.heap.size := by omega
  clear hX hi hall hx0 hm0 hT0 t0  hlt HT hpa hlen hs2 hP hsl wk wn ws hll HR
  go_enter Tryd.func18, Tryd.ntmps18
  go_wp2_with fail
  rw [← HWW.out]
  clear HWW
  refine Calls.mono HC0.out ?_
  rintro e w1 ⟨rfl, hb1⟩
  have HB1 : Hid (Below w.heap.size w w1) := bl_trans HW.out hb1
  clear hb1 HC0
  go_wp2_with fail
  go_ret
  exact ⟨ret_str HE.out, HB1.out⟩

set_option maxHeartbeats 2000000 in
theorem prE_1 {m : Nat} (hX : TextE 18 m) (B : Nat) (n : Int) (s : ByteArray) (l : List Ex) (cs : List Value) (w : World) (hx : ExA B w (m + 1) cs (.mk 1 n s l)) (hB : B ≤ w.heap.size) (hok : okE (m + 1) (.mk 1 n s l)) (hlen : (exT (m + 1) (.mk 1 n s l)).length ≤ 100000000) (hP : Pow w) :
    Calls Tryd.prog 18 #[.agg cs.toArray] w fun e w' => e = .returned (.string (bs (exT (m + 1) (.mk 1 n s l)))) ∧ Below w.heap.size w w' := by
  obtain ⟨v, rfl, wk, wn, ws, a, cap, rfl, hmax, hsl⟩ := hx
  obtain ⟨-, -, hpa, hs2, hn0, hn1, hall⟩ := hok
  have HT : Hid (exT (m + 1) (.mk 1 n s l) = Lib.itoa n) := by simp [exT, Hid]
  show Calls Tryd.prog 18 #[.agg #[.int .i64 1, .int .i64 n, .string s, .slice a l.length cap]] w _
  obtain ⟨W, hW⟩ : ∃ W, W = w.alloc (.cells #[.int .i64 1, .int .i64 n, .string s, .slice a l.length cap] 36) := ⟨_, rfl⟩
  have HW : Hid (Below w.heap.size w W) := by rw [hW]; exact (Below.refl _ _).alloc (Nat.le_refl _) _
  have HWW : Hid (W = _) := hW
  have HP : Hid (Pow W) := hP.stays HW.out
  clear hW hP
  have HC : Hid (Calls Tryd.prog 32 #[.int .i64 n] W fun e w' => e = .returned (.string (bs (Lib.itoa n))) ∧ Below W.heap.size W w') := by
    refine (Tryd.strconv_Itoa n (by omega) (by omega) W HP.out).mono ?_
    rintro e w' ⟨he, hw⟩
    exact ⟨he, below_grown_k hw⟩
  clear hX hall hpa hlen hs2 hsl wk ws hmax
  go_enter Tryd.func18, Tryd.ntmps18
  go_wp2_with fail
  rw [← HWW.out]
  clear HWW
  refine Calls.mono HC.out ?_
  rintro e w1 ⟨rfl, hb1⟩
  have HB1 : Hid (Below w.heap.size w w1) := bl_trans HW.out hb1
  clear hb1 HC
  go_wp2_with fail
  go_ret
  exact ⟨ret_str (by rw [HT.out]), HB1.out⟩

set_option maxHeartbeats 2000000 in
theorem prE_2 {m : Nat} (hX : TextE 18 m) (B : Nat) (n : Int) (s : ByteArray) (l : List Ex) (cs : List Value) (w : World) (hx : ExA B w (m + 1) cs (.mk 2 n s l)) (hB : B ≤ w.heap.size) (hok : okE (m + 1) (.mk 2 n s l)) (hlen : (exT (m + 1) (.mk 2 n s l)).length ≤ 100000000) (hP : Pow w) :
    Calls Tryd.prog 18 #[.agg cs.toArray] w fun e w' => e = .returned (.string (bs (exT (m + 1) (.mk 2 n s l)))) ∧ Below w.heap.size w w' := by
  obtain ⟨v, rfl, wk, wn, ws, a, cap, rfl, hmax, hsl⟩ := hx
  obtain ⟨-, -, hpa, hs2, hn0, hn1, hall⟩ := hok
  have HT : Hid (exT (m + 1) (.mk 2 n s l) = quoteL s.toList) := by simp [exT, Hid]
  show Calls Tryd.prog 18 #[.agg #[.int .i64 2, .int .i64 n, .string s, .slice a l.length cap]] w _
  obtain ⟨W, hW⟩ : ∃ W, W = w.alloc (.cells #[.int .i64 2, .int .i64 n, .string s, .slice a l.length cap] 36) := ⟨_, rfl⟩
  have HW : Hid (Below w.heap.size w W) := by rw [hW]; exact (Below.refl _ _).alloc (Nat.le_refl _) _
  have HWW : Hid (W = _) := hW
  have HP : Hid (Pow W) := hP.stays HW.out
  clear hW hP
  have HC : Hid (Calls Tryd.prog 33 #[.string s] W fun e w' => e = .returned (.string (bs (quoteL s.toList))) ∧ Below W.heap.size W w') := quoted_c s hs2 W
  clear hX hall hpa hlen hs2 hsl wk ws hmax
  go_enter Tryd.func18, Tryd.ntmps18
  go_wp2_with fail
  rw [← HWW.out]
  clear HWW
  refine Calls.mono HC.out ?_
  rintro e w1 ⟨rfl, hb1⟩
  have HB1 : Hid (Below w.heap.size w w1) := bl_trans HW.out hb1
  clear hb1 HC
  go_wp2_with fail
  go_ret
  exact ⟨ret_str (by rw [HT.out]), HB1.out⟩

set_option maxHeartbeats 2000000 in
theorem prE_3 {m : Nat} (hX : TextE 18 m) (B : Nat) (n : Int) (s : ByteArray) (l : List Ex) (cs : List Value) (w : World) (hx : ExA B w (m + 1) cs (.mk 3 n s l)) (hB : B ≤ w.heap.size) (hok : okE (m + 1) (.mk 3 n s l)) (hlen : (exT (m + 1) (.mk 3 n s l)).length ≤ 100000000) (hP : Pow w) :
    Calls Tryd.prog 18 #[.agg cs.toArray] w fun e w' => e = .returned (.string (bs (exT (m + 1) (.mk 3 n s l)))) ∧ Below w.heap.size w w' := by
  obtain ⟨v, rfl, wk, wn, ws, a, cap, rfl, hmax, hsl⟩ := hx
  obtain ⟨-, -, hpa, hs2, hn0, hn1, hall⟩ := hok
  have HT : Hid (exT (m + 1) (.mk 3 n s l) = s.toList) := by simp [exT, Hid]
  show Calls Tryd.prog 18 #[.agg #[.int .i64 3, .int .i64 n, .string s, .slice a l.length cap]] w _
  obtain ⟨W, hW⟩ : ∃ W, W = w.alloc (.cells #[.int .i64 3, .int .i64 n, .string s, .slice a l.length cap] 36) := ⟨_, rfl⟩
  have HW : Hid (Below w.heap.size w W) := by rw [hW]; exact (Below.refl _ _).alloc (Nat.le_refl _) _
  have HWW : Hid (W = _) := hW
  have HP : Hid (Pow W) := hP.stays HW.out
  clear hW hP
  clear hX hall hpa hlen hs2 hsl wk ws hmax
  go_enter Tryd.func18, Tryd.ntmps18
  go_wp2_with fail
  go_ret
  refine ⟨ret_str (by rw [HT.out, bs_toList]), ?_⟩
  rw [← HWW.out]
  exact HW.out

set_option maxHeartbeats 2000000 in
theorem prE_12 {m : Nat} (hX : TextE 18 m) (B : Nat) (n : Int) (s : ByteArray) (l : List Ex) (cs : List Value) (w : World) (hx : ExA B w (m + 1) cs (.mk 12 n s l)) (hB : B ≤ w.heap.size) (hok : okE (m + 1) (.mk 12 n s l)) (hlen : (exT (m + 1) (.mk 12 n s l)).length ≤ 100000000) (hP : Pow w) :
    Calls Tryd.prog 18 #[.agg cs.toArray] w fun e w' => e = .returned (.string (bs (exT (m + 1) (.mk 12 n s l)))) ∧ Below w.heap.size w w' := by
  obtain ⟨v, rfl, wk, wn, ws, a, cap, rfl, hmax, hsl⟩ := hx
  obtain ⟨-, -, hpa, hs2, hn0, hn1, hall⟩ := hok
  have HT : Hid (exT (m + 1) (.mk 12 n s l) = s.toList) := by simp [exT, Hid]
  show Calls Tryd.prog 18 #[.agg #[.int .i64 12, .int .i64 n, .string s, .slice a l.length cap]] w _
  obtain ⟨W, hW⟩ : ∃ W, W = w.alloc (.cells #[.int .i64 12, .int .i64 n, .string s, .slice a l.length cap] 36) := ⟨_, rfl⟩
  have HW : Hid (Below w.heap.size w W) := by rw [hW]; exact (Below.refl _ _).alloc (Nat.le_refl _) _
  have HWW : Hid (W = _) := hW
  have HP : Hid (Pow W) := hP.stays HW.out
  clear hW hP
  clear hX hall hpa hlen hs2 hsl wk ws hmax
  go_enter Tryd.func18, Tryd.ntmps18
  go_wp2_with fail
  go_ret
  refine ⟨ret_str (by rw [HT.out, bs_toList]), ?_⟩
  rw [← HWW.out]
  exact HW.out

set_option maxHeartbeats 2000000 in
theorem prE_9 {m : Nat} (hX : TextE 18 m) (B : Nat) (n : Int) (s : ByteArray) (l : List Ex) (cs : List Value) (w : World) (hx : ExA B w (m + 1) cs (.mk 9 n s l)) (hB : B ≤ w.heap.size) (hok : okE (m + 1) (.mk 9 n s l)) (hlen : (exT (m + 1) (.mk 9 n s l)).length ≤ 100000000) (hP : Pow w) :
    Calls Tryd.prog 18 #[.agg cs.toArray] w fun e w' => e = .returned (.string (bs (exT (m + 1) (.mk 9 n s l)))) ∧ Below w.heap.size w w' := by
  obtain ⟨v, rfl, wk, wn, ws, a, cap, rfl, hmax, hsl⟩ := hx
  obtain ⟨-, -, hpa, hs2, hn0, hn1, hall⟩ := hok
  have hll : l.length = 1 := by have := argsN_of hpa; simp [argsN] at this; omega
  have HT : Hid (exT (m + 1) (.mk 9 n s l) = [40] ++ exT m (l.getD 0 default) ++ [32, 105, 110, 32] ++ s.toList ++ [41]) := by simp [exT, Hid]
  obtain ⟨b, off, rfl, hb, hi⟩ := hsl (by omega)
  show Calls Tryd.prog 18 #[.agg #[.int .i64 9, .int .i64 n, .string s, .slice (some ⟨b, off, none⟩) l.length cap]] w _
  rw [hll]
  obtain ⟨k0, n0, s0, a0, len0, cap0, p00, p01, p02, p03, hx0, hm0⟩ := kid hi 0 off (by omega) (by omega)
  have hlt := congrArg List.length HT.out
  simp only [List.length_append, List.length_cons, List.length_nil] at hlt
  have HW : Hid (Below w.heap.size w (w.alloc (.cells #[.int .i64 9, .int .i64 n, .string s, .slice (some ⟨b, off, none⟩) 1 cap] 36))) := (Below.refl _ _).alloc (Nat.le_refl _) _
  have HR : Hid (RowAt (w.alloc (.cells #[.int .i64 9, .int .i64 n, .string s, .slice (some ⟨b, off, none⟩) 1 cap] 36)) w.heap.size #[.int .i64 9, .int .i64 n, .string s, .slice (some ⟨b, off, none⟩) 1 cap]) := RowAt.new w _ _
  obtain ⟨W, hW⟩ : ∃ W, W = w.alloc (.cells #[.int .i64 9, .int .i64 n, .string s, .slice (some ⟨b, off, none⟩) 1 cap] 36) := ⟨_, rfl⟩
  rw [← hW] at HW HR
  have HWW : Hid (W = _) := hW
  clear hW
  obtain ⟨T0, hT0⟩ : ∃ T, T = bs (exT m (l.getD 0 default)) := ⟨_, rfl⟩
  have t0 : T0.size = (exT m (l.getD 0 default)).length := by rw [hT0, bs_size]
  have c0 := kid_c hX hx0.out HW.out hB (hall _ hm0) (by omega) hP hT0
  have HE : Hid (⟨#[40]⟩ ++ T0 ++ ⟨#[32, 105, 110, 32]⟩ ++ s ++ ⟨#[41]⟩ = bs (exT (m + 1) (.mk 9 n s l))) := bs_of (by rw [HT.out, hT0]; simp only [toL_append, bs_list, toL_mk])
  have z1 : ¬ 9223372036854775807 < 1 + T0.size := by omega
  have z2 : ¬ 9223372036854775807 < 1 + T0.size + 4 := by omega
  have z3 : ¬ 9223372036854775807 < 1 + T0.size + 4 + s.size := by omega
  have z4 : ¬ 9223372036854775807 < 1 + T0.size + 4 + s.size + 1 := by omega
  have hbw : b < w.heap.size := by omega
  have r00 := cell_regrown ((HW.out.cell (p := ⟨b, off, none⟩) hbw).trans p00)
  have r01 := cell_regrown ((HW.out.cell (p := ⟨b, off + 1, none⟩) hbw).trans p01)
  have r02 := cell_regrown ((HW.out.cell (p := ⟨b, off + 2, none⟩) hbw).trans p02)
  have r03 := cell_regrown ((HW.out.cell (p := ⟨b, off + 3, none⟩) hbw).trans p03)
  have q0 := HR.out.cell 0
  have q2 := HR.out.cell 2
  have q3 := HR.out.cell 3
  simp only [List.getElem?_toArray, List.getElem?_cons_zero, List.getElem?_cons_succ] at q0 q2 q3
  have Q2 := cell_regrown q2
  have Q3 := cell_regrown q3
  clear hX hi hall hx0 hm0 hT0 t0 p00 p01 p02 p03 hlt HT hpa hlen hs2 hP hsl wk wn ws hll
  go_enter Tryd.func18, Tryd.ntmps18
  go_wp2_with fail
  rw [← HWW.out]
  clear HWW
  refine wp_region_quiet_below (by kernel_rfl) (by kernel_rfl) ?_
  repeat (go_big_quiet_step (first | with_reducible exact c0 _ _))
  refine wpQuiet_nil ?_
  intro _ hw'
  obtain ⟨⟨dq, osq⟩, hw''⟩ := hw'
  subst hw''
  go_wp2
  go_ret
  exact ⟨ret_str HE.out, bl_trans HW.out (below_regrown W dq osq)⟩

set_option maxHeartbeats 2000000 in
theorem prE_10 {m : Nat} (hX : TextE 18 m) (B : Nat) (n : Int) (s : ByteArray) (l : List Ex) (cs : List Value) (w : World) (hx : ExA B w (m + 1) cs (.mk 10 n s l)) (hB : B ≤ w.heap.size) (hok : okE (m + 1) (.mk 10 n s l)) (hlen : (exT (m + 1) (.mk 10 n s l)).length ≤ 100000000) (hP : Pow w) :
    Calls Tryd.prog 18 #[.agg cs.toArray] w fun e w' => e = .returned (.string (bs (exT (m + 1) (.mk 10 n s l)))) ∧ Below w.heap.size w w' := by
  obtain ⟨v, rfl, wk, wn, ws, a, cap, rfl, hmax, hsl⟩ := hx
  obtain ⟨-, -, hpa, hs2, hn0, hn1, hall⟩ := hok
  have hll : l.length = 3 := by have := argsN_of hpa; simp [argsN] at this; omega
  have HT : Hid (exT (m + 1) (.mk 10 n s l) = [40] ++ exT m (l.getD 0 default) ++ [32, 63, 32] ++ exT m (l.getD 1 default) ++ [32, 58, 32] ++ exT m (l.getD 2 default) ++ [41]) := by simp [exT, Hid]
  obtain ⟨b, off, rfl, hb, hi⟩ := hsl (by omega)
  show Calls Tryd.prog 18 #[.agg #[.int .i64 10, .int .i64 n, .string s, .slice (some ⟨b, off, none⟩) l.length cap]] w _
  rw [hll]
  obtain ⟨k0, n0, s0, a0, len0, cap0, p00, p01, p02, p03, hx0, hm0⟩ := kid hi 0 off (by omega) (by omega)
  obtain ⟨k1, n1, s1, a1, len1, cap1, p10, p11, p12, p13, hx1, hm1⟩ := kid hi 1 (off + 4) (by omega) (by omega)
  obtain ⟨k2, n2, s2, a2, len2, cap2, p20, p21, p22, p23, hx2, hm2⟩ := kid hi 2 (off + 8) (by omega) (by omega)
  have hlt := congrArg List.length HT.out
  simp only [List.length_append, List.length_cons, List.length_nil] at hlt
  have HW : Hid (Below w.heap.size w (w.alloc (.cells #[.int .i64 10, .int .i64 n, .string s, .slice (some ⟨b, off, none⟩) 3 cap] 36))) := (Below.refl _ _).alloc (Nat.le_refl _) _
  have HR : Hid (RowAt (w.alloc (.cells #[.int .i64 10, .int .i64 n, .string s, .slice (some ⟨b, off, none⟩) 3 cap] 36)) w.heap.size #[.int .i64 10, .int .i64 n, .string s, .slice (some ⟨b, off, none⟩) 3 cap]) := RowAt.new w _ _
  obtain ⟨W, hW⟩ : ∃ W, W = w.alloc (.cells #[.int .i64 10, .int .i64 n, .string s, .slice (some ⟨b, off, none⟩) 3 cap] 36) := ⟨_, rfl⟩
  rw [← hW] at HW HR
  have HWW : Hid (W = _) := hW
  clear hW
  obtain ⟨T0, hT0⟩ : ∃ T, T = bs (exT m (l.getD 0 default)) := ⟨_, rfl⟩
  have t0 : T0.size = (exT m (l.getD 0 default)).length := by rw [hT0, bs_size]
  obtain ⟨T1, hT1⟩ : ∃ T, T = bs (exT m (l.getD 1 default)) := ⟨_, rfl⟩
  have t1 : T1.size = (exT m (l.getD 1 default)).length := by rw [hT1, bs_size]
  obtain ⟨T2, hT2⟩ : ∃ T, T = bs (exT m (l.getD 2 default)) := ⟨_, rfl⟩
  have t2 : T2.size = (exT m (l.getD 2 default)).length := by rw [hT2, bs_size]
  have c0 := kid_c hX hx0.out HW.out hB (hall _ hm0) (by omega) hP hT0
  have c1 := kid_c hX hx1.out HW.out hB (hall _ hm1) (by omega) hP hT1
  have c2 := kid_c hX hx2.out HW.out hB (hall _ hm2) (by omega) hP hT2
  have HE : Hid (⟨#[40]⟩ ++ T0 ++ ⟨#[32, 63, 32]⟩ ++ T1 ++ ⟨#[32, 58, 32]⟩ ++ T2 ++ ⟨#[41]⟩ = bs (exT (m + 1) (.mk 10 n s l))) := bs_of (by rw [HT.out, hT0, hT1, hT2]; simp only [toL_append, bs_list, toL_mk])
  have z1 : ¬ 9223372036854775807 < 1 + T0.size := by omega
  have z2 : ¬ 9223372036854775807 < 1 + T0.size + 3 := by omega
  have z3 : ¬ 9223372036854775807 < 1 + T0.size + 3 + T1.size := by omega
  have z4 : ¬ 9223372036854775807 < 1 + T0.size + 3 + T1.size + 3 := by omega
  have z5 : ¬ 9223372036854775807 < 1 + T0.size + 3 + T1.size + 3 + T2.size := by omega
  have z6 : ¬ 9223372036854775807 < 1 + T0.size + 3 + T1.size + 3 + T2.size + 1 := by omega
  have hbw : b < w.heap.size := by omega
  have r00 := cell_regrown ((HW.out.cell (p := ⟨b, off, none⟩) hbw).trans p00)
  have r01 := cell_regrown ((HW.out.cell (p := ⟨b, off + 1, none⟩) hbw).trans p01)
  have r02 := cell_regrown ((HW.out.cell (p := ⟨b, off + 2, none⟩) hbw).trans p02)
  have r03 := cell_regrown ((HW.out.cell (p := ⟨b, off + 3, none⟩) hbw).trans p03)
  have r10 := cell_regrown ((HW.out.cell (p := ⟨b, off + 4, none⟩) hbw).trans p10)
  have r11 := cell_regrown ((HW.out.cell (p := ⟨b, off + 4 + 1, none⟩) hbw).trans p11)
  have r12 := cell_regrown ((HW.out.cell (p := ⟨b, off + 4 + 2, none⟩) hbw).trans p12)
  have r13 := cell_regrown ((HW.out.cell (p := ⟨b, off + 4 + 3, none⟩) hbw).trans p13)
  have r20 := cell_regrown ((HW.out.cell (p := ⟨b, off + 8, none⟩) hbw).trans p20)
  have r21 := cell_regrown ((HW.out.cell (p := ⟨b, off + 8 + 1, none⟩) hbw).trans p21)
  have r22 := cell_regrown ((HW.out.cell (p := ⟨b, off + 8 + 2, none⟩) hbw).trans p22)
  have r23 := cell_regrown ((HW.out.cell (p := ⟨b, off + 8 + 3, none⟩) hbw).trans p23)
  have q0 := HR.out.cell 0
  have q2 := HR.out.cell 2
  have q3 := HR.out.cell 3
  simp only [List.getElem?_toArray, List.getElem?_cons_zero, List.getElem?_cons_succ] at q0 q2 q3
  have Q2 := cell_regrown q2
  have Q3 := cell_regrown q3
  clear hX hi hall hx0 hm0 hT0 t0 hx1 hm1 hT1 t1 hx2 hm2 hT2 t2 p00 p01 p02 p03 p10 p11 p12 p13 p20 p21 p22 p23 hlt HT hpa hlen hs2 hP hsl wk wn ws hll
  go_enter Tryd.func18, Tryd.ntmps18
  go_wp2_with fail
  rw [← HWW.out]
  clear HWW
  refine wp_region_quiet_below (by kernel_rfl) (by kernel_rfl) ?_
  repeat (go_big_quiet_step (first | with_reducible exact c0 _ _ | with_reducible exact c1 _ _ | with_reducible exact c2 _ _))
  refine wpQuiet_nil ?_
  intro _ hw'
  obtain ⟨⟨dq, osq⟩, hw''⟩ := hw'
  subst hw''
  go_wp2
  go_ret
  exact ⟨ret_str HE.out, bl_trans HW.out (below_regrown W dq osq)⟩

set_option maxHeartbeats 2000000 in
theorem prE_5 {m : Nat} (hX : TextE 18 m) (B : Nat) (n : Int) (s : ByteArray) (l : List Ex) (cs : List Value) (w : World) (hx : ExA B w (m + 1) cs (.mk 5 n s l)) (hB : B ≤ w.heap.size) (hok : okE (m + 1) (.mk 5 n s l)) (hlen : (exT (m + 1) (.mk 5 n s l)).length ≤ 100000000) (hP : Pow w) :
    Calls Tryd.prog 18 #[.agg cs.toArray] w fun e w' => e = .returned (.string (bs (exT (m + 1) (.mk 5 n s l)))) ∧ Below w.heap.size w w' := by
  obtain ⟨v, rfl, wk, wn, ws, a, cap, rfl, hmax, hsl⟩ := hx
  obtain ⟨-, -, hpa, hs2, hn0, hn1, hall⟩ := hok
  have hll : l.length = 1 := by have := argsN_of hpa; simp [argsN] at this; omega
  have HT : Hid (exT (m + 1) (.mk 5 n s l) = s.toList ++ [91] ++ exT m (l.getD 0 default) ++ [93]) := by simp [exT, Hid]
  obtain ⟨b, off, rfl, hb, hi⟩ := hsl (by omega)
  show Calls Tryd.prog 18 #[.agg #[.int .i64 5, .int .i64 n, .string s, .slice (some ⟨b, off, none⟩) l.length cap]] w _
  rw [hll]
  obtain ⟨k0, n0, s0, a0, len0, cap0, p00, p01, p02, p03, hx0, hm0⟩ := kid hi 0 off (by omega) (by omega)
  have hlt := congrArg List.length HT.out
  simp only [List.length_append, List.length_cons, List.length_nil] at hlt
  have HW : Hid (Below w.heap.size w (w.alloc (.cells #[.int .i64 5, .int .i64 n, .string s, .slice (some ⟨b, off, none⟩) 1 cap] 36))) := (Below.refl _ _).alloc (Nat.le_refl _) _
  have HR : Hid (RowAt (w.alloc (.cells #[.int .i64 5, .int .i64 n, .string s, .slice (some ⟨b, off, none⟩) 1 cap] 36)) w.heap.size #[.int .i64 5, .int .i64 n, .string s, .slice (some ⟨b, off, none⟩) 1 cap]) := RowAt.new w _ _
  obtain ⟨W, hW⟩ : ∃ W, W = w.alloc (.cells #[.int .i64 5, .int .i64 n, .string s, .slice (some ⟨b, off, none⟩) 1 cap] 36) := ⟨_, rfl⟩
  rw [← hW] at HW HR
  have HWW : Hid (W = _) := hW
  clear hW
  obtain ⟨T0, hT0⟩ : ∃ T, T = bs (s.toList ++ [91] ++ exT m (l.getD 0 default) ++ [93]) := ⟨_, rfl⟩
  have c0 : ∀ (d : Nat) (os : Array Obj), Calls Tryd.prog 34 #[.string s, .agg #[.int .i64 k0, .int .i64 n0, .string s0, .slice a0 len0 cap0]] (Sort.grow (redrawn W d) os) fun e w'' => e = .returned (.string T0) ∧ ∃ p : Regrown, w'' = Sort.grow (redrawn W p.d) p.os := fun d os => by
    have hbb : Below w.heap.size w (Sort.grow (redrawn W d) os) := bl_trans HW.out (below_regrown W d os)
    rw [hT0]
    exact Calls.regrown_of (elemText_c hX B s _ _ _ (hx0.out.below (hbb.mono hB)) (Nat.le_trans hB hbb.size) (hall _ hm0) (by omega) hs2 (hP.stays hbb))
  have HE : Hid (T0 = bs (exT (m + 1) (.mk 5 n s l))) := by rw [HT.out]; exact hT0
  have hbw : b < w.heap.size := by omega
  have r00 := cell_regrown ((HW.out.cell (p := ⟨b, off, none⟩) hbw).trans p00)
  have r01 := cell_regrown ((HW.out.cell (p := ⟨b, off + 1, none⟩) hbw).trans p01)
  have r02 := cell_regrown ((HW.out.cell (p := ⟨b, off + 2, none⟩) hbw).trans p02)
  have r03 := cell_regrown ((HW.out.cell (p := ⟨b, off + 3, none⟩) hbw).trans p03)
  have q0 := HR.out.cell 0
  have q2 := HR.out.cell 2
  have q3 := HR.out.cell 3
  simp only [List.getElem?_toArray, List.getElem?_cons_zero, List.getElem?_cons_succ] at q0 q2 q3
  have Q2 := cell_regrown q2
  have Q3 := cell_regrown q3
  clear hX hi hall hx0 hm0 hT0 p00 p01 p02 p03 hlt HT hpa hlen hs2 hP hsl wk wn ws hll
  go_enter Tryd.func18, Tryd.ntmps18
  go_wp2_with fail
  rw [← HWW.out]
  clear HWW
  refine wp_region_quiet_below (by kernel_rfl) (by kernel_rfl) ?_
  repeat (go_big_quiet_step (first | with_reducible exact c0 _ _))
  refine wpQuiet_nil ?_
  intro _ hw'
  obtain ⟨⟨dq, osq⟩, hw''⟩ := hw'
  subst hw''
  go_wp2
  go_ret
  exact ⟨ret_str HE.out, bl_trans HW.out (below_regrown W dq osq)⟩

set_option maxHeartbeats 2000000 in
theorem prE_11 {m : Nat} (hX : TextE 18 m) (B : Nat) (n : Int) (s : ByteArray) (l : List Ex) (cs : List Value) (w : World) (hx : ExA B w (m + 1) cs (.mk 11 n s l)) (hB : B ≤ w.heap.size) (hok : okE (m + 1) (.mk 11 n s l)) (hlen : (exT (m + 1) (.mk 11 n s l)).length ≤ 100000000) (hP : Pow w) :
    Calls Tryd.prog 18 #[.agg cs.toArray] w fun e w' => e = .returned (.string (bs (exT (m + 1) (.mk 11 n s l)))) ∧ Below w.heap.size w w' := by
  obtain ⟨v, rfl, wk, wn, ws, a, cap, rfl, hmax, hsl⟩ := hx
  obtain ⟨-, -, hpa, hs2, hn0, hn1, hall⟩ := hok
  have hl0 : 0 < l.length := asks_of hpa
  have HT : Hid (exT (m + 1) (.mk 11 n s l) = s.toList ++ [40] ++ joinL (l.map (exT m)) ++ [41]) := by simp [exT, Hid]
  show Calls Tryd.prog 18 #[.agg #[.int .i64 11, .int .i64 n, .string s, .slice a l.length cap]] w _
  have hl3 : l.length ≤ 3 := by
    have h1 := argsN_of hpa
    simp only [argsN, asksN, if_true] at h1
    split at h1
    · omega
    · split at h1
      · omega
      · split at h1 <;> omega
  have hlt := congrArg List.length HT.out
  simp only [List.length_append, List.length_cons, List.length_nil] at hlt
  have HW : Hid (Below w.heap.size w (w.alloc (.cells #[.int .i64 11, .int .i64 n, .string s, .slice a l.length cap] 36))) := (Below.refl _ _).alloc (Nat.le_refl _) _
  have HR : Hid (RowAt (w.alloc (.cells #[.int .i64 11, .int .i64 n, .string s, .slice a l.length cap] 36)) w.heap.size #[.int .i64 11, .int .i64 n, .string s, .slice a l.length cap]) := RowAt.new w _ _
  obtain ⟨W, hW⟩ : ∃ W, W = w.alloc (.cells #[.int .i64 11, .int .i64 n, .string s, .slice a l.length cap] 36) := ⟨_, rfl⟩
  rw [← hW] at HW HR
  have HWW : Hid (W = _) := hW
  clear hW
  obtain ⟨T0, hT0⟩ : ∃ T, T = bs (joinL (l.map (exT m))) := ⟨_, rfl⟩
  have t0 : T0.size = (joinL (l.map (exT m))).length := by rw [hT0, bs_size]
  have c0 : ∀ (d : Nat) (os : Array Obj), Calls Tryd.prog 35 #[.slice a l.length cap] (Sort.grow (redrawn W d) os) fun e w'' => e = .returned (.string T0) ∧ ∃ p : Regrown, w'' = Sort.grow (redrawn W p.d) p.os := fun d os => by
    have hbb : Below w.heap.size w (Sort.grow (redrawn W d) os) := bl_trans HW.out (below_regrown W d os)
    rw [hT0]
    exact Calls.regrown_of (exprsText_c hX B l _ _ (Sl.below (show Sl w B 4 (.slice a l.length cap) l.length _ from ⟨a, cap, rfl, hmax, hsl⟩) (hbb.mono hB) fun i c ⟨x, h1, h2⟩ => ⟨x, h1, h2.below (hbb.mono hB)⟩) (Nat.le_trans hB hbb.size) hall (by omega) (by omega) hl0 (hP.stays hbb))
  have HE : Hid (s ++ ⟨#[40]⟩ ++ T0 ++ ⟨#[41]⟩ = bs (exT (m + 1) (.mk 11 n s l))) := bs_of (by rw [HT.out, hT0]; simp only [toL_append, bs_list, toL_mk])
  have z1 : ¬ 9223372036854775807 < s.size + 1 := by omega
  have z2 : ¬ 9223372036854775807 < s.size + 1 + T0.size := by omega
  have z3 : ¬ 9223372036854775807 < s.size + 1 + T0.size + 1 := by omega
  have q0 := HR.out.cell 0
  have q2 := HR.out.cell 2
  have q3 := HR.out.cell 3
  simp only [List.getElem?_toArray, List.getElem?_cons_zero, List.getElem?_cons_succ] at q0 q2 q3
  have Q2 := cell_regrown q2
  have Q3 := cell_regrown q3
  clear hX hall hT0 t0 hlt HT hpa hlen hs2 hP hsl wk wn ws hl0 hl3 hmax
  go_enter Tryd.func18, Tryd.ntmps18
  go_wp2_with fail
  rw [← HWW.out]
  clear HWW
  refine wp_region_quiet_below (by kernel_rfl) (by kernel_rfl) ?_
  repeat (go_big_quiet_step (first | with_reducible exact c0 _ _))
  refine wpQuiet_nil ?_
  intro _ hw'
  obtain ⟨⟨dq, osq⟩, hw''⟩ := hw'
  subst hw''
  go_wp2
  go_ret
  exact ⟨ret_str HE.out, bl_trans HW.out (below_regrown W dq osq)⟩

theorem exprText_c : ∀ m, TextE 18 m := by
  intro m
  induction m with
  | zero => intro B x cs w hx; exact hx.elim
  | succ m ih =>
    intro B x cs w hx hB hok hlen hP
    cases x with
    | mk k n s l =>
      have h1 := hok.1
      have h2 := hok.2.1
      obtain rfl | rfl | rfl | rfl | rfl | rfl | rfl | rfl | rfl | rfl | rfl | rfl : k = 1 ∨ k = 2 ∨ k = 3 ∨ k = 4 ∨ k = 5 ∨ k = 6 ∨ k = 7 ∨ k = 8 ∨ k = 9 ∨ k = 10 ∨ k = 11 ∨ k = 12 := by omega
      · exact prE_1 ih B n s l cs w hx hB hok hlen hP
      · exact prE_2 ih B n s l cs w hx hB hok hlen hP
      · exact prE_3 ih B n s l cs w hx hB hok hlen hP
      · exact prE_4 ih B n s l cs w hx hB hok hlen hP
      · exact prE_5 ih B n s l cs w hx hB hok hlen hP
      · exact prE_6 ih B n s l cs w hx hB hok hlen hP
      · exact prE_7 ih B n s l cs w hx hB hok hlen hP
      · exact prE_8 ih B n s l cs w hx hB hok hlen hP
      · exact prE_9 ih B n s l cs w hx hB hok hlen hP
      · exact prE_10 ih B n s l cs w hx hB hok hlen hP
      · exact prE_11 ih B n s l cs w hx hB hok hlen hP
      · exact prE_12 ih B n s l cs w hx hB hok hlen hP
end Go.Proofs.YtjconmohifaliaaDoor
