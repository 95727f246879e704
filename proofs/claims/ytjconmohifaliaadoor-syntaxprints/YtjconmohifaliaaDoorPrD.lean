/-
  The document's exprText: kind by kind, then its contract.
-/
import Derived.Test.YtjconmohifaliaaDoorPrD0
import Derived.Test.YtjconmohifaliaaDoorPrDec
import Derived.Test.YtjconmohifaliaaDoorPrQ
import Derived.BigQuiet
namespace Go.Proofs.YtjconmohifaliaaDoor
open Go.ChangeShapes Go.WideShapes Go.ChangeAt Go.RowKit Go.Joins
set_option linter.unusedVariables false
set_option maxRecDepth 100000

set_option maxHeartbeats 2000000 in
theorem rfE_4 {m : Nat} (hX : TextE 11 m) (B : Nat) (n : Int) (s : ByteArray) (l : List Ex) (cs : List Value) (w : World) (hx : ExA B w (m + 1) cs (.mk 4 n s l)) (hB : B ≤ w.heap.size) (hok : okE (m + 1) (.mk 4 n s l)) (hlen : (exT (m + 1) (.mk 4 n s l)).length ≤ 100000000) (hP : Pow w) :
    Calls Tryd.prog 11 #[.agg cs.toArray] w fun e w' => e = .returned (.string (bs (exT (m + 1) (.mk 4 n s l)))) ∧ Below w.heap.size w w' := by
  obtain ⟨v, rfl, wk, wn, ws, a, cap, rfl, hmax, hsl⟩ := hx
  obtain ⟨-, -, hpa, hs2, hn0, hn1, hall⟩ := hok
  have hmf : ∀ (fn : Fn) (first cap : Array Value) (w : World), (Instr.makeFunc fn first cap).run Tryd.prog w = .ok (.func fn first cap) w := fun _ _ _ _ => rfl
  have hll : l.length = 1 := by have := argsN_of hpa; simp [argsN] at this; omega
  have HT : Hid (exT (m + 1) (.mk 4 n s l) = [40, 36] ++ exT m (l.getD 0 default) ++ [41]) := by simp [exT, Hid]
  obtain ⟨b, off, rfl, hb, hi⟩ := hsl (by omega)
  have hi : Kids B b off m w l := hi
  show Calls Tryd.prog 11 #[.agg #[.int .i64 4, .int .i64 n, .string s, .slice (some ⟨b, off, none⟩) l.length cap]] w _
  rw [hll]
  have hlt := congrArg List.length HT.out
  simp only [List.length_append, List.length_cons, List.length_nil] at hlt
  have HW : Hid (Below w.heap.size w (w.alloc (.cells #[.int .i64 4, .int .i64 n, .string s, .slice (some ⟨b, off, none⟩) 1 cap] 36))) := (Below.refl _ _).alloc (Nat.le_refl _) _
  have HR : Hid (RowAt (w.alloc (.cells #[.int .i64 4, .int .i64 n, .string s, .slice (some ⟨b, off, none⟩) 1 cap] 36)) w.heap.size #[.int .i64 4, .int .i64 n, .string s, .slice (some ⟨b, off, none⟩) 1 cap]) := RowAt.new w _ _
  obtain ⟨W, hW⟩ : ∃ W, W = w.alloc (.cells #[.int .i64 4, .int .i64 n, .string s, .slice (some ⟨b, off, none⟩) 1 cap] 36) := ⟨_, rfl⟩
  rw [← hW] at HW HR
  have HWW : Hid (W = _) := hW
  clear hW
  have q0 := HR.out.cell 0
  have q2 := HR.out.cell 2
  have q3 := HR.out.cell 3
  simp only [List.getElem?_toArray, List.getElem?_cons_zero, List.getElem?_cons_succ] at q0 q2 q3
  obtain ⟨T0, hT0⟩ : ∃ T, T = bs (exT m (l.getD 0 default)) := ⟨_, rfl⟩
  have t0 : T0.size = (exT m (l.getD 0 default)).length := by rw [hT0, bs_size]
  have HC0 : Hid (∀ W' : World, Below W.heap.size W W' → Calls Tryd.prog 23 #[.int .i64 0, .pointer (some ⟨w.heap.size, 0, none⟩)] W' fun e w'' => e = .returned (.string T0) ∧ Below W'.heap.size W' w'') := fun W' hbb => by
    rw [hT0]
    exact arg_c hX B w.heap.size b off 0 1 cap l w W' (bl_trans HW.out hbb) hB hb ((hbb.cell (p := ⟨w.heap.size, 3, none⟩) HR.out.lt).trans q3) hll hi (by omega) hall (by omega) hP
  have HE : Hid (⟨#[40, 36]⟩ ++ T0 ++ ⟨#[41]⟩ = bs (exT (m + 1) (.mk 4 n s l))) := bs_of (by rw [HT.out, hT0]; simp only [toL_append, bs_list, toL_mk])
  have z1 : ¬ 9223372036854775807 < 2 + T0.size := by omega
  have z2 : ¬ 9223372036854775807 < 2 + T0.size + 1 := by omega
  clear hX hi hall hT0 t0 hlt HT hpa hlen hs2 hP hsl wk wn ws hll HR q0 q2 q3
  go_enter Tryd.func11, Tryd.ntmps11
  go_wp2_with fail
  rw [← HWW.out]
  clear HWW
  have HB0 : Hid (Below W.heap.size W W) := Below.refl _ _
  refine Calls.mono (HC0.out _ HB0.out) ?_
  rintro e w1 ⟨rfl, hb1⟩
  have HB1 : Hid (Below W.heap.size W w1) := bl_trans HB0.out hb1
  clear hb1 HC0
  go_wp2_with fail
  go_ret
  exact ⟨ret_str HE.out, bl_trans HW.out HB1.out⟩

set_option maxHeartbeats 2000000 in
theorem rfE_7 {m : Nat} (hX : TextE 11 m) (B : Nat) (n : Int) (s : ByteArray) (l : List Ex) (cs : List Value) (w : World) (hx : ExA B w (m + 1) cs (.mk 7 n s l)) (hB : B ≤ w.heap.size) (hok : okE (m + 1) (.mk 7 n s l)) (hlen : (exT (m + 1) (.mk 7 n s l)).length ≤ 100000000) (hP : Pow w) :
    Calls Tryd.prog 11 #[.agg cs.toArray] w fun e w' => e = .returned (.string (bs (exT (m + 1) (.mk 7 n s l)))) ∧ Below w.heap.size w w' := by
  obtain ⟨v, rfl, wk, wn, ws, a, cap, rfl, hmax, hsl⟩ := hx
  obtain ⟨-, -, hpa, hs2, hn0, hn1, hall⟩ := hok
  have hmf : ∀ (fn : Fn) (first cap : Array Value) (w : World), (Instr.makeFunc fn first cap).run Tryd.prog w = .ok (.func fn first cap) w := fun _ _ _ _ => rfl
  have hll : l.length = 1 := by have := argsN_of hpa; simp [argsN] at this; omega
  have HT : Hid (exT (m + 1) (.mk 7 n s l) = [40, 45] ++ exT m (l.getD 0 default) ++ [41]) := by simp [exT, Hid]
  obtain ⟨b, off, rfl, hb, hi⟩ := hsl (by omega)
  have hi : Kids B b off m w l := hi
  show Calls Tryd.prog 11 #[.agg #[.int .i64 7, .int .i64 n, .string s, .slice (some ⟨b, off, none⟩) l.length cap]] w _
  rw [hll]
  have hlt := congrArg List.length HT.out
  simp only [List.length_append, List.length_cons, List.length_nil] at hlt
  have HW : Hid (Below w.heap.size w (w.alloc (.cells #[.int .i64 7, .int .i64 n, .string s, .slice (some ⟨b, off, none⟩) 1 cap] 36))) := (Below.refl _ _).alloc (Nat.le_refl _) _
  have HR : Hid (RowAt (w.alloc (.cells #[.int .i64 7, .int .i64 n, .string s, .slice (some ⟨b, off, none⟩) 1 cap] 36)) w.heap.size #[.int .i64 7, .int .i64 n, .string s, .slice (some ⟨b, off, none⟩) 1 cap]) := RowAt.new w _ _
  obtain ⟨W, hW⟩ : ∃ W, W = w.alloc (.cells #[.int .i64 7, .int .i64 n, .string s, .slice (some ⟨b, off, none⟩) 1 cap] 36) := ⟨_, rfl⟩
  rw [← hW] at HW HR
  have HWW : Hid (W = _) := hW
  clear hW
  have q0 := HR.out.cell 0
  have q2 := HR.out.cell 2
  have q3 := HR.out.cell 3
  simp only [List.getElem?_toArray, List.getElem?_cons_zero, List.getElem?_cons_succ] at q0 q2 q3
  obtain ⟨T0, hT0⟩ : ∃ T, T = bs (exT m (l.getD 0 default)) := ⟨_, rfl⟩
  have t0 : T0.size = (exT m (l.getD 0 default)).length := by rw [hT0, bs_size]
  have HC0 : Hid (∀ W' : World, Below W.heap.size W W' → Calls Tryd.prog 23 #[.int .i64 0, .pointer (some ⟨w.heap.size, 0, none⟩)] W' fun e w'' => e = .returned (.string T0) ∧ Below W'.heap.size W' w'') := fun W' hbb => by
    rw [hT0]
    exact arg_c hX B w.heap.size b off 0 1 cap l w W' (bl_trans HW.out hbb) hB hb ((hbb.cell (p := ⟨w.heap.size, 3, none⟩) HR.out.lt).trans q3) hll hi (by omega) hall (by omega) hP
  have HE : Hid (⟨#[40, 45]⟩ ++ T0 ++ ⟨#[41]⟩ = bs (exT (m + 1) (.mk 7 n s l))) := bs_of (by rw [HT.out, hT0]; simp only [toL_append, bs_list, toL_mk])
  have z1 : ¬ 9223372036854775807 < 2 + T0.size := by omega
  have z2 : ¬ 9223372036854775807 < 2 + T0.size + 1 := by omega
  clear hX hi hall hT0 t0 hlt HT hpa hlen hs2 hP hsl wk wn ws hll HR q0 q2 q3
  go_enter Tryd.func11, Tryd.ntmps11
  go_wp2_with fail
  rw [← HWW.out]
  clear HWW
  have HB0 : Hid (Below W.heap.size W W) := Below.refl _ _
  refine Calls.mono (HC0.out _ HB0.out) ?_
  rintro e w1 ⟨rfl, hb1⟩
  have HB1 : Hid (Below W.heap.size W w1) := bl_trans HB0.out hb1
  clear hb1 HC0
  go_wp2_with fail
  go_ret
  exact ⟨ret_str HE.out, bl_trans HW.out HB1.out⟩

set_option maxHeartbeats 2000000 in
theorem rfE_8 {m : Nat} (hX : TextE 11 m) (B : Nat) (n : Int) (s : ByteArray) (l : List Ex) (cs : List Value) (w : World) (hx : ExA B w (m + 1) cs (.mk 8 n s l)) (hB : B ≤ w.heap.size) (hok : okE (m + 1) (.mk 8 n s l)) (hlen : (exT (m + 1) (.mk 8 n s l)).length ≤ 100000000) (hP : Pow w) :
    Calls Tryd.prog 11 #[.agg cs.toArray] w fun e w' => e = .returned (.string (bs (exT (m + 1) (.mk 8 n s l)))) ∧ Below w.heap.size w w' := by
  obtain ⟨v, rfl, wk, wn, ws, a, cap, rfl, hmax, hsl⟩ := hx
  obtain ⟨-, -, hpa, hs2, hn0, hn1, hall⟩ := hok
  have hmf : ∀ (fn : Fn) (first cap : Array Value) (w : World), (Instr.makeFunc fn first cap).run Tryd.prog w = .ok (.func fn first cap) w := fun _ _ _ _ => rfl
  have hll : l.length = 1 := by have := argsN_of hpa; simp [argsN] at this; omega
  have HT : Hid (exT (m + 1) (.mk 8 n s l) = [40, 33] ++ exT m (l.getD 0 default) ++ [41]) := by simp [exT, Hid]
  obtain ⟨b, off, rfl, hb, hi⟩ := hsl (by omega)
  have hi : Kids B b off m w l := hi
  show Calls Tryd.prog 11 #[.agg #[.int .i64 8, .int .i64 n, .string s, .slice (some ⟨b, off, none⟩) l.length cap]] w _
  rw [hll]
  have hlt := congrArg List.length HT.out
  simp only [List.length_append, List.length_cons, List.length_nil] at hlt
  have HW : Hid (Below w.heap.size w (w.alloc (.cells #[.int .i64 8, .int .i64 n, .string s, .slice (some ⟨b, off, none⟩) 1 cap] 36))) := (Below.refl _ _).alloc (Nat.le_refl _) _
  have HR : Hid (RowAt (w.alloc (.cells #[.int .i64 8, .int .i64 n, .string s, .slice (some ⟨b, off, none⟩) 1 cap] 36)) w.heap.size #[.int .i64 8, .int .i64 n, .string s, .slice (some ⟨b, off, none⟩) 1 cap]) := RowAt.new w _ _
  obtain ⟨W, hW⟩ : ∃ W, W = w.alloc (.cells #[.int .i64 8, .int .i64 n, .string s, .slice (some ⟨b, off, none⟩) 1 cap] 36) := ⟨_, rfl⟩
  rw [← hW] at HW HR
  have HWW : Hid (W = _) := hW
  clear hW
  have q0 := HR.out.cell 0
  have q2 := HR.out.cell 2
  have q3 := HR.out.cell 3
  simp only [List.getElem?_toArray, List.getElem?_cons_zero, List.getElem?_cons_succ] at q0 q2 q3
  obtain ⟨T0, hT0⟩ : ∃ T, T = bs (exT m (l.getD 0 default)) := ⟨_, rfl⟩
  have t0 : T0.size = (exT m (l.getD 0 default)).length := by rw [hT0, bs_size]
  have HC0 : Hid (∀ W' : World, Below W.heap.size W W' → Calls Tryd.prog 23 #[.int .i64 0, .pointer (some ⟨w.heap.size, 0, none⟩)] W' fun e w'' => e = .returned (.string T0) ∧ Below W'.heap.size W' w'') := fun W' hbb => by
    rw [hT0]
    exact arg_c hX B w.heap.size b off 0 1 cap l w W' (bl_trans HW.out hbb) hB hb ((hbb.cell (p := ⟨w.heap.size, 3, none⟩) HR.out.lt).trans q3) hll hi (by omega) hall (by omega) hP
  have HE : Hid (⟨#[40, 33]⟩ ++ T0 ++ ⟨#[41]⟩ = bs (exT (m + 1) (.mk 8 n s l))) := bs_of (by rw [HT.out, hT0]; simp only [toL_append, bs_list, toL_mk])
  have z1 : ¬ 9223372036854775807 < 2 + T0.size := by omega
  have z2 : ¬ 9223372036854775807 < 2 + T0.size + 1 := by omega
  clear hX hi hall hT0 t0 hlt HT hpa hlen hs2 hP hsl wk wn ws hll HR q0 q2 q3
  go_enter Tryd.func11, Tryd.ntmps11
  go_wp2_with fail
  rw [← HWW.out]
  clear HWW
  have HB0 : Hid (Below W.heap.size W W) := Below.refl _ _
  refine Calls.mono (HC0.out _ HB0.out) ?_
  rintro e w1 ⟨rfl, hb1⟩
  have HB1 : Hid (Below W.heap.size W w1) := bl_trans HB0.out hb1
  clear hb1 HC0
  go_wp2_with fail
  go_ret
  exact ⟨ret_str HE.out, bl_trans HW.out HB1.out⟩

set_option maxHeartbeats 2000000 in
theorem rfE_10 {m : Nat} (hX : TextE 11 m) (B : Nat) (n : Int) (s : ByteArray) (l : List Ex) (cs : List Value) (w : World) (hx : ExA B w (m + 1) cs (.mk 10 n s l)) (hB : B ≤ w.heap.size) (hok : okE (m + 1) (.mk 10 n s l)) (hlen : (exT (m + 1) (.mk 10 n s l)).length ≤ 100000000) (hP : Pow w) :
    Calls Tryd.prog 11 #[.agg cs.toArray] w fun e w' => e = .returned (.string (bs (exT (m + 1) (.mk 10 n s l)))) ∧ Below w.heap.size w w' := by
  obtain ⟨v, rfl, wk, wn, ws, a, cap, rfl, hmax, hsl⟩ := hx
  obtain ⟨-, -, hpa, hs2, hn0, hn1, hall⟩ := hok
  have hmf : ∀ (fn : Fn) (first cap : Array Value) (w : World), (Instr.makeFunc fn first cap).run Tryd.prog w = .ok (.func fn first cap) w := fun _ _ _ _ => rfl
  have hll : l.length = 3 := by have := argsN_of hpa; simp [argsN] at this; omega
  have HT : Hid (exT (m + 1) (.mk 10 n s l) = [40] ++ exT m (l.getD 0 default) ++ [32, 63, 32] ++ exT m (l.getD 1 default) ++ [32, 58, 32] ++ exT m (l.getD 2 default) ++ [41]) := by simp [exT, Hid]
  obtain ⟨b, off, rfl, hb, hi⟩ := hsl (by omega)
  have hi : Kids B b off m w l := hi
  show Calls Tryd.prog 11 #[.agg #[.int .i64 10, .int .i64 n, .string s, .slice (some ⟨b, off, none⟩) l.length cap]] w _
  rw [hll]
  have hlt := congrArg List.length HT.out
  simp only [List.length_append, List.length_cons, List.length_nil] at hlt
  have HW : Hid (Below w.heap.size w (w.alloc (.cells #[.int .i64 10, .int .i64 n, .string s, .slice (some ⟨b, off, none⟩) 3 cap] 36))) := (Below.refl _ _).alloc (Nat.le_refl _) _
  have HR : Hid (RowAt (w.alloc (.cells #[.int .i64 10, .int .i64 n, .string s, .slice (some ⟨b, off, none⟩) 3 cap] 36)) w.heap.size #[.int .i64 10, .int .i64 n, .string s, .slice (some ⟨b, off, none⟩) 3 cap]) := RowAt.new w _ _
  obtain ⟨W, hW⟩ : ∃ W, W = w.alloc (.cells #[.int .i64 10, .int .i64 n, .string s, .slice (some ⟨b, off, none⟩) 3 cap] 36) := ⟨_, rfl⟩
  rw [← hW] at HW HR
  have HWW : Hid (W = _) := hW
  clear hW
  have q0 := HR.out.cell 0
  have q2 := HR.out.cell 2
  have q3 := HR.out.cell 3
  simp only [List.getElem?_toArray, List.getElem?_cons_zero, List.getElem?_cons_succ] at q0 q2 q3
  obtain ⟨T0, hT0⟩ : ∃ T, T = bs (exT m (l.getD 0 default)) := ⟨_, rfl⟩
  have t0 : T0.size = (exT m (l.getD 0 default)).length := by rw [hT0, bs_size]
  obtain ⟨T1, hT1⟩ : ∃ T, T = bs (exT m (l.getD 1 default)) := ⟨_, rfl⟩
  have t1 : T1.size = (exT m (l.getD 1 default)).length := by rw [hT1, bs_size]
  obtain ⟨T2, hT2⟩ : ∃ T, T = bs (exT m (l.getD 2 default)) := ⟨_, rfl⟩
  have t2 : T2.size = (exT m (l.getD 2 default)).length := by rw [hT2, bs_size]
  have HC0 : Hid (∀ W' : World, Below W.heap.size W W' → Calls Tryd.prog 23 #[.int .i64 0, .pointer (some ⟨w.heap.size, 0, none⟩)] W' fun e w'' => e = .returned (.string T0) ∧ Below W'.heap.size W' w'') := fun W' hbb => by
    rw [hT0]
    exact arg_c hX B w.heap.size b off 0 3 cap l w W' (bl_trans HW.out hbb) hB hb ((hbb.cell (p := ⟨w.heap.size, 3, none⟩) HR.out.lt).trans q3) hll hi (by omega) hall (by omega) hP
  have HC1 : Hid (∀ W' : World, Below W.heap.size W W' → Calls Tryd.prog 23 #[.int .i64 1, .pointer (some ⟨w.heap.size, 0, none⟩)] W' fun e w'' => e = .returned (.string T1) ∧ Below W'.heap.size W' w'') := fun W' hbb => by
    rw [hT1]
    exact arg_c hX B w.heap.size b off 1 3 cap l w W' (bl_trans HW.out hbb) hB hb ((hbb.cell (p := ⟨w.heap.size, 3, none⟩) HR.out.lt).trans q3) hll hi (by omega) hall (by omega) hP
  have HC2 : Hid (∀ W' : World, Below W.heap.size W W' → Calls Tryd.prog 23 #[.int .i64 2, .pointer (some ⟨w.heap.size, 0, none⟩)] W' fun e w'' => e = .returned (.string T2) ∧ Below W'.heap.size W' w'') := fun W' hbb => by
    rw [hT2]
    exact arg_c hX B w.heap.size b off 2 3 cap l w W' (bl_trans HW.out hbb) hB hb ((hbb.cell (p := ⟨w.heap.size, 3, none⟩) HR.out.lt).trans q3) hll hi (by omega) hall (by omega) hP
  have HE : Hid (⟨#[40]⟩ ++ T0 ++ ⟨#[32, 63, 32]⟩ ++ T1 ++ ⟨#[32, 58, 32]⟩ ++ T2 ++ ⟨#[41]⟩ = bs (exT (m + 1) (.mk 10 n s l))) := bs_of (by rw [HT.out, hT0, hT1, hT2]; simp only [toL_append, bs_list, toL_mk])
  have z1 : ¬ 9223372036854775807 < 1 + T0.size := by omega
  have z2 : ¬ 9223372036854775807 < 1 + T0.size + 3 := by omega
  have z3 : ¬ 9223372036854775807 < 1 + T0.size + 3 + T1.size := by omega
  have z4 : ¬ 9223372036854775807 < 1 + T0.size + 3 + T1.size + 3 := by omega
  have z5 : ¬ 9223372036854775807 < 1 + T0.size + 3 + T1.size + 3 + T2.size := by omega
  have z6 : ¬ 9223372036854775807 < 1 + T0.size + 3 + T1.size + 3 + T2.size + 1 := by omega
  clear hX hi hall hT0 t0 hT1 t1 hT2 t2 hlt HT hpa hlen hs2 hP hsl wk wn ws hll HR q0 q2 q3
  go_enter Tryd.func11, Tryd.ntmps11
  go_wp2_with fail
  rw [← HWW.out]
  clear HWW
  have HB0 : Hid (Below W.heap.size W W) := Below.refl _ _
  refine Calls.mono (HC0.out _ HB0.out) ?_
  rintro e w1 ⟨rfl, hb1⟩
  have HB1 : Hid (Below W.heap.size W w1) := bl_trans HB0.out hb1
  clear hb1 HC0
  go_wp2_with fail
  refine Calls.mono (HC1.out _ HB1.out) ?_
  rintro e w2 ⟨rfl, hb2⟩
  have HB2 : Hid (Below W.heap.size W w2) := bl_trans HB1.out hb2
  clear hb2 HC1
  go_wp2_with fail
  refine Calls.mono (HC2.out _ HB2.out) ?_
  rintro e w3 ⟨rfl, hb3⟩
  have HB3 : Hid (Below W.heap.size W w3) := bl_trans HB2.out hb3
  clear hb3 HC2
  go_wp2_with fail
  go_ret
  exact ⟨ret_str HE.out, bl_trans HW.out HB3.out⟩

set_option maxHeartbeats 2000000 in
theorem rfE_1 {m : Nat} (hX : TextE 11 m) (B : Nat) (n : Int) (s : ByteArray) (l : List Ex) (cs : List Value) (w : World) (hx : ExA B w (m + 1) cs (.mk 1 n s l)) (hB : B ≤ w.heap.size) (hok : okE (m + 1) (.mk 1 n s l)) (hlen : (exT (m + 1) (.mk 1 n s l)).length ≤ 100000000) (hP : Pow w) :
    Calls Tryd.prog 11 #[.agg cs.toArray] w fun e w' => e = .returned (.string (bs (exT (m + 1) (.mk 1 n s l)))) ∧ Below w.heap.size w w' := by
  obtain ⟨v, rfl, wk, wn, ws, a, cap, rfl, hmax, hsl⟩ := hx
  obtain ⟨-, -, hpa, hs2, hn0, hn1, hall⟩ := hok
  have hmf : ∀ (fn : Fn) (first cap : Array Value) (w : World), (Instr.makeFunc fn first cap).run Tryd.prog w = .ok (.func fn first cap) w := fun _ _ _ _ => rfl
  have HT : Hid (exT (m + 1) (.mk 1 n s l) = Lib.itoa n) := by simp [exT, Hid]
  show Calls Tryd.prog 11 #[.agg #[.int .i64 1, .int .i64 n, .string s, .slice a l.length cap]] w _
  obtain ⟨W, hW⟩ : ∃ W, W = w.alloc (.cells #[.int .i64 1, .int .i64 n, .string s, .slice a l.length cap] 36) := ⟨_, rfl⟩
  have HW : Hid (Below w.heap.size w W) := by rw [hW]; exact (Below.refl _ _).alloc (Nat.le_refl _) _
  have HWW : Hid (W = _) := hW
  clear hW hP
  have HC : Hid (Calls Tryd.prog 24 #[.int .i64 n] W fun e w' => e = .returned (.string (bs (Lib.itoa n))) ∧ Below W.heap.size W w') := dec_pos n.toNat n W (by omega) hn0 hn1
  clear hX hall hpa hlen hs2 hsl wk ws hmax hn0 hn1 wn
  go_enter Tryd.func11, Tryd.ntmps11
  go_wp2_with fail
  rw [← HWW.out]
  clear HWW
  refine Calls.mono HC.out ?_
  rintro e w1 ⟨rfl, hb1⟩
  have HB1 : Hid (Below w.heap.size w w1) := bl_trans HW.out hb1
  clear hb1 HC
  go_wp2_with fail
  go_ret
  exact ⟨ret_str (by rw [HT.out]), HB1.out⟩

set_option maxHeartbeats 2000000 in
theorem rfE_2 {m : Nat} (hX : TextE 11 m) (B : Nat) (n : Int) (s : ByteArray) (l : List Ex) (cs : List Value) (w : World) (hx : ExA B w (m + 1) cs (.mk 2 n s l)) (hB : B ≤ w.heap.size) (hok : okE (m + 1) (.mk 2 n s l)) (hlen : (exT (m + 1) (.mk 2 n s l)).length ≤ 100000000) (hP : Pow w) :
    Calls Tryd.prog 11 #[.agg cs.toArray] w fun e w' => e = .returned (.string (bs (exT (m + 1) (.mk 2 n s l)))) ∧ Below w.heap.size w w' := by
  obtain ⟨v, rfl, wk, wn, ws, a, cap, rfl, hmax, hsl⟩ := hx
  obtain ⟨-, -, hpa, hs2, hn0, hn1, hall⟩ := hok
  have hmf : ∀ (fn : Fn) (first cap : Array Value) (w : World), (Instr.makeFunc fn first cap).run Tryd.prog w = .ok (.func fn first cap) w := fun _ _ _ _ => rfl
  have HT : Hid (exT (m + 1) (.mk 2 n s l) = quoteL s.toList) := by simp [exT, Hid]
  show Calls Tryd.prog 11 #[.agg #[.int .i64 2, .int .i64 n, .string s, .slice a l.length cap]] w _
  obtain ⟨W, hW⟩ : ∃ W, W = w.alloc (.cells #[.int .i64 2, .int .i64 n, .string s, .slice a l.length cap] 36) := ⟨_, rfl⟩
  have HW : Hid (Below w.heap.size w W) := by rw [hW]; exact (Below.refl _ _).alloc (Nat.le_refl _) _
  have HWW : Hid (W = _) := hW
  clear hW hP
  have HC : Hid (Calls Tryd.prog 25 #[.string s] W fun e w' => e = .returned (.string (bs (quoteL s.toList))) ∧ Below W.heap.size W w') := (quoteRef_c s hs2 W).mono fun e w' ⟨h1, h2⟩ => ⟨h1, by rw [h2]; exact Below.refl _ _⟩
  clear hX hall hpa hlen hs2 hsl wk ws hmax hn0 hn1 wn
  go_enter Tryd.func11, Tryd.ntmps11
  go_wp2_with fail
  rw [← HWW.out]
  clear HWW
  refine Calls.mono HC.out ?_
  rintro e w1 ⟨rfl, hb1⟩
  have HB1 : Hid (Below w.heap.size w w1) := bl_trans HW.out hb1
  clear hb1 HC
  go_wp2_with fail
  go_ret
  exact ⟨ret_str (by rw [HT.out]), HB1.out⟩

set_option maxHeartbeats 2000000 in
theorem rfE_3 {m : Nat} (hX : TextE 11 m) (B : Nat) (n : Int) (s : ByteArray) (l : List Ex) (cs : List Value) (w : World) (hx : ExA B w (m + 1) cs (.mk 3 n s l)) (hB : B ≤ w.heap.size) (hok : okE (m + 1) (.mk 3 n s l)) (hlen : (exT (m + 1) (.mk 3 n s l)).length ≤ 100000000) (hP : Pow w) :
    Calls Tryd.prog 11 #[.agg cs.toArray] w fun e w' => e = .returned (.string (bs (exT (m + 1) (.mk 3 n s l)))) ∧ Below w.heap.size w w' := by
  obtain ⟨v, rfl, wk, wn, ws, a, cap, rfl, hmax, hsl⟩ := hx
  obtain ⟨-, -, hpa, hs2, hn0, hn1, hall⟩ := hok
  have hmf : ∀ (fn : Fn) (first cap : Array Value) (w : World), (Instr.makeFunc fn first cap).run Tryd.prog w = .ok (.func fn first cap) w := fun _ _ _ _ => rfl
  have HT : Hid (exT (m + 1) (.mk 3 n s l) = s.toList) := by simp [exT, Hid]
  show Calls Tryd.prog 11 #[.agg #[.int .i64 3, .int .i64 n, .string s, .slice a l.length cap]] w _
  obtain ⟨W, hW⟩ : ∃ W, W = w.alloc (.cells #[.int .i64 3, .int .i64 n, .string s, .slice a l.length cap] 36) := ⟨_, rfl⟩
  have HW : Hid (Below w.heap.size w W) := by rw [hW]; exact (Below.refl _ _).alloc (Nat.le_refl _) _
  have HWW : Hid (W = _) := hW
  clear hW hP
  clear hX hall hpa hlen hs2 hsl wk ws hmax hn0 hn1 wn
  go_enter Tryd.func11, Tryd.ntmps11
  go_wp2_with fail
  go_ret
  refine ⟨ret_str (by rw [HT.out, bs_toList]), ?_⟩
  rw [← HWW.out]
  exact HW.out

set_option maxHeartbeats 2000000 in
theorem rfE_12 {m : Nat} (hX : TextE 11 m) (B : Nat) (n : Int) (s : ByteArray) (l : List Ex) (cs : List Value) (w : World) (hx : ExA B w (m + 1) cs (.mk 12 n s l)) (hB : B ≤ w.heap.size) (hok : okE (m + 1) (.mk 12 n s l)) (hlen : (exT (m + 1) (.mk 12 n s l)).length ≤ 100000000) (hP : Pow w) :
    Calls Tryd.prog 11 #[.agg cs.toArray] w fun e w' => e = .returned (.string (bs (exT (m + 1) (.mk 12 n s l)))) ∧ Below w.heap.size w w' := by
  obtain ⟨v, rfl, wk, wn, ws, a, cap, rfl, hmax, hsl⟩ := hx
  obtain ⟨-, -, hpa, hs2, hn0, hn1, hall⟩ := hok
  have hmf : ∀ (fn : Fn) (first cap : Array Value) (w : World), (Instr.makeFunc fn first cap).run Tryd.prog w = .ok (.func fn first cap) w := fun _ _ _ _ => rfl
  have HT : Hid (exT (m + 1) (.mk 12 n s l) = s.toList) := by simp [exT, Hid]
  show Calls Tryd.prog 11 #[.agg #[.int .i64 12, .int .i64 n, .string s, .slice a l.length cap]] w _
  obtain ⟨W, hW⟩ : ∃ W, W = w.alloc (.cells #[.int .i64 12, .int .i64 n, .string s, .slice a l.length cap] 36) := ⟨_, rfl⟩
  have HW : Hid (Below w.heap.size w W) := by rw [hW]; exact (Below.refl _ _).alloc (Nat.le_refl _) _
  have HWW : Hid (W = _) := hW
  clear hW hP
  clear hX hall hpa hlen hs2 hsl wk ws hmax hn0 hn1 wn
  go_enter Tryd.func11, Tryd.ntmps11
  go_wp2_with fail
  go_ret
  refine ⟨ret_str (by rw [HT.out, bs_toList]), ?_⟩
  rw [← HWW.out]
  exact HW.out

set_option maxHeartbeats 2000000 in
theorem rfE_5 {m : Nat} (hX : TextE 11 m) (B : Nat) (n : Int) (s : ByteArray) (l : List Ex) (cs : List Value) (w : World) (hx : ExA B w (m + 1) cs (.mk 5 n s l)) (hB : B ≤ w.heap.size) (hok : okE (m + 1) (.mk 5 n s l)) (hlen : (exT (m + 1) (.mk 5 n s l)).length ≤ 100000000) (hP : Pow w) :
    Calls Tryd.prog 11 #[.agg cs.toArray] w fun e w' => e = .returned (.string (bs (exT (m + 1) (.mk 5 n s l)))) ∧ Below w.heap.size w w' := by
  obtain ⟨v, rfl, wk, wn, ws, a, cap, rfl, hmax, hsl⟩ := hx
  obtain ⟨-, -, hpa, hs2, hn0, hn1, hall⟩ := hok
  have hmf : ∀ (fn : Fn) (first cap : Array Value) (w : World), (Instr.makeFunc fn first cap).run Tryd.prog w = .ok (.func fn first cap) w := fun _ _ _ _ => rfl
  have hll : l.length = 1 := by have := argsN_of hpa; simp [argsN] at this; omega
  have HT : Hid (exT (m + 1) (.mk 5 n s l) = s.toList ++ [91] ++ exT m (l.getD 0 default) ++ [93]) := by simp [exT, Hid]
  obtain ⟨b, off, rfl, hb, hi⟩ := hsl (by omega)
  have hi : Kids B b off m w l := hi
  show Calls Tryd.prog 11 #[.agg #[.int .i64 5, .int .i64 n, .string s, .slice (some ⟨b, off, none⟩) l.length cap]] w _
  rw [hll]
  have hlt := congrArg List.length HT.out
  simp only [List.length_append, List.length_cons, List.length_nil] at hlt
  have HW : Hid (Below w.heap.size w (w.alloc (.cells #[.int .i64 5, .int .i64 n, .string s, .slice (some ⟨b, off, none⟩) 1 cap] 36))) := (Below.refl _ _).alloc (Nat.le_refl _) _
  have HR : Hid (RowAt (w.alloc (.cells #[.int .i64 5, .int .i64 n, .string s, .slice (some ⟨b, off, none⟩) 1 cap] 36)) w.heap.size #[.int .i64 5, .int .i64 n, .string s, .slice (some ⟨b, off, none⟩) 1 cap]) := RowAt.new w _ _
  obtain ⟨W, hW⟩ : ∃ W, W = w.alloc (.cells #[.int .i64 5, .int .i64 n, .string s, .slice (some ⟨b, off, none⟩) 1 cap] 36) := ⟨_, rfl⟩
  rw [← hW] at HW HR
  have HWW : Hid (W = _) := hW
  clear hW
  have q0 := HR.out.cell 0
  have q2 := HR.out.cell 2
  have q3 := HR.out.cell 3
  simp only [List.getElem?_toArray, List.getElem?_cons_zero, List.getElem?_cons_succ] at q0 q2 q3
  obtain ⟨T0, hT0⟩ : ∃ T, T = bs (exT m (l.getD 0 default)) := ⟨_, rfl⟩
  have t0 : T0.size = (exT m (l.getD 0 default)).length := by rw [hT0, bs_size]
  have c0 : ∀ (d : Nat) (os : Array Obj), Calls Tryd.prog 23 #[.int .i64 0, .pointer (some ⟨w.heap.size, 0, none⟩)] (Sort.grow (redrawn W d) os) fun e w'' => e = .returned (.string T0) ∧ ∃ p : Regrown, w'' = Sort.grow (redrawn W p.d) p.os := arg_k hX B w.heap.size b off 0 1 cap l w W HW.out hB hb q3 hll hi (by omega) hall (by omega) hP hT0
  have HE : Hid (s ++ ⟨#[91]⟩ ++ T0 ++ ⟨#[93]⟩ = bs (exT (m + 1) (.mk 5 n s l))) := bs_of (by rw [HT.out, hT0]; simp only [toL_append, bs_list, toL_mk])
  have z1 : ¬ 9223372036854775807 < s.size + 1 := by omega
  have z2 : ¬ 9223372036854775807 < s.size + 1 + T0.size := by omega
  have z3 : ¬ 9223372036854775807 < s.size + 1 + T0.size + 1 := by omega
  have Q2 := cell_regrown q2
  clear hX hi hall hT0 t0 hlt HT hpa hlen hs2 hP hsl wk wn ws hll
  go_enter Tryd.func11, Tryd.ntmps11
  go_wp2_with fail
  rw [← HWW.out]
  clear HWW
  refine wp_region_quiet_below (by kernel_rfl) (by kernel_rfl) ?_
  repeat (go_big_quiet_step (first | with_reducible exact c0 _ _))
  refine wpQuiet_nil ?_
  intro _ hw'
  obtain ⟨⟨dq, osq⟩, hw''⟩ := hw'
  subst hw''
  go_wp2
  go_ret
  exact ⟨ret_str HE.out, bl_trans HW.out (below_regrown W dq osq)⟩

set_option maxHeartbeats 2000000 in
theorem rfE_6 {m : Nat} (hX : TextE 11 m) (B : Nat) (n : Int) (s : ByteArray) (l : List Ex) (cs : List Value) (w : World) (hx : ExA B w (m + 1) cs (.mk 6 n s l)) (hB : B ≤ w.heap.size) (hok : okE (m + 1) (.mk 6 n s l)) (hlen : (exT (m + 1) (.mk 6 n s l)).length ≤ 100000000) (hP : Pow w) :
    Calls Tryd.prog 11 #[.agg cs.toArray] w fun e w' => e = .returned (.string (bs (exT (m + 1) (.mk 6 n s l)))) ∧ Below w.heap.size w w' := by
  obtain ⟨v, rfl, wk, wn, ws, a, cap, rfl, hmax, hsl⟩ := hx
  obtain ⟨-, -, hpa, hs2, hn0, hn1, hall⟩ := hok
  have hmf : ∀ (fn : Fn) (first cap : Array Value) (w : World), (Instr.makeFunc fn first cap).run Tryd.prog w = .ok (.func fn first cap) w := fun _ _ _ _ => rfl
  have hll : l.length = 2 := by have := argsN_of hpa; simp [argsN] at this; omega
  have HT : Hid (exT (m + 1) (.mk 6 n s l) = [40] ++ exT m (l.getD 0 default) ++ [32] ++ s.toList ++ [32] ++ exT m (l.getD 1 default) ++ [41]) := by simp [exT, Hid]
  obtain ⟨b, off, rfl, hb, hi⟩ := hsl (by omega)
  have hi : Kids B b off m w l := hi
  show Calls Tryd.prog 11 #[.agg #[.int .i64 6, .int .i64 n, .string s, .slice (some ⟨b, off, none⟩) l.length cap]] w _
  rw [hll]
  have hlt := congrArg List.length HT.out
  simp only [List.length_append, List.length_cons, List.length_nil] at hlt
  have HW : Hid (Below w.heap.size w (w.alloc (.cells #[.int .i64 6, .int .i64 n, .string s, .slice (some ⟨b, off, none⟩) 2 cap] 36))) := (Below.refl _ _).alloc (Nat.le_refl _) _
  have HR : Hid (RowAt (w.alloc (.cells #[.int .i64 6, .int .i64 n, .string s, .slice (some ⟨b, off, none⟩) 2 cap] 36)) w.heap.size #[.int .i64 6, .int .i64 n, .string s, .slice (some ⟨b, off, none⟩) 2 cap]) := RowAt.new w _ _
  obtain ⟨W, hW⟩ : ∃ W, W = w.alloc (.cells #[.int .i64 6, .int .i64 n, .string s, .slice (some ⟨b, off, none⟩) 2 cap] 36) := ⟨_, rfl⟩
  rw [← hW] at HW HR
  have HWW : Hid (W = _) := hW
  clear hW
  have q0 := HR.out.cell 0
  have q2 := HR.out.cell 2
  have q3 := HR.out.cell 3
  simp only [List.getElem?_toArray, List.getElem?_cons_zero, List.getElem?_cons_succ] at q0 q2 q3
  obtain ⟨T0, hT0⟩ : ∃ T, T = bs (exT m (l.getD 0 default)) := ⟨_, rfl⟩
  have t0 : T0.size = (exT m (l.getD 0 default)).length := by rw [hT0, bs_size]
  obtain ⟨T1, hT1⟩ : ∃ T, T = bs (exT m (l.getD 1 default)) := ⟨_, rfl⟩
  have t1 : T1.size = (exT m (l.getD 1 default)).length := by rw [hT1, bs_size]
  have c0 : ∀ (d : Nat) (os : Array Obj), Calls Tryd.prog 23 #[.int .i64 0, .pointer (some ⟨w.heap.size, 0, none⟩)] (Sort.grow (redrawn W d) os) fun e w'' => e = .returned (.string T0) ∧ ∃ p : Regrown, w'' = Sort.grow (redrawn W p.d) p.os := arg_k hX B w.heap.size b off 0 2 cap l w W HW.out hB hb q3 hll hi (by omega) hall (by omega) hP hT0
  have c1 : ∀ (d : Nat) (os : Array Obj), Calls Tryd.prog 23 #[.int .i64 1, .pointer (some ⟨w.heap.size, 0, none⟩)] (Sort.grow (redrawn W d) os) fun e w'' => e = .returned (.string T1) ∧ ∃ p : Regrown, w'' = Sort.grow (redrawn W p.d) p.os := arg_k hX B w.heap.size b off 1 2 cap l w W HW.out hB hb q3 hll hi (by omega) hall (by omega) hP hT1
  have HE : Hid (⟨#[40]⟩ ++ T0 ++ ⟨#[32]⟩ ++ s ++ ⟨#[32]⟩ ++ T1 ++ ⟨#[41]⟩ = bs (exT (m + 1) (.mk 6 n s l))) := bs_of (by rw [HT.out, hT0, hT1]; simp only [toL_append, bs_list, toL_mk])
  have z1 : ¬ 9223372036854775807 < 1 + T0.size := by omega
  have z2 : ¬ 9223372036854775807 < 1 + T0.size + 1 := by omega
  have z3 : ¬ 9223372036854775807 < 1 + T0.size + 1 + s.size := by omega
  have z4 : ¬ 9223372036854775807 < 1 + T0.size + 1 + s.size + 1 := by omega
  have z5 : ¬ 9223372036854775807 < 1 + T0.size + 1 + s.size + 1 + T1.size := by omega
  have z6 : ¬ 9223372036854775807 < 1 + T0.size + 1 + s.size + 1 + T1.size + 1 := by omega
  have Q2 := cell_regrown q2
  clear hX hi hall hT0 t0 hT1 t1 hlt HT hpa hlen hs2 hP hsl wk wn ws hll
  go_enter Tryd.func11, Tryd.ntmps11
  go_wp2_with fail
  rw [← HWW.out]
  clear HWW
  refine wp_region_quiet_below (by kernel_rfl) (by kernel_rfl) ?_
  repeat (go_big_quiet_step (first | with_reducible exact c0 _ _ | with_reducible exact c1 _ _))
  refine wpQuiet_nil ?_
  intro _ hw'
  obtain ⟨⟨dq, osq⟩, hw''⟩ := hw'
  subst hw''
  go_wp2
  go_ret
  exact ⟨ret_str HE.out, bl_trans HW.out (below_regrown W dq osq)⟩

set_option maxHeartbeats 2000000 in
theorem rfE_9 {m : Nat} (hX : TextE 11 m) (B : Nat) (n : Int) (s : ByteArray) (l : List Ex) (cs : List Value) (w : World) (hx : ExA B w (m + 1) cs (.mk 9 n s l)) (hB : B ≤ w.heap.size) (hok : okE (m + 1) (.mk 9 n s l)) (hlen : (exT (m + 1) (.mk 9 n s l)).length ≤ 100000000) (hP : Pow w) :
    Calls Tryd.prog 11 #[.agg cs.toArray] w fun e w' => e = .returned (.string (bs (exT (m + 1) (.mk 9 n s l)))) ∧ Below w.heap.size w w' := by
  obtain ⟨v, rfl, wk, wn, ws, a, cap, rfl, hmax, hsl⟩ := hx
  obtain ⟨-, -, hpa, hs2, hn0, hn1, hall⟩ := hok
  have hmf : ∀ (fn : Fn) (first cap : Array Value) (w : World), (Instr.makeFunc fn first cap).run Tryd.prog w = .ok (.func fn first cap) w := fun _ _ _ _ => rfl
  have hll : l.length = 1 := by have := argsN_of hpa; simp [argsN] at this; omega
  have HT : Hid (exT (m + 1) (.mk 9 n s l) = [40] ++ exT m (l.getD 0 default) ++ [32, 105, 110, 32] ++ s.toList ++ [41]) := by simp [exT, Hid]
  obtain ⟨b, off, rfl, hb, hi⟩ := hsl (by omega)
  have hi : Kids B b off m w l := hi
  show Calls Tryd.prog 11 #[.agg #[.int .i64 9, .int .i64 n, .string s, .slice (some ⟨b, off, none⟩) l.length cap]] w _
  rw [hll]
  have hlt := congrArg List.length HT.out
  simp only [List.length_append, List.length_cons, List.length_nil] at hlt
  have HW : Hid (Below w.heap.size w (w.alloc (.cells #[.int .i64 9, .int .i64 n, .string s, .slice (some ⟨b, off, none⟩) 1 cap] 36))) := (Below.refl _ _).alloc (Nat.le_refl _) _
  have HR : Hid (RowAt (w.alloc (.cells #[.int .i64 9, .int .i64 n, .string s, .slice (some ⟨b, off, none⟩) 1 cap] 36)) w.heap.size #[.int .i64 9, .int .i64 n, .string s, .slice (some ⟨b, off, none⟩) 1 cap]) := RowAt.new w _ _
  obtain ⟨W, hW⟩ : ∃ W, W = w.alloc (.cells #[.int .i64 9, .int .i64 n, .string s, .slice (some ⟨b, off, none⟩) 1 cap] 36) := ⟨_, rfl⟩
  rw [← hW] at HW HR
  have HWW : Hid (W = _) := hW
  clear hW
  have q0 := HR.out.cell 0
  have q2 := HR.out.cell 2
  have q3 := HR.out.cell 3
  simp only [List.getElem?_toArray, List.getElem?_cons_zero, List.getElem?_cons_succ] at q0 q2 q3
  obtain ⟨T0, hT0⟩ : ∃ T, T = bs (exT m (l.getD 0 default)) := ⟨_, rfl⟩
  have t0 : T0.size = (exT m (l.getD 0 default)).length := by rw [hT0, bs_size]
  have c0 : ∀ (d : Nat) (os : Array Obj), Calls Tryd.prog 23 #[.int .i64 0, .pointer (some ⟨w.heap.size, 0, none⟩)] (Sort.grow (redrawn W d) os) fun e w'' => e = .returned (.string T0) ∧ ∃ p : Regrown, w'' = Sort.grow (redrawn W p.d) p.os := arg_k hX B w.heap.size b off 0 1 cap l w W HW.out hB hb q3 hll hi (by omega) hall (by omega) hP hT0
  have HE : Hid (⟨#[40]⟩ ++ T0 ++ ⟨#[32, 105, 110, 32]⟩ ++ s ++ ⟨#[41]⟩ = bs (exT (m + 1) (.mk 9 n s l))) := bs_of (by rw [HT.out, hT0]; simp only [toL_append, bs_list, toL_mk])
  have z1 : ¬ 9223372036854775807 < 1 + T0.size := by omega
  have z2 : ¬ 9223372036854775807 < 1 + T0.size + 4 := by omega
  have z3 : ¬ 9223372036854775807 < 1 + T0.size + 4 + s.size := by omega
  have z4 : ¬ 9223372036854775807 < 1 + T0.size + 4 + s.size + 1 := by omega
  have Q2 := cell_regrown q2
  clear hX hi hall hT0 t0 hlt HT hpa hlen hs2 hP hsl wk wn ws hll
  go_enter Tryd.func11, Tryd.ntmps11
  go_wp2_with fail
  rw [← HWW.out]
  clear HWW
  refine wp_region_quiet_below (by kernel_rfl) (by kernel_rfl) ?_
  repeat (go_big_quiet_step (first | with_reducible exact c0 _ _))
  refine wpQuiet_nil ?_
  intro _ hw'
  obtain ⟨⟨dq, osq⟩, hw''⟩ := hw'
  subst hw''
  go_wp2
  go_ret
  exact ⟨ret_str HE.out, bl_trans HW.out (below_regrown W dq osq)⟩

theorem join_one (m : Nat) (l : List Ex) (h : 0 < l.length) : joinL ((l.map (exT m)).take 1) = exT m (l.getD 0 default) := by
  cases l with
  | nil => simp at h
  | cons x l => simp [joinL]
theorem join_more (m : Nat) (l : List Ex) (k : Nat) (h1 : 1 ≤ k) (h : k < l.length) : joinL ((l.map (exT m)).take (k + 1)) = joinL ((l.map (exT m)).take k) ++ [44, 32] ++ exT m (l.getD k default) := by
  rw [List.take_succ_eq_append_getElem (by simpa using h), joinL_snoc]
  · rw [List.getD_eq_getElem?_getD, List.getElem?_eq_getElem h, Option.getD_some, List.getElem_map]
  · intro e
    have := congrArg List.length e
    simp at this
    rcases this with h | h
    · omega
    · subst h; simp at *

set_option maxHeartbeats 2000000 in
theorem rfE_11 {m : Nat} (hX : TextE 11 m) (B : Nat) (n : Int) (s : ByteArray) (l : List Ex) (cs : List Value) (w : World) (hx : ExA B w (m + 1) cs (.mk 11 n s l)) (hB : B ≤ w.heap.size) (hok : okE (m + 1) (.mk 11 n s l)) (hlen : (exT (m + 1) (.mk 11 n s l)).length ≤ 100000000) (hP : Pow w) :
    Calls Tryd.prog 11 #[.agg cs.toArray] w fun e w' => e = .returned (.string (bs (exT (m + 1) (.mk 11 n s l)))) ∧ Below w.heap.size w w' := by
  obtain ⟨v, rfl, wk, wn, ws, a, cap, rfl, hmax, hsl⟩ := hx
  obtain ⟨-, -, hpa, hs2, hn0, hn1, hall⟩ := hok
  have hmf : ∀ (fn : Fn) (first cap : Array Value) (w : World), (Instr.makeFunc fn first cap).run Tryd.prog w = .ok (.func fn first cap) w := fun _ _ _ _ => rfl
  have hl0 : 0 < l.length := asks_of hpa
  have HT : Hid (exT (m + 1) (.mk 11 n s l) = s.toList ++ [40] ++ joinL (l.map (exT m)) ++ [41]) := by simp [exT, Hid]
  obtain ⟨b, off, rfl, hb, hi⟩ := hsl hl0
  have hi : Kids B b off m w l := hi
  show Calls Tryd.prog 11 #[.agg #[.int .i64 11, .int .i64 n, .string s, .slice (some ⟨b, off, none⟩) l.length cap]] w _
  have hlt := congrArg List.length HT.out
  simp only [List.length_append, List.length_cons, List.length_nil] at hlt
  have HW : Hid (Below w.heap.size w (w.alloc (.cells #[.int .i64 11, .int .i64 n, .string s, .slice (some ⟨b, off, none⟩) l.length cap] 36))) := (Below.refl _ _).alloc (Nat.le_refl _) _
  have HR : Hid (RowAt (w.alloc (.cells #[.int .i64 11, .int .i64 n, .string s, .slice (some ⟨b, off, none⟩) l.length cap] 36)) w.heap.size #[.int .i64 11, .int .i64 n, .string s, .slice (some ⟨b, off, none⟩) l.length cap]) := RowAt.new w _ _
  obtain ⟨W, hW⟩ : ∃ W, W = w.alloc (.cells #[.int .i64 11, .int .i64 n, .string s, .slice (some ⟨b, off, none⟩) l.length cap] 36) := ⟨_, rfl⟩
  rw [← hW] at HW HR
  have HWW : Hid (W = _) := hW
  clear hW
  have q0 := HR.out.cell 0
  have q2 := HR.out.cell 2
  have q3 := HR.out.cell 3
  simp only [List.getElem?_toArray, List.getElem?_cons_zero, List.getElem?_cons_succ] at q0 q2 q3
  have HJ : Hid ((joinL (l.map (exT m))).length ≤ 100000000 ∧ s.size ≤ 200) := ⟨by omega, hs2⟩
  have hmem : ∀ i, i < l.length → (exT m (l.getD i default)).length ≤ 100000000 := fun i h => by
    refine Nat.le_trans (joinL_mem_len (List.mem_map.2 ⟨_, ?_, rfl⟩)) HJ.out.1
    rw [List.getD_eq_getElem?_getD, List.getElem?_eq_getElem h, Option.getD_some]
    exact List.getElem_mem h
  obtain ⟨T0, hT0⟩ : ∃ T, T = bs (exT m (l.getD 0 default)) := ⟨_, rfl⟩
  have t0 : T0.size ≤ 100000000 := by rw [hT0, bs_size]; exact hmem 0 hl0
  have c0 : ∀ (d : Nat) (os : Array Obj), Calls Tryd.prog 23 #[.int .i64 0, .pointer (some ⟨w.heap.size, 0, none⟩)] (Sort.grow (redrawn W d) os) fun e w'' => e = .returned (.string T0) ∧ ∃ p : Regrown, w'' = Sort.grow (redrawn W p.d) p.os := arg_k hX B w.heap.size b off 0 l.length cap l w W HW.out hB hb q3 rfl hi hl0 hall (hmem 0 hl0) hP hT0
  have HC : Hid (∀ (i : Nat) (W' : World), i < l.length → Below W.heap.size W W' → Calls Tryd.prog 23 #[.int .i64 i, .pointer (some ⟨w.heap.size, 0, none⟩)] W' fun e w'' => e = .returned (.string (bs (exT m (l.getD i default)))) ∧ Below W'.heap.size W' w'') := fun i W' hil hbb =>
    arg_c hX B w.heap.size b off i l.length cap l w W' (bl_trans HW.out hbb) hB hb ((hbb.cell (p := ⟨w.heap.size, 3, none⟩) HR.out.lt).trans q3) rfl hi hil hall (hmem i hil) hP
  have HO : Hid ((s ++ ⟨#[40]⟩ ++ T0).toList = s.toList ++ [40] ++ joinL ((l.map (exT m)).take 1)) := by
    unfold Hid
    rw [hT0, join_one m l hl0]; simp only [toL_append, bs_list, toL_mk]
  have z1 : ¬ 9223372036854775807 < s.size + 1 := by omega
  have z2 : ¬ 9223372036854775807 < s.size + 1 + T0.size := by omega
  have Q2 := cell_regrown q2
  have Q3 : Hid (∀ W' : World, Below W.heap.size W W' → W'.cell? ⟨w.heap.size, 3, none⟩ = some (.slice (some ⟨b, off, none⟩) l.length cap)) := fun W' hbb => (hbb.cell (p := ⟨w.heap.size, 3, none⟩) HR.out.lt).trans q3
  unfold maxLen at hmax
  clear hX hi hall hT0 t0 hlt hpa hlen hs2 hP hsl wk wn ws hmem
  go_enter Tryd.func11, Tryd.ntmps11
  go_wp2_with fail
  rw [← HWW.out]
  clear HWW
  refine wp_region_quiet_below (by kernel_rfl) (by kernel_rfl) ?_
  repeat (go_big_quiet_step (first | with_reducible exact c0 _ _))
  refine wpQuiet_nil ?_
  intro _ hw'
  obtain ⟨⟨dq, osq⟩, hw''⟩ := hw'
  have HB1 : Hid (Below W.heap.size W _) := below_regrown W dq osq
  rw [← hw''] at HB1
  clear hw'' c0 Q2 q0 q2 q3 HR
  go_wp2_with fail
  go_loopw [4, 5] (fun v4 v5 wr => ∃ (k : Nat) (O : ByteArray), 1 ≤ k ∧ k ≤ l.length ∧ v4 = .string O ∧ v5 = .int .i64 k ∧ Hid (O.toList = s.toList ++ [40] ++ joinL ((l.map (exT m)).take k)) ∧ Hid (Below W.heap.size W wr)) (fun _ v5 _ => l.length - (intOf v5).toNat)
  case atStart => exact ⟨1, _, by omega, by omega, rfl, rfl, HO, HB1⟩
  case round =>
    obtain ⟨k, O, hk1, hkl, rfl, rfl, HOk, HBk⟩ := hrel
    clear HO HB1 z1 z2
    have q3 := Q3.out _ HBk.out
    have HOS : Hid (O.size ≤ 100000300) := by
      have h1 := joinL_take_len (l.map (exT m)) k
      have h2 := HJ.out
      have h3 := congrArg List.length HOk.out
      have h4 := toL_len s
      have h5 := toL_len O
      simp only [List.length_append, List.length_cons, List.length_nil] at h3
      unfold Hid
      omega
    by_cases hk2 : k < l.length
    · have i1 : (k : Int) < (l.length : Int) := by omega
      obtain ⟨T, hT⟩ : ∃ T, T = bs (exT m (l.getD k default)) := ⟨_, rfl⟩
      have HCk := HC.out k _ hk2 HBk.out
      rw [← hT] at HCk
      have HCk : Hid _ := HCk
      have HTS : Hid (T.size ≤ 100000000) := by
        unfold Hid
        rw [hT, bs_size]
        refine Nat.le_trans (joinL_mem_len (List.mem_map.2 ⟨_, ?_, rfl⟩)) HJ.out.1
        rw [List.getD_eq_getElem?_getD, List.getElem?_eq_getElem hk2, Option.getD_some]
        exact List.getElem_mem hk2
      have HN : Hid ((O ++ ⟨#[44, 32]⟩ ++ T).toList = s.toList ++ [40] ++ joinL ((l.map (exT m)).take (k + 1))) := by
        unfold Hid
        rw [join_more m l k hk1 hk2]
        simp only [toL_append, toL_mk, HOk.out, hT, bs_list, List.append_assoc]
      have z1 : ¬ 9223372036854775807 < O.size + 2 := by have := HOS.out; omega
      have z2 : ¬ 9223372036854775807 < O.size + 2 + T.size := by have := HOS.out; have := HTS.out; omega
      clear hT
      go_wp2_with fail
      refine Calls.mono HCk.out ?_
      rintro e w2 ⟨rfl, hb2⟩
      have HB2 : Hid (Below W.heap.size W w2) := bl_trans HBk.out hb2
      clear hb2 HCk q3
      go_wp2_with fail
      go_roundw
      case rel => exact ⟨k + 1, _, by omega, by omega, rfl, by go_num, HN, HB2⟩
      case measure => simp [intOf]; omega
    · have i1 : ¬ (k : Int) < (l.length : Int) := by omega
      have z1 : ¬ 9223372036854775807 < O.size + 1 := by have := HOS.out; omega
      have HE : Hid (O ++ ⟨#[41]⟩ = bs (exT (m + 1) (.mk 11 n s l))) := bs_of (by
        rw [List.take_of_length_le (by rw [List.length_map]; omega)] at HOk; rw [HT.out]; simp only [toL_append, toL_mk, HOk.out])
      go_wp2_with fail
      go_ret
      exact ⟨ret_str HE.out, bl_trans HW.out HBk.out⟩

theorem exprRef_c : ∀ m, TextE 11 m := by
  intro m
  induction m with
  | zero => intro B x cs w hx; exact hx.elim
  | succ m ih =>
    intro B x cs w hx hB hok hlen hP
    cases x with
    | mk k n s l =>
      have h1 := hok.1
      have h2 := hok.2.1
      obtain rfl | rfl | rfl | rfl | rfl | rfl | rfl | rfl | rfl | rfl | rfl | rfl : k = 1 ∨ k = 2 ∨ k = 3 ∨ k = 4 ∨ k = 5 ∨ k = 6 ∨ k = 7 ∨ k = 8 ∨ k = 9 ∨ k = 10 ∨ k = 11 ∨ k = 12 := by omega
      · exact rfE_1 ih B n s l cs w hx hB hok hlen hP
      · exact rfE_2 ih B n s l cs w hx hB hok hlen hP
      · exact rfE_3 ih B n s l cs w hx hB hok hlen hP
      · exact rfE_4 ih B n s l cs w hx hB hok hlen hP
      · exact rfE_5 ih B n s l cs w hx hB hok hlen hP
      · exact rfE_6 ih B n s l cs w hx hB hok hlen hP
      · exact rfE_7 ih B n s l cs w hx hB hok hlen hP
      · exact rfE_8 ih B n s l cs w hx hB hok hlen hP
      · exact rfE_9 ih B n s l cs w hx hB hok hlen hP
      · exact rfE_10 ih B n s l cs w hx hB hok hlen hP
      · exact rfE_11 ih B n s l cs w hx hB hok hlen hP
      · exact rfE_12 ih B n s l cs w hx hB hok hlen hP
end Go.Proofs.YtjconmohifaliaaDoor
