/-
  The document's stmtText, kind by kind.
-/
import Derived.Test.YtjconmohifaliaaDoorPrS0
import Derived.Test.YtjconmohifaliaaDoorPrD
import Derived.BigQuiet
namespace Go.Proofs.YtjconmohifaliaaDoor
open Go.ChangeShapes Go.WideShapes Go.ChangeAt Go.RowKit Go.Joins
set_option linter.unusedVariables false
set_option maxRecDepth 100000

set_option maxHeartbeats 2000000 in
theorem rfS_1 {m : Nat} (hX : TextB 12 m) (hE : TextE 11 m) (B : Nat) (s t : ByteArray) (es : List Ex) (bd el : List Sm) (cs : List Value) (w : World) (hx : SmA B w (m + 1) cs (.mk 1 s t es bd el)) (hB : B ≤ w.heap.size) (hok : okS (m + 1) (.mk 1 s t es bd el)) (hlen : (smT (m + 1) (.mk 1 s t es bd el)).length ≤ 100000000) (hP : Pow w) :
    Calls Tryd.prog 26 #[.agg cs.toArray] w fun e w' => e = .returned (.string (bs (smT (m + 1) (.mk 1 s t es bd el)))) ∧ Below w.heap.size w w' := by
  obtain ⟨v1, v2, v3, rfl, wk, ws, wt, ⟨a1, cap1, rfl, hmax1, hsl1⟩, hv2, hv3⟩ := hx
  obtain ⟨-, -, hpa, hs2, ht2, hall, hallB, hallC⟩ := hok
  have HVB : Hid (SmL B w m v2 bd) := hv2
  have HVC : Hid (SmL B w m v3 el) := hv3
  obtain ⟨a2, cap2, rfl, hmax2, hsl2⟩ := hv2
  obtain ⟨a3, cap3, rfl, hmax3, hsl3⟩ := hv3
  clear hsl2 hsl3
  have hmf : ∀ (fn : Fn) (first cap : Array Value) (w : World), (Instr.makeFunc fn first cap).run Tryd.prog w = .ok (.func fn first cap) w := fun _ _ _ _ => rfl
  have hll : es.length = 1 := by have := exprsN_of hpa; simpa [exprsN] using this
  obtain ⟨b, off, rfl, hb, hi⟩ := hsl1 (by omega)
  have hi : Kids B b off m w es := hi
  have HT : Hid (smT (m + 1) (.mk 1 s t es bd el) = s.toList ++ [32, 61, 32] ++ exT m (es.getD 0 default) ++ [59]) := by simp [smT, Hid]
  show Calls Tryd.prog 26 #[.agg #[.int .i64 1, .string s, .string t, .slice (some ⟨b, off, none⟩) es.length cap1, .slice a2 bd.length cap2, .slice a3 el.length cap3]] w _
  rw [hll]
  have hlt := congrArg List.length HT.out
  simp only [List.length_append, List.length_cons, List.length_nil] at hlt
  have hst := toL_len s
  have htt := toL_len t
  have HW : Hid (Below w.heap.size w (w.alloc (.cells #[.int .i64 1, .string s, .string t, .slice (some ⟨b, off, none⟩) 1 cap1, .slice a2 bd.length cap2, .slice a3 el.length cap3] 66))) := (Below.refl _ _).alloc (Nat.le_refl _) _
  have HR : Hid (RowAt (w.alloc (.cells #[.int .i64 1, .string s, .string t, .slice (some ⟨b, off, none⟩) 1 cap1, .slice a2 bd.length cap2, .slice a3 el.length cap3] 66)) w.heap.size #[.int .i64 1, .string s, .string t, .slice (some ⟨b, off, none⟩) 1 cap1, .slice a2 bd.length cap2, .slice a3 el.length cap3]) := RowAt.new w _ _
  obtain ⟨W, hW⟩ : ∃ W, W = w.alloc (.cells #[.int .i64 1, .string s, .string t, .slice (some ⟨b, off, none⟩) 1 cap1, .slice a2 bd.length cap2, .slice a3 el.length cap3] 66) := ⟨_, rfl⟩
  rw [← hW] at HW HR
  have HWW : Hid (W = _) := hW
  clear hW
  have q0 := HR.out.cell 0
  have q1 := HR.out.cell 1
  have q2 := HR.out.cell 2
  have q3 := HR.out.cell 3
  have q4 := HR.out.cell 4
  have q5 := HR.out.cell 5
  simp only [List.getElem?_toArray, List.getElem?_cons_zero, List.getElem?_cons_succ] at q0 q1 q2 q3 q4 q5
  obtain ⟨TE0, hTE0⟩ : ∃ T, T = bs (exT m (es.getD 0 default)) := ⟨_, rfl⟩
  have tE0 : TE0.size = (exT m (es.getD 0 default)).length := by rw [hTE0, bs_size]
  have cE0 : ∀ (d : Nat) (os : Array Obj), Calls Tryd.prog 43 #[.int .i64 0, .pointer (some ⟨w.heap.size, 0, none⟩)] (Sort.grow (redrawn W d) os) fun e w'' => e = .returned (.string TE0) ∧ ∃ p : Regrown, w'' = Sort.grow (redrawn W p.d) p.os := sarg_k hE B w.heap.size b off 0 1 cap1 es w W HW.out hB hb q3 hll hi (by omega) hall (by omega) hP hTE0
  have HE : Hid (s ++ ⟨#[32, 61, 32]⟩ ++ TE0 ++ ⟨#[59]⟩ = bs (smT (m + 1) (.mk 1 s t es bd el))) := bs_of (by rw [HT.out, hTE0]; simp only [toL_append, bs_list, toL_mk, List.append_assoc, List.cons_append, List.nil_append])
  have z1 : ¬ 9223372036854775807 < s.size + 3 := by omega
  have z2 : ¬ 9223372036854775807 < s.size + 3 + TE0.size := by omega
  have z3 : ¬ 9223372036854775807 < s.size + 3 + TE0.size + 1 := by omega
  have hbw : b < w.heap.size := by omega
  have Q1 := cell_regrown q1
  clear hX hall hallB hallC HVB HVC hlt HT hpa hlen hs2 ht2 hP wk ws wt hst htt HR hmax1 hmax2 hmax3 q1 q2 q3 q4 q5 hi hll hsl1 hTE0 tE0  hE
  go_enter Tryd.func26, Tryd.ntmps26
  go_wp2_with fail
  rw [← HWW.out]
  clear HWW
  refine wp_region_quiet_below (by kernel_rfl) (by kernel_rfl) ?_
  repeat (go_big_quiet_step (first | with_reducible exact cE0 _ _))
  refine wpQuiet_nil ?_
  intro _ hw'
  obtain ⟨⟨dq, osq⟩, hw''⟩ := hw'
  subst hw''
  go_wp2
  go_ret
  exact ⟨ret_str HE.out, bl_trans HW.out (below_regrown W dq osq)⟩

set_option maxHeartbeats 2000000 in
theorem rfS_2 {m : Nat} (hX : TextB 12 m) (hE : TextE 11 m) (B : Nat) (s t : ByteArray) (es : List Ex) (bd el : List Sm) (cs : List Value) (w : World) (hx : SmA B w (m + 1) cs (.mk 2 s t es bd el)) (hB : B ≤ w.heap.size) (hok : okS (m + 1) (.mk 2 s t es bd el)) (hlen : (smT (m + 1) (.mk 2 s t es bd el)).length ≤ 100000000) (hP : Pow w) :
    Calls Tryd.prog 26 #[.agg cs.toArray] w fun e w' => e = .returned (.string (bs (smT (m + 1) (.mk 2 s t es bd el)))) ∧ Below w.heap.size w w' := by
  obtain ⟨v1, v2, v3, rfl, wk, ws, wt, ⟨a1, cap1, rfl, hmax1, hsl1⟩, hv2, hv3⟩ := hx
  obtain ⟨-, -, hpa, hs2, ht2, hall, hallB, hallC⟩ := hok
  have HVB : Hid (SmL B w m v2 bd) := hv2
  have HVC : Hid (SmL B w m v3 el) := hv3
  obtain ⟨a2, cap2, rfl, hmax2, hsl2⟩ := hv2
  obtain ⟨a3, cap3, rfl, hmax3, hsl3⟩ := hv3
  clear hsl2 hsl3
  have hmf : ∀ (fn : Fn) (first cap : Array Value) (w : World), (Instr.makeFunc fn first cap).run Tryd.prog w = .ok (.func fn first cap) w := fun _ _ _ _ => rfl
  have hll : es.length = 2 := by have := exprsN_of hpa; simpa [exprsN] using this
  obtain ⟨b, off, rfl, hb, hi⟩ := hsl1 (by omega)
  have hi : Kids B b off m w es := hi
  have HT : Hid (smT (m + 1) (.mk 2 s t es bd el) = s.toList ++ [91] ++ exT m (es.getD 0 default) ++ [93] ++ [32, 61, 32] ++ exT m (es.getD 1 default) ++ [59]) := by simp [smT, Hid]
  show Calls Tryd.prog 26 #[.agg #[.int .i64 2, .string s, .string t, .slice (some ⟨b, off, none⟩) es.length cap1, .slice a2 bd.length cap2, .slice a3 el.length cap3]] w _
  rw [hll]
  have hlt := congrArg List.length HT.out
  simp only [List.length_append, List.length_cons, List.length_nil] at hlt
  have hst := toL_len s
  have htt := toL_len t
  have HW : Hid (Below w.heap.size w (w.alloc (.cells #[.int .i64 2, .string s, .string t, .slice (some ⟨b, off, none⟩) 2 cap1, .slice a2 bd.length cap2, .slice a3 el.length cap3] 66))) := (Below.refl _ _).alloc (Nat.le_refl _) _
  have HR : Hid (RowAt (w.alloc (.cells #[.int .i64 2, .string s, .string t, .slice (some ⟨b, off, none⟩) 2 cap1, .slice a2 bd.length cap2, .slice a3 el.length cap3] 66)) w.heap.size #[.int .i64 2, .string s, .string t, .slice (some ⟨b, off, none⟩) 2 cap1, .slice a2 bd.length cap2, .slice a3 el.length cap3]) := RowAt.new w _ _
  obtain ⟨W, hW⟩ : ∃ W, W = w.alloc (.cells #[.int .i64 2, .string s, .string t, .slice (some ⟨b, off, none⟩) 2 cap1, .slice a2 bd.length cap2, .slice a3 el.length cap3] 66) := ⟨_, rfl⟩
  rw [← hW] at HW HR
  have HWW : Hid (W = _) := hW
  clear hW
  have q0 := HR.out.cell 0
  have q1 := HR.out.cell 1
  have q2 := HR.out.cell 2
  have q3 := HR.out.cell 3
  have q4 := HR.out.cell 4
  have q5 := HR.out.cell 5
  simp only [List.getElem?_toArray, List.getElem?_cons_zero, List.getElem?_cons_succ] at q0 q1 q2 q3 q4 q5
  obtain ⟨TE0, hTE0⟩ : ∃ T, T = bs (exT m (es.getD 0 default)) := ⟨_, rfl⟩
  have tE0 : TE0.size = (exT m (es.getD 0 default)).length := by rw [hTE0, bs_size]
  obtain ⟨TE1, hTE1⟩ : ∃ T, T = bs (exT m (es.getD 1 default)) := ⟨_, rfl⟩
  have tE1 : TE1.size = (exT m (es.getD 1 default)).length := by rw [hTE1, bs_size]
  have cE0 : ∀ (d : Nat) (os : Array Obj), Calls Tryd.prog 43 #[.int .i64 0, .pointer (some ⟨w.heap.size, 0, none⟩)] (Sort.grow (redrawn W d) os) fun e w'' => e = .returned (.string TE0) ∧ ∃ p : Regrown, w'' = Sort.grow (redrawn W p.d) p.os := sarg_k hE B w.heap.size b off 0 2 cap1 es w W HW.out hB hb q3 hll hi (by omega) hall (by omega) hP hTE0
  have cE1 : ∀ (d : Nat) (os : Array Obj), Calls Tryd.prog 43 #[.int .i64 1, .pointer (some ⟨w.heap.size, 0, none⟩)] (Sort.grow (redrawn W d) os) fun e w'' => e = .returned (.string TE1) ∧ ∃ p : Regrown, w'' = Sort.grow (redrawn W p.d) p.os := sarg_k hE B w.heap.size b off 1 2 cap1 es w W HW.out hB hb q3 hll hi (by omega) hall (by omega) hP hTE1
  have HE : Hid (s ++ ⟨#[91]⟩ ++ TE0 ++ ⟨#[93, 32, 61, 32]⟩ ++ TE1 ++ ⟨#[59]⟩ = bs (smT (m + 1) (.mk 2 s t es bd el))) := bs_of (by rw [HT.out, hTE0, hTE1]; simp only [toL_append, bs_list, toL_mk, List.append_assoc, List.cons_append, List.nil_append])
  have z1 : ¬ 9223372036854775807 < s.size + 1 := by omega
  have z2 : ¬ 9223372036854775807 < s.size + 1 + TE0.size := by omega
  have z3 : ¬ 9223372036854775807 < s.size + 1 + TE0.size + 4 := by omega
  have z4 : ¬ 9223372036854775807 < s.size + 1 + TE0.size + 4 + TE1.size := by omega
  have z5 : ¬ 9223372036854775807 < s.size + 1 + TE0.size + 4 + TE1.size + 1 := by omega
  have hbw : b < w.heap.size := by omega
  have Q1 := cell_regrown q1
  clear hX hall hallB hallC HVB HVC hlt HT hpa hlen hs2 ht2 hP wk ws wt hst htt HR hmax1 hmax2 hmax3 q1 q2 q3 q4 q5 hi hll hsl1 hTE0 tE0 hTE1 tE1  hE
  go_enter Tryd.func26, Tryd.ntmps26
  go_wp2_with fail
  rw [← HWW.out]
  clear HWW
  refine wp_region_quiet_below (by kernel_rfl) (by kernel_rfl) ?_
  repeat (go_big_quiet_step (first | with_reducible exact cE0 _ _ | with_reducible exact cE1 _ _))
  refine wpQuiet_nil ?_
  intro _ hw'
  obtain ⟨⟨dq, osq⟩, hw''⟩ := hw'
  subst hw''
  go_wp2
  go_ret
  exact ⟨ret_str HE.out, bl_trans HW.out (below_regrown W dq osq)⟩

set_option maxHeartbeats 2000000 in
theorem rfS_3 {m : Nat} (hX : TextB 12 m) (hE : TextE 11 m) (B : Nat) (s t : ByteArray) (es : List Ex) (bd el : List Sm) (cs : List Value) (w : World) (hx : SmA B w (m + 1) cs (.mk 3 s t es bd el)) (hB : B ≤ w.heap.size) (hok : okS (m + 1) (.mk 3 s t es bd el)) (hlen : (smT (m + 1) (.mk 3 s t es bd el)).length ≤ 100000000) (hP : Pow w) :
    Calls Tryd.prog 26 #[.agg cs.toArray] w fun e w' => e = .returned (.string (bs (smT (m + 1) (.mk 3 s t es bd el)))) ∧ Below w.heap.size w w' := by
  obtain ⟨v1, v2, v3, rfl, wk, ws, wt, ⟨a1, cap1, rfl, hmax1, hsl1⟩, hv2, hv3⟩ := hx
  obtain ⟨-, -, hpa, hs2, ht2, hall, hallB, hallC⟩ := hok
  have HVB : Hid (SmL B w m v2 bd) := hv2
  have HVC : Hid (SmL B w m v3 el) := hv3
  obtain ⟨a2, cap2, rfl, hmax2, hsl2⟩ := hv2
  obtain ⟨a3, cap3, rfl, hmax3, hsl3⟩ := hv3
  clear hsl2 hsl3
  have hmf : ∀ (fn : Fn) (first cap : Array Value) (w : World), (Instr.makeFunc fn first cap).run Tryd.prog w = .ok (.func fn first cap) w := fun _ _ _ _ => rfl
  have hll : es.length = 2 := by have := exprsN_of hpa; simpa [exprsN] using this
  obtain ⟨b, off, rfl, hb, hi⟩ := hsl1 (by omega)
  have hi : Kids B b off m w es := hi
  have HT : Hid (smT (m + 1) (.mk 3 s t es bd el) = [36] ++ exT m (es.getD 0 default) ++ [32, 61, 32] ++ exT m (es.getD 1 default) ++ [59]) := by simp [smT, Hid]
  show Calls Tryd.prog 26 #[.agg #[.int .i64 3, .string s, .string t, .slice (some ⟨b, off, none⟩) es.length cap1, .slice a2 bd.length cap2, .slice a3 el.length cap3]] w _
  rw [hll]
  have hlt := congrArg List.length HT.out
  simp only [List.length_append, List.length_cons, List.length_nil] at hlt
  have hst := toL_len s
  have htt := toL_len t
  have HW : Hid (Below w.heap.size w (w.alloc (.cells #[.int .i64 3, .string s, .string t, .slice (some ⟨b, off, none⟩) 2 cap1, .slice a2 bd.length cap2, .slice a3 el.length cap3] 66))) := (Below.refl _ _).alloc (Nat.le_refl _) _
  have HR : Hid (RowAt (w.alloc (.cells #[.int .i64 3, .string s, .string t, .slice (some ⟨b, off, none⟩) 2 cap1, .slice a2 bd.length cap2, .slice a3 el.length cap3] 66)) w.heap.size #[.int .i64 3, .string s, .string t, .slice (some ⟨b, off, none⟩) 2 cap1, .slice a2 bd.length cap2, .slice a3 el.length cap3]) := RowAt.new w _ _
  obtain ⟨W, hW⟩ : ∃ W, W = w.alloc (.cells #[.int .i64 3, .string s, .string t, .slice (some ⟨b, off, none⟩) 2 cap1, .slice a2 bd.length cap2, .slice a3 el.length cap3] 66) := ⟨_, rfl⟩
  rw [← hW] at HW HR
  have HWW : Hid (W = _) := hW
  clear hW
  have q0 := HR.out.cell 0
  have q1 := HR.out.cell 1
  have q2 := HR.out.cell 2
  have q3 := HR.out.cell 3
  have q4 := HR.out.cell 4
  have q5 := HR.out.cell 5
  simp only [List.getElem?_toArray, List.getElem?_cons_zero, List.getElem?_cons_succ] at q0 q1 q2 q3 q4 q5
  obtain ⟨TE0, hTE0⟩ : ∃ T, T = bs (exT m (es.getD 0 default)) := ⟨_, rfl⟩
  have tE0 : TE0.size = (exT m (es.getD 0 default)).length := by rw [hTE0, bs_size]
  obtain ⟨TE1, hTE1⟩ : ∃ T, T = bs (exT m (es.getD 1 default)) := ⟨_, rfl⟩
  have tE1 : TE1.size = (exT m (es.getD 1 default)).length := by rw [hTE1, bs_size]
  have HE0 : Hid (∀ W' : World, Below W.heap.size W W' → Calls Tryd.prog 43 #[.int .i64 0, .pointer (some ⟨w.heap.size, 0, none⟩)] W' fun e w'' => e = .returned (.string TE0) ∧ Below W'.heap.size W' w'') := fun W' hbb => by
    rw [hTE0]
    exact sarg_c hE B w.heap.size b off 0 2 cap1 es w W' (bl_trans HW.out hbb) hB hb ((hbb.cell (p := ⟨w.heap.size, 3, none⟩) HR.out.lt).trans q3) hll hi (by omega) hall (by omega) hP
  have HE1 : Hid (∀ W' : World, Below W.heap.size W W' → Calls Tryd.prog 43 #[.int .i64 1, .pointer (some ⟨w.heap.size, 0, none⟩)] W' fun e w'' => e = .returned (.string TE1) ∧ Below W'.heap.size W' w'') := fun W' hbb => by
    rw [hTE1]
    exact sarg_c hE B w.heap.size b off 1 2 cap1 es w W' (bl_trans HW.out hbb) hB hb ((hbb.cell (p := ⟨w.heap.size, 3, none⟩) HR.out.lt).trans q3) hll hi (by omega) hall (by omega) hP
  have HE : Hid (⟨#[36]⟩ ++ TE0 ++ ⟨#[32, 61, 32]⟩ ++ TE1 ++ ⟨#[59]⟩ = bs (smT (m + 1) (.mk 3 s t es bd el))) := bs_of (by rw [HT.out, hTE0, hTE1]; simp only [toL_append, bs_list, toL_mk, List.append_assoc, List.cons_append, List.nil_append])
  have z1 : ¬ 9223372036854775807 < 1 + TE0.size := by omega
  have z2 : ¬ 9223372036854775807 < 1 + TE0.size + 3 := by omega
  have z3 : ¬ 9223372036854775807 < 1 + TE0.size + 3 + TE1.size := by omega
  have z4 : ¬ 9223372036854775807 < 1 + TE0.size + 3 + TE1.size + 1 := by omega
  have hbw : b < w.heap.size := by omega
  clear hX hall hallB hallC HVB HVC hlt HT hpa hlen hs2 ht2 hP wk ws wt hst htt HR hmax1 hmax2 hmax3 q1 q2 q3 q4 q5 hi hll hsl1 hTE0 tE0 hTE1 tE1  hE
  go_enter Tryd.func26, Tryd.ntmps26
  go_wp2_with fail
  rw [← HWW.out]
  clear HWW
  have HB0 : Hid (Below W.heap.size W W) := Below.refl _ _
  refine Calls.mono (HE0.out _ HB0.out) ?_
  rintro e w1 ⟨rfl, hb1⟩
  have HB1 : Hid (Below W.heap.size W w1) := bl_trans HB0.out hb1
  clear hb1 HE0
  go_wp2_with fail
  refine Calls.mono (HE1.out _ HB1.out) ?_
  rintro e w2 ⟨rfl, hb2⟩
  have HB2 : Hid (Below W.heap.size W w2) := bl_trans HB1.out hb2
  clear hb2 HE1
  go_wp2_with fail
  go_ret
  exact ⟨ret_str HE.out, bl_trans HW.out HB2.out⟩

set_option maxHeartbeats 2000000 in
theorem rfS_8 {m : Nat} (hX : TextB 12 m) (hE : TextE 11 m) (B : Nat) (s t : ByteArray) (es : List Ex) (bd el : List Sm) (cs : List Value) (w : World) (hx : SmA B w (m + 1) cs (.mk 8 s t es bd el)) (hB : B ≤ w.heap.size) (hok : okS (m + 1) (.mk 8 s t es bd el)) (hlen : (smT (m + 1) (.mk 8 s t es bd el)).length ≤ 100000000) (hP : Pow w) :
    Calls Tryd.prog 26 #[.agg cs.toArray] w fun e w' => e = .returned (.string (bs (smT (m + 1) (.mk 8 s t es bd el)))) ∧ Below w.heap.size w w' := by
  obtain ⟨v1, v2, v3, rfl, wk, ws, wt, ⟨a1, cap1, rfl, hmax1, hsl1⟩, hv2, hv3⟩ := hx
  obtain ⟨-, -, hpa, hs2, ht2, hall, hallB, hallC⟩ := hok
  have HVB : Hid (SmL B w m v2 bd) := hv2
  have HVC : Hid (SmL B w m v3 el) := hv3
  obtain ⟨a2, cap2, rfl, hmax2, hsl2⟩ := hv2
  obtain ⟨a3, cap3, rfl, hmax3, hsl3⟩ := hv3
  clear hsl2 hsl3
  have hmf : ∀ (fn : Fn) (first cap : Array Value) (w : World), (Instr.makeFunc fn first cap).run Tryd.prog w = .ok (.func fn first cap) w := fun _ _ _ _ => rfl
  have HT : Hid (smT (m + 1) (.mk 8 s t es bd el) = [110, 101, 120, 116, 59]) := by simp [smT, Hid]
  show Calls Tryd.prog 26 #[.agg #[.int .i64 8, .string s, .string t, .slice a1 es.length cap1, .slice a2 bd.length cap2, .slice a3 el.length cap3]] w _
  have hlt := congrArg List.length HT.out
  simp only [List.length_cons, List.length_nil] at hlt
  have hst := toL_len s
  have htt := toL_len t
  have HW : Hid (Below w.heap.size w (w.alloc (.cells #[.int .i64 8, .string s, .string t, .slice a1 es.length cap1, .slice a2 bd.length cap2, .slice a3 el.length cap3] 66))) := (Below.refl _ _).alloc (Nat.le_refl _) _
  have HR : Hid (RowAt (w.alloc (.cells #[.int .i64 8, .string s, .string t, .slice a1 es.length cap1, .slice a2 bd.length cap2, .slice a3 el.length cap3] 66)) w.heap.size #[.int .i64 8, .string s, .string t, .slice a1 es.length cap1, .slice a2 bd.length cap2, .slice a3 el.length cap3]) := RowAt.new w _ _
  obtain ⟨W, hW⟩ : ∃ W, W = w.alloc (.cells #[.int .i64 8, .string s, .string t, .slice a1 es.length cap1, .slice a2 bd.length cap2, .slice a3 el.length cap3] 66) := ⟨_, rfl⟩
  rw [← hW] at HW HR
  have HWW : Hid (W = _) := hW
  clear hW
  have q0 := HR.out.cell 0
  have q1 := HR.out.cell 1
  have q2 := HR.out.cell 2
  have q3 := HR.out.cell 3
  have q4 := HR.out.cell 4
  have q5 := HR.out.cell 5
  simp only [List.getElem?_toArray, List.getElem?_cons_zero, List.getElem?_cons_succ] at q0 q1 q2 q3 q4 q5
  have HE : Hid (⟨#[110, 101, 120, 116, 59]⟩ = bs (smT (m + 1) (.mk 8 s t es bd el))) := by rw [HT.out]; rfl
  clear hX hall hallB hallC HVB HVC hlt HT hpa hlen hs2 ht2 hP wk ws wt hst htt HR hmax1 hmax2 hmax3 q1 q2 q3 q4 q5 hsl1   hE
  go_enter Tryd.func26, Tryd.ntmps26
  go_wp2_with fail
  go_ret
  refine ⟨ret_str HE.out, ?_⟩
  rw [← HWW.out]
  exact HW.out

set_option maxHeartbeats 2000000 in
theorem rfS_4 {m : Nat} (hX : TextB 12 m) (hE : TextE 11 m) (B : Nat) (s t : ByteArray) (es : List Ex) (bd el : List Sm) (cs : List Value) (w : World) (hx : SmA B w (m + 1) cs (.mk 4 s t es bd el)) (hB : B ≤ w.heap.size) (hok : okS (m + 1) (.mk 4 s t es bd el)) (hlen : (smT (m + 1) (.mk 4 s t es bd el)).length ≤ 100000000) (hP : Pow w) :
    Calls Tryd.prog 26 #[.agg cs.toArray] w fun e w' => e = .returned (.string (bs (smT (m + 1) (.mk 4 s t es bd el)))) ∧ Below w.heap.size w w' := by
  obtain ⟨v1, v2, v3, rfl, wk, ws, wt, ⟨a1, cap1, rfl, hmax1, hsl1⟩, hv2, hv3⟩ := hx
  obtain ⟨-, -, hpa, hs2, ht2, hall, hallB, hallC⟩ := hok
  have HVB : Hid (SmL B w m v2 bd) := hv2
  have HVC : Hid (SmL B w m v3 el) := hv3
  obtain ⟨a2, cap2, rfl, hmax2, hsl2⟩ := hv2
  obtain ⟨a3, cap3, rfl, hmax3, hsl3⟩ := hv3
  clear hsl2 hsl3
  have hmf : ∀ (fn : Fn) (first cap : Array Value) (w : World), (Instr.makeFunc fn first cap).run Tryd.prog w = .ok (.func fn first cap) w := fun _ _ _ _ => rfl
  have hl0 : 0 < es.length := by have := exprsN_of hpa; simp [exprsN] at this; omega
  obtain ⟨b, off, rfl, hb, hi⟩ := hsl1 hl0
  have hi : Kids B b off m w es := hi
  have HT : Hid (smT (m + 1) (.mk 4 s t es bd el) = [112, 114, 105, 110, 116, 32] ++ joinL (es.map (exT m)) ++ [59]) := by simp [smT, Hid]
  show Calls Tryd.prog 26 #[.agg #[.int .i64 4, .string s, .string t, .slice (some ⟨b, off, none⟩) es.length cap1, .slice a2 bd.length cap2, .slice a3 el.length cap3]] w _
  have hlt := congrArg List.length HT.out
  simp only [List.length_append, List.length_cons, List.length_nil] at hlt
  have hcount := joinL_count (es.map (exT m))
  rw [List.length_map] at hcount
  have HW : Hid (Below w.heap.size w (w.alloc (.cells #[.int .i64 4, .string s, .string t, .slice (some ⟨b, off, none⟩) es.length cap1, .slice a2 bd.length cap2, .slice a3 el.length cap3] 66))) := (Below.refl _ _).alloc (Nat.le_refl _) _
  have HR : Hid (RowAt (w.alloc (.cells #[.int .i64 4, .string s, .string t, .slice (some ⟨b, off, none⟩) es.length cap1, .slice a2 bd.length cap2, .slice a3 el.length cap3] 66)) w.heap.size #[.int .i64 4, .string s, .string t, .slice (some ⟨b, off, none⟩) es.length cap1, .slice a2 bd.length cap2, .slice a3 el.length cap3]) := RowAt.new w _ _
  obtain ⟨W, hW⟩ : ∃ W, W = w.alloc (.cells #[.int .i64 4, .string s, .string t, .slice (some ⟨b, off, none⟩) es.length cap1, .slice a2 bd.length cap2, .slice a3 el.length cap3] 66) := ⟨_, rfl⟩
  rw [← hW] at HW HR
  have HWW : Hid (W = _) := hW
  clear hW
  have q3 := HR.out.cell 3
  simp only [List.getElem?_toArray, List.getElem?_cons_zero, List.getElem?_cons_succ] at q3
  have HJ : Hid ((joinL (es.map (exT m))).length ≤ 100000000) := by unfold Hid; omega
  have hmem : ∀ i, i < es.length → (exT m (es.getD i default)).length ≤ 100000000 := fun i h => by
    refine Nat.le_trans (joinL_mem_len (List.mem_map.2 ⟨_, ?_, rfl⟩)) HJ.out
    rw [List.getD_eq_getElem?_getD, List.getElem?_eq_getElem h, Option.getD_some]
    exact List.getElem_mem h
  have HC : Hid (∀ (i : Nat) (W' : World), i < es.length → Below W.heap.size W W' → Calls Tryd.prog 43 #[.int .i64 i, .pointer (some ⟨w.heap.size, 0, none⟩)] W' fun e w'' => e = .returned (.string (bs (exT m (es.getD i default)))) ∧ Below W'.heap.size W' w'') := fun i W' hil hbb =>
    sarg_c hE B w.heap.size b off i es.length cap1 es w W' (bl_trans HW.out hbb) hB hb ((hbb.cell (p := ⟨w.heap.size, 3, none⟩) HR.out.lt).trans q3) rfl hi hil hall (hmem i hil) hP
  obtain ⟨T0, hT0⟩ : ∃ T, T = bs (exT m (es.getD 0 default)) := ⟨_, rfl⟩
  have t0 : T0.size ≤ 100000000 := by rw [hT0, bs_size]; exact hmem 0 hl0
  have HC0 := HC.out 0 W hl0 (Below.refl _ _)
  rw [← hT0] at HC0
  have HC0 : Hid (Calls Tryd.prog 43 #[.int .i64 0, .pointer (some ⟨w.heap.size, 0, none⟩)] W fun e w'' => e = .returned (.string T0) ∧ Below W.heap.size W w'') := HC0
  have HO : Hid ((⟨#[112, 114, 105, 110, 116, 32]⟩ ++ T0 : ByteArray).toList = [112, 114, 105, 110, 116, 32] ++ joinL ((es.map (exT m)).take 1)) := by
    unfold Hid
    rw [hT0, join_one m es hl0]; simp only [toL_append, bs_list, toL_mk]
  have z1 : ¬ 9223372036854775807 < 6 + T0.size := by omega
  have Q3 : Hid (∀ W' : World, Below W.heap.size W W' → W'.cell? ⟨w.heap.size, 3, none⟩ = some (.slice (some ⟨b, off, none⟩) es.length cap1)) := fun W' hbb => (hbb.cell (p := ⟨w.heap.size, 3, none⟩) HR.out.lt).trans q3
  unfold maxLen at hmax1
  clear hX hE hi hall hallB hallC HVB HVC hT0 t0 hlt hpa hlen hs2 ht2 hP hsl1 wk ws wt hmem q3 HR hmax2 hmax3 hcount
  go_enter Tryd.func26, Tryd.ntmps26
  go_wp2_with fail
  rw [← HWW.out]
  clear HWW
  refine Calls.mono HC0.out ?_
  rintro e w1 ⟨rfl, hb1⟩
  have HB1 : Hid (Below W.heap.size W w1) := hb1
  clear hb1 HC0
  go_wp2_with fail
  go_loopw [4, 5] (fun v4 v5 wr => ∃ (k : Nat) (O : ByteArray), 1 ≤ k ∧ k ≤ es.length ∧ v4 = .string O ∧ v5 = .int .i64 k ∧ Hid (O.toList = [112, 114, 105, 110, 116, 32] ++ joinL ((es.map (exT m)).take k)) ∧ Hid (Below W.heap.size W wr)) (fun _ v5 _ => es.length - (intOf v5).toNat)
  case atStart => exact ⟨1, _, by omega, by omega, rfl, rfl, HO, HB1⟩
  case round =>
    obtain ⟨k, O, hk1, hkl, rfl, rfl, HOk, HBk⟩ := hrel
    clear HO HB1 z1
    have q3 := Q3.out _ HBk.out
    have HOS : Hid (O.size ≤ 100000300) := by
      have h1 := joinL_take_len (es.map (exT m)) k
      have h2 := HJ.out
      have h3 := congrArg List.length HOk.out
      have h5 := toL_len O
      simp only [List.length_append, List.length_cons, List.length_nil] at h3
      unfold Hid
      omega
    by_cases hk2 : k < es.length
    · have i1 : (k : Int) < (es.length : Int) := by omega
      obtain ⟨T, hT⟩ : ∃ T, T = bs (exT m (es.getD k default)) := ⟨_, rfl⟩
      have HCk := HC.out k _ hk2 HBk.out
      rw [← hT] at HCk
      have HCk : Hid _ := HCk
      have HTS : Hid (T.size ≤ 100000000) := by
        unfold Hid
        rw [hT, bs_size]
        refine Nat.le_trans (joinL_mem_len (List.mem_map.2 ⟨_, ?_, rfl⟩)) HJ.out
        rw [List.getD_eq_getElem?_getD, List.getElem?_eq_getElem hk2, Option.getD_some]
        exact List.getElem_mem hk2
      have HN : Hid ((O ++ ⟨#[44, 32]⟩ ++ T).toList = [112, 114, 105, 110, 116, 32] ++ joinL ((es.map (exT m)).take (k + 1))) := by
        unfold Hid
        rw [join_more m es k hk1 hk2]
        simp only [toL_append, toL_mk, HOk.out, hT, bs_list, List.append_assoc]
      have z1 : ¬ 9223372036854775807 < O.size + 2 := by have := HOS.out; omega
      have z2 : ¬ 9223372036854775807 < O.size + 2 + T.size := by have := HOS.out; have := HTS.out; omega
      clear hT
      go_wp2_with fail
      refine Calls.mono HCk.out ?_
      rintro e w2 ⟨rfl, hb2⟩
      have HB2 : Hid (Below W.heap.size W w2) := bl_trans HBk.out hb2
      clear hb2 HCk q3
      go_wp2_with fail
      go_roundw
      case rel => exact ⟨k + 1, _, by omega, by omega, rfl, by go_num, HN, HB2⟩
      case measure => simp [intOf]; omega
    · have i1 : ¬ (k : Int) < (es.length : Int) := by omega
      have z1 : ¬ 9223372036854775807 < O.size + 1 := by have := HOS.out; omega
      have HE : Hid (O ++ ⟨#[59]⟩ = bs (smT (m + 1) (.mk 4 s t es bd el))) := bs_of (by
        rw [List.take_of_length_le (by rw [List.length_map]; omega)] at HOk; rw [HT.out]; simp only [toL_append, toL_mk, HOk.out])
      go_wp2_with fail
      go_ret
      exact ⟨ret_str HE.out, bl_trans HW.out HBk.out⟩

set_option maxHeartbeats 2000000 in
theorem rfS_5 {m : Nat} (hX : TextB 12 m) (hE : TextE 11 m) (B : Nat) (s t : ByteArray) (es : List Ex) (bd el : List Sm) (cs : List Value) (w : World) (hx : SmA B w (m + 1) cs (.mk 5 s t es bd el)) (hB : B ≤ w.heap.size) (hok : okS (m + 1) (.mk 5 s t es bd el)) (hlen : (smT (m + 1) (.mk 5 s t es bd el)).length ≤ 100000000) (hP : Pow w) :
    Calls Tryd.prog 26 #[.agg cs.toArray] w fun e w' => e = .returned (.string (bs (smT (m + 1) (.mk 5 s t es bd el)))) ∧ Below w.heap.size w w' := by
  obtain ⟨v1, v2, v3, rfl, wk, ws, wt, ⟨a1, cap1, rfl, hmax1, hsl1⟩, hv2, hv3⟩ := hx
  obtain ⟨-, -, hpa, hs2, ht2, hall, hallB, hallC⟩ := hok
  have HVB : Hid (SmL B w m v2 bd) := hv2
  have HVC : Hid (SmL B w m v3 el) := hv3
  obtain ⟨a2, cap2, rfl, hmax2, hsl2⟩ := hv2
  obtain ⟨a3, cap3, rfl, hmax3, hsl3⟩ := hv3
  clear hsl2 hsl3
  have hmf : ∀ (fn : Fn) (first cap : Array Value) (w : World), (Instr.makeFunc fn first cap).run Tryd.prog w = .ok (.func fn first cap) w := fun _ _ _ _ => rfl
  have hll : es.length = 1 := by have := exprsN_of hpa; simpa [exprsN] using this
  obtain ⟨b, off, rfl, hb, hi⟩ := hsl1 (by omega)
  have hi : Kids B b off m w es := hi
  have HT : Hid (smT (m + 1) (.mk 5 s t es bd el) = [105, 102, 32, 40] ++ exT m (es.getD 0 default) ++ [41, 32] ++ blL (smT m) bd ++ [32, 101, 108, 115, 101, 32] ++ blL (smT m) el) := by simp [smT, Hid]
  show Calls Tryd.prog 26 #[.agg #[.int .i64 5, .string s, .string t, .slice (some ⟨b, off, none⟩) es.length cap1, .slice a2 bd.length cap2, .slice a3 el.length cap3]] w _
  rw [hll]
  have hlt := congrArg List.length HT.out
  simp only [List.length_append, List.length_cons, List.length_nil] at hlt
  have hst := toL_len s
  have htt := toL_len t
  have HW : Hid (Below w.heap.size w (w.alloc (.cells #[.int .i64 5, .string s, .string t, .slice (some ⟨b, off, none⟩) 1 cap1, .slice a2 bd.length cap2, .slice a3 el.length cap3] 66))) := (Below.refl _ _).alloc (Nat.le_refl _) _
  have HR : Hid (RowAt (w.alloc (.cells #[.int .i64 5, .string s, .string t, .slice (some ⟨b, off, none⟩) 1 cap1, .slice a2 bd.length cap2, .slice a3 el.length cap3] 66)) w.heap.size #[.int .i64 5, .string s, .string t, .slice (some ⟨b, off, none⟩) 1 cap1, .slice a2 bd.length cap2, .slice a3 el.length cap3]) := RowAt.new w _ _
  obtain ⟨W, hW⟩ : ∃ W, W = w.alloc (.cells #[.int .i64 5, .string s, .string t, .slice (some ⟨b, off, none⟩) 1 cap1, .slice a2 bd.length cap2, .slice a3 el.length cap3] 66) := ⟨_, rfl⟩
  rw [← hW] at HW HR
  have HWW : Hid (W = _) := hW
  clear hW
  have q0 := HR.out.cell 0
  have q1 := HR.out.cell 1
  have q2 := HR.out.cell 2
  have q3 := HR.out.cell 3
  have q4 := HR.out.cell 4
  have q5 := HR.out.cell 5
  simp only [List.getElem?_toArray, List.getElem?_cons_zero, List.getElem?_cons_succ] at q0 q1 q2 q3 q4 q5
  obtain ⟨TE0, hTE0⟩ : ∃ T, T = bs (exT m (es.getD 0 default)) := ⟨_, rfl⟩
  have tE0 : TE0.size = (exT m (es.getD 0 default)).length := by rw [hTE0, bs_size]
  obtain ⟨TB, hTB⟩ : ∃ T, T = bs (blL (smT m) bd) := ⟨_, rfl⟩
  have tB : TB.size = (blL (smT m) bd).length := by rw [hTB, bs_size]
  obtain ⟨TC, hTC⟩ : ∃ T, T = bs (blL (smT m) el) := ⟨_, rfl⟩
  have tC : TC.size = (blL (smT m) el).length := by rw [hTC, bs_size]
  have cE0 : ∀ (d : Nat) (os : Array Obj), Calls Tryd.prog 43 #[.int .i64 0, .pointer (some ⟨w.heap.size, 0, none⟩)] (Sort.grow (redrawn W d) os) fun e w'' => e = .returned (.string TE0) ∧ ∃ p : Regrown, w'' = Sort.grow (redrawn W p.d) p.os := sarg_k hE B w.heap.size b off 0 1 cap1 es w W HW.out hB hb q3 hll hi (by omega) hall (by omega) hP hTE0
  have cB := blk_k hX HVB.out HW.out hB hallB (by omega) hP hTB
  have cC := blk_k hX HVC.out HW.out hB hallC (by omega) hP hTC
  have HE : Hid (⟨#[105, 102, 32, 40]⟩ ++ TE0 ++ ⟨#[41, 32]⟩ ++ TB ++ ⟨#[32, 101, 108, 115, 101, 32]⟩ ++ TC = bs (smT (m + 1) (.mk 5 s t es bd el))) := bs_of (by rw [HT.out, hTE0, hTB, hTC]; simp only [toL_append, bs_list, toL_mk, List.append_assoc, List.cons_append, List.nil_append])
  have z1 : ¬ 9223372036854775807 < 4 + TE0.size := by omega
  have z2 : ¬ 9223372036854775807 < 4 + TE0.size + 2 := by omega
  have z3 : ¬ 9223372036854775807 < 4 + TE0.size + 2 + TB.size := by omega
  have z4 : ¬ 9223372036854775807 < 4 + TE0.size + 2 + TB.size + 6 := by omega
  have z5 : ¬ 9223372036854775807 < 4 + TE0.size + 2 + TB.size + 6 + TC.size := by omega
  have hbw : b < w.heap.size := by omega
  have Q4 := cell_regrown q4
  have Q5 := cell_regrown q5
  clear hX hall hallB hallC HVB HVC hlt HT hpa hlen hs2 ht2 hP wk ws wt hst htt HR hmax1 hmax2 hmax3 q1 q2 q3 q4 q5 hi hll hsl1 hTE0 tE0 hTB tB hTC tC  hE
  go_enter Tryd.func26, Tryd.ntmps26
  go_wp2_with fail
  rw [← HWW.out]
  clear HWW
  refine wp_region_quiet_below (by kernel_rfl) (by kernel_rfl) ?_
  repeat (go_big_quiet_step (first | with_reducible exact cE0 _ _ | with_reducible exact cB _ _ | with_reducible exact cC _ _))
  refine wpQuiet_nil ?_
  intro _ hw'
  obtain ⟨⟨dq, osq⟩, hw''⟩ := hw'
  subst hw''
  go_wp2
  go_ret
  exact ⟨ret_str HE.out, bl_trans HW.out (below_regrown W dq osq)⟩

set_option maxHeartbeats 2000000 in
theorem rfS_6 {m : Nat} (hX : TextB 12 m) (hE : TextE 11 m) (B : Nat) (s t : ByteArray) (es : List Ex) (bd el : List Sm) (cs : List Value) (w : World) (hx : SmA B w (m + 1) cs (.mk 6 s t es bd el)) (hB : B ≤ w.heap.size) (hok : okS (m + 1) (.mk 6 s t es bd el)) (hlen : (smT (m + 1) (.mk 6 s t es bd el)).length ≤ 100000000) (hP : Pow w) :
    Calls Tryd.prog 26 #[.agg cs.toArray] w fun e w' => e = .returned (.string (bs (smT (m + 1) (.mk 6 s t es bd el)))) ∧ Below w.heap.size w w' := by
  obtain ⟨v1, v2, v3, rfl, wk, ws, wt, ⟨a1, cap1, rfl, hmax1, hsl1⟩, hv2, hv3⟩ := hx
  obtain ⟨-, -, hpa, hs2, ht2, hall, hallB, hallC⟩ := hok
  have HVB : Hid (SmL B w m v2 bd) := hv2
  have HVC : Hid (SmL B w m v3 el) := hv3
  obtain ⟨a2, cap2, rfl, hmax2, hsl2⟩ := hv2
  obtain ⟨a3, cap3, rfl, hmax3, hsl3⟩ := hv3
  clear hsl2 hsl3
  have hmf : ∀ (fn : Fn) (first cap : Array Value) (w : World), (Instr.makeFunc fn first cap).run Tryd.prog w = .ok (.func fn first cap) w := fun _ _ _ _ => rfl
  have hll : es.length = 1 := by have := exprsN_of hpa; simpa [exprsN] using this
  obtain ⟨b, off, rfl, hb, hi⟩ := hsl1 (by omega)
  have hi : Kids B b off m w es := hi
  have HT : Hid (smT (m + 1) (.mk 6 s t es bd el) = [119, 104, 105, 108, 101, 32, 40] ++ exT m (es.getD 0 default) ++ [41, 32] ++ blL (smT m) bd) := by simp [smT, Hid]
  show Calls Tryd.prog 26 #[.agg #[.int .i64 6, .string s, .string t, .slice (some ⟨b, off, none⟩) es.length cap1, .slice a2 bd.length cap2, .slice a3 el.length cap3]] w _
  rw [hll]
  have hlt := congrArg List.length HT.out
  simp only [List.length_append, List.length_cons, List.length_nil] at hlt
  have hst := toL_len s
  have htt := toL_len t
  have HW : Hid (Below w.heap.size w (w.alloc (.cells #[.int .i64 6, .string s, .string t, .slice (some ⟨b, off, none⟩) 1 cap1, .slice a2 bd.length cap2, .slice a3 el.length cap3] 66))) := (Below.refl _ _).alloc (Nat.le_refl _) _
  have HR : Hid (RowAt (w.alloc (.cells #[.int .i64 6, .string s, .string t, .slice (some ⟨b, off, none⟩) 1 cap1, .slice a2 bd.length cap2, .slice a3 el.length cap3] 66)) w.heap.size #[.int .i64 6, .string s, .string t, .slice (some ⟨b, off, none⟩) 1 cap1, .slice a2 bd.length cap2, .slice a3 el.length cap3]) := RowAt.new w _ _
  obtain ⟨W, hW⟩ : ∃ W, W = w.alloc (.cells #[.int .i64 6, .string s, .string t, .slice (some ⟨b, off, none⟩) 1 cap1, .slice a2 bd.length cap2, .slice a3 el.length cap3] 66) := ⟨_, rfl⟩
  rw [← hW] at HW HR
  have HWW : Hid (W = _) := hW
  clear hW
  have q0 := HR.out.cell 0
  have q1 := HR.out.cell 1
  have q2 := HR.out.cell 2
  have q3 := HR.out.cell 3
  have q4 := HR.out.cell 4
  have q5 := HR.out.cell 5
  simp only [List.getElem?_toArray, List.getElem?_cons_zero, List.getElem?_cons_succ] at q0 q1 q2 q3 q4 q5
  obtain ⟨TE0, hTE0⟩ : ∃ T, T = bs (exT m (es.getD 0 default)) := ⟨_, rfl⟩
  have tE0 : TE0.size = (exT m (es.getD 0 default)).length := by rw [hTE0, bs_size]
  obtain ⟨TB, hTB⟩ : ∃ T, T = bs (blL (smT m) bd) := ⟨_, rfl⟩
  have tB : TB.size = (blL (smT m) bd).length := by rw [hTB, bs_size]
  have cE0 : ∀ (d : Nat) (os : Array Obj), Calls Tryd.prog 43 #[.int .i64 0, .pointer (some ⟨w.heap.size, 0, none⟩)] (Sort.grow (redrawn W d) os) fun e w'' => e = .returned (.string TE0) ∧ ∃ p : Regrown, w'' = Sort.grow (redrawn W p.d) p.os := sarg_k hE B w.heap.size b off 0 1 cap1 es w W HW.out hB hb q3 hll hi (by omega) hall (by omega) hP hTE0
  have cB := blk_k hX HVB.out HW.out hB hallB (by omega) hP hTB
  have HE : Hid (⟨#[119, 104, 105, 108, 101, 32, 40]⟩ ++ TE0 ++ ⟨#[41, 32]⟩ ++ TB = bs (smT (m + 1) (.mk 6 s t es bd el))) := bs_of (by rw [HT.out, hTE0, hTB]; simp only [toL_append, bs_list, toL_mk, List.append_assoc, List.cons_append, List.nil_append])
  have z1 : ¬ 9223372036854775807 < 7 + TE0.size := by omega
  have z2 : ¬ 9223372036854775807 < 7 + TE0.size + 2 := by omega
  have z3 : ¬ 9223372036854775807 < 7 + TE0.size + 2 + TB.size := by omega
  have hbw : b < w.heap.size := by omega
  have Q4 := cell_regrown q4
  clear hX hall hallB hallC HVB HVC hlt HT hpa hlen hs2 ht2 hP wk ws wt hst htt HR hmax1 hmax2 hmax3 q1 q2 q3 q4 q5 hi hll hsl1 hTE0 tE0 hTB tB  hE
  go_enter Tryd.func26, Tryd.ntmps26
  go_wp2_with fail
  rw [← HWW.out]
  clear HWW
  refine wp_region_quiet_below (by kernel_rfl) (by kernel_rfl) ?_
  repeat (go_big_quiet_step (first | with_reducible exact cE0 _ _ | with_reducible exact cB _ _))
  refine wpQuiet_nil ?_
  intro _ hw'
  obtain ⟨⟨dq, osq⟩, hw''⟩ := hw'
  subst hw''
  go_wp2
  go_ret
  exact ⟨ret_str HE.out, bl_trans HW.out (below_regrown W dq osq)⟩

set_option maxHeartbeats 2000000 in
theorem rfS_7 {m : Nat} (hX : TextB 12 m) (hE : TextE 11 m) (B : Nat) (s t : ByteArray) (es : List Ex) (bd el : List Sm) (cs : List Value) (w : World) (hx : SmA B w (m + 1) cs (.mk 7 s t es bd el)) (hB : B ≤ w.heap.size) (hok : okS (m + 1) (.mk 7 s t es bd el)) (hlen : (smT (m + 1) (.mk 7 s t es bd el)).length ≤ 100000000) (hP : Pow w) :
    Calls Tryd.prog 26 #[.agg cs.toArray] w fun e w' => e = .returned (.string (bs (smT (m + 1) (.mk 7 s t es bd el)))) ∧ Below w.heap.size w w' := by
  obtain ⟨v1, v2, v3, rfl, wk, ws, wt, ⟨a1, cap1, rfl, hmax1, hsl1⟩, hv2, hv3⟩ := hx
  obtain ⟨-, -, hpa, hs2, ht2, hall, hallB, hallC⟩ := hok
  have HVB : Hid (SmL B w m v2 bd) := hv2
  have HVC : Hid (SmL B w m v3 el) := hv3
  obtain ⟨a2, cap2, rfl, hmax2, hsl2⟩ := hv2
  obtain ⟨a3, cap3, rfl, hmax3, hsl3⟩ := hv3
  clear hsl2 hsl3
  have hmf : ∀ (fn : Fn) (first cap : Array Value) (w : World), (Instr.makeFunc fn first cap).run Tryd.prog w = .ok (.func fn first cap) w := fun _ _ _ _ => rfl
  have HT : Hid (smT (m + 1) (.mk 7 s t es bd el) = [102, 111, 114, 32, 40] ++ s.toList ++ [32, 105, 110, 32] ++ t.toList ++ [41, 32] ++ blL (smT m) bd) := by simp [smT, Hid]
  show Calls Tryd.prog 26 #[.agg #[.int .i64 7, .string s, .string t, .slice a1 es.length cap1, .slice a2 bd.length cap2, .slice a3 el.length cap3]] w _
  have hlt := congrArg List.length HT.out
  simp only [List.length_append, List.length_cons, List.length_nil] at hlt
  have hst := toL_len s
  have htt := toL_len t
  have HW : Hid (Below w.heap.size w (w.alloc (.cells #[.int .i64 7, .string s, .string t, .slice a1 es.length cap1, .slice a2 bd.length cap2, .slice a3 el.length cap3] 66))) := (Below.refl _ _).alloc (Nat.le_refl _) _
  have HR : Hid (RowAt (w.alloc (.cells #[.int .i64 7, .string s, .string t, .slice a1 es.length cap1, .slice a2 bd.length cap2, .slice a3 el.length cap3] 66)) w.heap.size #[.int .i64 7, .string s, .string t, .slice a1 es.length cap1, .slice a2 bd.length cap2, .slice a3 el.length cap3]) := RowAt.new w _ _
  obtain ⟨W, hW⟩ : ∃ W, W = w.alloc (.cells #[.int .i64 7, .string s, .string t, .slice a1 es.length cap1, .slice a2 bd.length cap2, .slice a3 el.length cap3] 66) := ⟨_, rfl⟩
  rw [← hW] at HW HR
  have HWW : Hid (W = _) := hW
  clear hW
  have q0 := HR.out.cell 0
  have q1 := HR.out.cell 1
  have q2 := HR.out.cell 2
  have q3 := HR.out.cell 3
  have q4 := HR.out.cell 4
  have q5 := HR.out.cell 5
  simp only [List.getElem?_toArray, List.getElem?_cons_zero, List.getElem?_cons_succ] at q0 q1 q2 q3 q4 q5
  obtain ⟨TB, hTB⟩ : ∃ T, T = bs (blL (smT m) bd) := ⟨_, rfl⟩
  have tB : TB.size = (blL (smT m) bd).length := by rw [hTB, bs_size]
  have cB := blk_k hX HVB.out HW.out hB hallB (by omega) hP hTB
  have HE : Hid (⟨#[102, 111, 114, 32, 40]⟩ ++ s ++ ⟨#[32, 105, 110, 32]⟩ ++ t ++ ⟨#[41, 32]⟩ ++ TB = bs (smT (m + 1) (.mk 7 s t es bd el))) := bs_of (by rw [HT.out, hTB]; simp only [toL_append, bs_list, toL_mk, List.append_assoc, List.cons_append, List.nil_append])
  have z1 : ¬ 9223372036854775807 < 5 + s.size := by omega
  have z2 : ¬ 9223372036854775807 < 5 + s.size + 4 := by omega
  have z3 : ¬ 9223372036854775807 < 5 + s.size + 4 + t.size := by omega
  have z4 : ¬ 9223372036854775807 < 5 + s.size + 4 + t.size + 2 := by omega
  have z5 : ¬ 9223372036854775807 < 5 + s.size + 4 + t.size + 2 + TB.size := by omega
  have Q1 := cell_regrown q1
  have Q2 := cell_regrown q2
  have Q4 := cell_regrown q4
  clear hX hall hallB hallC HVB HVC hlt HT hpa hlen hs2 ht2 hP wk ws wt hst htt HR hmax1 hmax2 hmax3 q1 q2 q3 q4 q5 hsl1 hTB tB  hE
  go_enter Tryd.func26, Tryd.ntmps26
  go_wp2_with fail
  rw [← HWW.out]
  clear HWW
  refine wp_region_quiet_below (by kernel_rfl) (by kernel_rfl) ?_
  repeat (go_big_quiet_step (first | with_reducible exact cB _ _))
  refine wpQuiet_nil ?_
  intro _ hw'
  obtain ⟨⟨dq, osq⟩, hw''⟩ := hw'
  subst hw''
  go_wp2
  go_ret
  exact ⟨ret_str HE.out, bl_trans HW.out (below_regrown W dq osq)⟩

set_option maxHeartbeats 2000000 in
theorem rfS_9 {m : Nat} (hX : TextB 12 m) (hE : TextE 11 m) (B : Nat) (s t : ByteArray) (es : List Ex) (bd el : List Sm) (cs : List Value) (w : World) (hx : SmA B w (m + 1) cs (.mk 9 s t es bd el)) (hB : B ≤ w.heap.size) (hok : okS (m + 1) (.mk 9 s t es bd el)) (hlen : (smT (m + 1) (.mk 9 s t es bd el)).length ≤ 100000000) (hP : Pow w) :
    Calls Tryd.prog 26 #[.agg cs.toArray] w fun e w' => e = .returned (.string (bs (smT (m + 1) (.mk 9 s t es bd el)))) ∧ Below w.heap.size w w' := by
  obtain ⟨v1, v2, v3, rfl, wk, ws, wt, ⟨a1, cap1, rfl, hmax1, hsl1⟩, hv2, hv3⟩ := hx
  obtain ⟨-, -, hpa, hs2, ht2, hall, hallB, hallC⟩ := hok
  have HVB : Hid (SmL B w m v2 bd) := hv2
  have HVC : Hid (SmL B w m v3 el) := hv3
  obtain ⟨a2, cap2, rfl, hmax2, hsl2⟩ := hv2
  obtain ⟨a3, cap3, rfl, hmax3, hsl3⟩ := hv3
  clear hsl2 hsl3
  have hmf : ∀ (fn : Fn) (first cap : Array Value) (w : World), (Instr.makeFunc fn first cap).run Tryd.prog w = .ok (.func fn first cap) w := fun _ _ _ _ => rfl
  have hll : es.length = 1 := by have := exprsN_of hpa; simpa [exprsN] using this
  obtain ⟨b, off, rfl, hb, hi⟩ := hsl1 (by omega)
  have hi : Kids B b off m w es := hi
  have HT : Hid (smT (m + 1) (.mk 9 s t es bd el) = [100, 101, 108, 101, 116, 101, 32] ++ s.toList ++ [91] ++ exT m (es.getD 0 default) ++ [93] ++ [59]) := by simp [smT, Hid]
  show Calls Tryd.prog 26 #[.agg #[.int .i64 9, .string s, .string t, .slice (some ⟨b, off, none⟩) es.length cap1, .slice a2 bd.length cap2, .slice a3 el.length cap3]] w _
  rw [hll]
  have hlt := congrArg List.length HT.out
  simp only [List.length_append, List.length_cons, List.length_nil] at hlt
  have hst := toL_len s
  have htt := toL_len t
  have HW : Hid (Below w.heap.size w (w.alloc (.cells #[.int .i64 9, .string s, .string t, .slice (some ⟨b, off, none⟩) 1 cap1, .slice a2 bd.length cap2, .slice a3 el.length cap3] 66))) := (Below.refl _ _).alloc (Nat.le_refl _) _
  have HR : Hid (RowAt (w.alloc (.cells #[.int .i64 9, .string s, .string t, .slice (some ⟨b, off, none⟩) 1 cap1, .slice a2 bd.length cap2, .slice a3 el.length cap3] 66)) w.heap.size #[.int .i64 9, .string s, .string t, .slice (some ⟨b, off, none⟩) 1 cap1, .slice a2 bd.length cap2, .slice a3 el.length cap3]) := RowAt.new w _ _
  obtain ⟨W, hW⟩ : ∃ W, W = w.alloc (.cells #[.int .i64 9, .string s, .string t, .slice (some ⟨b, off, none⟩) 1 cap1, .slice a2 bd.length cap2, .slice a3 el.length cap3] 66) := ⟨_, rfl⟩
  rw [← hW] at HW HR
  have HWW : Hid (W = _) := hW
  clear hW
  have q0 := HR.out.cell 0
  have q1 := HR.out.cell 1
  have q2 := HR.out.cell 2
  have q3 := HR.out.cell 3
  have q4 := HR.out.cell 4
  have q5 := HR.out.cell 5
  simp only [List.getElem?_toArray, List.getElem?_cons_zero, List.getElem?_cons_succ] at q0 q1 q2 q3 q4 q5
  obtain ⟨TE0, hTE0⟩ : ∃ T, T = bs (exT m (es.getD 0 default)) := ⟨_, rfl⟩
  have tE0 : TE0.size = (exT m (es.getD 0 default)).length := by rw [hTE0, bs_size]
  have cE0 : ∀ (d : Nat) (os : Array Obj), Calls Tryd.prog 43 #[.int .i64 0, .pointer (some ⟨w.heap.size, 0, none⟩)] (Sort.grow (redrawn W d) os) fun e w'' => e = .returned (.string TE0) ∧ ∃ p : Regrown, w'' = Sort.grow (redrawn W p.d) p.os := sarg_k hE B w.heap.size b off 0 1 cap1 es w W HW.out hB hb q3 hll hi (by omega) hall (by omega) hP hTE0
  have HE : Hid (⟨#[100, 101, 108, 101, 116, 101, 32]⟩ ++ s ++ ⟨#[91]⟩ ++ TE0 ++ ⟨#[93, 59]⟩ = bs (smT (m + 1) (.mk 9 s t es bd el))) := bs_of (by rw [HT.out, hTE0]; simp only [toL_append, bs_list, toL_mk, List.append_assoc, List.cons_append, List.nil_append])
  have z1 : ¬ 9223372036854775807 < 7 + s.size := by omega
  have z2 : ¬ 9223372036854775807 < 7 + s.size + 1 := by omega
  have z3 : ¬ 9223372036854775807 < 7 + s.size + 1 + TE0.size := by omega
  have z4 : ¬ 9223372036854775807 < 7 + s.size + 1 + TE0.size + 2 := by omega
  have hbw : b < w.heap.size := by omega
  have Q1 := cell_regrown q1
  clear hX hall hallB hallC HVB HVC hlt HT hpa hlen hs2 ht2 hP wk ws wt hst htt HR hmax1 hmax2 hmax3 q1 q2 q3 q4 q5 hi hll hsl1 hTE0 tE0  hE
  go_enter Tryd.func26, Tryd.ntmps26
  go_wp2_with fail
  rw [← HWW.out]
  clear HWW
  refine wp_region_quiet_below (by kernel_rfl) (by kernel_rfl) ?_
  repeat (go_big_quiet_step (first | with_reducible exact cE0 _ _))
  refine wpQuiet_nil ?_
  intro _ hw'
  obtain ⟨⟨dq, osq⟩, hw''⟩ := hw'
  subst hw''
  go_wp2
  go_ret
  exact ⟨ret_str HE.out, bl_trans HW.out (below_regrown W dq osq)⟩

set_option maxHeartbeats 2000000 in
theorem rfS_10 {m : Nat} (hX : TextB 12 m) (hE : TextE 11 m) (B : Nat) (s t : ByteArray) (es : List Ex) (bd el : List Sm) (cs : List Value) (w : World) (hx : SmA B w (m + 1) cs (.mk 10 s t es bd el)) (hB : B ≤ w.heap.size) (hok : okS (m + 1) (.mk 10 s t es bd el)) (hlen : (smT (m + 1) (.mk 10 s t es bd el)).length ≤ 100000000) (hP : Pow w) :
    Calls Tryd.prog 26 #[.agg cs.toArray] w fun e w' => e = .returned (.string (bs (smT (m + 1) (.mk 10 s t es bd el)))) ∧ Below w.heap.size w w' := by
  obtain ⟨v1, v2, v3, rfl, wk, ws, wt, ⟨a1, cap1, rfl, hmax1, hsl1⟩, hv2, hv3⟩ := hx
  obtain ⟨-, -, hpa, hs2, ht2, hall, hallB, hallC⟩ := hok
  have HVB : Hid (SmL B w m v2 bd) := hv2
  have HVC : Hid (SmL B w m v3 el) := hv3
  obtain ⟨a2, cap2, rfl, hmax2, hsl2⟩ := hv2
  obtain ⟨a3, cap3, rfl, hmax3, hsl3⟩ := hv3
  clear hsl2 hsl3
  have hmf : ∀ (fn : Fn) (first cap : Array Value) (w : World), (Instr.makeFunc fn first cap).run Tryd.prog w = .ok (.func fn first cap) w := fun _ _ _ _ => rfl
  have HT : Hid (smT (m + 1) (.mk 10 s t es bd el) = [108, 111, 97, 100, 32] ++ quoteL t.toList ++ [32] ++ s.toList ++ [59]) := by simp [smT, Hid]
  show Calls Tryd.prog 26 #[.agg #[.int .i64 10, .string s, .string t, .slice a1 es.length cap1, .slice a2 bd.length cap2, .slice a3 el.length cap3]] w _
  have hlt := congrArg List.length HT.out
  simp only [List.length_append, List.length_cons, List.length_nil] at hlt
  have hst := toL_len s
  have htt := toL_len t
  have HW : Hid (Below w.heap.size w (w.alloc (.cells #[.int .i64 10, .string s, .string t, .slice a1 es.length cap1, .slice a2 bd.length cap2, .slice a3 el.length cap3] 66))) := (Below.refl _ _).alloc (Nat.le_refl _) _
  have HR : Hid (RowAt (w.alloc (.cells #[.int .i64 10, .string s, .string t, .slice a1 es.length cap1, .slice a2 bd.length cap2, .slice a3 el.length cap3] 66)) w.heap.size #[.int .i64 10, .string s, .string t, .slice a1 es.length cap1, .slice a2 bd.length cap2, .slice a3 el.length cap3]) := RowAt.new w _ _
  obtain ⟨W, hW⟩ : ∃ W, W = w.alloc (.cells #[.int .i64 10, .string s, .string t, .slice a1 es.length cap1, .slice a2 bd.length cap2, .slice a3 el.length cap3] 66) := ⟨_, rfl⟩
  rw [← hW] at HW HR
  have HWW : Hid (W = _) := hW
  clear hW
  have q0 := HR.out.cell 0
  have q1 := HR.out.cell 1
  have q2 := HR.out.cell 2
  have q3 := HR.out.cell 3
  have q4 := HR.out.cell 4
  have q5 := HR.out.cell 5
  simp only [List.getElem?_toArray, List.getElem?_cons_zero, List.getElem?_cons_succ] at q0 q1 q2 q3 q4 q5
  obtain ⟨TQ, hTQ⟩ : ∃ T, T = bs (quoteL t.toList) := ⟨_, rfl⟩
  have tQ : TQ.size = (quoteL t.toList).length := by rw [hTQ, bs_size]
  have hql := quoteL_len t.toList
  have cQ := quoteRef_k (W := W) ht2 hTQ
  have HE : Hid (⟨#[108, 111, 97, 100, 32]⟩ ++ TQ ++ ⟨#[32]⟩ ++ s ++ ⟨#[59]⟩ = bs (smT (m + 1) (.mk 10 s t es bd el))) := bs_of (by rw [HT.out, hTQ]; simp only [toL_append, bs_list, toL_mk, List.append_assoc, List.cons_append, List.nil_append])
  have z1 : ¬ 9223372036854775807 < 5 + TQ.size := by omega
  have z2 : ¬ 9223372036854775807 < 5 + TQ.size + 1 := by omega
  have z3 : ¬ 9223372036854775807 < 5 + TQ.size + 1 + s.size := by omega
  have z4 : ¬ 9223372036854775807 < 5 + TQ.size + 1 + s.size + 1 := by omega
  have Q1 := cell_regrown q1
  have Q2 := cell_regrown q2
  clear hX hall hallB hallC HVB HVC hlt HT hpa hlen hs2 ht2 hP wk ws wt hst htt HR hmax1 hmax2 hmax3 q1 q2 q3 q4 q5 hsl1 hTQ tQ  hql hE
  go_enter Tryd.func26, Tryd.ntmps26
  go_wp2_with fail
  rw [← HWW.out]
  clear HWW
  refine wp_region_quiet_below (by kernel_rfl) (by kernel_rfl) ?_
  repeat (go_big_quiet_step (first | with_reducible exact cQ _ _))
  refine wpQuiet_nil ?_
  intro _ hw'
  obtain ⟨⟨dq, osq⟩, hw''⟩ := hw'
  subst hw''
  go_wp2
  go_ret
  exact ⟨ret_str HE.out, bl_trans HW.out (below_regrown W dq osq)⟩
end Go.Proofs.YtjconmohifaliaaDoor
