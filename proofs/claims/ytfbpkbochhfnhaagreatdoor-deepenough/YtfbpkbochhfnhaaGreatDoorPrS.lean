/-
  The program's stmtText, kind by kind.
-/
import Derived.Test.YtfbpkbochhfnhaaGreatDoorPrE
import Derived.Test.YtfbpkbochhfnhaaGreatDoorPrLen
import Derived.BigQuiet
namespace Go.Proofs.YtfbpkbochhfnhaaGreatDoor
open Go.ChangeShapes Go.WideShapes Go.ChangeAt Go.RowKit Go.Joins
set_option linter.unusedVariables false
set_option maxRecDepth 100000

/-- A statement's text. -/
def TextS (F : FuncId) (m : Nat) : Prop := ∀ (B : Nat) (x : Sm) (cs : List Value) (w : World), SmA B w m cs x → B ≤ w.heap.size → okS m x → (smT m x).length ≤ 100000000 → Pow w →
  Calls Tryz.prog F #[.agg cs.toArray] w fun e w' => e = .returned (.string (bs (smT m x))) ∧ Below w.heap.size w w'

/-- Statements in a list. -/
def SmL (B : Nat) (w : World) (m : Nat) (v : Value) (l : List Sm) : Prop := Sl w B 6 v l.length (fun i c => ∃ x, l[i]? = some x ∧ SmA B w m c x)

theorem SmL.below {B m : Nat} {w w' : World} {v : Value} {l : List Sm} (h : SmL B w m v l) (hw : Below B w w') : SmL B w' m v l := Sl.below h hw fun i c ⟨x, h1, h2⟩ => ⟨x, h1, h2.below hw⟩

/-- A block's text. -/
def TextB (F : FuncId) (m : Nat) : Prop := ∀ (B : Nat) (l : List Sm) (v : Value) (w : World), SmL B w m v l → B ≤ w.heap.size → (∀ x ∈ l, okS m x) → (blL (smT m) l).length ≤ 100000000 → Pow w →
  Calls Tryz.prog F #[v] w fun e w' => e = .returned (.string (bs (blL (smT m) l))) ∧ Below w.heap.size w w'

theorem blk_k {F : FuncId} {m B : Nat} {l : List Sm} {v : Value} {w W : World} {T : ByteArray} (hX : TextB F m) (hv : SmL B w m v l) (hw : Below w.heap.size w W) (hB : B ≤ w.heap.size) (hok : ∀ x ∈ l, okS m x) (hlen : (blL (smT m) l).length ≤ 100000000) (hP : Pow w) (hT : T = bs (blL (smT m) l)) (d : Nat) (os : Array Obj) :
    Calls Tryz.prog F #[v] (Sort.grow (redrawn W d) os) fun e w'' => e = .returned (.string T) ∧ ∃ p : Regrown, w'' = Sort.grow (redrawn W p.d) p.os := by
  have hb : Below w.heap.size w (Sort.grow (redrawn W d) os) := bl_trans hw (below_regrown W d os)
  subst hT
  exact Calls.regrown_of (hX B l v _ (hv.below (hb.mono hB)) (Nat.le_trans hB hb.size) hok hlen (hP.stays hb))

theorem elem_k {m B : Nat} {x : Ex} {s : ByteArray} {cs : List Value} {w W : World} {T : ByteArray} (hx : ExA B w m cs x) (hw : Below w.heap.size w W) (hB : B ≤ w.heap.size) (hok : okE m x) (hlen : (exT m x).length ≤ 100000000) (hs : s.size ≤ 200) (hP : Pow w) (hT : T = bs (s.toList ++ [91] ++ exT m x ++ [93])) (d : Nat) (os : Array Obj) :
    Calls Tryz.prog 73 #[.string s, .agg cs.toArray] (Sort.grow (redrawn W d) os) fun e w'' => e = .returned (.string T) ∧ ∃ p : Regrown, w'' = Sort.grow (redrawn W p.d) p.os := by
  have hb : Below w.heap.size w (Sort.grow (redrawn W d) os) := bl_trans hw (below_regrown W d os)
  subst hT
  exact Calls.regrown_of (elemText_c (exprText_c m) B s x cs _ (hx.below (hb.mono hB)) (Nat.le_trans hB hb.size) hok hlen hs (hP.stays hb))

theorem quoted_k {t : ByteArray} {W : World} {T : ByteArray} (ht : t.size ≤ 200) (hT : T = bs (quoteL t.toList)) (d : Nat) (os : Array Obj) :
    Calls Tryz.prog 72 #[.string t] (Sort.grow (redrawn W d) os) fun e w'' => e = .returned (.string T) ∧ ∃ p : Regrown, w'' = Sort.grow (redrawn W p.d) p.os := by
  subst hT
  exact Calls.regrown_of (quoted_c t ht _)

theorem exprsN_of {k : Int} {es b e : Nat} (h : partsS k es b e = true) : exprsN k es = true := by
  simp only [partsS, Bool.and_eq_true] at h
  exact h.1.1

theorem joinL_count (l : List (List UInt8)) : l.length ≤ (joinL l).length + 1 := by
  induction l with
  | nil => simp
  | cons x l ih =>
    cases l with
    | nil => simp
    | cons y l => simp only [joinL, List.length_append, List.length_cons, List.length_nil] at ih ⊢; omega
end Go.Proofs.YtfbpkbochhfnhaaGreatDoor

namespace Go.Proofs.YtfbpkbochhfnhaaGreatDoor
open Go.ChangeShapes Go.WideShapes Go.ChangeAt Go.RowKit Go.Joins
set_option linter.unusedVariables false
set_option maxRecDepth 100000

set_option maxHeartbeats 2000000 in
theorem prS_1 {m : Nat} (hX : TextB 49 m) (B : Nat) (s t : ByteArray) (es : List Ex) (bd el : List Sm) (cs : List Value) (w : World) (hx : SmA B w (m + 1) cs (.mk 1 s t es bd el)) (hB : B ≤ w.heap.size) (hok : okS (m + 1) (.mk 1 s t es bd el)) (hlen : (smT (m + 1) (.mk 1 s t es bd el)).length ≤ 100000000) (hP : Pow w) :
    Calls Tryz.prog 71 #[.agg cs.toArray] w fun e w' => e = .returned (.string (bs (smT (m + 1) (.mk 1 s t es bd el)))) ∧ Below w.heap.size w w' := by
  obtain ⟨v1, v2, v3, rfl, wk, ws, wt, ⟨a1, cap1, rfl, hmax1, hsl1⟩, hv2, hv3⟩ := hx
  obtain ⟨-, -, hpa, hs2, ht2, hall, hallB, hallC⟩ := hok
  have HVB : Hid (SmL B w m v2 bd) := hv2
  have HVC : Hid (SmL B w m v3 el) := hv3
  obtain ⟨a2, cap2, rfl, hmax2, hsl2⟩ := hv2
  obtain ⟨a3, cap3, rfl, hmax3, hsl3⟩ := hv3
  clear hsl2 hsl3
  have hll : es.length = 1 := by have := exprsN_of hpa; simpa [exprsN] using this
  obtain ⟨b, off, rfl, hb, hi⟩ := hsl1 (by omega)
  have hi : Kids B b off m w es := hi
  have HT : Hid (smT (m + 1) (.mk 1 s t es bd el) = s.toList ++ [32, 61, 32] ++ exT m (es.getD 0 default) ++ [59]) := by simp [smT, Hid]
  show Calls Tryz.prog 71 #[.agg #[.int .i64 1, .string s, .string t, .slice (some ⟨b, off, none⟩) es.length cap1, .slice a2 bd.length cap2, .slice a3 el.length cap3]] w _
  rw [hll]
  obtain ⟨k0, n0, s0, a0x, len0, cap0x, p00, p01, p02, p03, hx0, hm0⟩ := kid hi 0 off (by omega) (by omega)
  have hlt := congrArg List.length HT.out
  simp only [List.length_append, List.length_cons, List.length_nil] at hlt
  have hst := toL_len s
  have htt := toL_len t
  have HW : Hid (Below w.heap.size w (w.alloc (.cells #[.int .i64 1, .string s, .string t, .slice (some ⟨b, off, none⟩) 1 cap1, .slice a2 bd.length cap2, .slice a3 el.length cap3] 111))) := (Below.refl _ _).alloc (Nat.le_refl _) _
  have HR : Hid (RowAt (w.alloc (.cells #[.int .i64 1, .string s, .string t, .slice (some ⟨b, off, none⟩) 1 cap1, .slice a2 bd.length cap2, .slice a3 el.length cap3] 111)) w.heap.size #[.int .i64 1, .string s, .string t, .slice (some ⟨b, off, none⟩) 1 cap1, .slice a2 bd.length cap2, .slice a3 el.length cap3]) := RowAt.new w _ _
  obtain ⟨W, hW⟩ : ∃ W, W = w.alloc (.cells #[.int .i64 1, .string s, .string t, .slice (some ⟨b, off, none⟩) 1 cap1, .slice a2 bd.length cap2, .slice a3 el.length cap3] 111) := ⟨_, rfl⟩
  rw [← hW] at HW HR
  have HWW : Hid (W = _) := hW
  clear hW
  have q0 := HR.out.cell 0
  have q1 := HR.out.cell 1
  have q2 := HR.out.cell 2
  have q3 := HR.out.cell 3
  have q4 := HR.out.cell 4
  have q5 := HR.out.cell 5
  simp only [List.getElem?_toArray, List.getElem?_cons_zero, List.getElem?_cons_succ] at q0 q1 q2 q3 q4 q5
  obtain ⟨TE0, hTE0⟩ : ∃ T, T = bs (exT m (es.getD 0 default)) := ⟨_, rfl⟩
  have tE0 : TE0.size = (exT m (es.getD 0 default)).length := by rw [hTE0, bs_size]
  have cE0 := kid_c (exprText_c m) hx0.out HW.out hB (hall _ hm0) (by omega) hP hTE0
  have HE : Hid (s ++ ⟨#[32, 61, 32]⟩ ++ TE0 ++ ⟨#[59]⟩ = bs (smT (m + 1) (.mk 1 s t es bd el))) := bs_of (by rw [HT.out, hTE0]; simp only [toL_append, bs_list, toL_mk, List.append_assoc, List.cons_append, List.nil_append])
  have z1 : ¬ 9223372036854775807 < s.size + 3 := by omega
  have z2 : ¬ 9223372036854775807 < s.size + 3 + TE0.size := by omega
  have z3 : ¬ 9223372036854775807 < s.size + 3 + TE0.size + 1 := by omega
  have hbw : b < w.heap.size := by omega
  have r00 := cell_regrown ((HW.out.cell (p := ⟨b, off, none⟩) hbw).trans p00)
  have r01 := cell_regrown ((HW.out.cell (p := ⟨b, off + 1, none⟩) hbw).trans p01)
  have r02 := cell_regrown ((HW.out.cell (p := ⟨b, off + 2, none⟩) hbw).trans p02)
  have r03 := cell_regrown ((HW.out.cell (p := ⟨b, off + 3, none⟩) hbw).trans p03)
  have Q1 := cell_regrown q1
  have Q3 := cell_regrown q3
  clear hX hall hallB hallC HVB HVC hlt HT hpa hlen hs2 ht2 hP wk ws wt hst htt HR hmax1 hmax2 hmax3 q1 q2 q3 q4 q5 hi hll hsl1 hTE0 tE0 p00 p01 p02 p03 hx0 hm0
  go_enter Tryz.func71, Tryz.ntmps71
  go_wp2_with fail
  rw [← HWW.out]
  clear HWW
  refine wp_region_quiet_below (by kernel_rfl) (by kernel_rfl) ?_
  repeat (go_big_quiet_step (first | with_reducible exact cE0 _ _))
  refine wpQuiet_nil ?_
  intro _ hw'
  obtain ⟨⟨dq, osq⟩, hw''⟩ := hw'
  subst hw''
  go_wp2
  go_ret
  exact ⟨ret_str HE.out, bl_trans HW.out (below_regrown W dq osq)⟩

set_option maxHeartbeats 2000000 in
theorem prS_2 {m : Nat} (hX : TextB 49 m) (B : Nat) (s t : ByteArray) (es : List Ex) (bd el : List Sm) (cs : List Value) (w : World) (hx : SmA B w (m + 1) cs (.mk 2 s t es bd el)) (hB : B ≤ w.heap.size) (hok : okS (m + 1) (.mk 2 s t es bd el)) (hlen : (smT (m + 1) (.mk 2 s t es bd el)).length ≤ 100000000) (hP : Pow w) :
    Calls Tryz.prog 71 #[.agg cs.toArray] w fun e w' => e = .returned (.string (bs (smT (m + 1) (.mk 2 s t es bd el)))) ∧ Below w.heap.size w w' := by
  obtain ⟨v1, v2, v3, rfl, wk, ws, wt, ⟨a1, cap1, rfl, hmax1, hsl1⟩, hv2, hv3⟩ := hx
  obtain ⟨-, -, hpa, hs2, ht2, hall, hallB, hallC⟩ := hok
  have HVB : Hid (SmL B w m v2 bd) := hv2
  have HVC : Hid (SmL B w m v3 el) := hv3
  obtain ⟨a2, cap2, rfl, hmax2, hsl2⟩ := hv2
  obtain ⟨a3, cap3, rfl, hmax3, hsl3⟩ := hv3
  clear hsl2 hsl3
  have hll : es.length = 2 := by have := exprsN_of hpa; simpa [exprsN] using this
  obtain ⟨b, off, rfl, hb, hi⟩ := hsl1 (by omega)
  have hi : Kids B b off m w es := hi
  have HT : Hid (smT (m + 1) (.mk 2 s t es bd el) = s.toList ++ [91] ++ exT m (es.getD 0 default) ++ [93] ++ [32, 61, 32] ++ exT m (es.getD 1 default) ++ [59]) := by simp [smT, Hid]
  show Calls Tryz.prog 71 #[.agg #[.int .i64 2, .string s, .string t, .slice (some ⟨b, off, none⟩) es.length cap1, .slice a2 bd.length cap2, .slice a3 el.length cap3]] w _
  rw [hll]
  obtain ⟨k0, n0, s0, a0x, len0, cap0x, p00, p01, p02, p03, hx0, hm0⟩ := kid hi 0 off (by omega) (by omega)
  obtain ⟨k1, n1, s1, a1x, len1, cap1x, p10, p11, p12, p13, hx1, hm1⟩ := kid hi 1 (off + 4) (by omega) (by omega)
  have hlt := congrArg List.length HT.out
  simp only [List.length_append, List.length_cons, List.length_nil] at hlt
  have hst := toL_len s
  have htt := toL_len t
  have HW : Hid (Below w.heap.size w (w.alloc (.cells #[.int .i64 2, .string s, .string t, .slice (some ⟨b, off, none⟩) 2 cap1, .slice a2 bd.length cap2, .slice a3 el.length cap3] 111))) := (Below.refl _ _).alloc (Nat.le_refl _) _
  have HR : Hid (RowAt (w.alloc (.cells #[.int .i64 2, .string s, .string t, .slice (some ⟨b, off, none⟩) 2 cap1, .slice a2 bd.length cap2, .slice a3 el.length cap3] 111)) w.heap.size #[.int .i64 2, .string s, .string t, .slice (some ⟨b, off, none⟩) 2 cap1, .slice a2 bd.length cap2, .slice a3 el.length cap3]) := RowAt.new w _ _
  obtain ⟨W, hW⟩ : ∃ W, W = w.alloc (.cells #[.int .i64 2, .string s, .string t, .slice (some ⟨b, off, none⟩) 2 cap1, .slice a2 bd.length cap2, .slice a3 el.length cap3] 111) := ⟨_, rfl⟩
  rw [← hW] at HW HR
  have HWW : Hid (W = _) := hW
  clear hW
  have q0 := HR.out.cell 0
  have q1 := HR.out.cell 1
  have q2 := HR.out.cell 2
  have q3 := HR.out.cell 3
  have q4 := HR.out.cell 4
  have q5 := HR.out.cell 5
  simp only [List.getElem?_toArray, List.getElem?_cons_zero, List.getElem?_cons_succ] at q0 q1 q2 q3 q4 q5
  obtain ⟨TL0, hTL0⟩ : ∃ T, T = bs ((s.toList ++ [91] ++ exT m (es.getD 0 default) ++ [93])) := ⟨_, rfl⟩
  have tL0 : TL0.size = ((s.toList ++ [91] ++ exT m (es.getD 0 default) ++ [93])).length := by rw [hTL0, bs_size]
  obtain ⟨TE1, hTE1⟩ : ∃ T, T = bs (exT m (es.getD 1 default)) := ⟨_, rfl⟩
  have tE1 : TE1.size = (exT m (es.getD 1 default)).length := by rw [hTE1, bs_size]
  simp only [List.length_append, List.length_cons, List.length_nil] at tL0
  have cL0 := elem_k (s := s) hx0.out HW.out hB (hall _ hm0) (by omega) hs2 hP hTL0
  have cE1 := kid_c (exprText_c m) hx1.out HW.out hB (hall _ hm1) (by omega) hP hTE1
  have HE : Hid (TL0 ++ ⟨#[32, 61, 32]⟩ ++ TE1 ++ ⟨#[59]⟩ = bs (smT (m + 1) (.mk 2 s t es bd el))) := bs_of (by rw [HT.out, hTL0, hTE1]; simp only [toL_append, bs_list, toL_mk, List.append_assoc, List.cons_append, List.nil_append])
  have z1 : ¬ 9223372036854775807 < TL0.size + 3 := by omega
  have z2 : ¬ 9223372036854775807 < TL0.size + 3 + TE1.size := by omega
  have z3 : ¬ 9223372036854775807 < TL0.size + 3 + TE1.size + 1 := by omega
  have hbw : b < w.heap.size := by omega
  have r00 := cell_regrown ((HW.out.cell (p := ⟨b, off, none⟩) hbw).trans p00)
  have r01 := cell_regrown ((HW.out.cell (p := ⟨b, off + 1, none⟩) hbw).trans p01)
  have r02 := cell_regrown ((HW.out.cell (p := ⟨b, off + 2, none⟩) hbw).trans p02)
  have r03 := cell_regrown ((HW.out.cell (p := ⟨b, off + 3, none⟩) hbw).trans p03)
  have r10 := cell_regrown ((HW.out.cell (p := ⟨b, off + 4, none⟩) hbw).trans p10)
  have r11 := cell_regrown ((HW.out.cell (p := ⟨b, off + 4 + 1, none⟩) hbw).trans p11)
  have r12 := cell_regrown ((HW.out.cell (p := ⟨b, off + 4 + 2, none⟩) hbw).trans p12)
  have r13 := cell_regrown ((HW.out.cell (p := ⟨b, off + 4 + 3, none⟩) hbw).trans p13)
  have Q1 := cell_regrown q1
  have Q3 := cell_regrown q3
  clear hX hall hallB hallC HVB HVC hlt HT hpa hlen hs2 ht2 hP wk ws wt hst htt HR hmax1 hmax2 hmax3 q1 q2 q3 q4 q5 hi hll hsl1 hTL0 tL0 hTE1 tE1 p00 p01 p02 p03 hx0 hm0 p10 p11 p12 p13 hx1 hm1
  go_enter Tryz.func71, Tryz.ntmps71
  go_wp2_with fail
  rw [← HWW.out]
  clear HWW
  refine wp_region_quiet_below (by kernel_rfl) (by kernel_rfl) ?_
  repeat (go_big_quiet_step (first | with_reducible exact cL0 _ _ | with_reducible exact cE1 _ _))
  refine wpQuiet_nil ?_
  intro _ hw'
  obtain ⟨⟨dq, osq⟩, hw''⟩ := hw'
  subst hw''
  go_wp2
  go_ret
  exact ⟨ret_str HE.out, bl_trans HW.out (below_regrown W dq osq)⟩

set_option maxHeartbeats 2000000 in
theorem prS_3 {m : Nat} (hX : TextB 49 m) (B : Nat) (s t : ByteArray) (es : List Ex) (bd el : List Sm) (cs : List Value) (w : World) (hx : SmA B w (m + 1) cs (.mk 3 s t es bd el)) (hB : B ≤ w.heap.size) (hok : okS (m + 1) (.mk 3 s t es bd el)) (hlen : (smT (m + 1) (.mk 3 s t es bd el)).length ≤ 100000000) (hP : Pow w) :
    Calls Tryz.prog 71 #[.agg cs.toArray] w fun e w' => e = .returned (.string (bs (smT (m + 1) (.mk 3 s t es bd el)))) ∧ Below w.heap.size w w' := by
  obtain ⟨v1, v2, v3, rfl, wk, ws, wt, ⟨a1, cap1, rfl, hmax1, hsl1⟩, hv2, hv3⟩ := hx
  obtain ⟨-, -, hpa, hs2, ht2, hall, hallB, hallC⟩ := hok
  have HVB : Hid (SmL B w m v2 bd) := hv2
  have HVC : Hid (SmL B w m v3 el) := hv3
  obtain ⟨a2, cap2, rfl, hmax2, hsl2⟩ := hv2
  obtain ⟨a3, cap3, rfl, hmax3, hsl3⟩ := hv3
  clear hsl2 hsl3
  have hll : es.length = 2 := by have := exprsN_of hpa; simpa [exprsN] using this
  obtain ⟨b, off, rfl, hb, hi⟩ := hsl1 (by omega)
  have hi : Kids B b off m w es := hi
  have HT : Hid (smT (m + 1) (.mk 3 s t es bd el) = [36] ++ exT m (es.getD 0 default) ++ [32, 61, 32] ++ exT m (es.getD 1 default) ++ [59]) := by simp [smT, Hid]
  show Calls Tryz.prog 71 #[.agg #[.int .i64 3, .string s, .string t, .slice (some ⟨b, off, none⟩) es.length cap1, .slice a2 bd.length cap2, .slice a3 el.length cap3]] w _
  rw [hll]
  obtain ⟨k0, n0, s0, a0x, len0, cap0x, p00, p01, p02, p03, hx0, hm0⟩ := kid hi 0 off (by omega) (by omega)
  obtain ⟨k1, n1, s1, a1x, len1, cap1x, p10, p11, p12, p13, hx1, hm1⟩ := kid hi 1 (off + 4) (by omega) (by omega)
  have hlt := congrArg List.length HT.out
  simp only [List.length_append, List.length_cons, List.length_nil] at hlt
  have hst := toL_len s
  have htt := toL_len t
  have HW : Hid (Below w.heap.size w (w.alloc (.cells #[.int .i64 3, .string s, .string t, .slice (some ⟨b, off, none⟩) 2 cap1, .slice a2 bd.length cap2, .slice a3 el.length cap3] 111))) := (Below.refl _ _).alloc (Nat.le_refl _) _
  have HR : Hid (RowAt (w.alloc (.cells #[.int .i64 3, .string s, .string t, .slice (some ⟨b, off, none⟩) 2 cap1, .slice a2 bd.length cap2, .slice a3 el.length cap3] 111)) w.heap.size #[.int .i64 3, .string s, .string t, .slice (some ⟨b, off, none⟩) 2 cap1, .slice a2 bd.length cap2, .slice a3 el.length cap3]) := RowAt.new w _ _
  obtain ⟨W, hW⟩ : ∃ W, W = w.alloc (.cells #[.int .i64 3, .string s, .string t, .slice (some ⟨b, off, none⟩) 2 cap1, .slice a2 bd.length cap2, .slice a3 el.length cap3] 111) := ⟨_, rfl⟩
  rw [← hW] at HW HR
  have HWW : Hid (W = _) := hW
  clear hW
  have q0 := HR.out.cell 0
  have q1 := HR.out.cell 1
  have q2 := HR.out.cell 2
  have q3 := HR.out.cell 3
  have q4 := HR.out.cell 4
  have q5 := HR.out.cell 5
  simp only [List.getElem?_toArray, List.getElem?_cons_zero, List.getElem?_cons_succ] at q0 q1 q2 q3 q4 q5
  obtain ⟨TE0, hTE0⟩ : ∃ T, T = bs (exT m (es.getD 0 default)) := ⟨_, rfl⟩
  have tE0 : TE0.size = (exT m (es.getD 0 default)).length := by rw [hTE0, bs_size]
  obtain ⟨TE1, hTE1⟩ : ∃ T, T = bs (exT m (es.getD 1 default)) := ⟨_, rfl⟩
  have tE1 : TE1.size = (exT m (es.getD 1 default)).length := by rw [hTE1, bs_size]
  have cE0 := kid_c (exprText_c m) hx0.out HW.out hB (hall _ hm0) (by omega) hP hTE0
  have cE1 := kid_c (exprText_c m) hx1.out HW.out hB (hall _ hm1) (by omega) hP hTE1
  have HE : Hid (⟨#[36]⟩ ++ TE0 ++ ⟨#[32, 61, 32]⟩ ++ TE1 ++ ⟨#[59]⟩ = bs (smT (m + 1) (.mk 3 s t es bd el))) := bs_of (by rw [HT.out, hTE0, hTE1]; simp only [toL_append, bs_list, toL_mk, List.append_assoc, List.cons_append, List.nil_append])
  have z1 : ¬ 9223372036854775807 < 1 + TE0.size := by omega
  have z2 : ¬ 9223372036854775807 < 1 + TE0.size + 3 := by omega
  have z3 : ¬ 9223372036854775807 < 1 + TE0.size + 3 + TE1.size := by omega
  have z4 : ¬ 9223372036854775807 < 1 + TE0.size + 3 + TE1.size + 1 := by omega
  have hbw : b < w.heap.size := by omega
  have r00 := cell_regrown ((HW.out.cell (p := ⟨b, off, none⟩) hbw).trans p00)
  have r01 := cell_regrown ((HW.out.cell (p := ⟨b, off + 1, none⟩) hbw).trans p01)
  have r02 := cell_regrown ((HW.out.cell (p := ⟨b, off + 2, none⟩) hbw).trans p02)
  have r03 := cell_regrown ((HW.out.cell (p := ⟨b, off + 3, none⟩) hbw).trans p03)
  have r10 := cell_regrown ((HW.out.cell (p := ⟨b, off + 4, none⟩) hbw).trans p10)
  have r11 := cell_regrown ((HW.out.cell (p := ⟨b, off + 4 + 1, none⟩) hbw).trans p11)
  have r12 := cell_regrown ((HW.out.cell (p := ⟨b, off + 4 + 2, none⟩) hbw).trans p12)
  have r13 := cell_regrown ((HW.out.cell (p := ⟨b, off + 4 + 3, none⟩) hbw).trans p13)
  have Q3 := cell_regrown q3
  clear hX hall hallB hallC HVB HVC hlt HT hpa hlen hs2 ht2 hP wk ws wt hst htt HR hmax1 hmax2 hmax3 q1 q2 q3 q4 q5 hi hll hsl1 hTE0 tE0 hTE1 tE1 p00 p01 p02 p03 hx0 hm0 p10 p11 p12 p13 hx1 hm1
  go_enter Tryz.func71, Tryz.ntmps71
  go_wp2_with fail
  rw [← HWW.out]
  clear HWW
  refine wp_region_quiet_below (by kernel_rfl) (by kernel_rfl) ?_
  repeat (go_big_quiet_step (first | with_reducible exact cE0 _ _ | with_reducible exact cE1 _ _))
  refine wpQuiet_nil ?_
  intro _ hw'
  obtain ⟨⟨dq, osq⟩, hw''⟩ := hw'
  subst hw''
  go_wp2
  go_ret
  exact ⟨ret_str HE.out, bl_trans HW.out (below_regrown W dq osq)⟩

set_option maxHeartbeats 2000000 in
theorem prS_8 {m : Nat} (hX : TextB 49 m) (B : Nat) (s t : ByteArray) (es : List Ex) (bd el : List Sm) (cs : List Value) (w : World) (hx : SmA B w (m + 1) cs (.mk 8 s t es bd el)) (hB : B ≤ w.heap.size) (hok : okS (m + 1) (.mk 8 s t es bd el)) (hlen : (smT (m + 1) (.mk 8 s t es bd el)).length ≤ 100000000) (hP : Pow w) :
    Calls Tryz.prog 71 #[.agg cs.toArray] w fun e w' => e = .returned (.string (bs (smT (m + 1) (.mk 8 s t es bd el)))) ∧ Below w.heap.size w w' := by
  obtain ⟨v1, v2, v3, rfl, wk, ws, wt, ⟨a1, cap1, rfl, hmax1, hsl1⟩, hv2, hv3⟩ := hx
  obtain ⟨-, -, hpa, hs2, ht2, hall, hallB, hallC⟩ := hok
  have HVB : Hid (SmL B w m v2 bd) := hv2
  have HVC : Hid (SmL B w m v3 el) := hv3
  obtain ⟨a2, cap2, rfl, hmax2, hsl2⟩ := hv2
  obtain ⟨a3, cap3, rfl, hmax3, hsl3⟩ := hv3
  clear hsl2 hsl3
  have HT : Hid (smT (m + 1) (.mk 8 s t es bd el) = [110, 101, 120, 116, 59]) := by simp [smT, Hid]
  show Calls Tryz.prog 71 #[.agg #[.int .i64 8, .string s, .string t, .slice a1 es.length cap1, .slice a2 bd.length cap2, .slice a3 el.length cap3]] w _
  have hlt := congrArg List.length HT.out
  simp only [List.length_cons, List.length_nil] at hlt
  have hst := toL_len s
  have htt := toL_len t
  have HW : Hid (Below w.heap.size w (w.alloc (.cells #[.int .i64 8, .string s, .string t, .slice a1 es.length cap1, .slice a2 bd.length cap2, .slice a3 el.length cap3] 111))) := (Below.refl _ _).alloc (Nat.le_refl _) _
  have HR : Hid (RowAt (w.alloc (.cells #[.int .i64 8, .string s, .string t, .slice a1 es.length cap1, .slice a2 bd.length cap2, .slice a3 el.length cap3] 111)) w.heap.size #[.int .i64 8, .string s, .string t, .slice a1 es.length cap1, .slice a2 bd.length cap2, .slice a3 el.length cap3]) := RowAt.new w _ _
  obtain ⟨W, hW⟩ : ∃ W, W = w.alloc (.cells #[.int .i64 8, .string s, .string t, .slice a1 es.length cap1, .slice a2 bd.length cap2, .slice a3 el.length cap3] 111) := ⟨_, rfl⟩
  rw [← hW] at HW HR
  have HWW : Hid (W = _) := hW
  clear hW
  have q0 := HR.out.cell 0
  have q1 := HR.out.cell 1
  have q2 := HR.out.cell 2
  have q3 := HR.out.cell 3
  have q4 := HR.out.cell 4
  have q5 := HR.out.cell 5
  simp only [List.getElem?_toArray, List.getElem?_cons_zero, List.getElem?_cons_succ] at q0 q1 q2 q3 q4 q5
  have HE : Hid (⟨#[110, 101, 120, 116, 59]⟩ = bs (smT (m + 1) (.mk 8 s t es bd el))) := by rw [HT.out]; rfl
  clear hX hall hallB hallC HVB HVC hlt HT hpa hlen hs2 ht2 hP wk ws wt hst htt HR hmax1 hmax2 hmax3 q1 q2 q3 q4 q5 hsl1  
  go_enter Tryz.func71, Tryz.ntmps71
  go_wp2_with fail
  go_ret
  refine ⟨ret_str HE.out, ?_⟩
  rw [← HWW.out]
  exact HW.out

set_option maxHeartbeats 2000000 in
theorem prS_4 {m : Nat} (hX : TextB 49 m) (B : Nat) (s t : ByteArray) (es : List Ex) (bd el : List Sm) (cs : List Value) (w : World) (hx : SmA B w (m + 1) cs (.mk 4 s t es bd el)) (hB : B ≤ w.heap.size) (hok : okS (m + 1) (.mk 4 s t es bd el)) (hlen : (smT (m + 1) (.mk 4 s t es bd el)).length ≤ 100000000) (hP : Pow w) :
    Calls Tryz.prog 71 #[.agg cs.toArray] w fun e w' => e = .returned (.string (bs (smT (m + 1) (.mk 4 s t es bd el)))) ∧ Below w.heap.size w w' := by
  obtain ⟨v1, v2, v3, rfl, wk, ws, wt, ⟨a1, cap1, rfl, hmax1, hsl1⟩, hv2, hv3⟩ := hx
  obtain ⟨-, -, hpa, hs2, ht2, hall, hallB, hallC⟩ := hok
  have HVB : Hid (SmL B w m v2 bd) := hv2
  have HVC : Hid (SmL B w m v3 el) := hv3
  obtain ⟨a2, cap2, rfl, hmax2, hsl2⟩ := hv2
  obtain ⟨a3, cap3, rfl, hmax3, hsl3⟩ := hv3
  clear hsl2 hsl3
  have hl0 : 0 < es.length := by have := exprsN_of hpa; simp [exprsN] at this; omega
  have HT : Hid (smT (m + 1) (.mk 4 s t es bd el) = [112, 114, 105, 110, 116, 32] ++ joinL (es.map (exT m)) ++ [59]) := by simp [smT, Hid]
  show Calls Tryz.prog 71 #[.agg #[.int .i64 4, .string s, .string t, .slice a1 es.length cap1, .slice a2 bd.length cap2, .slice a3 el.length cap3]] w _
  have hlt := congrArg List.length HT.out
  simp only [List.length_append, List.length_cons, List.length_nil] at hlt
  have hcount := joinL_count (es.map (exT m))
  rw [List.length_map] at hcount
  have HW : Hid (Below w.heap.size w (w.alloc (.cells #[.int .i64 4, .string s, .string t, .slice a1 es.length cap1, .slice a2 bd.length cap2, .slice a3 el.length cap3] 111))) := (Below.refl _ _).alloc (Nat.le_refl _) _
  have HR : Hid (RowAt (w.alloc (.cells #[.int .i64 4, .string s, .string t, .slice a1 es.length cap1, .slice a2 bd.length cap2, .slice a3 el.length cap3] 111)) w.heap.size #[.int .i64 4, .string s, .string t, .slice a1 es.length cap1, .slice a2 bd.length cap2, .slice a3 el.length cap3]) := RowAt.new w _ _
  obtain ⟨W, hW⟩ : ∃ W, W = w.alloc (.cells #[.int .i64 4, .string s, .string t, .slice a1 es.length cap1, .slice a2 bd.length cap2, .slice a3 el.length cap3] 111) := ⟨_, rfl⟩
  rw [← hW] at HW HR
  have HWW : Hid (W = _) := hW
  clear hW
  obtain ⟨T0, hT0⟩ : ∃ T, T = bs (joinL (es.map (exT m))) := ⟨_, rfl⟩
  have t0 : T0.size = (joinL (es.map (exT m))).length := by rw [hT0, bs_size]
  have HC : Hid (Calls Tryz.prog 74 #[.slice a1 es.length cap1] W fun e w' => e = .returned (.string T0) ∧ Below W.heap.size W w') := by
    rw [hT0]
    exact exprsText_c (exprText_c m) B es _ _ (Sl.below (show Sl w B 4 (.slice a1 es.length cap1) es.length _ from ⟨a1, cap1, rfl, hmax1, hsl1⟩) (HW.out.mono hB) fun i c ⟨x, h1, h2⟩ => ⟨x, h1, h2.below (HW.out.mono hB)⟩) (Nat.le_trans hB HW.out.size) hall (by omega) (by omega) hl0 (hP.stays HW.out)
  have HE : Hid (⟨#[112, 114, 105, 110, 116, 32]⟩ ++ T0 ++ ⟨#[59]⟩ = bs (smT (m + 1) (.mk 4 s t es bd el))) := bs_of (by rw [HT.out, hT0]; simp only [toL_append, bs_list, toL_mk])
  have z1 : ¬ 9223372036854775807 < 6 + T0.size := by omega
  have z2 : ¬ 9223372036854775807 < 6 + T0.size + 1 := by omega
  clear hX hall hallB hallC HVB HVC hlt HT hpa hlen hs2 ht2 hP wk ws wt HR hmax1 hmax2 hmax3 hsl1 hl0 hcount hT0 t0
  go_enter Tryz.func71, Tryz.ntmps71
  go_wp2_with fail
  rw [← HWW.out]
  clear HWW
  refine Calls.mono HC.out ?_
  rintro e w1 ⟨rfl, hb1⟩
  have HB1 : Hid (Below w.heap.size w w1) := bl_trans HW.out hb1
  clear hb1 HC
  go_wp2_with fail
  go_ret
  exact ⟨ret_str HE.out, HB1.out⟩

set_option maxHeartbeats 2000000 in
theorem prS_5 {m : Nat} (hX : TextB 49 m) (B : Nat) (s t : ByteArray) (es : List Ex) (bd el : List Sm) (cs : List Value) (w : World) (hx : SmA B w (m + 1) cs (.mk 5 s t es bd el)) (hB : B ≤ w.heap.size) (hok : okS (m + 1) (.mk 5 s t es bd el)) (hlen : (smT (m + 1) (.mk 5 s t es bd el)).length ≤ 100000000) (hP : Pow w) :
    Calls Tryz.prog 71 #[.agg cs.toArray] w fun e w' => e = .returned (.string (bs (smT (m + 1) (.mk 5 s t es bd el)))) ∧ Below w.heap.size w w' := by
  obtain ⟨v1, v2, v3, rfl, wk, ws, wt, ⟨a1, cap1, rfl, hmax1, hsl1⟩, hv2, hv3⟩ := hx
  obtain ⟨-, -, hpa, hs2, ht2, hall, hallB, hallC⟩ := hok
  have HVB : Hid (SmL B w m v2 bd) := hv2
  have HVC : Hid (SmL B w m v3 el) := hv3
  obtain ⟨a2, cap2, rfl, hmax2, hsl2⟩ := hv2
  obtain ⟨a3, cap3, rfl, hmax3, hsl3⟩ := hv3
  clear hsl2 hsl3
  have hll : es.length = 1 := by have := exprsN_of hpa; simpa [exprsN] using this
  obtain ⟨b, off, rfl, hb, hi⟩ := hsl1 (by omega)
  have hi : Kids B b off m w es := hi
  have HT : Hid (smT (m + 1) (.mk 5 s t es bd el) = [105, 102, 32, 40] ++ exT m (es.getD 0 default) ++ [41, 32] ++ blL (smT m) bd ++ [32, 101, 108, 115, 101, 32] ++ blL (smT m) el) := by simp [smT, Hid]
  show Calls Tryz.prog 71 #[.agg #[.int .i64 5, .string s, .string t, .slice (some ⟨b, off, none⟩) es.length cap1, .slice a2 bd.length cap2, .slice a3 el.length cap3]] w _
  rw [hll]
  obtain ⟨k0, n0, s0, a0x, len0, cap0x, p00, p01, p02, p03, hx0, hm0⟩ := kid hi 0 off (by omega) (by omega)
  have hlt := congrArg List.length HT.out
  simp only [List.length_append, List.length_cons, List.length_nil] at hlt
  have hst := toL_len s
  have htt := toL_len t
  have HW : Hid (Below w.heap.size w (w.alloc (.cells #[.int .i64 5, .string s, .string t, .slice (some ⟨b, off, none⟩) 1 cap1, .slice a2 bd.length cap2, .slice a3 el.length cap3] 111))) := (Below.refl _ _).alloc (Nat.le_refl _) _
  have HR : Hid (RowAt (w.alloc (.cells #[.int .i64 5, .string s, .string t, .slice (some ⟨b, off, none⟩) 1 cap1, .slice a2 bd.length cap2, .slice a3 el.length cap3] 111)) w.heap.size #[.int .i64 5, .string s, .string t, .slice (some ⟨b, off, none⟩) 1 cap1, .slice a2 bd.length cap2, .slice a3 el.length cap3]) := RowAt.new w _ _
  obtain ⟨W, hW⟩ : ∃ W, W = w.alloc (.cells #[.int .i64 5, .string s, .string t, .slice (some ⟨b, off, none⟩) 1 cap1, .slice a2 bd.length cap2, .slice a3 el.length cap3] 111) := ⟨_, rfl⟩
  rw [← hW] at HW HR
  have HWW : Hid (W = _) := hW
  clear hW
  have q0 := HR.out.cell 0
  have q1 := HR.out.cell 1
  have q2 := HR.out.cell 2
  have q3 := HR.out.cell 3
  have q4 := HR.out.cell 4
  have q5 := HR.out.cell 5
  simp only [List.getElem?_toArray, List.getElem?_cons_zero, List.getElem?_cons_succ] at q0 q1 q2 q3 q4 q5
  obtain ⟨TE0, hTE0⟩ : ∃ T, T = bs (exT m (es.getD 0 default)) := ⟨_, rfl⟩
  have tE0 : TE0.size = (exT m (es.getD 0 default)).length := by rw [hTE0, bs_size]
  obtain ⟨TB, hTB⟩ : ∃ T, T = bs (blL (smT m) bd) := ⟨_, rfl⟩
  have tB : TB.size = (blL (smT m) bd).length := by rw [hTB, bs_size]
  obtain ⟨TC, hTC⟩ : ∃ T, T = bs (blL (smT m) el) := ⟨_, rfl⟩
  have tC : TC.size = (blL (smT m) el).length := by rw [hTC, bs_size]
  have cE0 := kid_c (exprText_c m) hx0.out HW.out hB (hall _ hm0) (by omega) hP hTE0
  have cB := blk_k hX HVB.out HW.out hB hallB (by omega) hP hTB
  have cC := blk_k hX HVC.out HW.out hB hallC (by omega) hP hTC
  have HE : Hid (⟨#[105, 102, 32, 40]⟩ ++ TE0 ++ ⟨#[41, 32]⟩ ++ TB ++ ⟨#[32, 101, 108, 115, 101, 32]⟩ ++ TC = bs (smT (m + 1) (.mk 5 s t es bd el))) := bs_of (by rw [HT.out, hTE0, hTB, hTC]; simp only [toL_append, bs_list, toL_mk, List.append_assoc, List.cons_append, List.nil_append])
  have z1 : ¬ 9223372036854775807 < 4 + TE0.size := by omega
  have z2 : ¬ 9223372036854775807 < 4 + TE0.size + 2 := by omega
  have z3 : ¬ 9223372036854775807 < 4 + TE0.size + 2 + TB.size := by omega
  have z4 : ¬ 9223372036854775807 < 4 + TE0.size + 2 + TB.size + 6 := by omega
  have z5 : ¬ 9223372036854775807 < 4 + TE0.size + 2 + TB.size + 6 + TC.size := by omega
  have hbw : b < w.heap.size := by omega
  have r00 := cell_regrown ((HW.out.cell (p := ⟨b, off, none⟩) hbw).trans p00)
  have r01 := cell_regrown ((HW.out.cell (p := ⟨b, off + 1, none⟩) hbw).trans p01)
  have r02 := cell_regrown ((HW.out.cell (p := ⟨b, off + 2, none⟩) hbw).trans p02)
  have r03 := cell_regrown ((HW.out.cell (p := ⟨b, off + 3, none⟩) hbw).trans p03)
  have Q3 := cell_regrown q3
  have Q4 := cell_regrown q4
  have Q5 := cell_regrown q5
  clear hX hall hallB hallC HVB HVC hlt HT hpa hlen hs2 ht2 hP wk ws wt hst htt HR hmax1 hmax2 hmax3 q1 q2 q3 q4 q5 hi hll hsl1 hTE0 tE0 hTB tB hTC tC p00 p01 p02 p03 hx0 hm0
  go_enter Tryz.func71, Tryz.ntmps71
  go_wp2_with fail
  rw [← HWW.out]
  clear HWW
  refine wp_region_quiet_below (by kernel_rfl) (by kernel_rfl) ?_
  repeat (go_big_quiet_step (first | with_reducible exact cE0 _ _ | with_reducible exact cB _ _ | with_reducible exact cC _ _))
  refine wpQuiet_nil ?_
  intro _ hw'
  obtain ⟨⟨dq, osq⟩, hw''⟩ := hw'
  subst hw''
  go_wp2
  go_ret
  exact ⟨ret_str HE.out, bl_trans HW.out (below_regrown W dq osq)⟩

set_option maxHeartbeats 2000000 in
theorem prS_6 {m : Nat} (hX : TextB 49 m) (B : Nat) (s t : ByteArray) (es : List Ex) (bd el : List Sm) (cs : List Value) (w : World) (hx : SmA B w (m + 1) cs (.mk 6 s t es bd el)) (hB : B ≤ w.heap.size) (hok : okS (m + 1) (.mk 6 s t es bd el)) (hlen : (smT (m + 1) (.mk 6 s t es bd el)).length ≤ 100000000) (hP : Pow w) :
    Calls Tryz.prog 71 #[.agg cs.toArray] w fun e w' => e = .returned (.string (bs (smT (m + 1) (.mk 6 s t es bd el)))) ∧ Below w.heap.size w w' := by
  obtain ⟨v1, v2, v3, rfl, wk, ws, wt, ⟨a1, cap1, rfl, hmax1, hsl1⟩, hv2, hv3⟩ := hx
  obtain ⟨-, -, hpa, hs2, ht2, hall, hallB, hallC⟩ := hok
  have HVB : Hid (SmL B w m v2 bd) := hv2
  have HVC : Hid (SmL B w m v3 el) := hv3
  obtain ⟨a2, cap2, rfl, hmax2, hsl2⟩ := hv2
  obtain ⟨a3, cap3, rfl, hmax3, hsl3⟩ := hv3
  clear hsl2 hsl3
  have hll : es.length = 1 := by have := exprsN_of hpa; simpa [exprsN] using this
  obtain ⟨b, off, rfl, hb, hi⟩ := hsl1 (by omega)
  have hi : Kids B b off m w es := hi
  have HT : Hid (smT (m + 1) (.mk 6 s t es bd el) = [119, 104, 105, 108, 101, 32, 40] ++ exT m (es.getD 0 default) ++ [41, 32] ++ blL (smT m) bd) := by simp [smT, Hid]
  show Calls Tryz.prog 71 #[.agg #[.int .i64 6, .string s, .string t, .slice (some ⟨b, off, none⟩) es.length cap1, .slice a2 bd.length cap2, .slice a3 el.length cap3]] w _
  rw [hll]
  obtain ⟨k0, n0, s0, a0x, len0, cap0x, p00, p01, p02, p03, hx0, hm0⟩ := kid hi 0 off (by omega) (by omega)
  have hlt := congrArg List.length HT.out
  simp only [List.length_append, List.length_cons, List.length_nil] at hlt
  have hst := toL_len s
  have htt := toL_len t
  have HW : Hid (Below w.heap.size w (w.alloc (.cells #[.int .i64 6, .string s, .string t, .slice (some ⟨b, off, none⟩) 1 cap1, .slice a2 bd.length cap2, .slice a3 el.length cap3] 111))) := (Below.refl _ _).alloc (Nat.le_refl _) _
  have HR : Hid (RowAt (w.alloc (.cells #[.int .i64 6, .string s, .string t, .slice (some ⟨b, off, none⟩) 1 cap1, .slice a2 bd.length cap2, .slice a3 el.length cap3] 111)) w.heap.size #[.int .i64 6, .string s, .string t, .slice (some ⟨b, off, none⟩) 1 cap1, .slice a2 bd.length cap2, .slice a3 el.length cap3]) := RowAt.new w _ _
  obtain ⟨W, hW⟩ : ∃ W, W = w.alloc (.cells #[.int .i64 6, .string s, .string t, .slice (some ⟨b, off, none⟩) 1 cap1, .slice a2 bd.length cap2, .slice a3 el.length cap3] 111) := ⟨_, rfl⟩
  rw [← hW] at HW HR
  have HWW : Hid (W = _) := hW
  clear hW
  have q0 := HR.out.cell 0
  have q1 := HR.out.cell 1
  have q2 := HR.out.cell 2
  have q3 := HR.out.cell 3
  have q4 := HR.out.cell 4
  have q5 := HR.out.cell 5
  simp only [List.getElem?_toArray, List.getElem?_cons_zero, List.getElem?_cons_succ] at q0 q1 q2 q3 q4 q5
  obtain ⟨TE0, hTE0⟩ : ∃ T, T = bs (exT m (es.getD 0 default)) := ⟨_, rfl⟩
  have tE0 : TE0.size = (exT m (es.getD 0 default)).length := by rw [hTE0, bs_size]
  obtain ⟨TB, hTB⟩ : ∃ T, T = bs (blL (smT m) bd) := ⟨_, rfl⟩
  have tB : TB.size = (blL (smT m) bd).length := by rw [hTB, bs_size]
  have cE0 := kid_c (exprText_c m) hx0.out HW.out hB (hall _ hm0) (by omega) hP hTE0
  have cB := blk_k hX HVB.out HW.out hB hallB (by omega) hP hTB
  have HE : Hid (⟨#[119, 104, 105, 108, 101, 32, 40]⟩ ++ TE0 ++ ⟨#[41, 32]⟩ ++ TB = bs (smT (m + 1) (.mk 6 s t es bd el))) := bs_of (by rw [HT.out, hTE0, hTB]; simp only [toL_append, bs_list, toL_mk, List.append_assoc, List.cons_append, List.nil_append])
  have z1 : ¬ 9223372036854775807 < 7 + TE0.size := by omega
  have z2 : ¬ 9223372036854775807 < 7 + TE0.size + 2 := by omega
  have z3 : ¬ 9223372036854775807 < 7 + TE0.size + 2 + TB.size := by omega
  have hbw : b < w.heap.size := by omega
  have r00 := cell_regrown ((HW.out.cell (p := ⟨b, off, none⟩) hbw).trans p00)
  have r01 := cell_regrown ((HW.out.cell (p := ⟨b, off + 1, none⟩) hbw).trans p01)
  have r02 := cell_regrown ((HW.out.cell (p := ⟨b, off + 2, none⟩) hbw).trans p02)
  have r03 := cell_regrown ((HW.out.cell (p := ⟨b, off + 3, none⟩) hbw).trans p03)
  have Q3 := cell_regrown q3
  have Q4 := cell_regrown q4
  clear hX hall hallB hallC HVB HVC hlt HT hpa hlen hs2 ht2 hP wk ws wt hst htt HR hmax1 hmax2 hmax3 q1 q2 q3 q4 q5 hi hll hsl1 hTE0 tE0 hTB tB p00 p01 p02 p03 hx0 hm0
  go_enter Tryz.func71, Tryz.ntmps71
  go_wp2_with fail
  rw [← HWW.out]
  clear HWW
  refine wp_region_quiet_below (by kernel_rfl) (by kernel_rfl) ?_
  repeat (go_big_quiet_step (first | with_reducible exact cE0 _ _ | with_reducible exact cB _ _))
  refine wpQuiet_nil ?_
  intro _ hw'
  obtain ⟨⟨dq, osq⟩, hw''⟩ := hw'
  subst hw''
  go_wp2
  go_ret
  exact ⟨ret_str HE.out, bl_trans HW.out (below_regrown W dq osq)⟩

set_option maxHeartbeats 2000000 in
theorem prS_7 {m : Nat} (hX : TextB 49 m) (B : Nat) (s t : ByteArray) (es : List Ex) (bd el : List Sm) (cs : List Value) (w : World) (hx : SmA B w (m + 1) cs (.mk 7 s t es bd el)) (hB : B ≤ w.heap.size) (hok : okS (m + 1) (.mk 7 s t es bd el)) (hlen : (smT (m + 1) (.mk 7 s t es bd el)).length ≤ 100000000) (hP : Pow w) :
    Calls Tryz.prog 71 #[.agg cs.toArray] w fun e w' => e = .returned (.string (bs (smT (m + 1) (.mk 7 s t es bd el)))) ∧ Below w.heap.size w w' := by
  obtain ⟨v1, v2, v3, rfl, wk, ws, wt, ⟨a1, cap1, rfl, hmax1, hsl1⟩, hv2, hv3⟩ := hx
  obtain ⟨-, -, hpa, hs2, ht2, hall, hallB, hallC⟩ := hok
  have HVB : Hid (SmL B w m v2 bd) := hv2
  have HVC : Hid (SmL B w m v3 el) := hv3
  obtain ⟨a2, cap2, rfl, hmax2, hsl2⟩ := hv2
  obtain ⟨a3, cap3, rfl, hmax3, hsl3⟩ := hv3
  clear hsl2 hsl3
  have HT : Hid (smT (m + 1) (.mk 7 s t es bd el) = [102, 111, 114, 32, 40] ++ s.toList ++ [32, 105, 110, 32] ++ t.toList ++ [41, 32] ++ blL (smT m) bd) := by simp [smT, Hid]
  show Calls Tryz.prog 71 #[.agg #[.int .i64 7, .string s, .string t, .slice a1 es.length cap1, .slice a2 bd.length cap2, .slice a3 el.length cap3]] w _
  have hlt := congrArg List.length HT.out
  simp only [List.length_append, List.length_cons, List.length_nil] at hlt
  have hst := toL_len s
  have htt := toL_len t
  have HW : Hid (Below w.heap.size w (w.alloc (.cells #[.int .i64 7, .string s, .string t, .slice a1 es.length cap1, .slice a2 bd.length cap2, .slice a3 el.length cap3] 111))) := (Below.refl _ _).alloc (Nat.le_refl _) _
  have HR : Hid (RowAt (w.alloc (.cells #[.int .i64 7, .string s, .string t, .slice a1 es.length cap1, .slice a2 bd.length cap2, .slice a3 el.length cap3] 111)) w.heap.size #[.int .i64 7, .string s, .string t, .slice a1 es.length cap1, .slice a2 bd.length cap2, .slice a3 el.length cap3]) := RowAt.new w _ _
  obtain ⟨W, hW⟩ : ∃ W, W = w.alloc (.cells #[.int .i64 7, .string s, .string t, .slice a1 es.length cap1, .slice a2 bd.length cap2, .slice a3 el.length cap3] 111) := ⟨_, rfl⟩
  rw [← hW] at HW HR
  have HWW : Hid (W = _) := hW
  clear hW
  have q0 := HR.out.cell 0
  have q1 := HR.out.cell 1
  have q2 := HR.out.cell 2
  have q3 := HR.out.cell 3
  have q4 := HR.out.cell 4
  have q5 := HR.out.cell 5
  simp only [List.getElem?_toArray, List.getElem?_cons_zero, List.getElem?_cons_succ] at q0 q1 q2 q3 q4 q5
  obtain ⟨TB, hTB⟩ : ∃ T, T = bs (blL (smT m) bd) := ⟨_, rfl⟩
  have tB : TB.size = (blL (smT m) bd).length := by rw [hTB, bs_size]
  have cB := blk_k hX HVB.out HW.out hB hallB (by omega) hP hTB
  have HE : Hid (⟨#[102, 111, 114, 32, 40]⟩ ++ s ++ ⟨#[32, 105, 110, 32]⟩ ++ t ++ ⟨#[41, 32]⟩ ++ TB = bs (smT (m + 1) (.mk 7 s t es bd el))) := bs_of (by rw [HT.out, hTB]; simp only [toL_append, bs_list, toL_mk, List.append_assoc, List.cons_append, List.nil_append])
  have z1 : ¬ 9223372036854775807 < 5 + s.size := by omega
  have z2 : ¬ 9223372036854775807 < 5 + s.size + 4 := by omega
  have z3 : ¬ 9223372036854775807 < 5 + s.size + 4 + t.size := by omega
  have z4 : ¬ 9223372036854775807 < 5 + s.size + 4 + t.size + 2 := by omega
  have z5 : ¬ 9223372036854775807 < 5 + s.size + 4 + t.size + 2 + TB.size := by omega
  have Q1 := cell_regrown q1
  have Q2 := cell_regrown q2
  have Q4 := cell_regrown q4
  clear hX hall hallB hallC HVB HVC hlt HT hpa hlen hs2 ht2 hP wk ws wt hst htt HR hmax1 hmax2 hmax3 q1 q2 q3 q4 q5 hsl1 hTB tB 
  go_enter Tryz.func71, Tryz.ntmps71
  go_wp2_with fail
  rw [← HWW.out]
  clear HWW
  refine wp_region_quiet_below (by kernel_rfl) (by kernel_rfl) ?_
  repeat (go_big_quiet_step (first | with_reducible exact cB _ _))
  refine wpQuiet_nil ?_
  intro _ hw'
  obtain ⟨⟨dq, osq⟩, hw''⟩ := hw'
  subst hw''
  go_wp2
  go_ret
  exact ⟨ret_str HE.out, bl_trans HW.out (below_regrown W dq osq)⟩

set_option maxHeartbeats 2000000 in
theorem prS_9 {m : Nat} (hX : TextB 49 m) (B : Nat) (s t : ByteArray) (es : List Ex) (bd el : List Sm) (cs : List Value) (w : World) (hx : SmA B w (m + 1) cs (.mk 9 s t es bd el)) (hB : B ≤ w.heap.size) (hok : okS (m + 1) (.mk 9 s t es bd el)) (hlen : (smT (m + 1) (.mk 9 s t es bd el)).length ≤ 100000000) (hP : Pow w) :
    Calls Tryz.prog 71 #[.agg cs.toArray] w fun e w' => e = .returned (.string (bs (smT (m + 1) (.mk 9 s t es bd el)))) ∧ Below w.heap.size w w' := by
  obtain ⟨v1, v2, v3, rfl, wk, ws, wt, ⟨a1, cap1, rfl, hmax1, hsl1⟩, hv2, hv3⟩ := hx
  obtain ⟨-, -, hpa, hs2, ht2, hall, hallB, hallC⟩ := hok
  have HVB : Hid (SmL B w m v2 bd) := hv2
  have HVC : Hid (SmL B w m v3 el) := hv3
  obtain ⟨a2, cap2, rfl, hmax2, hsl2⟩ := hv2
  obtain ⟨a3, cap3, rfl, hmax3, hsl3⟩ := hv3
  clear hsl2 hsl3
  have hll : es.length = 1 := by have := exprsN_of hpa; simpa [exprsN] using this
  obtain ⟨b, off, rfl, hb, hi⟩ := hsl1 (by omega)
  have hi : Kids B b off m w es := hi
  have HT : Hid (smT (m + 1) (.mk 9 s t es bd el) = [100, 101, 108, 101, 116, 101, 32] ++ s.toList ++ [91] ++ exT m (es.getD 0 default) ++ [93] ++ [59]) := by simp [smT, Hid]
  show Calls Tryz.prog 71 #[.agg #[.int .i64 9, .string s, .string t, .slice (some ⟨b, off, none⟩) es.length cap1, .slice a2 bd.length cap2, .slice a3 el.length cap3]] w _
  rw [hll]
  obtain ⟨k0, n0, s0, a0x, len0, cap0x, p00, p01, p02, p03, hx0, hm0⟩ := kid hi 0 off (by omega) (by omega)
  have hlt := congrArg List.length HT.out
  simp only [List.length_append, List.length_cons, List.length_nil] at hlt
  have hst := toL_len s
  have htt := toL_len t
  have HW : Hid (Below w.heap.size w (w.alloc (.cells #[.int .i64 9, .string s, .string t, .slice (some ⟨b, off, none⟩) 1 cap1, .slice a2 bd.length cap2, .slice a3 el.length cap3] 111))) := (Below.refl _ _).alloc (Nat.le_refl _) _
  have HR : Hid (RowAt (w.alloc (.cells #[.int .i64 9, .string s, .string t, .slice (some ⟨b, off, none⟩) 1 cap1, .slice a2 bd.length cap2, .slice a3 el.length cap3] 111)) w.heap.size #[.int .i64 9, .string s, .string t, .slice (some ⟨b, off, none⟩) 1 cap1, .slice a2 bd.length cap2, .slice a3 el.length cap3]) := RowAt.new w _ _
  obtain ⟨W, hW⟩ : ∃ W, W = w.alloc (.cells #[.int .i64 9, .string s, .string t, .slice (some ⟨b, off, none⟩) 1 cap1, .slice a2 bd.length cap2, .slice a3 el.length cap3] 111) := ⟨_, rfl⟩
  rw [← hW] at HW HR
  have HWW : Hid (W = _) := hW
  clear hW
  have q0 := HR.out.cell 0
  have q1 := HR.out.cell 1
  have q2 := HR.out.cell 2
  have q3 := HR.out.cell 3
  have q4 := HR.out.cell 4
  have q5 := HR.out.cell 5
  simp only [List.getElem?_toArray, List.getElem?_cons_zero, List.getElem?_cons_succ] at q0 q1 q2 q3 q4 q5
  obtain ⟨TL0, hTL0⟩ : ∃ T, T = bs ((s.toList ++ [91] ++ exT m (es.getD 0 default) ++ [93])) := ⟨_, rfl⟩
  have tL0 : TL0.size = ((s.toList ++ [91] ++ exT m (es.getD 0 default) ++ [93])).length := by rw [hTL0, bs_size]
  simp only [List.length_append, List.length_cons, List.length_nil] at tL0
  have cL0 := elem_k (s := s) hx0.out HW.out hB (hall _ hm0) (by omega) hs2 hP hTL0
  have HE : Hid (⟨#[100, 101, 108, 101, 116, 101, 32]⟩ ++ TL0 ++ ⟨#[59]⟩ = bs (smT (m + 1) (.mk 9 s t es bd el))) := bs_of (by rw [HT.out, hTL0]; simp only [toL_append, bs_list, toL_mk, List.append_assoc, List.cons_append, List.nil_append])
  have z1 : ¬ 9223372036854775807 < 7 + TL0.size := by omega
  have z2 : ¬ 9223372036854775807 < 7 + TL0.size + 1 := by omega
  have hbw : b < w.heap.size := by omega
  have r00 := cell_regrown ((HW.out.cell (p := ⟨b, off, none⟩) hbw).trans p00)
  have r01 := cell_regrown ((HW.out.cell (p := ⟨b, off + 1, none⟩) hbw).trans p01)
  have r02 := cell_regrown ((HW.out.cell (p := ⟨b, off + 2, none⟩) hbw).trans p02)
  have r03 := cell_regrown ((HW.out.cell (p := ⟨b, off + 3, none⟩) hbw).trans p03)
  have Q1 := cell_regrown q1
  have Q3 := cell_regrown q3
  clear hX hall hallB hallC HVB HVC hlt HT hpa hlen hs2 ht2 hP wk ws wt hst htt HR hmax1 hmax2 hmax3 q1 q2 q3 q4 q5 hi hll hsl1 hTL0 tL0 p00 p01 p02 p03 hx0 hm0
  go_enter Tryz.func71, Tryz.ntmps71
  go_wp2_with fail
  rw [← HWW.out]
  clear HWW
  refine wp_region_quiet_below (by kernel_rfl) (by kernel_rfl) ?_
  repeat (go_big_quiet_step (first | with_reducible exact cL0 _ _))
  refine wpQuiet_nil ?_
  intro _ hw'
  obtain ⟨⟨dq, osq⟩, hw''⟩ := hw'
  subst hw''
  go_wp2
  go_ret
  exact ⟨ret_str HE.out, bl_trans HW.out (below_regrown W dq osq)⟩

set_option maxHeartbeats 2000000 in
theorem prS_10 {m : Nat} (hX : TextB 49 m) (B : Nat) (s t : ByteArray) (es : List Ex) (bd el : List Sm) (cs : List Value) (w : World) (hx : SmA B w (m + 1) cs (.mk 10 s t es bd el)) (hB : B ≤ w.heap.size) (hok : okS (m + 1) (.mk 10 s t es bd el)) (hlen : (smT (m + 1) (.mk 10 s t es bd el)).length ≤ 100000000) (hP : Pow w) :
    Calls Tryz.prog 71 #[.agg cs.toArray] w fun e w' => e = .returned (.string (bs (smT (m + 1) (.mk 10 s t es bd el)))) ∧ Below w.heap.size w w' := by
  obtain ⟨v1, v2, v3, rfl, wk, ws, wt, ⟨a1, cap1, rfl, hmax1, hsl1⟩, hv2, hv3⟩ := hx
  obtain ⟨-, -, hpa, hs2, ht2, hall, hallB, hallC⟩ := hok
  have HVB : Hid (SmL B w m v2 bd) := hv2
  have HVC : Hid (SmL B w m v3 el) := hv3
  obtain ⟨a2, cap2, rfl, hmax2, hsl2⟩ := hv2
  obtain ⟨a3, cap3, rfl, hmax3, hsl3⟩ := hv3
  clear hsl2 hsl3
  have HT : Hid (smT (m + 1) (.mk 10 s t es bd el) = [108, 111, 97, 100, 32] ++ quoteL t.toList ++ [32] ++ s.toList ++ [59]) := by simp [smT, Hid]
  show Calls Tryz.prog 71 #[.agg #[.int .i64 10, .string s, .string t, .slice a1 es.length cap1, .slice a2 bd.length cap2, .slice a3 el.length cap3]] w _
  have hlt := congrArg List.length HT.out
  simp only [List.length_append, List.length_cons, List.length_nil] at hlt
  have hst := toL_len s
  have htt := toL_len t
  have HW : Hid (Below w.heap.size w (w.alloc (.cells #[.int .i64 10, .string s, .string t, .slice a1 es.length cap1, .slice a2 bd.length cap2, .slice a3 el.length cap3] 111))) := (Below.refl _ _).alloc (Nat.le_refl _) _
  have HR : Hid (RowAt (w.alloc (.cells #[.int .i64 10, .string s, .string t, .slice a1 es.length cap1, .slice a2 bd.length cap2, .slice a3 el.length cap3] 111)) w.heap.size #[.int .i64 10, .string s, .string t, .slice a1 es.length cap1, .slice a2 bd.length cap2, .slice a3 el.length cap3]) := RowAt.new w _ _
  obtain ⟨W, hW⟩ : ∃ W, W = w.alloc (.cells #[.int .i64 10, .string s, .string t, .slice a1 es.length cap1, .slice a2 bd.length cap2, .slice a3 el.length cap3] 111) := ⟨_, rfl⟩
  rw [← hW] at HW HR
  have HWW : Hid (W = _) := hW
  clear hW
  have q0 := HR.out.cell 0
  have q1 := HR.out.cell 1
  have q2 := HR.out.cell 2
  have q3 := HR.out.cell 3
  have q4 := HR.out.cell 4
  have q5 := HR.out.cell 5
  simp only [List.getElem?_toArray, List.getElem?_cons_zero, List.getElem?_cons_succ] at q0 q1 q2 q3 q4 q5
  obtain ⟨TQ, hTQ⟩ : ∃ T, T = bs (quoteL t.toList) := ⟨_, rfl⟩
  have tQ : TQ.size = (quoteL t.toList).length := by rw [hTQ, bs_size]
  have hql := quoteL_len t.toList
  have cQ := quoted_k (W := W) ht2 hTQ
  have HE : Hid (⟨#[108, 111, 97, 100, 32]⟩ ++ TQ ++ ⟨#[32]⟩ ++ s ++ ⟨#[59]⟩ = bs (smT (m + 1) (.mk 10 s t es bd el))) := bs_of (by rw [HT.out, hTQ]; simp only [toL_append, bs_list, toL_mk, List.append_assoc, List.cons_append, List.nil_append])
  have z1 : ¬ 9223372036854775807 < 5 + TQ.size := by omega
  have z2 : ¬ 9223372036854775807 < 5 + TQ.size + 1 := by omega
  have z3 : ¬ 9223372036854775807 < 5 + TQ.size + 1 + s.size := by omega
  have z4 : ¬ 9223372036854775807 < 5 + TQ.size + 1 + s.size + 1 := by omega
  have Q1 := cell_regrown q1
  have Q2 := cell_regrown q2
  clear hX hall hallB hallC HVB HVC hlt HT hpa hlen hs2 ht2 hP wk ws wt hst htt HR hmax1 hmax2 hmax3 q1 q2 q3 q4 q5 hsl1 hTQ tQ  hql
  go_enter Tryz.func71, Tryz.ntmps71
  go_wp2_with fail
  rw [← HWW.out]
  clear HWW
  refine wp_region_quiet_below (by kernel_rfl) (by kernel_rfl) ?_
  repeat (go_big_quiet_step (first | with_reducible exact cQ _ _))
  refine wpQuiet_nil ?_
  intro _ hw'
  obtain ⟨⟨dq, osq⟩, hw''⟩ := hw'
  subst hw''
  go_wp2
  go_ret
  exact ⟨ret_str HE.out, bl_trans HW.out (below_regrown W dq osq)⟩
end Go.Proofs.YtfbpkbochhfnhaaGreatDoor
