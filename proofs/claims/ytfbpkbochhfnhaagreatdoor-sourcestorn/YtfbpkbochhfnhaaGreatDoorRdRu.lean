/-
  Contract of the reader's rule.
-/
import Derived.Test.YtfbpkbochhfnhaaGreatDoorRdBl
import Derived.Deep.RegionWith
import Derived.OwnWalk
namespace Go.Proofs.YtfbpkbochhfnhaaGreatDoor
open Go.ChangeShapes Go.WideShapes Go.ChangeAt Go.RowKit Go.Joins Go.Maps
set_option linter.unusedVariables false


/-- A rule comes back in its box. -/
theorem outRu {r n h : Nat} {o : Int} {w w3 : World} {R : Rd Ru} {x : Ru} {p3 : List Pc} {a b c d e f i : Value} (hR : R = .ok (x, p3)) (hb : But r r w w3) (hr : r < w.heap.size) (h3 : Rdr r w3 o p3) (hl : p3.length < n) (hx : RuP (fun b => w.heap.size + 1 ≤ b) w3 h [a, b, c, d, e, f, i] x) (hh : h ≤ n - p3.length) :
    OutR r o w R (KR w n) (.returned (.agg #[a, b, c, d, e, f, i])) (set7 w3 w.heap.size a b c d e f i) := by
  have hw := Wrote.seven w3 w.heap.size a b c d e f i
  refine ⟨hw.but hb (Nat.le_refl _), ?_⟩
  rw [hR]
  exact ⟨_, rfl, h3.low (hw.below (by omega)), hl, [a, b, c, d, e, f, i], rfl, (RuP.stays (fun b hb => Nat.le_of_succ_le hb) (hw.same (Nat.lt_succ_self _)).2 hx).le hh⟩
theorem RuP.bare {lo : Nat} {w : World} {m : Nat} {k : Int} {v : Value} {l : List Sm} (hk : (Lit.int .i64 k).wf = true) (hm : 1 ≤ m) (h : LSm lo w m v l) : RuP (fun b => lo ≤ b) w m [.int .i64 k, .bool false, .int .i64 0, .int .i64 0, .string ⟨#[]⟩, .slice none 0 0, v] ⟨k, false, leafE 0 0 [] [], l⟩ :=
  ⟨_, _, _, _, _, rfl, hk, (ExP.leaf (s := []) (by decide) (by decide) (by decide)).le hm, h⟩

set_option maxHeartbeats 4000000 in
theorem rdrule_c (m : Nat) (r : Nat) (o : Int) (ps : List Pc) (w : World) (h : Rdr r w o ps) (hm : 20 * ps.length + 9 ≤ m) :
    Calls Tryz.prog 22 #[.pointer (some ⟨r, 0, none⟩)] w (OutR r o w (ruleR m o ps) (KR w ps.length)) := by
  have HBL : Hid (RBlockC m) := (rstmts_c m).1
  have hlt := h.lt
  have lo := h.lo
  have hsh := h.short
  obtain ⟨W, hW⟩ : ∃ W, W = w.alloc (.cells #[.int .i64 0, .bool false, .int .i64 0, .int .i64 0, .string ⟨#[]⟩, .slice none 0 0, .slice none 0 0] 60) := ⟨_, rfl⟩
  have HA0 : Hid (Below w.heap.size w W) := by rw [hW]; exact (Below.refl _ _).alloc (Nat.le_refl _) _
  have HG0 : Hid (Bx (w.heap.size) [.int .i64 0, .bool false, .int .i64 0, .int .i64 0, .string ⟨#[]⟩, .slice none 0 0, .slice none 0 0] 60 W) := by rw [hW]; exact Bx.new w _ _
  have HS0 : Hid (w.heap.size + 1 ≤ W.heap.size) := by rw [hW]; simp [Hid]
  have HB0 : Hid (But r r w W) := But.of_below HA0.out
  have HR0 : Hid (Rdr r W o ps) := h.below HA0.out
  have HWW : Hid (W = _) := hW
  clear hW h
  go_enter Tryz.func22, Tryz.ntmps22
  have HC : Hid _ := skip_c r o [66, 69, 71, 73, 78] ps W HR0.out
  cases hS : seesB [66, 69, 71, 73, 78] ps with
  | true =>
    rw [hS] at HC
    have ES1 : Hid (seesB [66, 69, 71, 73, 78] ps = true) := hS
    have L1 : Hid (ps.tail.length + 1 = ps.length) := seen_tail hS
    clear hS
    go_wp2_with fail
    rw [← HWW.out]
    clear HWW
    refine Calls.mono HC.out ?_
    rintro e w1 ⟨rfl, hrd0, hb⟩
    have hrd : Rdr r w1 o ps.tail := by simpa using hrd0
    obtain ⟨pt1, hpt⟩ : ∃ pt, ps.tail = pt := ⟨_, rfl⟩
    have HPT1 : Hid (ps.tail = pt1) := hpt
    rw [hpt] at hrd L1
    have HB1 : Hid (But r r w w1) := HB0.out.trans hb
    have HS1 : Hid (w.heap.size + 1 ≤ w1.heap.size) := Nat.le_trans HS0.out hb.size
    have HP1_0 : Hid (Bx (w.heap.size) [.int .i64 0, .bool false, .int .i64 0, .int .i64 0, .string ⟨#[]⟩, .slice none 0 0, .slice none 0 0] 60 w1) := HG0.out.but hb hlt
    have HR1 : Hid (Rdr r w1 o pt1) := hrd
    clear hpt hrd0
    clear hb hrd HC
    have HC : Hid _ := pk (R0 := ruleR m o ps) (K0 := KR w ps.length) (HBL.out r o pt1 w1 HR1.out (by have := L1.out; omega)) HB1.out (fun er hN => by rw [ruleR]; simp only [ES1.out, HPT1.out, hN, ↓reduceIte])
    go_wp2_with fail
    refine Calls.mono HC.out ?_
    rintro e w2 (⟨er, rfl, F⟩ | ⟨v, b, p1, rfl, F⟩)
    · go_wp2_with fail
      exact ⟨rfl, F.out⟩
    obtain ⟨hN, hb, hrd, hk⟩ := F.out
    have E2 : Hid (blockR m o pt1 = .ok (b, p1)) := hN
    have HB2 : Hid (But r r w w2) := HB1.out.trans hb
    have HS2 : Hid (w.heap.size + 1 ≤ w2.heap.size) := Nat.le_trans HS1.out hb.size
    have HP2_0 : Hid (Bx (w.heap.size) [.int .i64 0, .bool false, .int .i64 0, .int .i64 0, .string ⟨#[]⟩, .slice none 0 0, .slice none 0 0] 60 w2) := HP1_0.out.but hb hlt
    have HR2 : Hid (Rdr r w2 o p1) := hrd
    obtain ⟨hl, hx⟩ := hk
    replace hx : LSm _ _ _ _ _ := hx
    obtain ⟨a2, len2, cap2, rfl⟩ := hx.shape
    have L2 : Hid (p1.length < pt1.length) := hl
    have XR2 : Hid (LSm _ w2 _ _ _) := hx
    have X2 : Hid (LSm (w.heap.size + 1) w2 (pt1.length - p1.length) (.slice a2 len2 cap2) b) := hx.same (Same.refl _ _) (by have := HS1.out; omega) (Nat.le_refl _)
    clear hl hx
    clear hN hb hrd F HC
    obtain ⟨g0, g1, g2, g3, g4, g5, g6, z0, z1, z2, z3, z4, z5, z6⟩ := HP2_0.out.seven
    have HE : Hid (ruleR m o ps = .ok (⟨0, false, leafE 0 0 [] [], b⟩, p1)) := by unfold Hid; rw [ruleR]; simp only [ES1.out, HPT1.out, E2.out, ↓reduceIte]
    have HX : Hid (RuP (fun b => w.heap.size + 1 ≤ b) w2 (pt1.length - p1.length) [.int .i64 0, .bool false, .int .i64 0, .int .i64 0, .string ⟨#[]⟩, .slice none 0 0, .slice a2 len2 cap2] (⟨0, false, leafE 0 0 [] [], b⟩)) := RuP.bare (by decide) (by have := L1.out; have := L2.out; omega) X2.out
    have HL : Hid (p1.length < ps.length ∧ pt1.length - p1.length ≤ ps.length - p1.length) := by unfold Hid; have := L1.out; have := L2.out; omega
    go_wp2_with fail
    refine bodyPost_ret (v := .agg #[.int .i64 0, .bool false, .int .i64 0, .int .i64 0, .string ⟨#[]⟩, .slice none 0 0, .slice a2 len2 cap2]) (by simp [results, Tryz.results22, go_sem, g0, g1, g2, g3, g4, g5, g6]) rfl ?_
    exact outRu HE.out HB2.out hlt HR2.out HL.out.1 HX.out HL.out.2
  | false =>
    rw [hS] at HC
    have ES1 : Hid (seesB [66, 69, 71, 73, 78] ps = false) := hS
    clear hS
    go_wp2_with fail
    rw [← HWW.out]
    clear HWW
    refine Calls.mono HC.out ?_
    rintro e w1 ⟨rfl, hrd0, hb⟩
    have hrd : Rdr r w1 o ps := by simpa using hrd0
    clear hrd0
    have HB1 : Hid (But r r w w1) := HB0.out.trans hb
    have HS1 : Hid (w.heap.size + 1 ≤ w1.heap.size) := Nat.le_trans HS0.out hb.size
    have HP1_0 : Hid (Bx (w.heap.size) [.int .i64 0, .bool false, .int .i64 0, .int .i64 0, .string ⟨#[]⟩, .slice none 0 0, .slice none 0 0] 60 w1) := HG0.out.but hb hlt
    have HR1 : Hid (Rdr r w1 o ps) := hrd
    clear hb hrd HC
    have HC : Hid _ := skip_c r o [69, 78, 68] ps w1 HR1.out
    cases hS : seesB [69, 78, 68] ps with
    | true =>
      rw [hS] at HC
      have ES2 : Hid (seesB [69, 78, 68] ps = true) := hS
      have L2 : Hid (ps.tail.length + 1 = ps.length) := seen_tail hS
      clear hS
      go_wp2_with fail
      refine Calls.mono HC.out ?_
      rintro e w2 ⟨rfl, hrd0, hb⟩
      have hrd : Rdr r w2 o ps.tail := by simpa using hrd0
      obtain ⟨pt2, hpt⟩ : ∃ pt, ps.tail = pt := ⟨_, rfl⟩
      have HPT2 : Hid (ps.tail = pt2) := hpt
      rw [hpt] at hrd L2
      have HB2 : Hid (But r r w w2) := HB1.out.trans hb
      have HS2 : Hid (w.heap.size + 1 ≤ w2.heap.size) := Nat.le_trans HS1.out hb.size
      have HP2_0 : Hid (Bx (w.heap.size) [.int .i64 0, .bool false, .int .i64 0, .int .i64 0, .string ⟨#[]⟩, .slice none 0 0, .slice none 0 0] 60 w2) := HP1_0.out.but hb hlt
      have HR2 : Hid (Rdr r w2 o pt2) := hrd
      clear hpt hrd0
      clear hb hrd HC
      have HC : Hid _ := pk (R0 := ruleR m o ps) (K0 := KR w ps.length) (HBL.out r o pt2 w2 HR2.out (by have := L2.out; omega)) HB2.out (fun er hN => by rw [ruleR]; simp only [ES1.out, ES2.out, HPT2.out, hN, Bool.false_eq_true, ↓reduceIte])
      go_wp2_with fail
      refine Calls.mono HC.out ?_
      rintro e w3 (⟨er, rfl, F⟩ | ⟨v, b, p1, rfl, F⟩)
      · go_wp2_with fail
        exact ⟨rfl, F.out⟩
      obtain ⟨hN, hb, hrd, hk⟩ := F.out
      have E3 : Hid (blockR m o pt2 = .ok (b, p1)) := hN
      have HB3 : Hid (But r r w w3) := HB2.out.trans hb
      have HS3 : Hid (w.heap.size + 1 ≤ w3.heap.size) := Nat.le_trans HS2.out hb.size
      have HP3_0 : Hid (Bx (w.heap.size) [.int .i64 0, .bool false, .int .i64 0, .int .i64 0, .string ⟨#[]⟩, .slice none 0 0, .slice none 0 0] 60 w3) := HP2_0.out.but hb hlt
      have HR3 : Hid (Rdr r w3 o p1) := hrd
      obtain ⟨hl, hx⟩ := hk
      replace hx : LSm _ _ _ _ _ := hx
      obtain ⟨a3, len3, cap3, rfl⟩ := hx.shape
      have L3 : Hid (p1.length < pt2.length) := hl
      have XR3 : Hid (LSm _ w3 _ _ _) := hx
      have X3 : Hid (LSm (w.heap.size + 1) w3 (pt2.length - p1.length) (.slice a3 len3 cap3) b) := hx.same (Same.refl _ _) (by have := HS2.out; omega) (Nat.le_refl _)
      clear hl hx
      clear hN hb hrd F HC
      obtain ⟨g0, g1, g2, g3, g4, g5, g6, z0, z1, z2, z3, z4, z5, z6⟩ := HP3_0.out.seven
      have HE : Hid (ruleR m o ps = .ok (⟨2, false, leafE 0 0 [] [], b⟩, p1)) := by unfold Hid; rw [ruleR]; simp only [ES1.out, ES2.out, HPT2.out, E3.out, Bool.false_eq_true, ↓reduceIte]
      have HX : Hid (RuP (fun b => w.heap.size + 1 ≤ b) w3 (pt2.length - p1.length) [.int .i64 2, .bool false, .int .i64 0, .int .i64 0, .string ⟨#[]⟩, .slice none 0 0, .slice a3 len3 cap3] (⟨2, false, leafE 0 0 [] [], b⟩)) := RuP.bare (by decide) (by have := L2.out; have := L3.out; omega) X3.out
      have HL : Hid (p1.length < ps.length ∧ pt2.length - p1.length ≤ ps.length - p1.length) := by unfold Hid; have := L2.out; have := L3.out; omega
      go_wp2_with fail
      refine bodyPost_ret (v := .agg #[.int .i64 2, .bool false, .int .i64 0, .int .i64 0, .string ⟨#[]⟩, .slice none 0 0, .slice a3 len3 cap3]) (by simp [results, Tryz.results22, go_sem, g0, g1, g2, g3, g4, g5, g6]) rfl ?_
      exact outRu HE.out HB3.out hlt HR3.out HL.out.1 HX.out HL.out.2
    | false =>
      rw [hS] at HC
      have ES2 : Hid (seesB [69, 78, 68] ps = false) := hS
      clear hS
      go_wp2_with fail
      refine Calls.mono HC.out ?_
      rintro e w2 ⟨rfl, hrd0, hb⟩
      have hrd : Rdr r w2 o ps := by simpa using hrd0
      clear hrd0
      have HB2 : Hid (But r r w w2) := HB1.out.trans hb
      have HS2 : Hid (w.heap.size + 1 ≤ w2.heap.size) := Nat.le_trans HS1.out hb.size
      have HP2_0 : Hid (Bx (w.heap.size) [.int .i64 0, .bool false, .int .i64 0, .int .i64 0, .string ⟨#[]⟩, .slice none 0 0, .slice none 0 0] 60 w2) := HP1_0.out.but hb hlt
      have HR2 : Hid (Rdr r w2 o ps) := hrd
      clear hb hrd HC
      have HC : Hid _ := sees_c r o [123] ps w2 HR2.out
      cases hS : seesB [123] ps with
      | true =>
        rw [hS] at HC
        have ES3 : Hid (seesB [123] ps = true) := hS
        have L3 : Hid (ps.tail.length + 1 = ps.length) := seen_tail hS
        clear hS
        go_wp2_with fail
        refine Calls.mono HC.out ?_
        rintro e w3 ⟨rfl, hbe0⟩
        have hbe : Below w2.heap.size w2 w3 := by rw [hbe0]; exact Below.refl _ _
        clear hbe0
        have hb : But r r w2 w3 := But.of_below hbe
        have hrd : Rdr r w3 o ps := HR2.out.below hbe
        clear hbe
        have HB3 : Hid (But r r w w3) := HB2.out.trans hb
        have HS3 : Hid (w.heap.size + 1 ≤ w3.heap.size) := Nat.le_trans HS2.out hb.size
        have HP3_0 : Hid (Bx (w.heap.size) [.int .i64 0, .bool false, .int .i64 0, .int .i64 0, .string ⟨#[]⟩, .slice none 0 0, .slice none 0 0] 60 w3) := HP2_0.out.but hb hlt
        have HR3 : Hid (Rdr r w3 o ps) := hrd
        clear hb hrd HC
        have HC : Hid _ := pk (R0 := ruleR m o ps) (K0 := KR w ps.length) (HBL.out r o ps w3 HR3.out (by have := L3.out; omega)) HB3.out (fun er hN => by rw [ruleR]; simp only [ES1.out, ES2.out, ES3.out, hN, Bool.false_eq_true, ↓reduceIte])
        go_wp2_with fail
        refine Calls.mono HC.out ?_
        rintro e w4 (⟨er, rfl, F⟩ | ⟨v, b, p1, rfl, F⟩)
        · go_wp2_with fail
          exact ⟨rfl, F.out⟩
        obtain ⟨hN, hb, hrd, hk⟩ := F.out
        have E4 : Hid (blockR m o ps = .ok (b, p1)) := hN
        have HB4 : Hid (But r r w w4) := HB3.out.trans hb
        have HS4 : Hid (w.heap.size + 1 ≤ w4.heap.size) := Nat.le_trans HS3.out hb.size
        have HP4_0 : Hid (Bx (w.heap.size) [.int .i64 0, .bool false, .int .i64 0, .int .i64 0, .string ⟨#[]⟩, .slice none 0 0, .slice none 0 0] 60 w4) := HP3_0.out.but hb hlt
        have HR4 : Hid (Rdr r w4 o p1) := hrd
        obtain ⟨hl, hx⟩ := hk
        replace hx : LSm _ _ _ _ _ := hx
        obtain ⟨a4, len4, cap4, rfl⟩ := hx.shape
        have L4 : Hid (p1.length < ps.length) := hl
        have XR4 : Hid (LSm _ w4 _ _ _) := hx
        have X4 : Hid (LSm (w.heap.size + 1) w4 (ps.length - p1.length) (.slice a4 len4 cap4) b) := hx.same (Same.refl _ _) (by have := HS3.out; omega) (Nat.le_refl _)
        clear hl hx
        clear hN hb hrd F HC
        obtain ⟨g0, g1, g2, g3, g4, g5, g6, z0, z1, z2, z3, z4, z5, z6⟩ := HP4_0.out.seven
        have HE : Hid (ruleR m o ps = .ok (⟨1, false, leafE 0 0 [] [], b⟩, p1)) := by unfold Hid; rw [ruleR]; simp only [ES1.out, ES2.out, ES3.out, E4.out, Bool.false_eq_true, ↓reduceIte]
        have HX : Hid (RuP (fun b => w.heap.size + 1 ≤ b) w4 (ps.length - p1.length) [.int .i64 1, .bool false, .int .i64 0, .int .i64 0, .string ⟨#[]⟩, .slice none 0 0, .slice a4 len4 cap4] (⟨1, false, leafE 0 0 [] [], b⟩)) := RuP.bare (by decide) (by have := L3.out; have := L4.out; omega) X4.out
        have HL : Hid (p1.length < ps.length ∧ ps.length - p1.length ≤ ps.length - p1.length) := by unfold Hid; have := L3.out; have := L4.out; omega
        go_wp2_with fail
        refine bodyPost_ret (v := .agg #[.int .i64 1, .bool false, .int .i64 0, .int .i64 0, .string ⟨#[]⟩, .slice none 0 0, .slice a4 len4 cap4]) (by simp [results, Tryz.results22, go_sem, g0, g1, g2, g3, g4, g5, g6]) rfl ?_
        exact outRu HE.out HB4.out hlt HR4.out HL.out.1 HX.out HL.out.2
      | false =>
        rw [hS] at HC
        have ES3 : Hid (seesB [123] ps = false) := hS
        clear hS
        go_wp2_with fail
        refine Calls.mono HC.out ?_
        rintro e w3 ⟨rfl, hbe0⟩
        have hbe : Below w2.heap.size w2 w3 := by rw [hbe0]; exact Below.refl _ _
        clear hbe0
        have hb : But r r w2 w3 := But.of_below hbe
        have hrd : Rdr r w3 o ps := HR2.out.below hbe
        clear hbe
        have HB3 : Hid (But r r w w3) := HB2.out.trans hb
        have HS3 : Hid (w.heap.size + 1 ≤ w3.heap.size) := Nat.le_trans HS2.out hb.size
        have HP3_0 : Hid (Bx (w.heap.size) [.int .i64 0, .bool false, .int .i64 0, .int .i64 0, .string ⟨#[]⟩, .slice none 0 0, .slice none 0 0] 60 w3) := HP2_0.out.but hb hlt
        have HR3 : Hid (Rdr r w3 o ps) := hrd
        clear hb hrd HC
        have HC : Hid _ := pk (R0 := ruleR m o ps) (K0 := KR w ps.length) ((all_c m).whole r o ps w3 HR3.out (by  omega)) HB3.out (fun er hN => by rw [ruleR]; simp only [ES1.out, ES2.out, ES3.out, hN, Bool.false_eq_true, ↓reduceIte])
        go_wp2_with fail
        refine Calls.mono HC.out ?_
        rintro e w4 (⟨er, rfl, F⟩ | ⟨v, x, p1, rfl, F⟩)
        · go_wp2_with fail
          exact ⟨rfl, F.out⟩
        obtain ⟨hN, hb, hrd, hk⟩ := F.out
        have E4 : Hid (wholeR m o ps = .ok (x, p1)) := hN
        have HB4 : Hid (But r r w w4) := HB3.out.trans hb
        have HS4 : Hid (w.heap.size + 1 ≤ w4.heap.size) := Nat.le_trans HS3.out hb.size
        have HP4_0 : Hid (Bx (w.heap.size) [.int .i64 0, .bool false, .int .i64 0, .int .i64 0, .string ⟨#[]⟩, .slice none 0 0, .slice none 0 0] 60 w4) := HP3_0.out.but hb hlt
        have HR4 : Hid (Rdr r w4 o p1) := hrd
        obtain ⟨hl, cs, rfl, hx⟩ := hk
        obtain ⟨k4, n4, s4, a4, len4, cap4, rfl⟩ := hx.shape
        have L4 : Hid (p1.length < ps.length) := hl
        have X4 : Hid (ExP (fun b => w.heap.size + 1 ≤ b) w4 (ps.length - p1.length) [.int .i64 k4, .int .i64 n4, .string s4, .slice a4 len4 cap4] x) := hx.same (Same.refl _ _) (by have := HS3.out; omega) (Nat.le_refl _)
        clear hl hx
        clear hN hb hrd F HC
        obtain ⟨W4, hW⟩ : ∃ W', W' = w4.alloc (.cells #[.int .i64 k4, .int .i64 n4, .string s4, .slice a4 len4 cap4] 57) := ⟨_, rfl⟩
        have HA : Hid (Below w4.heap.size w4 W4) := by rw [hW]; exact (Below.refl _ _).alloc (Nat.le_refl _) _
        have HGn4 : Hid (Bx (w4.heap.size) [.int .i64 k4, .int .i64 n4, .string s4, .slice a4 len4 cap4] 57 W4) := by rw [hW]; exact Bx.new w4 _ _
        have HBb4 : Hid (But r r w W4) := HB4.out.more HA.out
        have HSb4 : Hid (w.heap.size + 1 ≤ W4.heap.size) := Nat.le_trans HS4.out HA.out.size
        have HRb4 : Hid (Rdr r W4 o p1) := HR4.out.below HA.out
        have HWW : Hid (W4 = _) := hW
        have HQ4_0 : Hid (Bx (w.heap.size) [.int .i64 0, .bool false, .int .i64 0, .int .i64 0, .string ⟨#[]⟩, .slice none 0 0, .slice none 0 0] 60 W4) := HP4_0.out.below HA.out
        have HQ4_1 : Hid (ExP (fun b => w.heap.size + 1 ≤ b) W4 (ps.length - p1.length) [.int .i64 k4, .int .i64 n4, .string s4, .slice a4 len4 cap4] x) := X4.out.same (Same.below HA.out) (Nat.le_refl _) (Nat.le_refl _)
        clear hW HA
        obtain ⟨d10, d11, d12, d13, -⟩ := HGn4.out.four
        have HC : Hid _ := pk (R0 := ruleR m o ps) (K0 := KR w ps.length) (HBL.out r o p1 W4.drew (HRb4.out.below (below_drew _)) (by have := L4.out; omega)) (HBb4.out.more (below_drew _)) (fun er hN => by rw [ruleR]; simp only [ES1.out, ES2.out, ES3.out, E4.out, hN, Bool.false_eq_true, ↓reduceIte])
        go_wp2_with fail
        rw [← HWW.out]
        clear HWW
        go_region_with (
          refine Calls.mono HC.out ?_
          rintro e w5 (⟨er, rfl, F⟩ | ⟨v, b, p2, rfl, F⟩)
          · go_wp2_with fail
            exact ⟨rfl, F.out⟩
          obtain ⟨hN, hb, hrd, hk⟩ := F.out
          have E5 : Hid (blockR m o p1 = .ok (b, p2)) := hN
          have HB5 : Hid (But r r w w5) := (HBb4.out.more (below_drew _)).trans hb
          have HS5 : Hid (w.heap.size + 1 ≤ w5.heap.size) := Nat.le_trans HSb4.out hb.size
          have HP5_0 : Hid (Bx (w.heap.size) [.int .i64 0, .bool false, .int .i64 0, .int .i64 0, .string ⟨#[]⟩, .slice none 0 0, .slice none 0 0] 60 w5) := (HQ4_0.out.below (below_drew _)).but hb hlt
          have HP5_1 : Hid (ExP (fun b => w.heap.size + 1 ≤ b) w5 (ps.length - p1.length) [.int .i64 k4, .int .i64 n4, .string s4, .slice a4 len4 cap4] x) := (HQ4_1.out.same (Same.below (below_drew _)) (Nat.le_refl _) (Nat.le_refl _)).same (Same.but hb (by omega)) (Nat.le_refl _) (Nat.le_refl _)
          have HP5_2 : Hid (Bx (w4.heap.size) [.int .i64 k4, .int .i64 n4, .string s4, .slice a4 len4 cap4] 57 w5) := (HGn4.out.below (below_drew _)).but hb (by have := HS4.out; omega)
          have HR5 : Hid (Rdr r w5 o p2) := hrd
          obtain ⟨hl, hx⟩ := hk
          replace hx : LSm _ _ _ _ _ := hx
          obtain ⟨a5, len5, cap5, rfl⟩ := hx.shape
          have L5 : Hid (p2.length < p1.length) := hl
          have XR5 : Hid (LSm _ w5 _ _ _) := hx
          have X5 : Hid (LSm (w.heap.size + 1) w5 (p1.length - p2.length) (.slice a5 len5 cap5) b) := hx.same (Same.refl _ _) (by have := HSb4.out; have h3 : W4.drew.heap.size = W4.heap.size := rfl; omega) (Nat.le_refl _)
          clear hl hx
          clear hN hb hrd F HC
          obtain ⟨e0, e1, e2, e3, -⟩ := HP5_2.out.four
          obtain ⟨g0, g1, g2, g3, g4, g5, g6, z0, z1, z2, z3, z4, z5, z6⟩ := HP5_0.out.seven
          have HE : Hid (ruleR m o ps = .ok (⟨1, true, x, b⟩, p2)) := by unfold Hid; rw [ruleR]; simp only [ES1.out, ES2.out, ES3.out, E4.out, E5.out, Bool.false_eq_true, ↓reduceIte]
          have HX : Hid (RuP (fun b => w.heap.size + 1 ≤ b) w5 (ps.length - p2.length) [.int .i64 1, .bool true, .int .i64 k4, .int .i64 n4, .string s4, .slice a4 len4 cap4, .slice a5 len5 cap5] (⟨1, true, x, b⟩)) := ⟨_, _, _, _, _, rfl, (show (Lit.int .i64 1).wf = true by decide), HP5_1.out.le (by have := L4.out; have := L5.out; omega), X5.out.same (Same.refl _ _) (Nat.le_refl _) (by have := L4.out; have := L5.out; omega)⟩
          have HL : Hid (p2.length < ps.length ∧ ps.length - p2.length ≤ ps.length - p2.length) := by unfold Hid; have := L4.out; have := L5.out; omega)
        all_goals go_wp2_with fail
        all_goals refine bodyPost_ret (v := .agg #[.int .i64 1, .bool true, .int .i64 k4, .int .i64 n4, .string s4, .slice a4 len4 cap4, .slice a5 len5 cap5]) (by simp [results, Tryz.results22, go_sem, g0, g1, g2, g3, g4, g5, g6]) rfl ?_
        all_goals exact outRu HE.out HB5.out hlt HR5.out HL.out.1 HX.out HL.out.2
end Go.Proofs.YtfbpkbochhfnhaaGreatDoor
