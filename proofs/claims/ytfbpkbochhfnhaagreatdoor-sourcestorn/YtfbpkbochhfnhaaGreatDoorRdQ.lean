/-
  Contracts of the reader's question and assignment.
-/
import Derived.Test.YtfbpkbochhfnhaaGreatDoorRdS0
import Derived.Deep.RegionWith
import Derived.OwnWalk
namespace Go.Proofs.YtfbpkbochhfnhaaGreatDoor
open Go.ChangeShapes Go.WideShapes Go.ChangeAt Go.RowKit Go.Joins Go.Maps
set_option linter.unusedVariables false

set_option maxHeartbeats 2000000 in
theorem question_c (m : Nat) (r : Nat) (o : Int) (ps : List Pc) (w : World) (h : Rdr r w o ps) (hm : 20 * ps.length + 1 ≤ m) :
    Calls Tryz.prog 90 #[.pointer (some ⟨r, 0, none⟩)] w (OutR r o w (askedR m o ps) (KQ w ps.length)) := by
  have hlt := h.lt
  have lo := h.lo
  have hsh := h.short
  have HS0 : Hid (w.heap.size ≤ w.heap.size) := Nat.le_refl _
  have HB0 : Hid (But r r w w) := But.refl _ _ _
  have HR0 : Hid (Rdr r w o ps) := h
  clear h
  go_enter Tryz.func90, Tryz.ntmps90
  have HC : Hid _ := pk (R0 := askedR m o ps) (K0 := KQ w ps.length) (need_c r o [40] ps w HR0.out) HB0.out (fun er hN => by rw [askedR]; simp only [hN])
  go_wp2_with fail
  refine Calls.mono HC.out ?_
  rintro e w1 (⟨er, rfl, F⟩ | ⟨v, up1, p1, rfl, F⟩)
  · go_wp2_with fail
    exact ⟨rfl, F.out⟩
  obtain ⟨hN, hb, hrd, hk⟩ := F.out
  have E1 : Hid (needR [40] ps = .ok (up1, p1)) := hN
  have HB1 : Hid (But r r w w1) := HB0.out.trans hb
  have HS1 : Hid (w.heap.size ≤ w1.heap.size) := Nat.le_trans HS0.out hb.size
  have HR1 : Hid (Rdr r w1 o p1) := hrd
  have L1 : Hid (p1.length + 1 = ps.length) := needR_len hN
  obtain rfl : v = .tuple #[] := hk
  clear hN hb hrd F HC
  have HC : Hid _ := pk (R0 := askedR m o ps) (K0 := KQ w ps.length) ((all_c m).whole r o p1 w1 HR1.out (by have := L1.out; omega)) HB1.out (fun er hN => by rw [askedR]; simp only [E1.out, hN])
  go_wp2_with fail
  refine Calls.mono HC.out ?_
  rintro e w2 (⟨er, rfl, F⟩ | ⟨v, x, p2, rfl, F⟩)
  · go_wp2_with fail
    exact ⟨rfl, F.out⟩
  obtain ⟨hN, hb, hrd, hk⟩ := F.out
  have E2 : Hid (wholeR m o p1 = .ok (x, p2)) := hN
  have HB2 : Hid (But r r w w2) := HB1.out.trans hb
  have HS2 : Hid (w.heap.size ≤ w2.heap.size) := Nat.le_trans HS1.out hb.size
  have HR2 : Hid (Rdr r w2 o p2) := hrd
  obtain ⟨hl, cs, rfl, hx⟩ := hk
  obtain ⟨k2, n2, s2, a2, len2, cap2, rfl⟩ := hx.shape
  have L2 : Hid (p2.length < p1.length) := hl
  have X2 : Hid (ExP (fun b => w.heap.size ≤ b) w2 (p1.length - p2.length) [.int .i64 k2, .int .i64 n2, .string s2, .slice a2 len2 cap2] x) := hx.same (Same.refl _ _) (by have := HS1.out; omega) (Nat.le_refl _)
  clear hl hx
  clear hN hb hrd F HC
  obtain ⟨W2, hW⟩ : ∃ W', W' = w2.alloc (.cells #[.int .i64 k2, .int .i64 n2, .string s2, .slice a2 len2 cap2] 57) := ⟨_, rfl⟩
  have HA : Hid (Below w2.heap.size w2 W2) := by rw [hW]; exact (Below.refl _ _).alloc (Nat.le_refl _) _
  have HGn2 : Hid (Bx (w2.heap.size) [.int .i64 k2, .int .i64 n2, .string s2, .slice a2 len2 cap2] 57 W2) := by rw [hW]; exact Bx.new w2 _ _
  have HBb2 : Hid (But r r w W2) := HB2.out.more HA.out
  have HSb2 : Hid (w.heap.size ≤ W2.heap.size) := Nat.le_trans HS2.out HA.out.size
  have HRb2 : Hid (Rdr r W2 o p2) := HR2.out.below HA.out
  have HWW : Hid (W2 = _) := hW
  have HQ2_0 : Hid (ExP (fun b => w.heap.size ≤ b) W2 (p1.length - p2.length) [.int .i64 k2, .int .i64 n2, .string s2, .slice a2 len2 cap2] x) := X2.out.same (Same.below HA.out) (Nat.le_refl _) (Nat.le_refl _)
  clear hW HA
  have HC : Hid _ := pk (R0 := askedR m o ps) (K0 := KQ w ps.length) (need_c r o [41] p2 W2 HRb2.out) HBb2.out (fun er hN => by rw [askedR]; simp only [E1.out, E2.out, hN])
  go_wp2_with fail
  rw [← HWW.out]
  clear HWW
  refine Calls.mono HC.out ?_
  rintro e w3 (⟨er, rfl, F⟩ | ⟨v, up3, p3, rfl, F⟩)
  · go_wp2_with fail
    exact ⟨rfl, F.out⟩
  obtain ⟨hN, hb, hrd, hk⟩ := F.out
  have E3 : Hid (needR [41] p2 = .ok (up3, p3)) := hN
  have HB3 : Hid (But r r w w3) := HBb2.out.trans hb
  have HS3 : Hid (w.heap.size ≤ w3.heap.size) := Nat.le_trans HSb2.out hb.size
  have HP3_0 : Hid (ExP (fun b => w.heap.size ≤ b) w3 (p1.length - p2.length) [.int .i64 k2, .int .i64 n2, .string s2, .slice a2 len2 cap2] x) := HQ2_0.out.same (Same.but hb (by omega)) (Nat.le_refl _) (Nat.le_refl _)
  have HP3_1 : Hid (Bx (w2.heap.size) [.int .i64 k2, .int .i64 n2, .string s2, .slice a2 len2 cap2] 57 w3) := HGn2.out.but hb (by have := HS2.out; omega)
  have HR3 : Hid (Rdr r w3 o p3) := hrd
  have L3 : Hid (p3.length + 1 = p2.length) := needR_len hN
  obtain rfl : v = .tuple #[] := hk
  clear hN hb hrd F HC
  obtain ⟨g0, g1, g2, g3, z0, z1, z2, z3⟩ := HP3_1.out.four
  have HE : Hid (askedR m o ps = .ok (x, p3)) := by unfold Hid; rw [askedR]; simp only [E1.out, E2.out, E3.out]
  have HF : Hid (OutR r o w (askedR m o ps) (KQ w ps.length) (.returned (.slice (some ⟨w3.heap.size, 0, none⟩) 1 1)) (w3.alloc (.cells #[.int .i64 k2, .int .i64 n2, .string s2, .slice a2 len2 cap2] 57))) := by
    refine ⟨HB3.out.alloc _, ?_⟩
    rw [HE.out]
    have hlen : p3.length < ps.length ∧ p1.length - p2.length ≤ ps.length - p3.length := by have := L1.out; have := L2.out; have := L3.out; omega
    exact ⟨_, rfl, HR3.out.alloc _, hlen.1, LEx.one (Bx.new w3 _ _) HS3.out (HP3_0.out.same (Same.below ((Below.refl _ _).alloc (Nat.le_refl _) _)) (Nat.le_refl _) hlen.2)⟩
  go_wp2_with fail
  go_ret
  exact HF.out
set_option maxHeartbeats 4000000 in
theorem assignment_c (m : Nat) (r : Nat) (o : Int) (ps : List Pc) (w : World) (h : Rdr r w o ps) (hm : 20 * ps.length + 1 ≤ m) :
    Calls Tryz.prog 117 #[.pointer (some ⟨r, 0, none⟩)] w (OutR r o w (putR m o ps) (KS w ps.length)) := by
  have hlt := h.lt
  have lo := h.lo
  have hsh := h.short
  obtain ⟨W, hW⟩ : ∃ W, W = w.alloc (.cells #[.int .i64 0, .string ⟨#[]⟩, .string ⟨#[]⟩, .slice none 0 0, .slice none 0 0, .slice none 0 0] 111) := ⟨_, rfl⟩
  have HA0 : Hid (Below w.heap.size w W) := by rw [hW]; exact (Below.refl _ _).alloc (Nat.le_refl _) _
  have HG0 : Hid (Bx (w.heap.size) [.int .i64 0, .string ⟨#[]⟩, .string ⟨#[]⟩, .slice none 0 0, .slice none 0 0, .slice none 0 0] 111 W) := by rw [hW]; exact Bx.new w _ _
  have HS0 : Hid (w.heap.size + 1 ≤ W.heap.size) := by rw [hW]; simp [Hid]
  have HB0 : Hid (But r r w W) := But.of_below HA0.out
  have HR0 : Hid (Rdr r W o ps) := h.below HA0.out
  have HWW : Hid (W = _) := hW
  clear hW h
  go_enter Tryz.func117, Tryz.ntmps117
  have HC : Hid _ := pk (R0 := putR m o ps) (K0 := KS w ps.length) (nm_c r o ps W HR0.out) HB0.out (fun er hN => by rw [putR]; simp only [hN])
  go_wp2_with fail
  rw [← HWW.out]
  clear HWW
  refine Calls.mono HC.out ?_
  rintro e w1 (⟨er, rfl, F⟩ | ⟨v, s, p1, rfl, F⟩)
  · go_wp2_with fail
    exact ⟨rfl, F.out⟩
  obtain ⟨hN, hb, hrd, hk⟩ := F.out
  have E1 : Hid (nmR ps = .ok (s, p1)) := hN
  have HB1 : Hid (But r r w w1) := HB0.out.trans hb
  have HS1 : Hid (w.heap.size + 1 ≤ w1.heap.size) := Nat.le_trans HS0.out hb.size
  have HP1_0 : Hid (Bx (w.heap.size) [.int .i64 0, .string ⟨#[]⟩, .string ⟨#[]⟩, .slice none 0 0, .slice none 0 0, .slice none 0 0] 111 w1) := HG0.out.but hb hlt
  have HR1 : Hid (Rdr r w1 o p1) := hrd
  have L1 : Hid (p1.length + 1 = ps.length ∧ nameL s = true) := nmR_len hN
  obtain rfl : v = .string (bs s) := hk
  clear hN hb hrd F HC
  have HC : Hid _ := sees_c r o [91] p1 w1 HR1.out
  cases hS : seesB [91] p1 with
  | true =>
    rw [hS] at HC
    have ES2 : Hid (seesB [91] p1 = true) := hS
    have L2 : Hid (p1.tail.length + 1 = p1.length) := seen_tail hS
    clear hS
    go_wp2_with fail
    refine Calls.mono HC.out ?_
    rintro e w2 ⟨rfl, hbe0⟩
    have hbe : Below w1.heap.size w1 w2 := by rw [hbe0]; exact Below.refl _ _
    clear hbe0
    have hb : But r r w1 w2 := But.of_below hbe
    have hrd : Rdr r w2 o p1 := HR1.out.below hbe
    clear hbe
    have HB2 : Hid (But r r w w2) := HB1.out.trans hb
    have HS2 : Hid (w.heap.size + 1 ≤ w2.heap.size) := Nat.le_trans HS1.out hb.size
    have HP2_0 : Hid (Bx (w.heap.size) [.int .i64 0, .string ⟨#[]⟩, .string ⟨#[]⟩, .slice none 0 0, .slice none 0 0, .slice none 0 0] 111 w2) := HP1_0.out.but hb hlt
    have HR2 : Hid (Rdr r w2 o p1) := hrd
    clear hb hrd HC
    have HC : Hid _ := pk (R0 := putR m o ps) (K0 := KS w ps.length) ((all_c m).key r o p1 w2 HR2.out (by have := L1.out; have := L2.out; omega)) HB2.out (fun er hN => by rw [putR]; simp only [E1.out, ES2.out, hN, ↓reduceIte])
    go_wp2_with fail
    refine Calls.mono HC.out ?_
    rintro e w3 (⟨er, rfl, F⟩ | ⟨v, x, p2, rfl, F⟩)
    · go_wp2_with fail
      exact ⟨rfl, F.out⟩
    obtain ⟨hN, hb, hrd, hk⟩ := F.out
    have E3 : Hid (keyR m o p1 = .ok (x, p2)) := hN
    have HB3 : Hid (But r r w w3) := HB2.out.trans hb
    have HS3 : Hid (w.heap.size + 1 ≤ w3.heap.size) := Nat.le_trans HS2.out hb.size
    have HP3_0 : Hid (Bx (w.heap.size) [.int .i64 0, .string ⟨#[]⟩, .string ⟨#[]⟩, .slice none 0 0, .slice none 0 0, .slice none 0 0] 111 w3) := HP2_0.out.but hb hlt
    have HR3 : Hid (Rdr r w3 o p2) := hrd
    obtain ⟨hl, cs, rfl, hx⟩ := hk
    obtain ⟨k3, n3, s3, a3, len3, cap3, rfl⟩ := hx.shape
    have L3 : Hid (p2.length < p1.length) := hl
    have X3 : Hid (ExP (fun b => w.heap.size + 1 ≤ b) w3 (p1.length - p2.length) [.int .i64 k3, .int .i64 n3, .string s3, .slice a3 len3 cap3] x) := hx.same (Same.refl _ _) (by have := HS2.out; omega) (Nat.le_refl _)
    clear hl hx
    clear hN hb hrd F HC
    obtain ⟨W3, hW⟩ : ∃ W', W' = w3.alloc (.cells #[.int .i64 k3, .int .i64 n3, .string s3, .slice a3 len3 cap3] 57) := ⟨_, rfl⟩
    have HA : Hid (Below w3.heap.size w3 W3) := by rw [hW]; exact (Below.refl _ _).alloc (Nat.le_refl _) _
    have HGn3 : Hid (Bx (w3.heap.size) [.int .i64 k3, .int .i64 n3, .string s3, .slice a3 len3 cap3] 57 W3) := by rw [hW]; exact Bx.new w3 _ _
    have HBb3 : Hid (But r r w W3) := HB3.out.more HA.out
    have HSb3 : Hid (w.heap.size + 1 ≤ W3.heap.size) := Nat.le_trans HS3.out HA.out.size
    have HRb3 : Hid (Rdr r W3 o p2) := HR3.out.below HA.out
    have HWW : Hid (W3 = _) := hW
    have HQ3_0 : Hid (Bx (w.heap.size) [.int .i64 0, .string ⟨#[]⟩, .string ⟨#[]⟩, .slice none 0 0, .slice none 0 0, .slice none 0 0] 111 W3) := HP3_0.out.below HA.out
    have HQ3_1 : Hid (ExP (fun b => w.heap.size + 1 ≤ b) W3 (p1.length - p2.length) [.int .i64 k3, .int .i64 n3, .string s3, .slice a3 len3 cap3] x) := X3.out.same (Same.below HA.out) (Nat.le_refl _) (Nat.le_refl _)
    clear hW HA
    obtain ⟨d10, d11, d12, d13, -⟩ := HGn3.out.four
    have HC : Hid _ := pk (R0 := putR m o ps) (K0 := KS w ps.length) (assigned_of (all_c m).whole r o p2 W3.drew (HRb3.out.below (below_drew _)) (by have := L1.out; have := L2.out; have := L3.out; omega)) (HBb3.out.more (below_drew _)) (fun er hN => by rw [putR]; simp only [E1.out, ES2.out, E3.out, hN, ↓reduceIte])
    go_wp2_with fail
    rw [← HWW.out]
    clear HWW
    go_region_with (
      refine Calls.mono HC.out ?_
      rintro e w4 (⟨er, rfl, F⟩ | ⟨v, y, p3, rfl, F⟩)
      · go_wp2_with fail
        exact ⟨rfl, F.out⟩
      obtain ⟨hN, hb, hrd, hk⟩ := F.out
      have E4 : Hid (setR m o p2 = .ok (y, p3)) := hN
      have HB4 : Hid (But r r w w4) := (HBb3.out.more (below_drew _)).trans hb
      have HS4 : Hid (w.heap.size + 1 ≤ w4.heap.size) := Nat.le_trans HSb3.out hb.size
      have HP4_0 : Hid (Bx (w.heap.size) [.int .i64 0, .string ⟨#[]⟩, .string ⟨#[]⟩, .slice none 0 0, .slice none 0 0, .slice none 0 0] 111 w4) := (HQ3_0.out.below (below_drew _)).but hb hlt
      have HP4_1 : Hid (ExP (fun b => w.heap.size + 1 ≤ b) w4 (p1.length - p2.length) [.int .i64 k3, .int .i64 n3, .string s3, .slice a3 len3 cap3] x) := (HQ3_1.out.same (Same.below (below_drew _)) (Nat.le_refl _) (Nat.le_refl _)).same (Same.but hb (by omega)) (Nat.le_refl _) (Nat.le_refl _)
      have HP4_2 : Hid (Bx (w3.heap.size) [.int .i64 k3, .int .i64 n3, .string s3, .slice a3 len3 cap3] 57 w4) := (HGn3.out.below (below_drew _)).but hb (by have := HS3.out; omega)
      have HR4 : Hid (Rdr r w4 o p3) := hrd
      obtain ⟨hl, cs, rfl, hx⟩ := hk
      obtain ⟨k4, n4, s4, a4, len4, cap4, rfl⟩ := hx.shape
      have L4 : Hid (p3.length < p2.length) := hl
      have X4 : Hid (ExP (fun b => w.heap.size + 1 ≤ b) w4 (p2.length - p3.length) [.int .i64 k4, .int .i64 n4, .string s4, .slice a4 len4 cap4] y) := hx.same (Same.refl _ _) (by have := HSb3.out; have h3 : W3.drew.heap.size = W3.heap.size := rfl; omega) (Nat.le_refl _)
      clear hl hx
      clear hN hb hrd F HC
      obtain ⟨e0, e1, e2, e3, -⟩ := HP4_2.out.four
      have hw8 : w3.heap.size < w4.heap.size := HP4_2.out.lt
      have hv8 : ¬ w3.heap.size = w4.heap.size := by omega
      obtain ⟨g0, g1, g2, g3, g4, g5, z0, z1, z2, z3, z4, z5⟩ := HP4_0.out.six
      have HE : Hid (putR m o ps = .ok (leafS 2 s [] [x, y] [] [], p3)) := by unfold Hid; rw [putR]; simp only [E1.out, ES2.out, E3.out, E4.out, ↓reduceIte]
      have HX : Hid (SmP (fun b => w.heap.size + 1 ≤ b) (w4.alloc (.cells #[.int .i64 k3, .int .i64 n3, .string s3, .slice a3 len3 cap3, .int .i64 k4, .int .i64 n4, .string s4, .slice a4 len4 cap4] 57)) ((p1.length - p2.length) + (p2.length - p3.length) + 1) [.int .i64 2, .string (bs s), .string ⟨#[]⟩, .slice (some ⟨w4.heap.size, 0, none⟩) 2 2, .slice none 0 0, .slice none 0 0] (leafS 2 s [] [x, y] [] [])) := SmP.node (s := s) (t := []) (by decide) (nameL_len L1.out.2) (by decide) (LEx.two (Bx.new w4 _ _) HS4.out (HP4_1.out.same (Same.below ((Below.refl _ _).alloc (Nat.le_refl _) _)) (Nat.le_refl _) (by omega)) (X4.out.same (Same.below ((Below.refl _ _).alloc (Nat.le_refl _) _)) (Nat.le_refl _) (by omega))) (LSm.nil _ _ _) (LSm.nil _ _ _)
      have HL : Hid (p3.length < ps.length ∧ (p1.length - p2.length) + (p2.length - p3.length) + 1 ≤ ps.length - p3.length) := by unfold Hid; have := L1.out; have := L2.out; have := L3.out; have := L4.out; omega
      have hw9 : w.heap.size < w4.heap.size := HS4.out
      have hv9 : ¬ w.heap.size = w4.heap.size := by omega)
    all_goals go_wp2_with fail
    all_goals refine bodyPost_ret (v := .agg #[.int .i64 2, .string (bs s), .string ⟨#[]⟩, .slice (some ⟨w4.heap.size, 0, none⟩) 2 2, .slice none 0 0, .slice none 0 0]) (by simp [results, Tryz.results117, go_sem, g0, g1, g2, g3, g4, g5, hw9]) rfl ?_
    all_goals exact outS' HE.out HB4.out hlt hw9 HR4.out HL.out.1 HX.out HL.out.2
  | false =>
    rw [hS] at HC
    have ES2 : Hid (seesB [91] p1 = false) := hS
    clear hS
    go_wp2_with fail
    refine Calls.mono HC.out ?_
    rintro e w2 ⟨rfl, hbe0⟩
    have hbe : Below w1.heap.size w1 w2 := by rw [hbe0]; exact Below.refl _ _
    clear hbe0
    have hb : But r r w1 w2 := But.of_below hbe
    have hrd : Rdr r w2 o p1 := HR1.out.below hbe
    clear hbe
    have HB2 : Hid (But r r w w2) := HB1.out.trans hb
    have HS2 : Hid (w.heap.size + 1 ≤ w2.heap.size) := Nat.le_trans HS1.out hb.size
    have HP2_0 : Hid (Bx (w.heap.size) [.int .i64 0, .string ⟨#[]⟩, .string ⟨#[]⟩, .slice none 0 0, .slice none 0 0, .slice none 0 0] 111 w2) := HP1_0.out.but hb hlt
    have HR2 : Hid (Rdr r w2 o p1) := hrd
    clear hb hrd HC
    have HC : Hid _ := pk (R0 := putR m o ps) (K0 := KS w ps.length) (assigned_of (all_c m).whole r o p1 w2 HR2.out (by have := L1.out; omega)) HB2.out (fun er hN => by rw [putR]; simp only [E1.out, ES2.out, hN, Bool.false_eq_true, ↓reduceIte])
    go_wp2_with fail
    refine Calls.mono HC.out ?_
    rintro e w3 (⟨er, rfl, F⟩ | ⟨v, y, p3, rfl, F⟩)
    · go_wp2_with fail
      exact ⟨rfl, F.out⟩
    obtain ⟨hN, hb, hrd, hk⟩ := F.out
    have E3 : Hid (setR m o p1 = .ok (y, p3)) := hN
    have HB3 : Hid (But r r w w3) := HB2.out.trans hb
    have HS3 : Hid (w.heap.size + 1 ≤ w3.heap.size) := Nat.le_trans HS2.out hb.size
    have HP3_0 : Hid (Bx (w.heap.size) [.int .i64 0, .string ⟨#[]⟩, .string ⟨#[]⟩, .slice none 0 0, .slice none 0 0, .slice none 0 0] 111 w3) := HP2_0.out.but hb hlt
    have HR3 : Hid (Rdr r w3 o p3) := hrd
    obtain ⟨hl, cs, rfl, hx⟩ := hk
    obtain ⟨k3, n3, s3, a3, len3, cap3, rfl⟩ := hx.shape
    have L3 : Hid (p3.length < p1.length) := hl
    have X3 : Hid (ExP (fun b => w.heap.size + 1 ≤ b) w3 (p1.length - p3.length) [.int .i64 k3, .int .i64 n3, .string s3, .slice a3 len3 cap3] y) := hx.same (Same.refl _ _) (by have := HS2.out; omega) (Nat.le_refl _)
    clear hl hx
    clear hN hb hrd F HC
    obtain ⟨g0, g1, g2, g3, g4, g5, z0, z1, z2, z3, z4, z5⟩ := HP3_0.out.six
    have HE : Hid (putR m o ps = .ok (leafS 1 s [] [y] [] [], p3)) := by unfold Hid; rw [putR]; simp only [E1.out, ES2.out, E3.out, Bool.false_eq_true, ↓reduceIte]
    have HX : Hid (SmP (fun b => w.heap.size + 1 ≤ b) (w3.alloc (.cells #[.int .i64 k3, .int .i64 n3, .string s3, .slice a3 len3 cap3] 57)) (p1.length - p3.length + 1) [.int .i64 1, .string (bs s), .string ⟨#[]⟩, .slice (some ⟨w3.heap.size, 0, none⟩) 1 1, .slice none 0 0, .slice none 0 0] (leafS 1 s [] [y] [] [])) := SmP.node (s := s) (t := []) (by decide) (nameL_len L1.out.2) (by decide) (LEx.one (Bx.new w3 _ _) HS3.out (X3.out.same (Same.below ((Below.refl _ _).alloc (Nat.le_refl _) _)) (Nat.le_refl _) (Nat.le_refl _))) (LSm.nil _ _ _) (LSm.nil _ _ _)
    have HL : Hid (p3.length < ps.length ∧ p1.length - p3.length + 1 ≤ ps.length - p3.length) := by unfold Hid; have := L1.out; have := L3.out; omega
    have hw9 : w.heap.size < w3.heap.size := HS3.out
    have hv9 : ¬ w.heap.size = w3.heap.size := by omega
    go_wp2_with fail
    refine bodyPost_ret (v := .agg #[.int .i64 1, .string (bs s), .string ⟨#[]⟩, .slice (some ⟨w3.heap.size, 0, none⟩) 1 1, .slice none 0 0, .slice none 0 0]) (by simp [results, Tryz.results117, go_sem, g0, g1, g2, g3, g4, g5, hw9]) rfl ?_
    exact outS' HE.out HB3.out hlt hw9 HR3.out HL.out.1 HX.out HL.out.2
end Go.Proofs.YtfbpkbochhfnhaaGreatDoor
