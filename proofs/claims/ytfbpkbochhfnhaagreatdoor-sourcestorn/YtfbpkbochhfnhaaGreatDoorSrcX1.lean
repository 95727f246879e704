/-
  The maker's expressions: those whose order is fixed. / The maker's expressions: some whose order is drawn. / The maker's expressions: some whose order is drawn. / The maker's expressions: some whose order is drawn.
-/
import Derived.Test.YtfbpkbochhfnhaaGreatDoorSrcX0
import Derived.Deep.RegionWith
namespace Go.Proofs.YtfbpkbochhfnhaaGreatDoor
open Go.ChangeShapes Go.WideShapes Go.ChangeAt Go.RowKit Go.Joins
set_option linter.unusedVariables false
set_option maxRecDepth 100000
set_option maxHeartbeats 4000000 in
theorem exp_cond {d c : Nat} (hX : MkE d c) (hc : 1 ≤ c) (r : Nat) (l : List Rw) (i : Nat) (b : Bool) (w : World) (hM : Mk r w l i) (hi : i + 4 * c ≤ 1000000) (hd : d ≤ 10)
 (hk4 : ¬ pickR (nextR l i).kind 4 = 0) (hk : pickR ((nextR l i).kind.tdiv 4) 16 = 7) :
 Calls Tryz.prog 15 #[.pointer (some ⟨r, 0, none⟩), .int .i64 ((d + 1 : Nat) : Int), .bool b] w (MkOut (GE (d + 1) b) (4 * c) r l i w) := by
 obtain ⟨D, hD⟩ : ∃ D : Int, D = ((d + 1 : Nat) : Int) := ⟨_, rfl⟩
 obtain ⟨x, hx⟩ : ∃ x, x = nextR l i := ⟨_, rfl⟩
 obtain ⟨W, hW⟩ : ∃ W, W = (((w.alloc (.cells #[.pointer (some ⟨r, 0, none⟩)] 40)).alloc (.cells #[.int .i64 D] 3)).alloc (.cells #[.bool b] 4)) := ⟨_, rfl⟩
 have HMW : Hid (Mk r W l i) := by rw [hW]; exact ((hM.alloc _).alloc _).alloc _
 have HBW : Hid (But r r w W) := by rw [hW]; exact (((But.refl _ _ _).alloc _).alloc _).alloc _
 have HBO : Hid (Bo r w.heap.size (w.heap.size + 1) (w.heap.size + 1 + 1) D b W) := by rw [hW]; exact Bo.new hM.lt _ _ _
 have HDR : Hid _ := draw_c r l i W HMW.out (by omega)
 have HOK : Hid (x.ok) := by rw [hx]; exact hM.ok i
 have d1 : ¬ D ≤ 0 := by omega
 have HWW : Hid (W = _) := hW
 rw [← hD]
 rw [← hx] at hk4 hk HDR
 have HIC : Hid (i + 4 * c ≤ 1000000 ∧ 1 ≤ c) := ⟨hi, hc⟩
 have HDD : Hid (D = _) := hD
 obtain ⟨xk, xa, xb, xc⟩ := x
 have HP4 : Hid (∀ W : World, _) := fun W => picked_x xk 4 W HOK.out.1 (by decide) (by decide)
 simp only at hk
 obtain ⟨t1, t2⟩ := wf_range (wf_tdiv HOK.out.1)
 have HPK : Hid (∀ W : World, Calls Tryz.prog 8 #[.int .i64 (xk.tdiv 4), .int .i64 16] W fun e w' => e = .returned (.int .i64 7) ∧ w' = W) := fun W => by
  have h := picked_x (xk.tdiv 4) 16 W (wf_tdiv HOK.out.1) (by decide) (by decide)
  rw [hk] at h
  exact h
 obtain ⟨K4, hK4⟩ : ∃ K : Int, K = ((pickR xk 4 : Nat) : Int) := ⟨_, rfl⟩
 have k4 : ¬ K4 = 0 := by simp only at hk4; omega
 have k4b : (K4 == 0) = false := by simpa using k4
 rw [← hK4] at HP4
 clear hk4 hk hx hi hc hW hM hD hK4
 go_enter Tryz.func15, Tryz.ntmps15
 go_wp2_with fail
 rw [← HWW.out]
 refine Calls.mono HDR.out ?_
 rintro e w1 ⟨rfl, hM1, hb1⟩
 obtain ⟨p, hp⟩ : ∃ p, p = w.heap.size := ⟨_, rfl⟩
 obtain ⟨q, hq⟩ : ∃ p, p = w.heap.size + 1 := ⟨_, rfl⟩
 obtain ⟨t, ht⟩ : ∃ p, p = w.heap.size + 1 + 1 := ⟨_, rfl⟩
 have HBO1 := HBO.out.but hb1
 rw [← ht, ← hq, ← hp] at HBO1 ⊢
 obtain ⟨b0, b1, b2, rp, rq, rt⟩ := HBO1
 obtain ⟨W2, hW2⟩ : ∃ W2, W2 = (w1.alloc (.cells #[.int .i64 xk, .int .i64 xa, .int .i64 xb, .int .i64 xc] 44)).alloc (.cells #[.string ⟨#[120]⟩, .string ⟨#[121]⟩, .string ⟨#[122]⟩, .string ⟨#[115, 101, 101, 100]⟩] 9) := ⟨_, rfl⟩
 have HM2 : Hid (Mk r W2 l (i + 1)) := by rw [hW2]; exact (hM1.alloc _).alloc _
 have HB2 : Hid (But r r w W2) := by rw [hW2]; exact ((HBW.out.trans hb1).alloc _).alloc _
 have HBO2 : Hid (Bo r p q t D b W2) := by rw [hW2]; exact (Bo.below ⟨b0, b1, b2, rp, rq, rt⟩ ((Below.refl _ _).alloc (Nat.le_refl _) _)).below ((Below.refl _ _).alloc (Nat.le_refl _) _)
 have HLO2 : Hid (Lo r w1.heap.size (w1.heap.size + 1) ⟨xk, xa, xb, xc⟩ W2) := by rw [hW2]; exact Lo.new ⟨xk, xa, xb, xc⟩ hM1.lt _ _
 obtain ⟨u, hu⟩ : ∃ p, p = w1.heap.size := ⟨_, rfl⟩
 obtain ⟨v, hv⟩ : ∃ p, p = w1.heap.size + 1 := ⟨_, rfl⟩
 have HUV : Hid (u = _ ∧ v = _) := ⟨hu, hv⟩
 have HWW2 : Hid (W2 = _) := hW2
 have l1 : q < w1.heap.size := World.block_lt_of_cell? w1 ⟨q, 0, none⟩ b1
 have n1 : ¬ q = w1.heap.size := by omega
 have m1 : ¬ q = w1.heap.size + 1 := by omega
 clear hM1 hb1 HDR HBO HBW HMW HWW hp hq ht hu hv hW2 b0 b2 rp rt
 unfold rwV
 go_wp2_with fail
 rw [← HWW2.out, ← HUV.out.2, ← HUV.out.1]
 rw [← HUV.out.2, ← HUV.out.1] at HLO2
 clear HWW2 HUV l1 n1 m1 b1 rq
 refine Calls.mono (HP4.out W2) ?_
 rintro e w2 ⟨rfl, hw2⟩
 rw [hw2]
 clear hw2 w2 HP4
 obtain ⟨x0, x1, x2, x3, v0, v1, v2, v3, ru, rv⟩ := HLO2.out
 obtain ⟨b0, b1, b2, rp, rq, rt⟩ := HBO2.out
 simp only at x0 x1 x2 x3
 go_wp2_with fail
 refine Calls.mono (HPK.out W2) ?_
 rintro e w2 ⟨rfl, hw2⟩
 rw [hw2]
 clear hw2 w2 HPK
 have HC1 : Hid _ := sub_c hX hd r p q t l (i + 1) b W2 HM2.out (by obtain ⟨h1, h2⟩ := HIC.out; omega) D HDD.out HBO2.out
 go_wp2_with fail
 refine Calls.mono HC1.out ?_
 rintro e w3 ⟨s1, i3, rfl, hG1, hM3, hi3, hb3⟩
 obtain ⟨Z1, hZ1⟩ : ∃ Z, Z = bs s1 := ⟨_, rfl⟩
 rw [← hZ1]
 have z1 : Z1.size ≤ 100000000 := by rw [hZ1, bs_size]; exact hG1.short10 hd
 have HG1 : Hid (Z1 = bs s1 ∧ GE d b s1) := ⟨hZ1, hG1⟩
 have HM3 : Hid (Mk r w3 l i3) := hM3
 have HI1 : Hid (i3 ≤ (i + 1) + c) := hi3
 have HB3 : Hid (But r r w w3) := HB2.out.trans hb3
 have HBO3 : Hid (Bo r p q t D b w3) := HBO2.out.but hb3
 clear hG1 hM3 hi3 hb3 hZ1 HC1
 have HC2 : Hid _ := sub_c hX hd r p q t l i3 b w3 HM3.out (by obtain ⟨h1, h2⟩ := HIC.out; have h3 := HI1.out; omega) D HDD.out HBO3.out
 go_wp2_with fail
 refine Calls.mono HC2.out ?_
 rintro e w4 ⟨s2, i4, rfl, hG2, hM4, hi4, hb4⟩
 obtain ⟨Z2, hZ2⟩ : ∃ Z, Z = bs s2 := ⟨_, rfl⟩
 rw [← hZ2]
 have z2 : Z2.size ≤ 100000000 := by rw [hZ2, bs_size]; exact hG2.short10 hd
 have HG2 : Hid (Z2 = bs s2 ∧ GE d b s2) := ⟨hZ2, hG2⟩
 have HM4 : Hid (Mk r w4 l i4) := hM4
 have HI2 : Hid (i4 ≤ i3 + c ∧ i3 ≤ i + 1 + 1 * c) := ⟨hi4, by have h3 := HI1.out; omega⟩
 have HB4 : Hid (But r r w w4) := HB3.out.trans hb4
 have HBO4 : Hid (Bo r p q t D b w4) := HBO3.out.but hb4
 clear hG2 hM4 hi4 hb4 hZ2 HC2
 have HC3 : Hid _ := sub_c hX hd r p q t l i4 b w4 HM4.out (by obtain ⟨h1, h2⟩ := HIC.out; have h3 := HI2.out; omega) D HDD.out HBO4.out
 go_wp2_with fail
 refine Calls.mono HC3.out ?_
 rintro e w5 ⟨s3, i5, rfl, hG3, hM5, hi5, hb5⟩
 obtain ⟨Z3, hZ3⟩ : ∃ Z, Z = bs s3 := ⟨_, rfl⟩
 rw [← hZ3]
 have z3 : Z3.size ≤ 100000000 := by rw [hZ3, bs_size]; exact hG3.short10 hd
 have HG3 : Hid (Z3 = bs s3 ∧ GE d b s3) := ⟨hZ3, hG3⟩
 have HM5 : Hid (Mk r w5 l i5) := hM5
 have HI3 : Hid (i5 ≤ i4 + c ∧ i4 ≤ i + 1 + 2 * c) := ⟨hi5, by have h3 := HI2.out; omega⟩
 have HB5 : Hid (But r r w w5) := HB4.out.trans hb5
 have HBO5 : Hid (Bo r p q t D b w5) := HBO4.out.but hb5
 clear hG3 hM5 hi5 hb5 hZ3 HC3
 have HE : Hid (MkOut (GE (d + 1) b) (4 * c) r l i w (.returned (.string (⟨#[40]⟩ ++ Z1 ++ ⟨#[32, 63, 32]⟩ ++ Z2 ++ ⟨#[32, 58, 32]⟩ ++ Z3 ++ ⟨#[41]⟩))) w5) :=
  ⟨_, i5, by rw [HG1.out.1, HG2.out.1, HG3.out.1, ← bs_app, ← bs_app, ← bs_app, ← bs_app, ← bs_app, ← bs_app]; rfl, GE.cond HG1.out.2 HG2.out.2 HG3.out.2, HM5.out, by obtain ⟨h1, h2⟩ := HIC.out; have h3 := HI3.out; omega, HB5.out⟩
 go_wp2_with fail
 go_ret
 exact HE.out
set_option maxHeartbeats 4000000 in
theorem exp_len {d c : Nat} (hX : MkE d c) (hc : 1 ≤ c) (r : Nat) (l : List Rw) (i : Nat) (b : Bool) (w : World) (hM : Mk r w l i) (hi : i + 4 * c ≤ 1000000) (hd : d ≤ 10)
 (hk4 : ¬ pickR (nextR l i).kind 4 = 0) (hk : pickR ((nextR l i).kind.tdiv 4) 16 = 10) :
 Calls Tryz.prog 15 #[.pointer (some ⟨r, 0, none⟩), .int .i64 ((d + 1 : Nat) : Int), .bool b] w (MkOut (GE (d + 1) b) (4 * c) r l i w) := by
 obtain ⟨D, hD⟩ : ∃ D : Int, D = ((d + 1 : Nat) : Int) := ⟨_, rfl⟩
 obtain ⟨x, hx⟩ : ∃ x, x = nextR l i := ⟨_, rfl⟩
 obtain ⟨W, hW⟩ : ∃ W, W = (((w.alloc (.cells #[.pointer (some ⟨r, 0, none⟩)] 40)).alloc (.cells #[.int .i64 D] 3)).alloc (.cells #[.bool b] 4)) := ⟨_, rfl⟩
 have HMW : Hid (Mk r W l i) := by rw [hW]; exact ((hM.alloc _).alloc _).alloc _
 have HBW : Hid (But r r w W) := by rw [hW]; exact (((But.refl _ _ _).alloc _).alloc _).alloc _
 have HBO : Hid (Bo r w.heap.size (w.heap.size + 1) (w.heap.size + 1 + 1) D b W) := by rw [hW]; exact Bo.new hM.lt _ _ _
 have HDR : Hid _ := draw_c r l i W HMW.out (by omega)
 have HOK : Hid (x.ok) := by rw [hx]; exact hM.ok i
 have d1 : ¬ D ≤ 0 := by omega
 have HWW : Hid (W = _) := hW
 rw [← hD]
 rw [← hx] at hk4 hk HDR
 have HIC : Hid (i + 4 * c ≤ 1000000 ∧ 1 ≤ c) := ⟨hi, hc⟩
 have HDD : Hid (D = _) := hD
 obtain ⟨xk, xa, xb, xc⟩ := x
 have HP4 : Hid (∀ W : World, _) := fun W => picked_x xk 4 W HOK.out.1 (by decide) (by decide)
 simp only at hk
 obtain ⟨t1, t2⟩ := wf_range (wf_tdiv HOK.out.1)
 have HPK : Hid (∀ W : World, Calls Tryz.prog 8 #[.int .i64 (xk.tdiv 4), .int .i64 16] W fun e w' => e = .returned (.int .i64 10) ∧ w' = W) := fun W => by
  have h := picked_x (xk.tdiv 4) 16 W (wf_tdiv HOK.out.1) (by decide) (by decide)
  rw [hk] at h
  exact h
 obtain ⟨K4, hK4⟩ : ∃ K : Int, K = ((pickR xk 4 : Nat) : Int) := ⟨_, rfl⟩
 have k4 : ¬ K4 = 0 := by simp only at hk4; omega
 have k4b : (K4 == 0) = false := by simpa using k4
 rw [← hK4] at HP4
 clear hk4 hk hx hi hc hW hM hD hK4
 go_enter Tryz.func15, Tryz.ntmps15
 go_wp2_with fail
 rw [← HWW.out]
 refine Calls.mono HDR.out ?_
 rintro e w1 ⟨rfl, hM1, hb1⟩
 obtain ⟨p, hp⟩ : ∃ p, p = w.heap.size := ⟨_, rfl⟩
 obtain ⟨q, hq⟩ : ∃ p, p = w.heap.size + 1 := ⟨_, rfl⟩
 obtain ⟨t, ht⟩ : ∃ p, p = w.heap.size + 1 + 1 := ⟨_, rfl⟩
 have HBO1 := HBO.out.but hb1
 rw [← ht, ← hq, ← hp] at HBO1 ⊢
 obtain ⟨b0, b1, b2, rp, rq, rt⟩ := HBO1
 obtain ⟨W2, hW2⟩ : ∃ W2, W2 = (w1.alloc (.cells #[.int .i64 xk, .int .i64 xa, .int .i64 xb, .int .i64 xc] 44)).alloc (.cells #[.string ⟨#[120]⟩, .string ⟨#[121]⟩, .string ⟨#[122]⟩, .string ⟨#[115, 101, 101, 100]⟩] 9) := ⟨_, rfl⟩
 have HM2 : Hid (Mk r W2 l (i + 1)) := by rw [hW2]; exact (hM1.alloc _).alloc _
 have HB2 : Hid (But r r w W2) := by rw [hW2]; exact ((HBW.out.trans hb1).alloc _).alloc _
 have HBO2 : Hid (Bo r p q t D b W2) := by rw [hW2]; exact (Bo.below ⟨b0, b1, b2, rp, rq, rt⟩ ((Below.refl _ _).alloc (Nat.le_refl _) _)).below ((Below.refl _ _).alloc (Nat.le_refl _) _)
 have HLO2 : Hid (Lo r w1.heap.size (w1.heap.size + 1) ⟨xk, xa, xb, xc⟩ W2) := by rw [hW2]; exact Lo.new ⟨xk, xa, xb, xc⟩ hM1.lt _ _
 obtain ⟨u, hu⟩ : ∃ p, p = w1.heap.size := ⟨_, rfl⟩
 obtain ⟨v, hv⟩ : ∃ p, p = w1.heap.size + 1 := ⟨_, rfl⟩
 have HUV : Hid (u = _ ∧ v = _) := ⟨hu, hv⟩
 have HWW2 : Hid (W2 = _) := hW2
 have l1 : q < w1.heap.size := World.block_lt_of_cell? w1 ⟨q, 0, none⟩ b1
 have n1 : ¬ q = w1.heap.size := by omega
 have m1 : ¬ q = w1.heap.size + 1 := by omega
 clear hM1 hb1 HDR HBO HBW HMW HWW hp hq ht hu hv hW2 b0 b2 rp rt
 unfold rwV
 go_wp2_with fail
 rw [← HWW2.out, ← HUV.out.2, ← HUV.out.1]
 rw [← HUV.out.2, ← HUV.out.1] at HLO2
 clear HWW2 HUV l1 n1 m1 b1 rq
 refine Calls.mono (HP4.out W2) ?_
 rintro e w2 ⟨rfl, hw2⟩
 rw [hw2]
 clear hw2 w2 HP4
 obtain ⟨x0, x1, x2, x3, v0, v1, v2, v3, ru, rv⟩ := HLO2.out
 obtain ⟨b0, b1, b2, rp, rq, rt⟩ := HBO2.out
 simp only at x0 x1 x2 x3
 go_wp2_with fail
 refine Calls.mono (HPK.out W2) ?_
 rintro e w2 ⟨rfl, hw2⟩
 rw [hw2]
 clear hw2 w2 HPK
 have HC1 : Hid _ := sub_c hX hd r p q t l (i + 1) b W2 HM2.out (by obtain ⟨h1, h2⟩ := HIC.out; omega) D HDD.out HBO2.out
 go_wp2_with fail
 refine Calls.mono HC1.out ?_
 rintro e w3 ⟨s1, i3, rfl, hG1, hM3, hi3, hb3⟩
 obtain ⟨Z1, hZ1⟩ : ∃ Z, Z = bs s1 := ⟨_, rfl⟩
 rw [← hZ1]
 have z1 : Z1.size ≤ 100000000 := by rw [hZ1, bs_size]; exact hG1.short10 hd
 have HG1 : Hid (Z1 = bs s1 ∧ GE d b s1) := ⟨hZ1, hG1⟩
 have HM3 : Hid (Mk r w3 l i3) := hM3
 have HI1 : Hid (i3 ≤ (i + 1) + c) := hi3
 have HB3 : Hid (But r r w w3) := HB2.out.trans hb3
 have HBO3 : Hid (Bo r p q t D b w3) := HBO2.out.but hb3
 clear hG1 hM3 hi3 hb3 hZ1 HC1
 have HE : Hid (MkOut (GE (d + 1) b) (4 * c) r l i w (.returned (.string (⟨#[108, 101, 110, 103, 116, 104, 40]⟩ ++ Z1 ++ ⟨#[41]⟩))) w3) :=
  ⟨_, i3, by rw [HG1.out.1, ← bs_app, ← bs_app]; rfl, GE.lenf HG1.out.2, HM3.out, by obtain ⟨h1, h2⟩ := HIC.out; have h3 := HI1.out; omega, HB3.out⟩
 go_wp2_with fail
 go_ret
 exact HE.out
set_option maxHeartbeats 4000000 in
theorem exp_sub {d c : Nat} (hX : MkE d c) (hc : 1 ≤ c) (r : Nat) (l : List Rw) (i : Nat) (b : Bool) (w : World) (hM : Mk r w l i) (hi : i + 4 * c ≤ 1000000) (hd : d ≤ 10)
 (hk4 : ¬ pickR (nextR l i).kind 4 = 0) (hk : pickR ((nextR l i).kind.tdiv 4) 16 = 11) :
 Calls Tryz.prog 15 #[.pointer (some ⟨r, 0, none⟩), .int .i64 ((d + 1 : Nat) : Int), .bool b] w (MkOut (GE (d + 1) b) (4 * c) r l i w) := by
 obtain ⟨D, hD⟩ : ∃ D : Int, D = ((d + 1 : Nat) : Int) := ⟨_, rfl⟩
 obtain ⟨x, hx⟩ : ∃ x, x = nextR l i := ⟨_, rfl⟩
 obtain ⟨W, hW⟩ : ∃ W, W = (((w.alloc (.cells #[.pointer (some ⟨r, 0, none⟩)] 40)).alloc (.cells #[.int .i64 D] 3)).alloc (.cells #[.bool b] 4)) := ⟨_, rfl⟩
 have HMW : Hid (Mk r W l i) := by rw [hW]; exact ((hM.alloc _).alloc _).alloc _
 have HBW : Hid (But r r w W) := by rw [hW]; exact (((But.refl _ _ _).alloc _).alloc _).alloc _
 have HBO : Hid (Bo r w.heap.size (w.heap.size + 1) (w.heap.size + 1 + 1) D b W) := by rw [hW]; exact Bo.new hM.lt _ _ _
 have HDR : Hid _ := draw_c r l i W HMW.out (by omega)
 have HOK : Hid (x.ok) := by rw [hx]; exact hM.ok i
 have d1 : ¬ D ≤ 0 := by omega
 have HWW : Hid (W = _) := hW
 rw [← hD]
 rw [← hx] at hk4 hk HDR
 have HIC : Hid (i + 4 * c ≤ 1000000 ∧ 1 ≤ c) := ⟨hi, hc⟩
 have HDD : Hid (D = _) := hD
 obtain ⟨xk, xa, xb, xc⟩ := x
 have HP4 : Hid (∀ W : World, _) := fun W => picked_x xk 4 W HOK.out.1 (by decide) (by decide)
 simp only at hk
 obtain ⟨t1, t2⟩ := wf_range (wf_tdiv HOK.out.1)
 have HPK : Hid (∀ W : World, Calls Tryz.prog 8 #[.int .i64 (xk.tdiv 4), .int .i64 16] W fun e w' => e = .returned (.int .i64 11) ∧ w' = W) := fun W => by
  have h := picked_x (xk.tdiv 4) 16 W (wf_tdiv HOK.out.1) (by decide) (by decide)
  rw [hk] at h
  exact h
 obtain ⟨K4, hK4⟩ : ∃ K : Int, K = ((pickR xk 4 : Nat) : Int) := ⟨_, rfl⟩
 have k4 : ¬ K4 = 0 := by simp only at hk4; omega
 have k4b : (K4 == 0) = false := by simpa using k4
 rw [← hK4] at HP4
 clear hk4 hk hx hi hc hW hM hD hK4
 go_enter Tryz.func15, Tryz.ntmps15
 go_wp2_with fail
 rw [← HWW.out]
 refine Calls.mono HDR.out ?_
 rintro e w1 ⟨rfl, hM1, hb1⟩
 obtain ⟨p, hp⟩ : ∃ p, p = w.heap.size := ⟨_, rfl⟩
 obtain ⟨q, hq⟩ : ∃ p, p = w.heap.size + 1 := ⟨_, rfl⟩
 obtain ⟨t, ht⟩ : ∃ p, p = w.heap.size + 1 + 1 := ⟨_, rfl⟩
 have HBO1 := HBO.out.but hb1
 rw [← ht, ← hq, ← hp] at HBO1 ⊢
 obtain ⟨b0, b1, b2, rp, rq, rt⟩ := HBO1
 obtain ⟨W2, hW2⟩ : ∃ W2, W2 = (w1.alloc (.cells #[.int .i64 xk, .int .i64 xa, .int .i64 xb, .int .i64 xc] 44)).alloc (.cells #[.string ⟨#[120]⟩, .string ⟨#[121]⟩, .string ⟨#[122]⟩, .string ⟨#[115, 101, 101, 100]⟩] 9) := ⟨_, rfl⟩
 have HM2 : Hid (Mk r W2 l (i + 1)) := by rw [hW2]; exact (hM1.alloc _).alloc _
 have HB2 : Hid (But r r w W2) := by rw [hW2]; exact ((HBW.out.trans hb1).alloc _).alloc _
 have HBO2 : Hid (Bo r p q t D b W2) := by rw [hW2]; exact (Bo.below ⟨b0, b1, b2, rp, rq, rt⟩ ((Below.refl _ _).alloc (Nat.le_refl _) _)).below ((Below.refl _ _).alloc (Nat.le_refl _) _)
 have HLO2 : Hid (Lo r w1.heap.size (w1.heap.size + 1) ⟨xk, xa, xb, xc⟩ W2) := by rw [hW2]; exact Lo.new ⟨xk, xa, xb, xc⟩ hM1.lt _ _
 obtain ⟨u, hu⟩ : ∃ p, p = w1.heap.size := ⟨_, rfl⟩
 obtain ⟨v, hv⟩ : ∃ p, p = w1.heap.size + 1 := ⟨_, rfl⟩
 have HUV : Hid (u = _ ∧ v = _) := ⟨hu, hv⟩
 have HWW2 : Hid (W2 = _) := hW2
 have l1 : q < w1.heap.size := World.block_lt_of_cell? w1 ⟨q, 0, none⟩ b1
 have n1 : ¬ q = w1.heap.size := by omega
 have m1 : ¬ q = w1.heap.size + 1 := by omega
 clear hM1 hb1 HDR HBO HBW HMW HWW hp hq ht hu hv hW2 b0 b2 rp rt
 unfold rwV
 go_wp2_with fail
 rw [← HWW2.out, ← HUV.out.2, ← HUV.out.1]
 rw [← HUV.out.2, ← HUV.out.1] at HLO2
 clear HWW2 HUV l1 n1 m1 b1 rq
 refine Calls.mono (HP4.out W2) ?_
 rintro e w2 ⟨rfl, hw2⟩
 rw [hw2]
 clear hw2 w2 HP4
 obtain ⟨x0, x1, x2, x3, v0, v1, v2, v3, ru, rv⟩ := HLO2.out
 obtain ⟨b0, b1, b2, rp, rq, rt⟩ := HBO2.out
 simp only at x0 x1 x2 x3
 go_wp2_with fail
 refine Calls.mono (HPK.out W2) ?_
 rintro e w2 ⟨rfl, hw2⟩
 rw [hw2]
 clear hw2 w2 HPK
 have HC1 : Hid _ := sub_c hX hd r p q t l (i + 1) b W2 HM2.out (by obtain ⟨h1, h2⟩ := HIC.out; omega) D HDD.out HBO2.out
 go_wp2_with fail
 refine Calls.mono HC1.out ?_
 rintro e w3 ⟨s1, i3, rfl, hG1, hM3, hi3, hb3⟩
 obtain ⟨Z1, hZ1⟩ : ∃ Z, Z = bs s1 := ⟨_, rfl⟩
 rw [← hZ1]
 have z1 : Z1.size ≤ 100000000 := by rw [hZ1, bs_size]; exact hG1.short10 hd
 have HG1 : Hid (Z1 = bs s1 ∧ GE d b s1) := ⟨hZ1, hG1⟩
 have HM3 : Hid (Mk r w3 l i3) := hM3
 have HI1 : Hid (i3 ≤ (i + 1) + c) := hi3
 have HB3 : Hid (But r r w w3) := HB2.out.trans hb3
 have HBO3 : Hid (Bo r p q t D b w3) := HBO2.out.but hb3
 clear hG1 hM3 hi3 hb3 hZ1 HC1
 have HC2 : Hid _ := sub_c hX hd r p q t l i3 b w3 HM3.out (by obtain ⟨h1, h2⟩ := HIC.out; have h3 := HI1.out; omega) D HDD.out HBO3.out
 go_wp2_with fail
 refine Calls.mono HC2.out ?_
 rintro e w4 ⟨s2, i4, rfl, hG2, hM4, hi4, hb4⟩
 obtain ⟨Z2, hZ2⟩ : ∃ Z, Z = bs s2 := ⟨_, rfl⟩
 rw [← hZ2]
 have z2 : Z2.size ≤ 100000000 := by rw [hZ2, bs_size]; exact hG2.short10 hd
 have HG2 : Hid (Z2 = bs s2 ∧ GE d b s2) := ⟨hZ2, hG2⟩
 have HM4 : Hid (Mk r w4 l i4) := hM4
 have HI2 : Hid (i4 ≤ i3 + c ∧ i3 ≤ i + 1 + 1 * c) := ⟨hi4, by have h3 := HI1.out; omega⟩
 have HB4 : Hid (But r r w w4) := HB3.out.trans hb4
 have HBO4 : Hid (Bo r p q t D b w4) := HBO3.out.but hb4
 clear hG2 hM4 hi4 hb4 hZ2 HC2
 have HE : Hid (MkOut (GE (d + 1) b) (4 * c) r l i w (.returned (.string (⟨#[115, 117, 98, 115, 116, 114, 40]⟩ ++ Z1 ++ ⟨#[44, 32]⟩ ++ Z2 ++ ⟨#[44, 32, 50, 41]⟩))) w4) :=
  ⟨_, i4, by rw [HG1.out.1, HG2.out.1, ← bs_app, ← bs_app, ← bs_app, ← bs_app]; rfl, GE.sub HG1.out.2 HG2.out.2, HM4.out, by obtain ⟨h1, h2⟩ := HIC.out; have h3 := HI2.out; omega, HB4.out⟩
 go_wp2_with fail
 go_ret
 exact HE.out
set_option maxHeartbeats 4000000 in
theorem exp_index {d c : Nat} (hX : MkE d c) (hc : 1 ≤ c) (r : Nat) (l : List Rw) (i : Nat) (w : World) (hM : Mk r w l i) (hi : i + 4 * c ≤ 1000000) (hd : d ≤ 10)
 (hk4 : ¬ pickR (nextR l i).kind 4 = 0) (hk : 12 < pickR ((nextR l i).kind.tdiv 4) 16) :
 Calls Tryz.prog 15 #[.pointer (some ⟨r, 0, none⟩), .int .i64 ((d + 1 : Nat) : Int), .bool true] w (MkOut (GE (d + 1) true) (4 * c) r l i w) := by
 obtain ⟨D, hD⟩ : ∃ D : Int, D = ((d + 1 : Nat) : Int) := ⟨_, rfl⟩
 obtain ⟨x, hx⟩ : ∃ x, x = nextR l i := ⟨_, rfl⟩
 obtain ⟨W, hW⟩ : ∃ W, W = (((w.alloc (.cells #[.pointer (some ⟨r, 0, none⟩)] 40)).alloc (.cells #[.int .i64 D] 3)).alloc (.cells #[.bool true] 4)) := ⟨_, rfl⟩
 have HMW : Hid (Mk r W l i) := by rw [hW]; exact ((hM.alloc _).alloc _).alloc _
 have HBW : Hid (But r r w W) := by rw [hW]; exact (((But.refl _ _ _).alloc _).alloc _).alloc _
 have HBO : Hid (Bo r w.heap.size (w.heap.size + 1) (w.heap.size + 1 + 1) D true W) := by rw [hW]; exact Bo.new hM.lt _ _ _
 have HDR : Hid _ := draw_c r l i W HMW.out (by omega)
 have HOK : Hid (x.ok) := by rw [hx]; exact hM.ok i
 have d1 : ¬ D ≤ 0 := by omega
 have HWW : Hid (W = _) := hW
 rw [← hD]
 rw [← hx] at hk4 hk HDR
 have HIC : Hid (i + 4 * c ≤ 1000000 ∧ 1 ≤ c) := ⟨hi, hc⟩
 have HDD : Hid (D = _) := hD
 obtain ⟨xk, xa, xb, xc⟩ := x
 have HP4 : Hid (∀ W : World, _) := fun W => picked_x xk 4 W HOK.out.1 (by decide) (by decide)
 simp only at hk
 obtain ⟨t1, t2⟩ := wf_range (wf_tdiv HOK.out.1)
 obtain ⟨K, hK⟩ : ∃ K : Int, K = ((pickR (xk.tdiv 4) 16 : Nat) : Int) := ⟨_, rfl⟩
 have HPK : Hid (∀ W : World, Calls Tryz.prog 8 #[.int .i64 (xk.tdiv 4), .int .i64 16] W fun e w' => e = .returned (.int .i64 K) ∧ w' = W) := fun W => by
  have h := picked_x (xk.tdiv 4) 16 W (wf_tdiv HOK.out.1) (by decide) (by decide)
  rw [hK]
  exact h
 have kf0 : ¬ K < 4 := by first | omega | (simp only [beq_eq_false_iff_ne, ne_eq]; omega)
 have kf1 : ¬ K < 6 := by first | omega | (simp only [beq_eq_false_iff_ne, ne_eq]; omega)
 have kf2 : (K == 6) = false := by first | omega | (simp only [beq_eq_false_iff_ne, ne_eq]; omega)
 have kf3 : (K == 7) = false := by first | omega | (simp only [beq_eq_false_iff_ne, ne_eq]; omega)
 have kf4 : (K == 8) = false := by first | omega | (simp only [beq_eq_false_iff_ne, ne_eq]; omega)
 have kf5 : (K == 9) = false := by first | omega | (simp only [beq_eq_false_iff_ne, ne_eq]; omega)
 have kf6 : (K == 10) = false := by first | omega | (simp only [beq_eq_false_iff_ne, ne_eq]; omega)
 have kf7 : (K == 11) = false := by first | omega | (simp only [beq_eq_false_iff_ne, ne_eq]; omega)
 have kf8 : (K == 12) = false := by first | omega | (simp only [beq_eq_false_iff_ne, ne_eq]; omega)
 clear hK
 obtain ⟨K4, hK4⟩ : ∃ K : Int, K = ((pickR xk 4 : Nat) : Int) := ⟨_, rfl⟩
 have k4 : ¬ K4 = 0 := by simp only at hk4; omega
 have k4b : (K4 == 0) = false := by simpa using k4
 rw [← hK4] at HP4
 clear hk4 hk hx hi hc hW hM hD hK4
 go_enter Tryz.func15, Tryz.ntmps15
 go_wp2_with fail
 rw [← HWW.out]
 refine Calls.mono HDR.out ?_
 rintro e w1 ⟨rfl, hM1, hb1⟩
 obtain ⟨p, hp⟩ : ∃ p, p = w.heap.size := ⟨_, rfl⟩
 obtain ⟨q, hq⟩ : ∃ p, p = w.heap.size + 1 := ⟨_, rfl⟩
 obtain ⟨t, ht⟩ : ∃ p, p = w.heap.size + 1 + 1 := ⟨_, rfl⟩
 have HBO1 := HBO.out.but hb1
 rw [← ht, ← hq, ← hp] at HBO1 ⊢
 obtain ⟨b0, b1, b2, rp, rq, rt⟩ := HBO1
 obtain ⟨W2, hW2⟩ : ∃ W2, W2 = (w1.alloc (.cells #[.int .i64 xk, .int .i64 xa, .int .i64 xb, .int .i64 xc] 44)).alloc (.cells #[.string ⟨#[120]⟩, .string ⟨#[121]⟩, .string ⟨#[122]⟩, .string ⟨#[115, 101, 101, 100]⟩] 9) := ⟨_, rfl⟩
 have HM2 : Hid (Mk r W2 l (i + 1)) := by rw [hW2]; exact (hM1.alloc _).alloc _
 have HB2 : Hid (But r r w W2) := by rw [hW2]; exact ((HBW.out.trans hb1).alloc _).alloc _
 have HBO2 : Hid (Bo r p q t D true W2) := by rw [hW2]; exact (Bo.below ⟨b0, b1, b2, rp, rq, rt⟩ ((Below.refl _ _).alloc (Nat.le_refl _) _)).below ((Below.refl _ _).alloc (Nat.le_refl _) _)
 have HLO2 : Hid (Lo r w1.heap.size (w1.heap.size + 1) ⟨xk, xa, xb, xc⟩ W2) := by rw [hW2]; exact Lo.new ⟨xk, xa, xb, xc⟩ hM1.lt _ _
 obtain ⟨u, hu⟩ : ∃ p, p = w1.heap.size := ⟨_, rfl⟩
 obtain ⟨v, hv⟩ : ∃ p, p = w1.heap.size + 1 := ⟨_, rfl⟩
 have HUV : Hid (u = _ ∧ v = _) := ⟨hu, hv⟩
 have HWW2 : Hid (W2 = _) := hW2
 have l1 : q < w1.heap.size := World.block_lt_of_cell? w1 ⟨q, 0, none⟩ b1
 have n1 : ¬ q = w1.heap.size := by omega
 have m1 : ¬ q = w1.heap.size + 1 := by omega
 clear hM1 hb1 HDR HBO HBW HMW HWW hp hq ht hu hv hW2 b0 b2 rp rt
 unfold rwV
 go_wp2_with fail
 rw [← HWW2.out, ← HUV.out.2, ← HUV.out.1]
 rw [← HUV.out.2, ← HUV.out.1] at HLO2
 clear HWW2 HUV l1 n1 m1 b1 rq
 refine Calls.mono (HP4.out W2) ?_
 rintro e w2 ⟨rfl, hw2⟩
 rw [hw2]
 clear hw2 w2 HP4
 obtain ⟨x0, x1, x2, x3, v0, v1, v2, v3, ru, rv⟩ := HLO2.out
 obtain ⟨b0, b1, b2, rp, rq, rt⟩ := HBO2.out
 simp only at x0 x1 x2 x3
 go_wp2_with fail
 refine Calls.mono (HPK.out W2) ?_
 rintro e w2 ⟨rfl, hw2⟩
 rw [hw2]
 clear hw2 w2 HPK
 have HC1 : Hid _ := sub_c hX hd r p q t l (i + 1) true W2 HM2.out (by obtain ⟨h1, h2⟩ := HIC.out; omega) D HDD.out HBO2.out
 go_wp2_with fail
 refine Calls.mono HC1.out ?_
 rintro e w3 ⟨s1, i3, rfl, hG1, hM3, hi3, hb3⟩
 obtain ⟨Z1, hZ1⟩ : ∃ Z, Z = bs s1 := ⟨_, rfl⟩
 rw [← hZ1]
 have z1 : Z1.size ≤ 100000000 := by rw [hZ1, bs_size]; exact hG1.short10 hd
 have HG1 : Hid (Z1 = bs s1 ∧ GE d true s1) := ⟨hZ1, hG1⟩
 have HM3 : Hid (Mk r w3 l i3) := hM3
 have HI1 : Hid (i3 ≤ (i + 1) + c) := hi3
 have HB3 : Hid (But r r w w3) := HB2.out.trans hb3
 have HBO3 : Hid (Bo r p q t D true w3) := HBO2.out.but hb3
 clear hG1 hM3 hi3 hb3 hZ1 HC1
 have HE : Hid (MkOut (GE (d + 1) true) (4 * c) r l i w (.returned (.string (⟨#[105, 110, 100, 101, 120, 40]⟩ ++ Z1 ++ ⟨#[44, 32, 34, 116, 34, 41]⟩))) w3) :=
  ⟨_, i3, by rw [HG1.out.1, ← bs_app, ← bs_app]; rfl, GE.index HG1.out.2, HM3.out, by obtain ⟨h1, h2⟩ := HIC.out; have h3 := HI1.out; omega, HB3.out⟩
 go_wp2_with fail
 go_ret
 exact HE.out
end Go.Proofs.YtfbpkbochhfnhaaGreatDoor
namespace Go.Proofs.YtfbpkbochhfnhaaGreatDoor
open Go.ChangeShapes Go.WideShapes Go.ChangeAt Go.RowKit Go.Joins
set_option linter.unusedVariables false
set_option maxRecDepth 100000
set_option maxHeartbeats 8000000 in
theorem exp_pre {d c : Nat} (hX : MkE d c) (hc : 1 ≤ c) (r : Nat) (l : List Rw) (i : Nat) (b : Bool) (w : World) (hM : Mk r w l i) (hi : i + 4 * c ≤ 1000000) (hd : d ≤ 10)
 (hk4 : ¬ pickR (nextR l i).kind 4 = 0) (hk : pickR ((nextR l i).kind.tdiv 4) 16 = 12) :
 Calls Tryz.prog 15 #[.pointer (some ⟨r, 0, none⟩), .int .i64 ((d + 1 : Nat) : Int), .bool b] w (MkOut (GE (d + 1) b) (4 * c) r l i w) := by
 obtain ⟨D, hD⟩ : ∃ D : Int, D = ((d + 1 : Nat) : Int) := ⟨_, rfl⟩
 obtain ⟨x, hx⟩ : ∃ x, x = nextR l i := ⟨_, rfl⟩
 obtain ⟨W, hW⟩ : ∃ W, W = (((w.alloc (.cells #[.pointer (some ⟨r, 0, none⟩)] 40)).alloc (.cells #[.int .i64 D] 3)).alloc (.cells #[.bool b] 4)) := ⟨_, rfl⟩
 have HMW : Hid (Mk r W l i) := by rw [hW]; exact ((hM.alloc _).alloc _).alloc _
 have HBW : Hid (But r r w W) := by rw [hW]; exact (((But.refl _ _ _).alloc _).alloc _).alloc _
 have HBO : Hid (Bo r w.heap.size (w.heap.size + 1) (w.heap.size + 1 + 1) D b W) := by rw [hW]; exact Bo.new hM.lt _ _ _
 have HDR : Hid _ := draw_c r l i W HMW.out (by omega)
 have HOK : Hid (x.ok) := by rw [hx]; exact hM.ok i
 have d1 : ¬ D ≤ 0 := by omega
 have HWW : Hid (W = _) := hW
 rw [← hD]
 rw [← hx] at hk4 hk HDR
 have HIC : Hid (i + 4 * c ≤ 1000000 ∧ 1 ≤ c) := ⟨hi, hc⟩
 have HDD : Hid (D = _) := hD
 obtain ⟨xk, xa, xb, xc⟩ := x
 have HP4 : Hid (∀ W : World, _) := fun W => picked_x xk 4 W HOK.out.1 (by decide) (by decide)
 simp only at hk
 obtain ⟨t1, t2⟩ := wf_range (wf_tdiv HOK.out.1)
 have HPK : Hid (∀ W : World, Calls Tryz.prog 8 #[.int .i64 (xk.tdiv 4), .int .i64 16] W fun e w' => e = .returned (.int .i64 12) ∧ w' = W) := fun W => by
  have h := picked_x (xk.tdiv 4) 16 W (wf_tdiv HOK.out.1) (by decide) (by decide)
  rw [hk] at h
  exact h
 obtain ⟨K4, hK4⟩ : ∃ K : Int, K = ((pickR xk 4 : Nat) : Int) := ⟨_, rfl⟩
 have k4 : ¬ K4 = 0 := by simp only at hk4; omega
 have k4b : (K4 == 0) = false := by simpa using k4
 rw [← hK4] at HP4
 obtain ⟨J, hJ⟩ : ∃ J : Nat, J = pickR xb 2 := ⟨_, rfl⟩
 have hJ2 : J < 2 := by rw [hJ]; exact pickR_lt _ (by decide)
 have HPB : Hid (∀ W : World, Calls Tryz.prog 8 #[.int .i64 xb, .int .i64 2] W fun e w' => e = .returned (.int .i64 (J : Int)) ∧ w' = W) := fun W => by
  have h := picked_x xb 2 W HOK.out.2.2.1 (by decide) (by decide)
  rw [hJ]
  exact h
 obtain ⟨O, hO⟩ : ∃ O : List UInt8, O ∈ ([[40, 45], [40, 33]] : List (List UInt8)) ∧ ((#[.string ⟨#[40, 45]⟩, .string ⟨#[40, 33]⟩]) : Array Value)[J]? = some (.string (bs O)) := by
  have h : J = 0 ∨ J = 1 := by omega
  rcases h with rfl | rfl
  · exact ⟨[40, 45], by simp, rfl⟩
  · exact ⟨[40, 33], by simp, rfl⟩
 obtain ⟨OB, hOB⟩ : ∃ OB, OB = bs O := ⟨_, rfl⟩
 have o1 : OB.size ≤ 10 := by
  rw [hOB, bs_size]
  have h : ∀ v ∈ ([[40, 45], [40, 33]] : List (List UInt8)), v.length ≤ 10 := by decide
  exact h O hO.1
 have e0 := hO.2
 rw [← hOB] at e0
 have e1 : ∀ h : J < ([.string ⟨#[40, 45]⟩, .string ⟨#[40, 33]⟩] : List Value).length, ([.string ⟨#[40, 45]⟩, .string ⟨#[40, 33]⟩] : List Value)[J]'h = .string OB := fun h => by
  have h2 := e0
  rw [List.getElem?_toArray, List.getElem?_eq_getElem h] at h2
  exact Option.some.inj h2
 have HO : Hid (OB = bs O ∧ O ∈ ([[40, 45], [40, 33]] : List (List UInt8))) := ⟨hOB, hO.1⟩
 clear hJ hO hOB
 clear hk4 hk hx hi hc hW hM hD hK4
 go_enter Tryz.func15, Tryz.ntmps15
 go_wp2_with fail
 rw [← HWW.out]
 refine Calls.mono HDR.out ?_
 rintro e w1 ⟨rfl, hM1, hb1⟩
 obtain ⟨p, hp⟩ : ∃ p, p = w.heap.size := ⟨_, rfl⟩
 obtain ⟨q, hq⟩ : ∃ p, p = w.heap.size + 1 := ⟨_, rfl⟩
 obtain ⟨t, ht⟩ : ∃ p, p = w.heap.size + 1 + 1 := ⟨_, rfl⟩
 have HBO1 := HBO.out.but hb1
 rw [← ht, ← hq, ← hp] at HBO1 ⊢
 obtain ⟨b0, b1, b2, rp, rq, rt⟩ := HBO1
 obtain ⟨W2, hW2⟩ : ∃ W2, W2 = (w1.alloc (.cells #[.int .i64 xk, .int .i64 xa, .int .i64 xb, .int .i64 xc] 44)).alloc (.cells #[.string ⟨#[120]⟩, .string ⟨#[121]⟩, .string ⟨#[122]⟩, .string ⟨#[115, 101, 101, 100]⟩] 9) := ⟨_, rfl⟩
 have HM2 : Hid (Mk r W2 l (i + 1)) := by rw [hW2]; exact (hM1.alloc _).alloc _
 have HB2 : Hid (But r r w W2) := by rw [hW2]; exact ((HBW.out.trans hb1).alloc _).alloc _
 have HBO2 : Hid (Bo r p q t D b W2) := by rw [hW2]; exact (Bo.below ⟨b0, b1, b2, rp, rq, rt⟩ ((Below.refl _ _).alloc (Nat.le_refl _) _)).below ((Below.refl _ _).alloc (Nat.le_refl _) _)
 have HLO2 : Hid (Lo r w1.heap.size (w1.heap.size + 1) ⟨xk, xa, xb, xc⟩ W2) := by rw [hW2]; exact Lo.new ⟨xk, xa, xb, xc⟩ hM1.lt _ _
 obtain ⟨u, hu⟩ : ∃ p, p = w1.heap.size := ⟨_, rfl⟩
 obtain ⟨v, hv⟩ : ∃ p, p = w1.heap.size + 1 := ⟨_, rfl⟩
 have HUV : Hid (u = _ ∧ v = _) := ⟨hu, hv⟩
 have HWW2 : Hid (W2 = _) := hW2
 have l1 : q < w1.heap.size := World.block_lt_of_cell? w1 ⟨q, 0, none⟩ b1
 have n1 : ¬ q = w1.heap.size := by omega
 have m1 : ¬ q = w1.heap.size + 1 := by omega
 clear hM1 hb1 HDR HBO HBW HMW HWW hp hq ht hu hv hW2 b0 b2 rp rt
 unfold rwV
 go_wp2_with fail
 rw [← HWW2.out, ← HUV.out.2, ← HUV.out.1]
 rw [← HUV.out.2, ← HUV.out.1] at HLO2
 clear HWW2 HUV l1 n1 m1 b1 rq
 refine Calls.mono (HP4.out W2) ?_
 rintro e w2 ⟨rfl, hw2⟩
 rw [hw2]
 clear hw2 w2 HP4
 obtain ⟨x0, x1, x2, x3, v0, v1, v2, v3, ru, rv⟩ := HLO2.out
 obtain ⟨b0, b1, b2, rp, rq, rt⟩ := HBO2.out
 simp only at x0 x1 x2 x3
 go_wp2_with fail
 refine Calls.mono (HPK.out W2) ?_
 rintro e w2 ⟨rfl, hw2⟩
 rw [hw2]
 clear hw2 w2 HPK
 have j0 : (0 : Int) ≤ (J : Int) := by omega
 have j2 : (J : Int) < 2 := by omega
 have lu : u < W2.heap.size := World.block_lt_of_cell? W2 ⟨u, 2, none⟩ x2
 have nu : ¬ u = W2.heap.size := by omega
 have rW : ¬ r = W2.heap.size := by have := HM2.out.lt; omega
 have Wr : ¬ W2.heap.size = r := by have := HM2.out.lt; omega
 have ur : ¬ u = r := by omega
 have H2 : Hid (∀ Z : ByteArray, Z = bs [120] → StZ d c b r p q t D l i 0 w Z W2) := fun Z hZ => ⟨by rw [hZ, bs_size]; decide, ⟨_, hZ, GE.var (by decide)⟩, ⟨i + 1, HM2.out, by omega⟩, HB2.out, HBO2.out⟩
 obtain ⟨Wb, hWb⟩ : ∃ Wb, Wb = W2.alloc (.cells #[.string ⟨#[40, 45]⟩, .string ⟨#[40, 33]⟩] 9) := ⟨_, rfl⟩
 have sb : Wb.heap.size = W2.heap.size + 1 := by rw [hWb, alloc_size]
 have HCa : Hid (Calls Tryz.prog 34 #[.pointer (some ⟨p, 0, none⟩), .pointer (some ⟨q, 0, none⟩), .pointer (some ⟨t, 0, none⟩)] W2.drew fun e w3 => ∃ Z1, e = .returned (.string Z1) ∧ Hid (StZ d c b r p q t D l i 1 w Z1 w3) ∧ Z1.size ≤ 100000000 ∧ ¬ r = w3.heap.size ∧ ¬ w3.heap.size = r ∧ u < w3.heap.size ∧ ¬ u = w3.heap.size ∧ w3.cell? ⟨u, 2, none⟩ = some (.int .i64 xb)) := by
  refine (sub_k (n := 0) hX hd HDD.out HIC.out.1 HIC.out.2 (by decide) (bs [120]) W2.drew ((H2.out _ rfl).below (below_drew _))).mono ?_
  rintro e w3 ⟨Z1, rfl, H3, B3⟩
  have h1 : W2.heap.size ≤ w3.heap.size := B3.out.size
  have h2 := H3.out.lt
  exact ⟨Z1, rfl, H3, H3.out.small, by omega, by omega, by omega, by omega, (B3.out.cell (b := u) lu ur ur 2).trans x2⟩
 have HCb : Hid (Calls Tryz.prog 34 #[.pointer (some ⟨p, 0, none⟩), .pointer (some ⟨q, 0, none⟩), .pointer (some ⟨t, 0, none⟩)] Wb.drew fun e w3 => ∃ Z1, e = .returned (.string Z1) ∧ Hid (StZ d c b r p q t D l i 1 w Z1 w3) ∧ Z1.size ≤ 100000000 ∧ ¬ r = w3.heap.size ∧ ¬ w3.heap.size = r ∧ u < w3.heap.size ∧ ¬ u = w3.heap.size ∧ w3.cell? ⟨u, 2, none⟩ = some (.int .i64 xb) ∧ W2.heap.size < w3.heap.size ∧ w3.cell? ⟨W2.heap.size, J, none⟩ = some (.string OB)) := by
  refine (sub_k (n := 0) hX hd HDD.out HIC.out.1 HIC.out.2 (by decide) (bs [120]) Wb.drew (by rw [hWb]; exact ((H2.out _ rfl).alloc _).below (below_drew _))).mono ?_
  rintro e w3 ⟨Z1, rfl, H3, B3⟩
  have h1 : Wb.heap.size ≤ w3.heap.size := B3.out.size
  have h2 := H3.out.lt
  have h3 : Wb.cell? ⟨u, 2, none⟩ = some (.int .i64 xb) := by rw [hWb]; exact (cell_keep W2 _ u 2 lu).trans x2
  have h4 : Wb.cell? ⟨W2.heap.size, J, none⟩ = some (.string OB) := by rw [hWb]; exact (at_new W2 _ _ J).trans e0
  exact ⟨Z1, rfl, H3, H3.out.small, by omega, by omega, by omega, by omega, (B3.out.cell (b := u) (show u < Wb.heap.size by omega) ur ur 2).trans h3, by omega, (B3.out.cell (b := W2.heap.size) (show W2.heap.size < Wb.heap.size by omega) Wr Wr J).trans h4⟩
 rw [hWb] at HCb
 clear hWb sb Wb
 have HF : Hid (∀ Z1 w3 w', StZ d c b r p q t D l i 1 w Z1 w3 → Below w3.heap.size w3 w' → MkOut (GE (d + 1) b) (4 * c) r l i w (.returned (.string (OB ++ Z1 ++ ⟨#[41]⟩))) w') := by
  intro Z1 w3 w' h1 hb
  obtain ⟨hO1, hO2⟩ := HO.out
  obtain ⟨s1, hz1, hg1⟩ := h1.text
  obtain ⟨j, hm, hj⟩ := (h1.below hb).maker
  refine ⟨O ++ s1 ++ [41], j, by rw [hO1, hz1]; simp only [← bs_app]; rfl, ?_, hm, by obtain ⟨h8, h9⟩ := HIC.out; omega, (h1.below hb).but⟩
  rcases List.mem_cons.1 hO2 with rfl | hO2
  · exact GE.neg hg1
  · obtain rfl := List.mem_singleton.1 hO2
    exact GE.no hg1
 clear HM2 HB2 HBO2 HLO2 b0 b1 b2 rp rq rt H2 v0 v1 v2 v3 rv hd hX HIC HOK HDD t1 t2 k4 x0 x1 x3
 go_wp2_with fail
 refine wp_region_held_drew (S := fun w9 => w9.cell? ⟨u, 2, none⟩ = some (.int .i64 xb)) (by kernel_rfl) x2 (fun hHeld => ?_)
 refine tk 1 hHeld rfl (v := ?_) ?_ ?_
 rotate_left
 · intro w9 h9; (try dsimp only at h9); go_simp <;> first | with_reducible rfl | rw [if_neg (by omega)]
 try simp only [Act.put, lay]
 refine tk 2 hHeld rfl (v := ?_) ?_ ?_
 rotate_left
 · intro w9 h9; (try dsimp only at h9); go_simp <;> first | with_reducible rfl | rw [if_neg (by omega)]
 try simp only [Act.put, lay]
 refine tk 6 hHeld rfl (v := ?_) ?_ ?_
 rotate_left
 · intro w9 h9; (try dsimp only at h9); go_simp <;> first | with_reducible rfl | rw [if_neg (by omega)]
 try simp only [Act.put, lay]
 refine wpAnyH_ready (rs := [0, 3]) (by kernel_rfl) (by simp) ?_
 refine AllReadyH.cons rfl (fun K hK => ?_) ?_
 · go_simp
   refine hK.out _ _ ((cell_keep _ _ u 2 (World.block_lt_of_cell? _ ⟨u, 2, none⟩ hHeld)).trans hHeld) (fun h8 => ?_)
   clear hK K
   replace hHeld := h8
   clear h8
   try simp only [Act.put, lay]
   refine wpAnyH_ready (rs := [3]) (by kernel_rfl) (by simp) ?_
   refine AllReadyH.cons rfl (fun K hK => ?_) ?_
   · go_simp
     refine Calls.mono (HPB.out _) ?_
     rintro e w2 ⟨rfl, hw2⟩
     rw [hw2]
     clear hw2 w2
     go_wp2_with fail
     refine hK.out _ _ hHeld (fun h8 => ?_)
     clear hK K
     replace hHeld := h8
     clear h8
     try simp only [Act.put, lay]
     refine tk 4 hHeld rfl (v := ?_) ?_ ?_
     rotate_left
     · intro w9 h9; (try dsimp only at h9); go_simp <;> first | with_reducible rfl | rw [if_neg (by omega)]
     try simp only [Act.put, lay]
     refine wpAnyH_ready (rs := [5, 7]) (by kernel_rfl) (by simp) ?_
     refine AllReadyH.cons rfl (fun K hK => ?_) ?_
     · go_simp
       refine hK.out _ _ hHeld (fun h8 => ?_)
       clear hK K
       replace hHeld := h8
       clear h8
       try simp only [Act.put, lay]
       refine wpAnyH_ready (rs := [7]) (by kernel_rfl) (by simp) ?_
       refine AllReadyH.cons rfl (fun K hK => ?_) ?_
       · go_simp
         refine Calls.mono HCb.out ?_
         rintro e w3 ⟨Z1, rfl, H3, z1, rw3, wr3, lu3, nu3, x23, g3, e3⟩
         go_wp2_with fail
         refine hK.out _ _ x23 (fun h8 => ?_)
         clear hK K
         replace hHeld := h8
         clear h8
         try simp only [Act.put, lay]
         refine tk 8 hHeld rfl (v := ?_) ?_ ?_
         rotate_left
         · intro w9 h9; (try dsimp only at h9); go_simp <;> first | with_reducible rfl | rw [if_neg (by omega)]
         try simp only [Act.put, lay]
         refine tk 9 hHeld rfl (v := ?_) ?_ ?_
         rotate_left
         · intro w9 h9; (try dsimp only at h9); go_simp <;> first | with_reducible rfl | rw [if_neg (by omega)]
         try simp only [Act.put, lay]
         refine tk 10 hHeld rfl (v := ?_) ?_ ?_
         rotate_left
         · intro w9 h9; (try dsimp only at h9); go_simp <;> first | with_reducible rfl | rw [if_neg (by omega)]
         try simp only [Act.put, lay]
         refine wpAnyH_done (by kernel_rfl) ?_ _
         go_wp2_with fail
         go_ret
         first | exact HF.out _ _ _ H3.out (Below.refl _ _) | exact HF.out _ _ _ H3.out ((Below.refl _ _).alloc (Nat.le_refl _) _)
       exact AllReadyH.nil
     refine AllReadyH.cons rfl (fun K hK => ?_) ?_
     · go_simp
       refine Calls.mono HCb.out ?_
       rintro e w3 ⟨Z1, rfl, H3, z1, rw3, wr3, lu3, nu3, x23, g3, e3⟩
       go_wp2_with fail
       refine hK.out _ _ x23 (fun h8 => ?_)
       clear hK K
       replace hHeld := h8
       clear h8
       try simp only [Act.put, lay]
       refine wpAnyH_ready (rs := [5]) (by kernel_rfl) (by simp) ?_
       refine AllReadyH.cons rfl (fun K hK => ?_) ?_
       · go_simp
         refine hK.out _ _ hHeld (fun h8 => ?_)
         clear hK K
         replace hHeld := h8
         clear h8
         try simp only [Act.put, lay]
         refine tk 8 hHeld rfl (v := ?_) ?_ ?_
         rotate_left
         · intro w9 h9; (try dsimp only at h9); go_simp <;> first | with_reducible rfl | rw [if_neg (by omega)]
         try simp only [Act.put, lay]
         refine tk 9 hHeld rfl (v := ?_) ?_ ?_
         rotate_left
         · intro w9 h9; (try dsimp only at h9); go_simp <;> first | with_reducible rfl | rw [if_neg (by omega)]
         try simp only [Act.put, lay]
         refine tk 10 hHeld rfl (v := ?_) ?_ ?_
         rotate_left
         · intro w9 h9; (try dsimp only at h9); go_simp <;> first | with_reducible rfl | rw [if_neg (by omega)]
         try simp only [Act.put, lay]
         refine wpAnyH_done (by kernel_rfl) ?_ _
         go_wp2_with fail
         go_ret
         first | exact HF.out _ _ _ H3.out (Below.refl _ _) | exact HF.out _ _ _ H3.out ((Below.refl _ _).alloc (Nat.le_refl _) _)
       exact AllReadyH.nil
     exact AllReadyH.nil
   exact AllReadyH.nil
 refine AllReadyH.cons rfl (fun K hK => ?_) ?_
 · go_simp
   refine Calls.mono (HPB.out _) ?_
   rintro e w2 ⟨rfl, hw2⟩
   rw [hw2]
   clear hw2 w2
   go_wp2_with fail
   refine hK.out _ _ hHeld (fun h8 => ?_)
   clear hK K
   replace hHeld := h8
   clear h8
   try simp only [Act.put, lay]
   refine wpAnyH_ready (rs := [0, 7]) (by kernel_rfl) (by simp) ?_
   refine AllReadyH.cons rfl (fun K hK => ?_) ?_
   · go_simp
     refine hK.out _ _ ((cell_keep _ _ u 2 (World.block_lt_of_cell? _ ⟨u, 2, none⟩ hHeld)).trans hHeld) (fun h8 => ?_)
     clear hK K
     replace hHeld := h8
     clear h8
     try simp only [Act.put, lay]
     refine tk 4 hHeld rfl (v := ?_) ?_ ?_
     rotate_left
     · intro w9 h9; (try dsimp only at h9); go_simp <;> first | with_reducible rfl | rw [if_neg (by omega)]
     try simp only [Act.put, lay]
     refine wpAnyH_ready (rs := [5, 7]) (by kernel_rfl) (by simp) ?_
     refine AllReadyH.cons rfl (fun K hK => ?_) ?_
     · go_simp
       refine hK.out _ _ hHeld (fun h8 => ?_)
       clear hK K
       replace hHeld := h8
       clear h8
       try simp only [Act.put, lay]
       refine wpAnyH_ready (rs := [7]) (by kernel_rfl) (by simp) ?_
       refine AllReadyH.cons rfl (fun K hK => ?_) ?_
       · go_simp
         refine Calls.mono HCb.out ?_
         rintro e w3 ⟨Z1, rfl, H3, z1, rw3, wr3, lu3, nu3, x23, g3, e3⟩
         go_wp2_with fail
         refine hK.out _ _ x23 (fun h8 => ?_)
         clear hK K
         replace hHeld := h8
         clear h8
         try simp only [Act.put, lay]
         refine tk 8 hHeld rfl (v := ?_) ?_ ?_
         rotate_left
         · intro w9 h9; (try dsimp only at h9); go_simp <;> first | with_reducible rfl | rw [if_neg (by omega)]
         try simp only [Act.put, lay]
         refine tk 9 hHeld rfl (v := ?_) ?_ ?_
         rotate_left
         · intro w9 h9; (try dsimp only at h9); go_simp <;> first | with_reducible rfl | rw [if_neg (by omega)]
         try simp only [Act.put, lay]
         refine tk 10 hHeld rfl (v := ?_) ?_ ?_
         rotate_left
         · intro w9 h9; (try dsimp only at h9); go_simp <;> first | with_reducible rfl | rw [if_neg (by omega)]
         try simp only [Act.put, lay]
         refine wpAnyH_done (by kernel_rfl) ?_ _
         go_wp2_with fail
         go_ret
         first | exact HF.out _ _ _ H3.out (Below.refl _ _) | exact HF.out _ _ _ H3.out ((Below.refl _ _).alloc (Nat.le_refl _) _)
       exact AllReadyH.nil
     refine AllReadyH.cons rfl (fun K hK => ?_) ?_
     · go_simp
       refine Calls.mono HCb.out ?_
       rintro e w3 ⟨Z1, rfl, H3, z1, rw3, wr3, lu3, nu3, x23, g3, e3⟩
       go_wp2_with fail
       refine hK.out _ _ x23 (fun h8 => ?_)
       clear hK K
       replace hHeld := h8
       clear h8
       try simp only [Act.put, lay]
       refine wpAnyH_ready (rs := [5]) (by kernel_rfl) (by simp) ?_
       refine AllReadyH.cons rfl (fun K hK => ?_) ?_
       · go_simp
         refine hK.out _ _ hHeld (fun h8 => ?_)
         clear hK K
         replace hHeld := h8
         clear h8
         try simp only [Act.put, lay]
         refine tk 8 hHeld rfl (v := ?_) ?_ ?_
         rotate_left
         · intro w9 h9; (try dsimp only at h9); go_simp <;> first | with_reducible rfl | rw [if_neg (by omega)]
         try simp only [Act.put, lay]
         refine tk 9 hHeld rfl (v := ?_) ?_ ?_
         rotate_left
         · intro w9 h9; (try dsimp only at h9); go_simp <;> first | with_reducible rfl | rw [if_neg (by omega)]
         try simp only [Act.put, lay]
         refine tk 10 hHeld rfl (v := ?_) ?_ ?_
         rotate_left
         · intro w9 h9; (try dsimp only at h9); go_simp <;> first | with_reducible rfl | rw [if_neg (by omega)]
         try simp only [Act.put, lay]
         refine wpAnyH_done (by kernel_rfl) ?_ _
         go_wp2_with fail
         go_ret
         first | exact HF.out _ _ _ H3.out (Below.refl _ _) | exact HF.out _ _ _ H3.out ((Below.refl _ _).alloc (Nat.le_refl _) _)
       exact AllReadyH.nil
     exact AllReadyH.nil
   refine AllReadyH.cons rfl (fun K hK => ?_) ?_
   · go_simp
     refine Calls.mono HCa.out ?_
     rintro e w3 ⟨Z1, rfl, H3, z1, rw3, wr3, lu3, nu3, x23⟩
     go_wp2_with fail
     refine hK.out _ _ x23 (fun h8 => ?_)
     clear hK K
     replace hHeld := h8
     clear h8
     try simp only [Act.put, lay]
     refine wpAnyH_ready (rs := [0]) (by kernel_rfl) (by simp) ?_
     refine AllReadyH.cons rfl (fun K hK => ?_) ?_
     · go_simp
       refine hK.out _ _ ((cell_keep _ _ u 2 (World.block_lt_of_cell? _ ⟨u, 2, none⟩ hHeld)).trans hHeld) (fun h8 => ?_)
       clear hK K
       replace hHeld := h8
       clear h8
       try simp only [Act.put, lay]
       refine tk 4 hHeld rfl (v := ?_) ?_ ?_
       rotate_left
       · intro w9 h9; (try dsimp only at h9); go_simp <;> first | with_reducible rfl | rw [if_neg (by omega)]
       try simp only [Act.put, lay]
       refine wpAnyH_ready (rs := [5]) (by kernel_rfl) (by simp) ?_
       refine AllReadyH.cons rfl (fun K hK => ?_) ?_
       · go_simp
         refine hK.out _ _ hHeld (fun h8 => ?_)
         clear hK K
         replace hHeld := h8
         clear h8
         try simp only [Act.put, lay]
         refine tk 8 hHeld rfl (v := ?_) ?_ ?_
         rotate_left
         · intro w9 h9; (try dsimp only at h9); go_simp <;> first | with_reducible rfl | rw [if_neg (by omega)]
         try simp only [Act.put, lay]
         refine tk 9 hHeld rfl (v := ?_) ?_ ?_
         rotate_left
         · intro w9 h9; (try dsimp only at h9); go_simp <;> first | with_reducible rfl | rw [if_neg (by omega)]
         try simp only [Act.put, lay]
         refine tk 10 hHeld rfl (v := ?_) ?_ ?_
         rotate_left
         · intro w9 h9; (try dsimp only at h9); go_simp <;> first | with_reducible rfl | rw [if_neg (by omega)]
         try simp only [Act.put, lay]
         refine wpAnyH_done (by kernel_rfl) ?_ _
         go_wp2_with fail
         go_ret
         first | exact HF.out _ _ _ H3.out (Below.refl _ _) | exact HF.out _ _ _ H3.out ((Below.refl _ _).alloc (Nat.le_refl _) _)
       exact AllReadyH.nil
     exact AllReadyH.nil
   exact AllReadyH.nil
 exact AllReadyH.nil
end Go.Proofs.YtfbpkbochhfnhaaGreatDoor
namespace Go.Proofs.YtfbpkbochhfnhaaGreatDoor
open Go.ChangeShapes Go.WideShapes Go.ChangeAt Go.RowKit Go.Joins
set_option linter.unusedVariables false
set_option maxRecDepth 100000
set_option maxHeartbeats 8000000 in
theorem exp_at {d c : Nat} (hX : MkE d c) (hc : 1 ≤ c) (r : Nat) (l : List Rw) (i : Nat) (b : Bool) (w : World) (hM : Mk r w l i) (hi : i + 4 * c ≤ 1000000) (hd : d ≤ 10)
 (hk4 : ¬ pickR (nextR l i).kind 4 = 0) (hk : pickR ((nextR l i).kind.tdiv 4) 16 = 8) :
 Calls Tryz.prog 15 #[.pointer (some ⟨r, 0, none⟩), .int .i64 ((d + 1 : Nat) : Int), .bool b] w (MkOut (GE (d + 1) b) (4 * c) r l i w) := by
 obtain ⟨D, hD⟩ : ∃ D : Int, D = ((d + 1 : Nat) : Int) := ⟨_, rfl⟩
 obtain ⟨x, hx⟩ : ∃ x, x = nextR l i := ⟨_, rfl⟩
 obtain ⟨W, hW⟩ : ∃ W, W = (((w.alloc (.cells #[.pointer (some ⟨r, 0, none⟩)] 40)).alloc (.cells #[.int .i64 D] 3)).alloc (.cells #[.bool b] 4)) := ⟨_, rfl⟩
 have HMW : Hid (Mk r W l i) := by rw [hW]; exact ((hM.alloc _).alloc _).alloc _
 have HBW : Hid (But r r w W) := by rw [hW]; exact (((But.refl _ _ _).alloc _).alloc _).alloc _
 have HBO : Hid (Bo r w.heap.size (w.heap.size + 1) (w.heap.size + 1 + 1) D b W) := by rw [hW]; exact Bo.new hM.lt _ _ _
 have HDR : Hid _ := draw_c r l i W HMW.out (by omega)
 have HOK : Hid (x.ok) := by rw [hx]; exact hM.ok i
 have d1 : ¬ D ≤ 0 := by omega
 have HWW : Hid (W = _) := hW
 rw [← hD]
 rw [← hx] at hk4 hk HDR
 have HIC : Hid (i + 4 * c ≤ 1000000 ∧ 1 ≤ c) := ⟨hi, hc⟩
 have HDD : Hid (D = _) := hD
 obtain ⟨xk, xa, xb, xc⟩ := x
 have HP4 : Hid (∀ W : World, _) := fun W => picked_x xk 4 W HOK.out.1 (by decide) (by decide)
 simp only at hk
 obtain ⟨t1, t2⟩ := wf_range (wf_tdiv HOK.out.1)
 have HPK : Hid (∀ W : World, Calls Tryz.prog 8 #[.int .i64 (xk.tdiv 4), .int .i64 16] W fun e w' => e = .returned (.int .i64 8) ∧ w' = W) := fun W => by
  have h := picked_x (xk.tdiv 4) 16 W (wf_tdiv HOK.out.1) (by decide) (by decide)
  rw [hk] at h
  exact h
 obtain ⟨K4, hK4⟩ : ∃ K : Int, K = ((pickR xk 4 : Nat) : Int) := ⟨_, rfl⟩
 have k4 : ¬ K4 = 0 := by simp only at hk4; omega
 have k4b : (K4 == 0) = false := by simpa using k4
 rw [← hK4] at HP4
 obtain ⟨J, hJ⟩ : ∃ J : Nat, J = pickR xb 2 := ⟨_, rfl⟩
 have hJ2 : J < 2 := by rw [hJ]; exact pickR_lt _ (by decide)
 have HPB : Hid (∀ W : World, Calls Tryz.prog 8 #[.int .i64 xb, .int .i64 2] W fun e w' => e = .returned (.int .i64 (J : Int)) ∧ w' = W) := fun W => by
  have h := picked_x xb 2 W HOK.out.2.2.1 (by decide) (by decide)
  rw [hJ]
  exact h
 obtain ⟨O, hO⟩ : ∃ O : List UInt8, O ∈ ([[97], [98]] : List (List UInt8)) ∧ ((#[.string ⟨#[97]⟩, .string ⟨#[98]⟩]) : Array Value)[J]? = some (.string (bs O)) := by
  have h : J = 0 ∨ J = 1 := by omega
  rcases h with rfl | rfl
  · exact ⟨[97], by simp, rfl⟩
  · exact ⟨[98], by simp, rfl⟩
 obtain ⟨OB, hOB⟩ : ∃ OB, OB = bs O := ⟨_, rfl⟩
 have o1 : OB.size ≤ 10 := by
  rw [hOB, bs_size]
  have h : ∀ v ∈ ([[97], [98]] : List (List UInt8)), v.length ≤ 10 := by decide
  exact h O hO.1
 have e0 := hO.2
 rw [← hOB] at e0
 have e1 : ∀ h : J < ([.string ⟨#[97]⟩, .string ⟨#[98]⟩] : List Value).length, ([.string ⟨#[97]⟩, .string ⟨#[98]⟩] : List Value)[J]'h = .string OB := fun h => by
  have h2 := e0
  rw [List.getElem?_toArray, List.getElem?_eq_getElem h] at h2
  exact Option.some.inj h2
 have HO : Hid (OB = bs O ∧ O ∈ ([[97], [98]] : List (List UInt8))) := ⟨hOB, hO.1⟩
 clear hJ hO hOB
 clear hk4 hk hx hi hc hW hM hD hK4
 go_enter Tryz.func15, Tryz.ntmps15
 go_wp2_with fail
 rw [← HWW.out]
 refine Calls.mono HDR.out ?_
 rintro e w1 ⟨rfl, hM1, hb1⟩
 obtain ⟨p, hp⟩ : ∃ p, p = w.heap.size := ⟨_, rfl⟩
 obtain ⟨q, hq⟩ : ∃ p, p = w.heap.size + 1 := ⟨_, rfl⟩
 obtain ⟨t, ht⟩ : ∃ p, p = w.heap.size + 1 + 1 := ⟨_, rfl⟩
 have HBO1 := HBO.out.but hb1
 rw [← ht, ← hq, ← hp] at HBO1 ⊢
 obtain ⟨b0, b1, b2, rp, rq, rt⟩ := HBO1
 obtain ⟨W2, hW2⟩ : ∃ W2, W2 = (w1.alloc (.cells #[.int .i64 xk, .int .i64 xa, .int .i64 xb, .int .i64 xc] 44)).alloc (.cells #[.string ⟨#[120]⟩, .string ⟨#[121]⟩, .string ⟨#[122]⟩, .string ⟨#[115, 101, 101, 100]⟩] 9) := ⟨_, rfl⟩
 have HM2 : Hid (Mk r W2 l (i + 1)) := by rw [hW2]; exact (hM1.alloc _).alloc _
 have HB2 : Hid (But r r w W2) := by rw [hW2]; exact ((HBW.out.trans hb1).alloc _).alloc _
 have HBO2 : Hid (Bo r p q t D b W2) := by rw [hW2]; exact (Bo.below ⟨b0, b1, b2, rp, rq, rt⟩ ((Below.refl _ _).alloc (Nat.le_refl _) _)).below ((Below.refl _ _).alloc (Nat.le_refl _) _)
 have HLO2 : Hid (Lo r w1.heap.size (w1.heap.size + 1) ⟨xk, xa, xb, xc⟩ W2) := by rw [hW2]; exact Lo.new ⟨xk, xa, xb, xc⟩ hM1.lt _ _
 obtain ⟨u, hu⟩ : ∃ p, p = w1.heap.size := ⟨_, rfl⟩
 obtain ⟨v, hv⟩ : ∃ p, p = w1.heap.size + 1 := ⟨_, rfl⟩
 have HUV : Hid (u = _ ∧ v = _) := ⟨hu, hv⟩
 have HWW2 : Hid (W2 = _) := hW2
 have l1 : q < w1.heap.size := World.block_lt_of_cell? w1 ⟨q, 0, none⟩ b1
 have n1 : ¬ q = w1.heap.size := by omega
 have m1 : ¬ q = w1.heap.size + 1 := by omega
 clear hM1 hb1 HDR HBO HBW HMW HWW hp hq ht hu hv hW2 b0 b2 rp rt
 unfold rwV
 go_wp2_with fail
 rw [← HWW2.out, ← HUV.out.2, ← HUV.out.1]
 rw [← HUV.out.2, ← HUV.out.1] at HLO2
 clear HWW2 HUV l1 n1 m1 b1 rq
 refine Calls.mono (HP4.out W2) ?_
 rintro e w2 ⟨rfl, hw2⟩
 rw [hw2]
 clear hw2 w2 HP4
 obtain ⟨x0, x1, x2, x3, v0, v1, v2, v3, ru, rv⟩ := HLO2.out
 obtain ⟨b0, b1, b2, rp, rq, rt⟩ := HBO2.out
 simp only at x0 x1 x2 x3
 go_wp2_with fail
 refine Calls.mono (HPK.out W2) ?_
 rintro e w2 ⟨rfl, hw2⟩
 rw [hw2]
 clear hw2 w2 HPK
 have j0 : (0 : Int) ≤ (J : Int) := by omega
 have j2 : (J : Int) < 2 := by omega
 have lu : u < W2.heap.size := World.block_lt_of_cell? W2 ⟨u, 2, none⟩ x2
 have nu : ¬ u = W2.heap.size := by omega
 have rW : ¬ r = W2.heap.size := by have := HM2.out.lt; omega
 have Wr : ¬ W2.heap.size = r := by have := HM2.out.lt; omega
 have ur : ¬ u = r := by omega
 have H2 : Hid (∀ Z : ByteArray, Z = bs [120] → StZ d c b r p q t D l i 0 w Z W2) := fun Z hZ => ⟨by rw [hZ, bs_size]; decide, ⟨_, hZ, GE.var (by decide)⟩, ⟨i + 1, HM2.out, by omega⟩, HB2.out, HBO2.out⟩
 obtain ⟨Wb, hWb⟩ : ∃ Wb, Wb = W2.alloc (.cells #[.string ⟨#[97]⟩, .string ⟨#[98]⟩] 9) := ⟨_, rfl⟩
 have sb : Wb.heap.size = W2.heap.size + 1 := by rw [hWb, alloc_size]
 have HCa : Hid (Calls Tryz.prog 34 #[.pointer (some ⟨p, 0, none⟩), .pointer (some ⟨q, 0, none⟩), .pointer (some ⟨t, 0, none⟩)] W2.drew fun e w3 => ∃ Z1, e = .returned (.string Z1) ∧ Hid (StZ d c b r p q t D l i 1 w Z1 w3) ∧ Z1.size ≤ 100000000 ∧ ¬ r = w3.heap.size ∧ ¬ w3.heap.size = r ∧ u < w3.heap.size ∧ ¬ u = w3.heap.size ∧ w3.cell? ⟨u, 2, none⟩ = some (.int .i64 xb)) := by
  refine (sub_k (n := 0) hX hd HDD.out HIC.out.1 HIC.out.2 (by decide) (bs [120]) W2.drew ((H2.out _ rfl).below (below_drew _))).mono ?_
  rintro e w3 ⟨Z1, rfl, H3, B3⟩
  have h1 : W2.heap.size ≤ w3.heap.size := B3.out.size
  have h2 := H3.out.lt
  exact ⟨Z1, rfl, H3, H3.out.small, by omega, by omega, by omega, by omega, (B3.out.cell (b := u) lu ur ur 2).trans x2⟩
 have HCb : Hid (Calls Tryz.prog 34 #[.pointer (some ⟨p, 0, none⟩), .pointer (some ⟨q, 0, none⟩), .pointer (some ⟨t, 0, none⟩)] Wb.drew fun e w3 => ∃ Z1, e = .returned (.string Z1) ∧ Hid (StZ d c b r p q t D l i 1 w Z1 w3) ∧ Z1.size ≤ 100000000 ∧ ¬ r = w3.heap.size ∧ ¬ w3.heap.size = r ∧ u < w3.heap.size ∧ ¬ u = w3.heap.size ∧ w3.cell? ⟨u, 2, none⟩ = some (.int .i64 xb) ∧ W2.heap.size < w3.heap.size ∧ w3.cell? ⟨W2.heap.size, J, none⟩ = some (.string OB)) := by
  refine (sub_k (n := 0) hX hd HDD.out HIC.out.1 HIC.out.2 (by decide) (bs [120]) Wb.drew (by rw [hWb]; exact ((H2.out _ rfl).alloc _).below (below_drew _))).mono ?_
  rintro e w3 ⟨Z1, rfl, H3, B3⟩
  have h1 : Wb.heap.size ≤ w3.heap.size := B3.out.size
  have h2 := H3.out.lt
  have h3 : Wb.cell? ⟨u, 2, none⟩ = some (.int .i64 xb) := by rw [hWb]; exact (cell_keep W2 _ u 2 lu).trans x2
  have h4 : Wb.cell? ⟨W2.heap.size, J, none⟩ = some (.string OB) := by rw [hWb]; exact (at_new W2 _ _ J).trans e0
  exact ⟨Z1, rfl, H3, H3.out.small, by omega, by omega, by omega, by omega, (B3.out.cell (b := u) (show u < Wb.heap.size by omega) ur ur 2).trans h3, by omega, (B3.out.cell (b := W2.heap.size) (show W2.heap.size < Wb.heap.size by omega) Wr Wr J).trans h4⟩
 rw [hWb] at HCb
 clear hWb sb Wb
 have HF : Hid (∀ Z1 w3 w', StZ d c b r p q t D l i 1 w Z1 w3 → Below w3.heap.size w3 w' → MkOut (GE (d + 1) b) (4 * c) r l i w (.returned (.string (OB ++ ⟨#[91]⟩ ++ Z1 ++ ⟨#[93]⟩))) w') := by
  intro Z1 w3 w' h1 hb
  obtain ⟨hO1, hO2⟩ := HO.out
  obtain ⟨s1, hz1, hg1⟩ := h1.text
  obtain ⟨j, hm, hj⟩ := (h1.below hb).maker
  refine ⟨O ++ [91] ++ s1 ++ [93], j, by rw [hO1, hz1]; simp only [← bs_app]; rfl, ?_, hm, by obtain ⟨h8, h9⟩ := HIC.out; omega, (h1.below hb).but⟩
  exact GE.elemv hO2 hg1
 clear HM2 HB2 HBO2 HLO2 b0 b1 b2 rp rq rt H2 v0 v1 v2 v3 rv hd hX HIC HOK HDD t1 t2 k4 x0 x1 x3
 go_wp2_with fail
 refine wp_region_held_drew (S := fun w9 => w9.cell? ⟨u, 2, none⟩ = some (.int .i64 xb)) (by kernel_rfl) x2 (fun hHeld => ?_)
 refine tk 1 hHeld rfl (v := ?_) ?_ ?_
 rotate_left
 · intro w9 h9; (try dsimp only at h9); go_simp <;> first | with_reducible rfl | rw [if_neg (by omega)]
 try simp only [Act.put, lay]
 refine tk 2 hHeld rfl (v := ?_) ?_ ?_
 rotate_left
 · intro w9 h9; (try dsimp only at h9); go_simp <;> first | with_reducible rfl | rw [if_neg (by omega)]
 try simp only [Act.put, lay]
 refine tk 7 hHeld rfl (v := ?_) ?_ ?_
 rotate_left
 · intro w9 h9; (try dsimp only at h9); go_simp <;> first | with_reducible rfl | rw [if_neg (by omega)]
 try simp only [Act.put, lay]
 refine wpAnyH_ready (rs := [0, 3]) (by kernel_rfl) (by simp) ?_
 refine AllReadyH.cons rfl (fun K hK => ?_) ?_
 · go_simp
   refine hK.out _ _ ((cell_keep _ _ u 2 (World.block_lt_of_cell? _ ⟨u, 2, none⟩ hHeld)).trans hHeld) (fun h8 => ?_)
   clear hK K
   replace hHeld := h8
   clear h8
   try simp only [Act.put, lay]
   refine wpAnyH_ready (rs := [3]) (by kernel_rfl) (by simp) ?_
   refine AllReadyH.cons rfl (fun K hK => ?_) ?_
   · go_simp
     refine Calls.mono (HPB.out _) ?_
     rintro e w2 ⟨rfl, hw2⟩
     rw [hw2]
     clear hw2 w2
     go_wp2_with fail
     refine hK.out _ _ hHeld (fun h8 => ?_)
     clear hK K
     replace hHeld := h8
     clear h8
     try simp only [Act.put, lay]
     refine tk 4 hHeld rfl (v := ?_) ?_ ?_
     rotate_left
     · intro w9 h9; (try dsimp only at h9); go_simp <;> first | with_reducible rfl | rw [if_neg (by omega)]
     try simp only [Act.put, lay]
     refine wpAnyH_ready (rs := [5, 8]) (by kernel_rfl) (by simp) ?_
     refine AllReadyH.cons rfl (fun K hK => ?_) ?_
     · go_simp
       refine hK.out _ _ hHeld (fun h8 => ?_)
       clear hK K
       replace hHeld := h8
       clear h8
       try simp only [Act.put, lay]
       refine tk 6 hHeld rfl (v := ?_) ?_ ?_
       rotate_left
       · intro w9 h9; (try dsimp only at h9); go_simp <;> first | with_reducible rfl | rw [if_neg (by omega)]
       try simp only [Act.put, lay]
       refine wpAnyH_ready (rs := [8]) (by kernel_rfl) (by simp) ?_
       refine AllReadyH.cons rfl (fun K hK => ?_) ?_
       · go_simp
         refine Calls.mono HCb.out ?_
         rintro e w3 ⟨Z1, rfl, H3, z1, rw3, wr3, lu3, nu3, x23, g3, e3⟩
         go_wp2_with fail
         refine hK.out _ _ x23 (fun h8 => ?_)
         clear hK K
         replace hHeld := h8
         clear h8
         try simp only [Act.put, lay]
         refine tk 9 hHeld rfl (v := ?_) ?_ ?_
         rotate_left
         · intro w9 h9; (try dsimp only at h9); go_simp <;> first | with_reducible rfl | rw [if_neg (by omega)]
         try simp only [Act.put, lay]
         refine tk 10 hHeld rfl (v := ?_) ?_ ?_
         rotate_left
         · intro w9 h9; (try dsimp only at h9); go_simp <;> first | with_reducible rfl | rw [if_neg (by omega)]
         try simp only [Act.put, lay]
         refine tk 11 hHeld rfl (v := ?_) ?_ ?_
         rotate_left
         · intro w9 h9; (try dsimp only at h9); go_simp <;> first | with_reducible rfl | rw [if_neg (by omega)]
         try simp only [Act.put, lay]
         refine wpAnyH_done (by kernel_rfl) ?_ _
         go_wp2_with fail
         go_ret
         first | exact HF.out _ _ _ H3.out (Below.refl _ _) | exact HF.out _ _ _ H3.out ((Below.refl _ _).alloc (Nat.le_refl _) _)
       exact AllReadyH.nil
     refine AllReadyH.cons rfl (fun K hK => ?_) ?_
     · go_simp
       refine Calls.mono HCb.out ?_
       rintro e w3 ⟨Z1, rfl, H3, z1, rw3, wr3, lu3, nu3, x23, g3, e3⟩
       go_wp2_with fail
       refine hK.out _ _ x23 (fun h8 => ?_)
       clear hK K
       replace hHeld := h8
       clear h8
       try simp only [Act.put, lay]
       refine wpAnyH_ready (rs := [5]) (by kernel_rfl) (by simp) ?_
       refine AllReadyH.cons rfl (fun K hK => ?_) ?_
       · go_simp
         refine hK.out _ _ hHeld (fun h8 => ?_)
         clear hK K
         replace hHeld := h8
         clear h8
         try simp only [Act.put, lay]
         refine tk 6 hHeld rfl (v := ?_) ?_ ?_
         rotate_left
         · intro w9 h9; (try dsimp only at h9); go_simp <;> first | with_reducible rfl | rw [if_neg (by omega)]
         try simp only [Act.put, lay]
         refine tk 9 hHeld rfl (v := ?_) ?_ ?_
         rotate_left
         · intro w9 h9; (try dsimp only at h9); go_simp <;> first | with_reducible rfl | rw [if_neg (by omega)]
         try simp only [Act.put, lay]
         refine tk 10 hHeld rfl (v := ?_) ?_ ?_
         rotate_left
         · intro w9 h9; (try dsimp only at h9); go_simp <;> first | with_reducible rfl | rw [if_neg (by omega)]
         try simp only [Act.put, lay]
         refine tk 11 hHeld rfl (v := ?_) ?_ ?_
         rotate_left
         · intro w9 h9; (try dsimp only at h9); go_simp <;> first | with_reducible rfl | rw [if_neg (by omega)]
         try simp only [Act.put, lay]
         refine wpAnyH_done (by kernel_rfl) ?_ _
         go_wp2_with fail
         go_ret
         first | exact HF.out _ _ _ H3.out (Below.refl _ _) | exact HF.out _ _ _ H3.out ((Below.refl _ _).alloc (Nat.le_refl _) _)
       exact AllReadyH.nil
     exact AllReadyH.nil
   exact AllReadyH.nil
 refine AllReadyH.cons rfl (fun K hK => ?_) ?_
 · go_simp
   refine Calls.mono (HPB.out _) ?_
   rintro e w2 ⟨rfl, hw2⟩
   rw [hw2]
   clear hw2 w2
   go_wp2_with fail
   refine hK.out _ _ hHeld (fun h8 => ?_)
   clear hK K
   replace hHeld := h8
   clear h8
   try simp only [Act.put, lay]
   refine wpAnyH_ready (rs := [0, 8]) (by kernel_rfl) (by simp) ?_
   refine AllReadyH.cons rfl (fun K hK => ?_) ?_
   · go_simp
     refine hK.out _ _ ((cell_keep _ _ u 2 (World.block_lt_of_cell? _ ⟨u, 2, none⟩ hHeld)).trans hHeld) (fun h8 => ?_)
     clear hK K
     replace hHeld := h8
     clear h8
     try simp only [Act.put, lay]
     refine tk 4 hHeld rfl (v := ?_) ?_ ?_
     rotate_left
     · intro w9 h9; (try dsimp only at h9); go_simp <;> first | with_reducible rfl | rw [if_neg (by omega)]
     try simp only [Act.put, lay]
     refine wpAnyH_ready (rs := [5, 8]) (by kernel_rfl) (by simp) ?_
     refine AllReadyH.cons rfl (fun K hK => ?_) ?_
     · go_simp
       refine hK.out _ _ hHeld (fun h8 => ?_)
       clear hK K
       replace hHeld := h8
       clear h8
       try simp only [Act.put, lay]
       refine tk 6 hHeld rfl (v := ?_) ?_ ?_
       rotate_left
       · intro w9 h9; (try dsimp only at h9); go_simp <;> first | with_reducible rfl | rw [if_neg (by omega)]
       try simp only [Act.put, lay]
       refine wpAnyH_ready (rs := [8]) (by kernel_rfl) (by simp) ?_
       refine AllReadyH.cons rfl (fun K hK => ?_) ?_
       · go_simp
         refine Calls.mono HCb.out ?_
         rintro e w3 ⟨Z1, rfl, H3, z1, rw3, wr3, lu3, nu3, x23, g3, e3⟩
         go_wp2_with fail
         refine hK.out _ _ x23 (fun h8 => ?_)
         clear hK K
         replace hHeld := h8
         clear h8
         try simp only [Act.put, lay]
         refine tk 9 hHeld rfl (v := ?_) ?_ ?_
         rotate_left
         · intro w9 h9; (try dsimp only at h9); go_simp <;> first | with_reducible rfl | rw [if_neg (by omega)]
         try simp only [Act.put, lay]
         refine tk 10 hHeld rfl (v := ?_) ?_ ?_
         rotate_left
         · intro w9 h9; (try dsimp only at h9); go_simp <;> first | with_reducible rfl | rw [if_neg (by omega)]
         try simp only [Act.put, lay]
         refine tk 11 hHeld rfl (v := ?_) ?_ ?_
         rotate_left
         · intro w9 h9; (try dsimp only at h9); go_simp <;> first | with_reducible rfl | rw [if_neg (by omega)]
         try simp only [Act.put, lay]
         refine wpAnyH_done (by kernel_rfl) ?_ _
         go_wp2_with fail
         go_ret
         first | exact HF.out _ _ _ H3.out (Below.refl _ _) | exact HF.out _ _ _ H3.out ((Below.refl _ _).alloc (Nat.le_refl _) _)
       exact AllReadyH.nil
     refine AllReadyH.cons rfl (fun K hK => ?_) ?_
     · go_simp
       refine Calls.mono HCb.out ?_
       rintro e w3 ⟨Z1, rfl, H3, z1, rw3, wr3, lu3, nu3, x23, g3, e3⟩
       go_wp2_with fail
       refine hK.out _ _ x23 (fun h8 => ?_)
       clear hK K
       replace hHeld := h8
       clear h8
       try simp only [Act.put, lay]
       refine wpAnyH_ready (rs := [5]) (by kernel_rfl) (by simp) ?_
       refine AllReadyH.cons rfl (fun K hK => ?_) ?_
       · go_simp
         refine hK.out _ _ hHeld (fun h8 => ?_)
         clear hK K
         replace hHeld := h8
         clear h8
         try simp only [Act.put, lay]
         refine tk 6 hHeld rfl (v := ?_) ?_ ?_
         rotate_left
         · intro w9 h9; (try dsimp only at h9); go_simp <;> first | with_reducible rfl | rw [if_neg (by omega)]
         try simp only [Act.put, lay]
         refine tk 9 hHeld rfl (v := ?_) ?_ ?_
         rotate_left
         · intro w9 h9; (try dsimp only at h9); go_simp <;> first | with_reducible rfl | rw [if_neg (by omega)]
         try simp only [Act.put, lay]
         refine tk 10 hHeld rfl (v := ?_) ?_ ?_
         rotate_left
         · intro w9 h9; (try dsimp only at h9); go_simp <;> first | with_reducible rfl | rw [if_neg (by omega)]
         try simp only [Act.put, lay]
         refine tk 11 hHeld rfl (v := ?_) ?_ ?_
         rotate_left
         · intro w9 h9; (try dsimp only at h9); go_simp <;> first | with_reducible rfl | rw [if_neg (by omega)]
         try simp only [Act.put, lay]
         refine wpAnyH_done (by kernel_rfl) ?_ _
         go_wp2_with fail
         go_ret
         first | exact HF.out _ _ _ H3.out (Below.refl _ _) | exact HF.out _ _ _ H3.out ((Below.refl _ _).alloc (Nat.le_refl _) _)
       exact AllReadyH.nil
     exact AllReadyH.nil
   refine AllReadyH.cons rfl (fun K hK => ?_) ?_
   · go_simp
     refine Calls.mono HCa.out ?_
     rintro e w3 ⟨Z1, rfl, H3, z1, rw3, wr3, lu3, nu3, x23⟩
     go_wp2_with fail
     refine hK.out _ _ x23 (fun h8 => ?_)
     clear hK K
     replace hHeld := h8
     clear h8
     try simp only [Act.put, lay]
     refine wpAnyH_ready (rs := [0]) (by kernel_rfl) (by simp) ?_
     refine AllReadyH.cons rfl (fun K hK => ?_) ?_
     · go_simp
       refine hK.out _ _ ((cell_keep _ _ u 2 (World.block_lt_of_cell? _ ⟨u, 2, none⟩ hHeld)).trans hHeld) (fun h8 => ?_)
       clear hK K
       replace hHeld := h8
       clear h8
       try simp only [Act.put, lay]
       refine tk 4 hHeld rfl (v := ?_) ?_ ?_
       rotate_left
       · intro w9 h9; (try dsimp only at h9); go_simp <;> first | with_reducible rfl | rw [if_neg (by omega)]
       try simp only [Act.put, lay]
       refine wpAnyH_ready (rs := [5]) (by kernel_rfl) (by simp) ?_
       refine AllReadyH.cons rfl (fun K hK => ?_) ?_
       · go_simp
         refine hK.out _ _ hHeld (fun h8 => ?_)
         clear hK K
         replace hHeld := h8
         clear h8
         try simp only [Act.put, lay]
         refine tk 6 hHeld rfl (v := ?_) ?_ ?_
         rotate_left
         · intro w9 h9; (try dsimp only at h9); go_simp <;> first | with_reducible rfl | rw [if_neg (by omega)]
         try simp only [Act.put, lay]
         refine tk 9 hHeld rfl (v := ?_) ?_ ?_
         rotate_left
         · intro w9 h9; (try dsimp only at h9); go_simp <;> first | with_reducible rfl | rw [if_neg (by omega)]
         try simp only [Act.put, lay]
         refine tk 10 hHeld rfl (v := ?_) ?_ ?_
         rotate_left
         · intro w9 h9; (try dsimp only at h9); go_simp <;> first | with_reducible rfl | rw [if_neg (by omega)]
         try simp only [Act.put, lay]
         refine tk 11 hHeld rfl (v := ?_) ?_ ?_
         rotate_left
         · intro w9 h9; (try dsimp only at h9); go_simp <;> first | with_reducible rfl | rw [if_neg (by omega)]
         try simp only [Act.put, lay]
         refine wpAnyH_done (by kernel_rfl) ?_ _
         go_wp2_with fail
         go_ret
         first | exact HF.out _ _ _ H3.out (Below.refl _ _) | exact HF.out _ _ _ H3.out ((Below.refl _ _).alloc (Nat.le_refl _) _)
       exact AllReadyH.nil
     exact AllReadyH.nil
   exact AllReadyH.nil
 exact AllReadyH.nil
set_option maxHeartbeats 8000000 in
theorem exp_in {d c : Nat} (hX : MkE d c) (hc : 1 ≤ c) (r : Nat) (l : List Rw) (i : Nat) (b : Bool) (w : World) (hM : Mk r w l i) (hi : i + 4 * c ≤ 1000000) (hd : d ≤ 10)
 (hk4 : ¬ pickR (nextR l i).kind 4 = 0) (hk : pickR ((nextR l i).kind.tdiv 4) 16 = 9) :
 Calls Tryz.prog 15 #[.pointer (some ⟨r, 0, none⟩), .int .i64 ((d + 1 : Nat) : Int), .bool b] w (MkOut (GE (d + 1) b) (4 * c) r l i w) := by
 obtain ⟨D, hD⟩ : ∃ D : Int, D = ((d + 1 : Nat) : Int) := ⟨_, rfl⟩
 obtain ⟨x, hx⟩ : ∃ x, x = nextR l i := ⟨_, rfl⟩
 obtain ⟨W, hW⟩ : ∃ W, W = (((w.alloc (.cells #[.pointer (some ⟨r, 0, none⟩)] 40)).alloc (.cells #[.int .i64 D] 3)).alloc (.cells #[.bool b] 4)) := ⟨_, rfl⟩
 have HMW : Hid (Mk r W l i) := by rw [hW]; exact ((hM.alloc _).alloc _).alloc _
 have HBW : Hid (But r r w W) := by rw [hW]; exact (((But.refl _ _ _).alloc _).alloc _).alloc _
 have HBO : Hid (Bo r w.heap.size (w.heap.size + 1) (w.heap.size + 1 + 1) D b W) := by rw [hW]; exact Bo.new hM.lt _ _ _
 have HDR : Hid _ := draw_c r l i W HMW.out (by omega)
 have HOK : Hid (x.ok) := by rw [hx]; exact hM.ok i
 have d1 : ¬ D ≤ 0 := by omega
 have HWW : Hid (W = _) := hW
 rw [← hD]
 rw [← hx] at hk4 hk HDR
 have HIC : Hid (i + 4 * c ≤ 1000000 ∧ 1 ≤ c) := ⟨hi, hc⟩
 have HDD : Hid (D = _) := hD
 obtain ⟨xk, xa, xb, xc⟩ := x
 have HP4 : Hid (∀ W : World, _) := fun W => picked_x xk 4 W HOK.out.1 (by decide) (by decide)
 simp only at hk
 obtain ⟨t1, t2⟩ := wf_range (wf_tdiv HOK.out.1)
 have HPK : Hid (∀ W : World, Calls Tryz.prog 8 #[.int .i64 (xk.tdiv 4), .int .i64 16] W fun e w' => e = .returned (.int .i64 9) ∧ w' = W) := fun W => by
  have h := picked_x (xk.tdiv 4) 16 W (wf_tdiv HOK.out.1) (by decide) (by decide)
  rw [hk] at h
  exact h
 obtain ⟨K4, hK4⟩ : ∃ K : Int, K = ((pickR xk 4 : Nat) : Int) := ⟨_, rfl⟩
 have k4 : ¬ K4 = 0 := by simp only at hk4; omega
 have k4b : (K4 == 0) = false := by simpa using k4
 rw [← hK4] at HP4
 obtain ⟨J, hJ⟩ : ∃ J : Nat, J = pickR xb 2 := ⟨_, rfl⟩
 have hJ2 : J < 2 := by rw [hJ]; exact pickR_lt _ (by decide)
 have HPB : Hid (∀ W : World, Calls Tryz.prog 8 #[.int .i64 xb, .int .i64 2] W fun e w' => e = .returned (.int .i64 (J : Int)) ∧ w' = W) := fun W => by
  have h := picked_x xb 2 W HOK.out.2.2.1 (by decide) (by decide)
  rw [hJ]
  exact h
 obtain ⟨O, hO⟩ : ∃ O : List UInt8, O ∈ ([[97], [98]] : List (List UInt8)) ∧ ((#[.string ⟨#[97]⟩, .string ⟨#[98]⟩]) : Array Value)[J]? = some (.string (bs O)) := by
  have h : J = 0 ∨ J = 1 := by omega
  rcases h with rfl | rfl
  · exact ⟨[97], by simp, rfl⟩
  · exact ⟨[98], by simp, rfl⟩
 obtain ⟨OB, hOB⟩ : ∃ OB, OB = bs O := ⟨_, rfl⟩
 have o1 : OB.size ≤ 10 := by
  rw [hOB, bs_size]
  have h : ∀ v ∈ ([[97], [98]] : List (List UInt8)), v.length ≤ 10 := by decide
  exact h O hO.1
 have e0 := hO.2
 rw [← hOB] at e0
 have e1 : ∀ h : J < ([.string ⟨#[97]⟩, .string ⟨#[98]⟩] : List Value).length, ([.string ⟨#[97]⟩, .string ⟨#[98]⟩] : List Value)[J]'h = .string OB := fun h => by
  have h2 := e0
  rw [List.getElem?_toArray, List.getElem?_eq_getElem h] at h2
  exact Option.some.inj h2
 have HO : Hid (OB = bs O ∧ O ∈ ([[97], [98]] : List (List UInt8))) := ⟨hOB, hO.1⟩
 clear hJ hO hOB
 clear hk4 hk hx hi hc hW hM hD hK4
 go_enter Tryz.func15, Tryz.ntmps15
 go_wp2_with fail
 rw [← HWW.out]
 refine Calls.mono HDR.out ?_
 rintro e w1 ⟨rfl, hM1, hb1⟩
 obtain ⟨p, hp⟩ : ∃ p, p = w.heap.size := ⟨_, rfl⟩
 obtain ⟨q, hq⟩ : ∃ p, p = w.heap.size + 1 := ⟨_, rfl⟩
 obtain ⟨t, ht⟩ : ∃ p, p = w.heap.size + 1 + 1 := ⟨_, rfl⟩
 have HBO1 := HBO.out.but hb1
 rw [← ht, ← hq, ← hp] at HBO1 ⊢
 obtain ⟨b0, b1, b2, rp, rq, rt⟩ := HBO1
 obtain ⟨W2, hW2⟩ : ∃ W2, W2 = (w1.alloc (.cells #[.int .i64 xk, .int .i64 xa, .int .i64 xb, .int .i64 xc] 44)).alloc (.cells #[.string ⟨#[120]⟩, .string ⟨#[121]⟩, .string ⟨#[122]⟩, .string ⟨#[115, 101, 101, 100]⟩] 9) := ⟨_, rfl⟩
 have HM2 : Hid (Mk r W2 l (i + 1)) := by rw [hW2]; exact (hM1.alloc _).alloc _
 have HB2 : Hid (But r r w W2) := by rw [hW2]; exact ((HBW.out.trans hb1).alloc _).alloc _
 have HBO2 : Hid (Bo r p q t D b W2) := by rw [hW2]; exact (Bo.below ⟨b0, b1, b2, rp, rq, rt⟩ ((Below.refl _ _).alloc (Nat.le_refl _) _)).below ((Below.refl _ _).alloc (Nat.le_refl _) _)
 have HLO2 : Hid (Lo r w1.heap.size (w1.heap.size + 1) ⟨xk, xa, xb, xc⟩ W2) := by rw [hW2]; exact Lo.new ⟨xk, xa, xb, xc⟩ hM1.lt _ _
 obtain ⟨u, hu⟩ : ∃ p, p = w1.heap.size := ⟨_, rfl⟩
 obtain ⟨v, hv⟩ : ∃ p, p = w1.heap.size + 1 := ⟨_, rfl⟩
 have HUV : Hid (u = _ ∧ v = _) := ⟨hu, hv⟩
 have HWW2 : Hid (W2 = _) := hW2
 have l1 : q < w1.heap.size := World.block_lt_of_cell? w1 ⟨q, 0, none⟩ b1
 have n1 : ¬ q = w1.heap.size := by omega
 have m1 : ¬ q = w1.heap.size + 1 := by omega
 clear hM1 hb1 HDR HBO HBW HMW HWW hp hq ht hu hv hW2 b0 b2 rp rt
 unfold rwV
 go_wp2_with fail
 rw [← HWW2.out, ← HUV.out.2, ← HUV.out.1]
 rw [← HUV.out.2, ← HUV.out.1] at HLO2
 clear HWW2 HUV l1 n1 m1 b1 rq
 refine Calls.mono (HP4.out W2) ?_
 rintro e w2 ⟨rfl, hw2⟩
 rw [hw2]
 clear hw2 w2 HP4
 obtain ⟨x0, x1, x2, x3, v0, v1, v2, v3, ru, rv⟩ := HLO2.out
 obtain ⟨b0, b1, b2, rp, rq, rt⟩ := HBO2.out
 simp only at x0 x1 x2 x3
 go_wp2_with fail
 refine Calls.mono (HPK.out W2) ?_
 rintro e w2 ⟨rfl, hw2⟩
 rw [hw2]
 clear hw2 w2 HPK
 have j0 : (0 : Int) ≤ (J : Int) := by omega
 have j2 : (J : Int) < 2 := by omega
 have lu : u < W2.heap.size := World.block_lt_of_cell? W2 ⟨u, 2, none⟩ x2
 have nu : ¬ u = W2.heap.size := by omega
 have rW : ¬ r = W2.heap.size := by have := HM2.out.lt; omega
 have Wr : ¬ W2.heap.size = r := by have := HM2.out.lt; omega
 have ur : ¬ u = r := by omega
 have H2 : Hid (∀ Z : ByteArray, Z = bs [120] → StZ d c b r p q t D l i 0 w Z W2) := fun Z hZ => ⟨by rw [hZ, bs_size]; decide, ⟨_, hZ, GE.var (by decide)⟩, ⟨i + 1, HM2.out, by omega⟩, HB2.out, HBO2.out⟩
 obtain ⟨Wb, hWb⟩ : ∃ Wb, Wb = W2.alloc (.cells #[.string ⟨#[97]⟩, .string ⟨#[98]⟩] 9) := ⟨_, rfl⟩
 have sb : Wb.heap.size = W2.heap.size + 1 := by rw [hWb, alloc_size]
 have HCa : Hid (Calls Tryz.prog 34 #[.pointer (some ⟨p, 0, none⟩), .pointer (some ⟨q, 0, none⟩), .pointer (some ⟨t, 0, none⟩)] W2.drew fun e w3 => ∃ Z1, e = .returned (.string Z1) ∧ Hid (StZ d c b r p q t D l i 1 w Z1 w3) ∧ Z1.size ≤ 100000000 ∧ ¬ r = w3.heap.size ∧ ¬ w3.heap.size = r ∧ u < w3.heap.size ∧ ¬ u = w3.heap.size ∧ w3.cell? ⟨u, 2, none⟩ = some (.int .i64 xb)) := by
  refine (sub_k (n := 0) hX hd HDD.out HIC.out.1 HIC.out.2 (by decide) (bs [120]) W2.drew ((H2.out _ rfl).below (below_drew _))).mono ?_
  rintro e w3 ⟨Z1, rfl, H3, B3⟩
  have h1 : W2.heap.size ≤ w3.heap.size := B3.out.size
  have h2 := H3.out.lt
  exact ⟨Z1, rfl, H3, H3.out.small, by omega, by omega, by omega, by omega, (B3.out.cell (b := u) lu ur ur 2).trans x2⟩
 have HCb : Hid (Calls Tryz.prog 34 #[.pointer (some ⟨p, 0, none⟩), .pointer (some ⟨q, 0, none⟩), .pointer (some ⟨t, 0, none⟩)] Wb.drew fun e w3 => ∃ Z1, e = .returned (.string Z1) ∧ Hid (StZ d c b r p q t D l i 1 w Z1 w3) ∧ Z1.size ≤ 100000000 ∧ ¬ r = w3.heap.size ∧ ¬ w3.heap.size = r ∧ u < w3.heap.size ∧ ¬ u = w3.heap.size ∧ w3.cell? ⟨u, 2, none⟩ = some (.int .i64 xb) ∧ W2.heap.size < w3.heap.size ∧ w3.cell? ⟨W2.heap.size, J, none⟩ = some (.string OB)) := by
  refine (sub_k (n := 0) hX hd HDD.out HIC.out.1 HIC.out.2 (by decide) (bs [120]) Wb.drew (by rw [hWb]; exact ((H2.out _ rfl).alloc _).below (below_drew _))).mono ?_
  rintro e w3 ⟨Z1, rfl, H3, B3⟩
  have h1 : Wb.heap.size ≤ w3.heap.size := B3.out.size
  have h2 := H3.out.lt
  have h3 : Wb.cell? ⟨u, 2, none⟩ = some (.int .i64 xb) := by rw [hWb]; exact (cell_keep W2 _ u 2 lu).trans x2
  have h4 : Wb.cell? ⟨W2.heap.size, J, none⟩ = some (.string OB) := by rw [hWb]; exact (at_new W2 _ _ J).trans e0
  exact ⟨Z1, rfl, H3, H3.out.small, by omega, by omega, by omega, by omega, (B3.out.cell (b := u) (show u < Wb.heap.size by omega) ur ur 2).trans h3, by omega, (B3.out.cell (b := W2.heap.size) (show W2.heap.size < Wb.heap.size by omega) Wr Wr J).trans h4⟩
 rw [hWb] at HCb
 clear hWb sb Wb
 have HF : Hid (∀ Z1 w3 w', StZ d c b r p q t D l i 1 w Z1 w3 → Below w3.heap.size w3 w' → MkOut (GE (d + 1) b) (4 * c) r l i w (.returned (.string (⟨#[40]⟩ ++ Z1 ++ ⟨#[32, 105, 110, 32]⟩ ++ OB ++ ⟨#[41]⟩))) w') := by
  intro Z1 w3 w' h1 hb
  obtain ⟨hO1, hO2⟩ := HO.out
  obtain ⟨s1, hz1, hg1⟩ := h1.text
  obtain ⟨j, hm, hj⟩ := (h1.below hb).maker
  refine ⟨[40] ++ s1 ++ [32, 105, 110, 32] ++ O ++ [41], j, by rw [hO1, hz1]; simp only [← bs_app]; rfl, ?_, hm, by obtain ⟨h8, h9⟩ := HIC.out; omega, (h1.below hb).but⟩
  exact GE.isin hO2 hg1
 clear HM2 HB2 HBO2 HLO2 b0 b1 b2 rp rq rt H2 v0 v1 v2 v3 rv hd hX HIC HOK HDD t1 t2 k4 x0 x1 x3
 go_wp2_with fail
 refine wp_region_held_drew (S := fun w9 => w9.cell? ⟨u, 2, none⟩ = some (.int .i64 xb)) (by kernel_rfl) x2 (fun hHeld => ?_)
 refine tk 0 hHeld rfl (v := ?_) ?_ ?_
 rotate_left
 · intro w9 h9; (try dsimp only at h9); go_simp <;> first | with_reducible rfl | rw [if_neg (by omega)]
 try simp only [Act.put, lay]
 refine tk 5 hHeld rfl (v := ?_) ?_ ?_
 rotate_left
 · intro w9 h9; (try dsimp only at h9); go_simp <;> first | with_reducible rfl | rw [if_neg (by omega)]
 try simp only [Act.put, lay]
 refine tk 6 hHeld rfl (v := ?_) ?_ ?_
 rotate_left
 · intro w9 h9; (try dsimp only at h9); go_simp <;> first | with_reducible rfl | rw [if_neg (by omega)]
 try simp only [Act.put, lay]
 refine wpAnyH_ready (rs := [1, 4]) (by kernel_rfl) (by simp) ?_
 refine AllReadyH.cons rfl (fun K hK => ?_) ?_
 · go_simp
   refine Calls.mono HCa.out ?_
   rintro e w3 ⟨Z1, rfl, H3, z1, rw3, wr3, lu3, nu3, x23⟩
   go_wp2_with fail
   refine hK.out _ _ x23 (fun h8 => ?_)
   clear hK K
   replace hHeld := h8
   clear h8
   try simp only [Act.put, lay]
   refine tk 2 hHeld rfl (v := ?_) ?_ ?_
   rotate_left
   · intro w9 h9; (try dsimp only at h9); go_simp <;> first | with_reducible rfl | rw [if_neg (by omega)]
   try simp only [Act.put, lay]
   refine tk 3 hHeld rfl (v := ?_) ?_ ?_
   rotate_left
   · intro w9 h9; (try dsimp only at h9); go_simp <;> first | with_reducible rfl | rw [if_neg (by omega)]
   try simp only [Act.put, lay]
   refine wpAnyH_ready (rs := [4, 7]) (by kernel_rfl) (by simp) ?_
   refine AllReadyH.cons rfl (fun K hK => ?_) ?_
   · go_simp
     refine hK.out _ _ ((cell_keep _ _ u 2 (World.block_lt_of_cell? _ ⟨u, 2, none⟩ hHeld)).trans hHeld) (fun h8 => ?_)
     clear hK K
     replace hHeld := h8
     clear h8
     try simp only [Act.put, lay]
     refine wpAnyH_ready (rs := [7]) (by kernel_rfl) (by simp) ?_
     refine AllReadyH.cons rfl (fun K hK => ?_) ?_
     · go_simp
       refine Calls.mono (HPB.out _) ?_
       rintro e w2 ⟨rfl, hw2⟩
       rw [hw2]
       clear hw2 w2
       go_wp2_with fail
       refine hK.out _ _ hHeld (fun h8 => ?_)
       clear hK K
       replace hHeld := h8
       clear h8
       try simp only [Act.put, lay]
       refine tk 8 hHeld rfl (v := ?_) ?_ ?_
       rotate_left
       · intro w9 h9; (try dsimp only at h9); go_simp <;> first | with_reducible rfl | rw [if_neg (by omega)]
       try simp only [Act.put, lay]
       refine wpAnyH_ready (rs := [9]) (by kernel_rfl) (by simp) ?_
       refine AllReadyH.cons rfl (fun K hK => ?_) ?_
       · go_simp
         refine hK.out _ _ hHeld (fun h8 => ?_)
         clear hK K
         replace hHeld := h8
         clear h8
         try simp only [Act.put, lay]
         refine tk 10 hHeld rfl (v := ?_) ?_ ?_
         rotate_left
         · intro w9 h9; (try dsimp only at h9); go_simp <;> first | with_reducible rfl | rw [if_neg (by omega)]
         try simp only [Act.put, lay]
         refine tk 11 hHeld rfl (v := ?_) ?_ ?_
         rotate_left
         · intro w9 h9; (try dsimp only at h9); go_simp <;> first | with_reducible rfl | rw [if_neg (by omega)]
         try simp only [Act.put, lay]
         refine tk 12 hHeld rfl (v := ?_) ?_ ?_
         rotate_left
         · intro w9 h9; (try dsimp only at h9); go_simp <;> first | with_reducible rfl | rw [if_neg (by omega)]
         try simp only [Act.put, lay]
         refine wpAnyH_done (by kernel_rfl) ?_ _
         go_wp2_with fail
         go_ret
         first | exact HF.out _ _ _ H3.out (Below.refl _ _) | exact HF.out _ _ _ H3.out ((Below.refl _ _).alloc (Nat.le_refl _) _)
       exact AllReadyH.nil
     exact AllReadyH.nil
   refine AllReadyH.cons rfl (fun K hK => ?_) ?_
   · go_simp
     refine Calls.mono (HPB.out _) ?_
     rintro e w2 ⟨rfl, hw2⟩
     rw [hw2]
     clear hw2 w2
     go_wp2_with fail
     refine hK.out _ _ hHeld (fun h8 => ?_)
     clear hK K
     replace hHeld := h8
     clear h8
     try simp only [Act.put, lay]
     refine wpAnyH_ready (rs := [4]) (by kernel_rfl) (by simp) ?_
     refine AllReadyH.cons rfl (fun K hK => ?_) ?_
     · go_simp
       refine hK.out _ _ ((cell_keep _ _ u 2 (World.block_lt_of_cell? _ ⟨u, 2, none⟩ hHeld)).trans hHeld) (fun h8 => ?_)
       clear hK K
       replace hHeld := h8
       clear h8
       try simp only [Act.put, lay]
       refine tk 8 hHeld rfl (v := ?_) ?_ ?_
       rotate_left
       · intro w9 h9; (try dsimp only at h9); go_simp <;> first | with_reducible rfl | rw [if_neg (by omega)]
       try simp only [Act.put, lay]
       refine wpAnyH_ready (rs := [9]) (by kernel_rfl) (by simp) ?_
       refine AllReadyH.cons rfl (fun K hK => ?_) ?_
       · go_simp
         refine hK.out _ _ hHeld (fun h8 => ?_)
         clear hK K
         replace hHeld := h8
         clear h8
         try simp only [Act.put, lay]
         refine tk 10 hHeld rfl (v := ?_) ?_ ?_
         rotate_left
         · intro w9 h9; (try dsimp only at h9); go_simp <;> first | with_reducible rfl | rw [if_neg (by omega)]
         try simp only [Act.put, lay]
         refine tk 11 hHeld rfl (v := ?_) ?_ ?_
         rotate_left
         · intro w9 h9; (try dsimp only at h9); go_simp <;> first | with_reducible rfl | rw [if_neg (by omega)]
         try simp only [Act.put, lay]
         refine tk 12 hHeld rfl (v := ?_) ?_ ?_
         rotate_left
         · intro w9 h9; (try dsimp only at h9); go_simp <;> first | with_reducible rfl | rw [if_neg (by omega)]
         try simp only [Act.put, lay]
         refine wpAnyH_done (by kernel_rfl) ?_ _
         go_wp2_with fail
         go_ret
         first | exact HF.out _ _ _ H3.out (Below.refl _ _) | exact HF.out _ _ _ H3.out ((Below.refl _ _).alloc (Nat.le_refl _) _)
       exact AllReadyH.nil
     exact AllReadyH.nil
   exact AllReadyH.nil
 refine AllReadyH.cons rfl (fun K hK => ?_) ?_
 · go_simp
   refine hK.out _ _ ((cell_keep _ _ u 2 (World.block_lt_of_cell? _ ⟨u, 2, none⟩ hHeld)).trans hHeld) (fun h8 => ?_)
   clear hK K
   replace hHeld := h8
   clear h8
   try simp only [Act.put, lay]
   refine wpAnyH_ready (rs := [1]) (by kernel_rfl) (by simp) ?_
   refine AllReadyH.cons rfl (fun K hK => ?_) ?_
   · go_simp
     refine Calls.mono HCb.out ?_
     rintro e w3 ⟨Z1, rfl, H3, z1, rw3, wr3, lu3, nu3, x23, g3, e3⟩
     go_wp2_with fail
     refine hK.out _ _ x23 (fun h8 => ?_)
     clear hK K
     replace hHeld := h8
     clear h8
     try simp only [Act.put, lay]
     refine tk 2 hHeld rfl (v := ?_) ?_ ?_
     rotate_left
     · intro w9 h9; (try dsimp only at h9); go_simp <;> first | with_reducible rfl | rw [if_neg (by omega)]
     try simp only [Act.put, lay]
     refine tk 3 hHeld rfl (v := ?_) ?_ ?_
     rotate_left
     · intro w9 h9; (try dsimp only at h9); go_simp <;> first | with_reducible rfl | rw [if_neg (by omega)]
     try simp only [Act.put, lay]
     refine wpAnyH_ready (rs := [7]) (by kernel_rfl) (by simp) ?_
     refine AllReadyH.cons rfl (fun K hK => ?_) ?_
     · go_simp
       refine Calls.mono (HPB.out _) ?_
       rintro e w2 ⟨rfl, hw2⟩
       rw [hw2]
       clear hw2 w2
       go_wp2_with fail
       refine hK.out _ _ hHeld (fun h8 => ?_)
       clear hK K
       replace hHeld := h8
       clear h8
       try simp only [Act.put, lay]
       refine tk 8 hHeld rfl (v := ?_) ?_ ?_
       rotate_left
       · intro w9 h9; (try dsimp only at h9); go_simp <;> first | with_reducible rfl | rw [if_neg (by omega)]
       try simp only [Act.put, lay]
       refine wpAnyH_ready (rs := [9]) (by kernel_rfl) (by simp) ?_
       refine AllReadyH.cons rfl (fun K hK => ?_) ?_
       · go_simp
         refine hK.out _ _ hHeld (fun h8 => ?_)
         clear hK K
         replace hHeld := h8
         clear h8
         try simp only [Act.put, lay]
         refine tk 10 hHeld rfl (v := ?_) ?_ ?_
         rotate_left
         · intro w9 h9; (try dsimp only at h9); go_simp <;> first | with_reducible rfl | rw [if_neg (by omega)]
         try simp only [Act.put, lay]
         refine tk 11 hHeld rfl (v := ?_) ?_ ?_
         rotate_left
         · intro w9 h9; (try dsimp only at h9); go_simp <;> first | with_reducible rfl | rw [if_neg (by omega)]
         try simp only [Act.put, lay]
         refine tk 12 hHeld rfl (v := ?_) ?_ ?_
         rotate_left
         · intro w9 h9; (try dsimp only at h9); go_simp <;> first | with_reducible rfl | rw [if_neg (by omega)]
         try simp only [Act.put, lay]
         refine wpAnyH_done (by kernel_rfl) ?_ _
         go_wp2_with fail
         go_ret
         first | exact HF.out _ _ _ H3.out (Below.refl _ _) | exact HF.out _ _ _ H3.out ((Below.refl _ _).alloc (Nat.le_refl _) _)
       exact AllReadyH.nil
     exact AllReadyH.nil
   exact AllReadyH.nil
 exact AllReadyH.nil
end Go.Proofs.YtfbpkbochhfnhaaGreatDoor
namespace Go.Proofs.YtfbpkbochhfnhaaGreatDoor
open Go.ChangeShapes Go.WideShapes Go.ChangeAt Go.RowKit Go.Joins
set_option linter.unusedVariables false
set_option maxRecDepth 100000
set_option maxHeartbeats 8000000 in
theorem exp_op {d c : Nat} (hX : MkE d c) (hc : 1 ≤ c) (r : Nat) (l : List Rw) (i : Nat) (b : Bool) (w : World) (hM : Mk r w l i) (hi : i + 4 * c ≤ 1000000) (hd : d ≤ 10)
 (hk4 : ¬ pickR (nextR l i).kind 4 = 0) (hk : pickR ((nextR l i).kind.tdiv 4) 16 < 4) :
 Calls Tryz.prog 15 #[.pointer (some ⟨r, 0, none⟩), .int .i64 ((d + 1 : Nat) : Int), .bool b] w (MkOut (GE (d + 1) b) (4 * c) r l i w) := by
 obtain ⟨D, hD⟩ : ∃ D : Int, D = ((d + 1 : Nat) : Int) := ⟨_, rfl⟩
 obtain ⟨x, hx⟩ : ∃ x, x = nextR l i := ⟨_, rfl⟩
 obtain ⟨W, hW⟩ : ∃ W, W = (((w.alloc (.cells #[.pointer (some ⟨r, 0, none⟩)] 40)).alloc (.cells #[.int .i64 D] 3)).alloc (.cells #[.bool b] 4)) := ⟨_, rfl⟩
 have HMW : Hid (Mk r W l i) := by rw [hW]; exact ((hM.alloc _).alloc _).alloc _
 have HBW : Hid (But r r w W) := by rw [hW]; exact (((But.refl _ _ _).alloc _).alloc _).alloc _
 have HBO : Hid (Bo r w.heap.size (w.heap.size + 1) (w.heap.size + 1 + 1) D b W) := by rw [hW]; exact Bo.new hM.lt _ _ _
 have HDR : Hid _ := draw_c r l i W HMW.out (by omega)
 have HOK : Hid (x.ok) := by rw [hx]; exact hM.ok i
 have d1 : ¬ D ≤ 0 := by omega
 have HWW : Hid (W = _) := hW
 rw [← hD]
 rw [← hx] at hk4 hk HDR
 have HIC : Hid (i + 4 * c ≤ 1000000 ∧ 1 ≤ c) := ⟨hi, hc⟩
 have HDD : Hid (D = _) := hD
 obtain ⟨xk, xa, xb, xc⟩ := x
 have HP4 : Hid (∀ W : World, _) := fun W => picked_x xk 4 W HOK.out.1 (by decide) (by decide)
 simp only at hk
 obtain ⟨t1, t2⟩ := wf_range (wf_tdiv HOK.out.1)
 obtain ⟨K, hK⟩ : ∃ K : Int, K = ((pickR (xk.tdiv 4) 16 : Nat) : Int) := ⟨_, rfl⟩
 have HPK : Hid (∀ W : World, Calls Tryz.prog 8 #[.int .i64 (xk.tdiv 4), .int .i64 16] W fun e w' => e = .returned (.int .i64 K) ∧ w' = W) := fun W => by
  have h := picked_x (xk.tdiv 4) 16 W (wf_tdiv HOK.out.1) (by decide) (by decide)
  rw [hK]
  exact h
 have kf0 : K < 4 := by first | omega | (simp only [beq_eq_false_iff_ne, ne_eq]; omega)
 clear hK
 obtain ⟨K4, hK4⟩ : ∃ K : Int, K = ((pickR xk 4 : Nat) : Int) := ⟨_, rfl⟩
 have k4 : ¬ K4 = 0 := by simp only at hk4; omega
 have k4b : (K4 == 0) = false := by simpa using k4
 rw [← hK4] at HP4
 obtain ⟨J, hJ⟩ : ∃ J : Nat, J = pickR xb 6 := ⟨_, rfl⟩
 have hJ2 : J < 6 := by rw [hJ]; exact pickR_lt _ (by decide)
 have HPB : Hid (∀ W : World, Calls Tryz.prog 8 #[.int .i64 xb, .int .i64 6] W fun e w' => e = .returned (.int .i64 (J : Int)) ∧ w' = W) := fun W => by
  have h := picked_x xb 6 W HOK.out.2.2.1 (by decide) (by decide)
  rw [hJ]
  exact h
 obtain ⟨O, hO⟩ : ∃ O : List UInt8, O ∈ ([[43], [45], [42], [46, 46], [47], [37]] : List (List UInt8)) ∧ ((#[.string ⟨#[43]⟩, .string ⟨#[45]⟩, .string ⟨#[42]⟩, .string ⟨#[46, 46]⟩, .string ⟨#[47]⟩, .string ⟨#[37]⟩]) : Array Value)[J]? = some (.string (bs O)) := by
  have h : J = 0 ∨ J = 1 ∨ J = 2 ∨ J = 3 ∨ J = 4 ∨ J = 5 := by omega
  rcases h with rfl | rfl | rfl | rfl | rfl | rfl
  · exact ⟨[43], by simp, rfl⟩
  · exact ⟨[45], by simp, rfl⟩
  · exact ⟨[42], by simp, rfl⟩
  · exact ⟨[46, 46], by simp, rfl⟩
  · exact ⟨[47], by simp, rfl⟩
  · exact ⟨[37], by simp, rfl⟩
 obtain ⟨OB, hOB⟩ : ∃ OB, OB = bs O := ⟨_, rfl⟩
 have o1 : OB.size ≤ 10 := by
  rw [hOB, bs_size]
  have h : ∀ v ∈ ([[43], [45], [42], [46, 46], [47], [37]] : List (List UInt8)), v.length ≤ 10 := by decide
  exact h O hO.1
 have e0 := hO.2
 rw [← hOB] at e0
 have e1 : ∀ h : J < ([.string ⟨#[43]⟩, .string ⟨#[45]⟩, .string ⟨#[42]⟩, .string ⟨#[46, 46]⟩, .string ⟨#[47]⟩, .string ⟨#[37]⟩] : List Value).length, ([.string ⟨#[43]⟩, .string ⟨#[45]⟩, .string ⟨#[42]⟩, .string ⟨#[46, 46]⟩, .string ⟨#[47]⟩, .string ⟨#[37]⟩] : List Value)[J]'h = .string OB := fun h => by
  have h2 := e0
  rw [List.getElem?_toArray, List.getElem?_eq_getElem h] at h2
  exact Option.some.inj h2
 have HO : Hid (OB = bs O ∧ O ∈ ([[43], [45], [42], [46, 46], [47], [37]] : List (List UInt8))) := ⟨hOB, hO.1⟩
 clear hJ hO hOB
 clear hk4 hk hx hi hc hW hM hD hK4
 go_enter Tryz.func15, Tryz.ntmps15
 go_wp2_with fail
 rw [← HWW.out]
 refine Calls.mono HDR.out ?_
 rintro e w1 ⟨rfl, hM1, hb1⟩
 obtain ⟨p, hp⟩ : ∃ p, p = w.heap.size := ⟨_, rfl⟩
 obtain ⟨q, hq⟩ : ∃ p, p = w.heap.size + 1 := ⟨_, rfl⟩
 obtain ⟨t, ht⟩ : ∃ p, p = w.heap.size + 1 + 1 := ⟨_, rfl⟩
 have HBO1 := HBO.out.but hb1
 rw [← ht, ← hq, ← hp] at HBO1 ⊢
 obtain ⟨b0, b1, b2, rp, rq, rt⟩ := HBO1
 obtain ⟨W2, hW2⟩ : ∃ W2, W2 = (w1.alloc (.cells #[.int .i64 xk, .int .i64 xa, .int .i64 xb, .int .i64 xc] 44)).alloc (.cells #[.string ⟨#[120]⟩, .string ⟨#[121]⟩, .string ⟨#[122]⟩, .string ⟨#[115, 101, 101, 100]⟩] 9) := ⟨_, rfl⟩
 have HM2 : Hid (Mk r W2 l (i + 1)) := by rw [hW2]; exact (hM1.alloc _).alloc _
 have HB2 : Hid (But r r w W2) := by rw [hW2]; exact ((HBW.out.trans hb1).alloc _).alloc _
 have HBO2 : Hid (Bo r p q t D b W2) := by rw [hW2]; exact (Bo.below ⟨b0, b1, b2, rp, rq, rt⟩ ((Below.refl _ _).alloc (Nat.le_refl _) _)).below ((Below.refl _ _).alloc (Nat.le_refl _) _)
 have HLO2 : Hid (Lo r w1.heap.size (w1.heap.size + 1) ⟨xk, xa, xb, xc⟩ W2) := by rw [hW2]; exact Lo.new ⟨xk, xa, xb, xc⟩ hM1.lt _ _
 obtain ⟨u, hu⟩ : ∃ p, p = w1.heap.size := ⟨_, rfl⟩
 obtain ⟨v, hv⟩ : ∃ p, p = w1.heap.size + 1 := ⟨_, rfl⟩
 have HUV : Hid (u = _ ∧ v = _) := ⟨hu, hv⟩
 have HWW2 : Hid (W2 = _) := hW2
 have l1 : q < w1.heap.size := World.block_lt_of_cell? w1 ⟨q, 0, none⟩ b1
 have n1 : ¬ q = w1.heap.size := by omega
 have m1 : ¬ q = w1.heap.size + 1 := by omega
 clear hM1 hb1 HDR HBO HBW HMW HWW hp hq ht hu hv hW2 b0 b2 rp rt
 unfold rwV
 go_wp2_with fail
 rw [← HWW2.out, ← HUV.out.2, ← HUV.out.1]
 rw [← HUV.out.2, ← HUV.out.1] at HLO2
 clear HWW2 HUV l1 n1 m1 b1 rq
 refine Calls.mono (HP4.out W2) ?_
 rintro e w2 ⟨rfl, hw2⟩
 rw [hw2]
 clear hw2 w2 HP4
 obtain ⟨x0, x1, x2, x3, v0, v1, v2, v3, ru, rv⟩ := HLO2.out
 obtain ⟨b0, b1, b2, rp, rq, rt⟩ := HBO2.out
 simp only at x0 x1 x2 x3
 go_wp2_with fail
 refine Calls.mono (HPK.out W2) ?_
 rintro e w2 ⟨rfl, hw2⟩
 rw [hw2]
 clear hw2 w2 HPK
 have j0 : (0 : Int) ≤ (J : Int) := by omega
 have j2 : (J : Int) < 6 := by omega
 have lu : u < W2.heap.size := World.block_lt_of_cell? W2 ⟨u, 2, none⟩ x2
 have nu : ¬ u = W2.heap.size := by omega
 have rW : ¬ r = W2.heap.size := by have := HM2.out.lt; omega
 have Wr : ¬ W2.heap.size = r := by have := HM2.out.lt; omega
 have ur : ¬ u = r := by omega
 have H2 : Hid (∀ Z : ByteArray, Z = bs [120] → StZ d c b r p q t D l i 0 w Z W2) := fun Z hZ => ⟨by rw [hZ, bs_size]; decide, ⟨_, hZ, GE.var (by decide)⟩, ⟨i + 1, HM2.out, by omega⟩, HB2.out, HBO2.out⟩
 obtain ⟨Wb, hWb⟩ : ∃ Wb, Wb = W2.alloc (.cells #[.string ⟨#[43]⟩, .string ⟨#[45]⟩, .string ⟨#[42]⟩, .string ⟨#[46, 46]⟩, .string ⟨#[47]⟩, .string ⟨#[37]⟩] 9) := ⟨_, rfl⟩
 have sb : Wb.heap.size = W2.heap.size + 1 := by rw [hWb, alloc_size]
 have HCa : Hid (Calls Tryz.prog 34 #[.pointer (some ⟨p, 0, none⟩), .pointer (some ⟨q, 0, none⟩), .pointer (some ⟨t, 0, none⟩)] W2.drew fun e w3 => ∃ Z1, e = .returned (.string Z1) ∧ Hid (StZ d c b r p q t D l i 1 w Z1 w3) ∧ Z1.size ≤ 100000000 ∧ ¬ r = w3.heap.size ∧ ¬ w3.heap.size = r ∧ u < w3.heap.size ∧ ¬ u = w3.heap.size ∧ w3.cell? ⟨u, 2, none⟩ = some (.int .i64 xb)) := by
  refine (sub_k (n := 0) hX hd HDD.out HIC.out.1 HIC.out.2 (by decide) (bs [120]) W2.drew ((H2.out _ rfl).below (below_drew _))).mono ?_
  rintro e w3 ⟨Z1, rfl, H3, B3⟩
  have h1 : W2.heap.size ≤ w3.heap.size := B3.out.size
  have h2 := H3.out.lt
  exact ⟨Z1, rfl, H3, H3.out.small, by omega, by omega, by omega, by omega, (B3.out.cell (b := u) lu ur ur 2).trans x2⟩
 have HCb : Hid (Calls Tryz.prog 34 #[.pointer (some ⟨p, 0, none⟩), .pointer (some ⟨q, 0, none⟩), .pointer (some ⟨t, 0, none⟩)] Wb.drew fun e w3 => ∃ Z1, e = .returned (.string Z1) ∧ Hid (StZ d c b r p q t D l i 1 w Z1 w3) ∧ Z1.size ≤ 100000000 ∧ ¬ r = w3.heap.size ∧ ¬ w3.heap.size = r ∧ u < w3.heap.size ∧ ¬ u = w3.heap.size ∧ w3.cell? ⟨u, 2, none⟩ = some (.int .i64 xb) ∧ W2.heap.size < w3.heap.size ∧ w3.cell? ⟨W2.heap.size, J, none⟩ = some (.string OB)) := by
  refine (sub_k (n := 0) hX hd HDD.out HIC.out.1 HIC.out.2 (by decide) (bs [120]) Wb.drew (by rw [hWb]; exact ((H2.out _ rfl).alloc _).below (below_drew _))).mono ?_
  rintro e w3 ⟨Z1, rfl, H3, B3⟩
  have h1 : Wb.heap.size ≤ w3.heap.size := B3.out.size
  have h2 := H3.out.lt
  have h3 : Wb.cell? ⟨u, 2, none⟩ = some (.int .i64 xb) := by rw [hWb]; exact (cell_keep W2 _ u 2 lu).trans x2
  have h4 : Wb.cell? ⟨W2.heap.size, J, none⟩ = some (.string OB) := by rw [hWb]; exact (at_new W2 _ _ J).trans e0
  exact ⟨Z1, rfl, H3, H3.out.small, by omega, by omega, by omega, by omega, (B3.out.cell (b := u) (show u < Wb.heap.size by omega) ur ur 2).trans h3, by omega, (B3.out.cell (b := W2.heap.size) (show W2.heap.size < Wb.heap.size by omega) Wr Wr J).trans h4⟩
 rw [hWb] at HCb
 clear hWb sb Wb
 have HCn : Hid (∀ (Z : ByteArray) (W : World), StZ d c b r p q t D l i 1 w Z W → _) := fun Z W h => sub_k (n := 1) hX hd HDD.out HIC.out.1 HIC.out.2 (by decide) Z W h
 have HF : Hid (∀ Z1 w3 Z2 w4 w', StZ d c b r p q t D l i 1 w Z1 w3 → StZ d c b r p q t D l i 2 w Z2 w4 → Below w4.heap.size w4 w' → MkOut (GE (d + 1) b) (4 * c) r l i w (.returned (.string (⟨#[40]⟩ ++ Z1 ++ ⟨#[32]⟩ ++ OB ++ ⟨#[32]⟩ ++ Z2 ++ ⟨#[41]⟩))) w') := by
  intro Z1 w3 Z2 w4 w' h1 h2 hb
  obtain ⟨hO1, hO2⟩ := HO.out
  obtain ⟨s1, hz1, hg1⟩ := h1.text
  obtain ⟨s2, hz2, hg2⟩ := h2.text
  obtain ⟨j, hm, hj⟩ := (h2.below hb).maker
  refine ⟨[40] ++ s1 ++ [32] ++ O ++ [32] ++ s2 ++ [41], j, by rw [hO1, hz1, hz2]; simp only [← bs_app]; rfl, ?_, hm, by obtain ⟨h8, h9⟩ := HIC.out; omega, (h2.below hb).but⟩
  have h : ∀ v ∈ ([[43], [45], [42], [46, 46], [47], [37]] : List (List UInt8)), ([32] ++ v ++ [32]) ∈ opsL := by decide
  have h' := GE.op (h O hO2) hg1 hg2
  simpa only [List.append_assoc] using h'
 clear HM2 HB2 HBO2 HLO2 b0 b1 b2 rp rq rt H2 v0 v1 v2 v3 rv hd hX HIC HOK HDD t1 t2 k4 x0 x1 x3
 go_wp2_with fail
 refine wp_region_held_drew (S := fun w9 => w9.cell? ⟨u, 2, none⟩ = some (.int .i64 xb)) (by kernel_rfl) x2 (fun hHeld => ?_)
 refine tk 0 hHeld rfl (v := ?_) ?_ ?_
 rotate_left
 · intro w9 h9; (try dsimp only at h9); go_simp <;> first | with_reducible rfl | rw [if_neg (by omega)]
 try simp only [Act.put, lay]
 refine tk 5 hHeld rfl (v := ?_) ?_ ?_
 rotate_left
 · intro w9 h9; (try dsimp only at h9); go_simp <;> first | with_reducible rfl | rw [if_neg (by omega)]
 try simp only [Act.put, lay]
 refine tk 6 hHeld rfl (v := ?_) ?_ ?_
 rotate_left
 · intro w9 h9; (try dsimp only at h9); go_simp <;> first | with_reducible rfl | rw [if_neg (by omega)]
 try simp only [Act.put, lay]
 refine tk 12 hHeld rfl (v := ?_) ?_ ?_
 rotate_left
 · intro w9 h9; (try dsimp only at h9); go_simp <;> first | with_reducible rfl | rw [if_neg (by omega)]
 try simp only [Act.put, lay]
 refine wpAnyH_ready (rs := [1, 4]) (by kernel_rfl) (by simp) ?_
 refine AllReadyH.cons rfl (fun K hK => ?_) ?_
 · go_simp
   refine Calls.mono HCa.out ?_
   rintro e w3 ⟨Z1, rfl, H3, z1, rw3, wr3, lu3, nu3, x23⟩
   go_wp2_with fail
   refine hK.out _ _ x23 (fun h8 => ?_)
   clear hK K
   replace hHeld := h8
   clear h8
   try simp only [Act.put, lay]
   refine tk 2 hHeld rfl (v := ?_) ?_ ?_
   rotate_left
   · intro w9 h9; (try dsimp only at h9); go_simp <;> first | with_reducible rfl | rw [if_neg (by omega)]
   try simp only [Act.put, lay]
   refine tk 3 hHeld rfl (v := ?_) ?_ ?_
   rotate_left
   · intro w9 h9; (try dsimp only at h9); go_simp <;> first | with_reducible rfl | rw [if_neg (by omega)]
   try simp only [Act.put, lay]
   refine wpAnyH_ready (rs := [4, 7]) (by kernel_rfl) (by simp) ?_
   refine AllReadyH.cons rfl (fun K hK => ?_) ?_
   · go_simp
     refine hK.out _ _ ((cell_keep _ _ u 2 (World.block_lt_of_cell? _ ⟨u, 2, none⟩ hHeld)).trans hHeld) (fun h8 => ?_)
     clear hK K
     replace hHeld := h8
     clear h8
     try simp only [Act.put, lay]
     refine wpAnyH_ready (rs := [7]) (by kernel_rfl) (by simp) ?_
     refine AllReadyH.cons rfl (fun K hK => ?_) ?_
     · go_simp
       refine Calls.mono (HPB.out _) ?_
       rintro e w2 ⟨rfl, hw2⟩
       rw [hw2]
       clear hw2 w2
       go_wp2_with fail
       refine hK.out _ _ hHeld (fun h8 => ?_)
       clear hK K
       replace hHeld := h8
       clear h8
       try simp only [Act.put, lay]
       refine tk 8 hHeld rfl (v := ?_) ?_ ?_
       rotate_left
       · intro w9 h9; (try dsimp only at h9); go_simp <;> first | with_reducible rfl | rw [if_neg (by omega)]
       try simp only [Act.put, lay]
       refine wpAnyH_ready (rs := [9, 13]) (by kernel_rfl) (by simp) ?_
       refine AllReadyH.cons rfl (fun K hK => ?_) ?_
       · go_simp
         refine hK.out _ _ hHeld (fun h8 => ?_)
         clear hK K
         replace hHeld := h8
         clear h8
         try simp only [Act.put, lay]
         refine tk 10 hHeld rfl (v := ?_) ?_ ?_
         rotate_left
         · intro w9 h9; (try dsimp only at h9); go_simp <;> first | with_reducible rfl | rw [if_neg (by omega)]
         try simp only [Act.put, lay]
         refine tk 11 hHeld rfl (v := ?_) ?_ ?_
         rotate_left
         · intro w9 h9; (try dsimp only at h9); go_simp <;> first | with_reducible rfl | rw [if_neg (by omega)]
         try simp only [Act.put, lay]
         refine wpAnyH_ready (rs := [13]) (by kernel_rfl) (by simp) ?_
         refine AllReadyH.cons rfl (fun K hK => ?_) ?_
         · go_simp
           refine Calls.mono (HCn.out Z1 (w3.alloc (.cells #[.string ⟨#[43]⟩, .string ⟨#[45]⟩, .string ⟨#[42]⟩, .string ⟨#[46, 46]⟩, .string ⟨#[47]⟩, .string ⟨#[37]⟩] 9)) (H3.out.alloc _)) ?_
           rintro e w4 ⟨Z2, rfl, H4, B4⟩
           have z2 : Z2.size ≤ 100000000 := H4.out.small
           have e4 : w4.cell? ⟨w3.heap.size, J, none⟩ = some (.string OB) := ((B4.out.cell (b := w3.heap.size) (by rw [alloc_size]; omega) wr3 wr3 J).trans (at_new w3 _ _ J)).trans e0
           have x24 : w4.cell? ⟨u, 2, none⟩ = some (.int .i64 xb) := ((B4.out.cell (b := u) (by rw [alloc_size]; omega) ur ur 2).trans (cell_keep w3 _ u 2 lu3)).trans x23
           go_wp2_with fail
           refine hK.out _ _ x24 (fun h8 => ?_)
           clear hK K
           replace hHeld := h8
           clear h8
           try simp only [Act.put, lay]
           refine tk 14 hHeld rfl (v := ?_) ?_ ?_
           rotate_left
           · intro w9 h9; (try dsimp only at h9); go_simp <;> first | with_reducible rfl | rw [if_neg (by omega)]
           try simp only [Act.put, lay]
           refine tk 15 hHeld rfl (v := ?_) ?_ ?_
           rotate_left
           · intro w9 h9; (try dsimp only at h9); go_simp <;> first | with_reducible rfl | rw [if_neg (by omega)]
           try simp only [Act.put, lay]
           refine tk 16 hHeld rfl (v := ?_) ?_ ?_
           rotate_left
           · intro w9 h9; (try dsimp only at h9); go_simp <;> first | with_reducible rfl | rw [if_neg (by omega)]
           try simp only [Act.put, lay]
           refine wpAnyH_done (by kernel_rfl) ?_ _
           go_wp2_with fail
           go_ret
           first | exact HF.out _ _ _ _ _ H3.out H4.out (Below.refl _ _) | exact HF.out _ _ _ _ _ H3.out H4.out ((Below.refl _ _).alloc (Nat.le_refl _) _)
         exact AllReadyH.nil
       refine AllReadyH.cons rfl (fun K hK => ?_) ?_
       · go_simp
         refine Calls.mono (HCn.out Z1 (w3.alloc (.cells #[.string ⟨#[43]⟩, .string ⟨#[45]⟩, .string ⟨#[42]⟩, .string ⟨#[46, 46]⟩, .string ⟨#[47]⟩, .string ⟨#[37]⟩] 9)) (H3.out.alloc _)) ?_
         rintro e w4 ⟨Z2, rfl, H4, B4⟩
         have z2 : Z2.size ≤ 100000000 := H4.out.small
         have e4 : w4.cell? ⟨w3.heap.size, J, none⟩ = some (.string OB) := ((B4.out.cell (b := w3.heap.size) (by rw [alloc_size]; omega) wr3 wr3 J).trans (at_new w3 _ _ J)).trans e0
         have x24 : w4.cell? ⟨u, 2, none⟩ = some (.int .i64 xb) := ((B4.out.cell (b := u) (by rw [alloc_size]; omega) ur ur 2).trans (cell_keep w3 _ u 2 lu3)).trans x23
         go_wp2_with fail
         refine hK.out _ _ x24 (fun h8 => ?_)
         clear hK K
         replace hHeld := h8
         clear h8
         try simp only [Act.put, lay]
         refine wpAnyH_ready (rs := [9]) (by kernel_rfl) (by simp) ?_
         refine AllReadyH.cons rfl (fun K hK => ?_) ?_
         · go_simp
           refine hK.out _ _ hHeld (fun h8 => ?_)
           clear hK K
           replace hHeld := h8
           clear h8
           try simp only [Act.put, lay]
           refine tk 10 hHeld rfl (v := ?_) ?_ ?_
           rotate_left
           · intro w9 h9; (try dsimp only at h9); go_simp <;> first | with_reducible rfl | rw [if_neg (by omega)]
           try simp only [Act.put, lay]
           refine tk 11 hHeld rfl (v := ?_) ?_ ?_
           rotate_left
           · intro w9 h9; (try dsimp only at h9); go_simp <;> first | with_reducible rfl | rw [if_neg (by omega)]
           try simp only [Act.put, lay]
           refine tk 14 hHeld rfl (v := ?_) ?_ ?_
           rotate_left
           · intro w9 h9; (try dsimp only at h9); go_simp <;> first | with_reducible rfl | rw [if_neg (by omega)]
           try simp only [Act.put, lay]
           refine tk 15 hHeld rfl (v := ?_) ?_ ?_
           rotate_left
           · intro w9 h9; (try dsimp only at h9); go_simp <;> first | with_reducible rfl | rw [if_neg (by omega)]
           try simp only [Act.put, lay]
           refine tk 16 hHeld rfl (v := ?_) ?_ ?_
           rotate_left
           · intro w9 h9; (try dsimp only at h9); go_simp <;> first | with_reducible rfl | rw [if_neg (by omega)]
           try simp only [Act.put, lay]
           refine wpAnyH_done (by kernel_rfl) ?_ _
           go_wp2_with fail
           go_ret
           first | exact HF.out _ _ _ _ _ H3.out H4.out (Below.refl _ _) | exact HF.out _ _ _ _ _ H3.out H4.out ((Below.refl _ _).alloc (Nat.le_refl _) _)
         exact AllReadyH.nil
       exact AllReadyH.nil
     exact AllReadyH.nil
   refine AllReadyH.cons rfl (fun K hK => ?_) ?_
   · go_simp
     refine Calls.mono (HPB.out _) ?_
     rintro e w2 ⟨rfl, hw2⟩
     rw [hw2]
     clear hw2 w2
     go_wp2_with fail
     refine hK.out _ _ hHeld (fun h8 => ?_)
     clear hK K
     replace hHeld := h8
     clear h8
     try simp only [Act.put, lay]
     refine wpAnyH_ready (rs := [4, 13]) (by kernel_rfl) (by simp) ?_
     refine AllReadyH.cons rfl (fun K hK => ?_) ?_
     · go_simp
       refine hK.out _ _ ((cell_keep _ _ u 2 (World.block_lt_of_cell? _ ⟨u, 2, none⟩ hHeld)).trans hHeld) (fun h8 => ?_)
       clear hK K
       replace hHeld := h8
       clear h8
       try simp only [Act.put, lay]
       refine tk 8 hHeld rfl (v := ?_) ?_ ?_
       rotate_left
       · intro w9 h9; (try dsimp only at h9); go_simp <;> first | with_reducible rfl | rw [if_neg (by omega)]
       try simp only [Act.put, lay]
       refine wpAnyH_ready (rs := [9, 13]) (by kernel_rfl) (by simp) ?_
       refine AllReadyH.cons rfl (fun K hK => ?_) ?_
       · go_simp
         refine hK.out _ _ hHeld (fun h8 => ?_)
         clear hK K
         replace hHeld := h8
         clear h8
         try simp only [Act.put, lay]
         refine tk 10 hHeld rfl (v := ?_) ?_ ?_
         rotate_left
         · intro w9 h9; (try dsimp only at h9); go_simp <;> first | with_reducible rfl | rw [if_neg (by omega)]
         try simp only [Act.put, lay]
         refine tk 11 hHeld rfl (v := ?_) ?_ ?_
         rotate_left
         · intro w9 h9; (try dsimp only at h9); go_simp <;> first | with_reducible rfl | rw [if_neg (by omega)]
         try simp only [Act.put, lay]
         refine wpAnyH_ready (rs := [13]) (by kernel_rfl) (by simp) ?_
         refine AllReadyH.cons rfl (fun K hK => ?_) ?_
         · go_simp
           refine Calls.mono (HCn.out Z1 (w3.alloc (.cells #[.string ⟨#[43]⟩, .string ⟨#[45]⟩, .string ⟨#[42]⟩, .string ⟨#[46, 46]⟩, .string ⟨#[47]⟩, .string ⟨#[37]⟩] 9)) (H3.out.alloc _)) ?_
           rintro e w4 ⟨Z2, rfl, H4, B4⟩
           have z2 : Z2.size ≤ 100000000 := H4.out.small
           have e4 : w4.cell? ⟨w3.heap.size, J, none⟩ = some (.string OB) := ((B4.out.cell (b := w3.heap.size) (by rw [alloc_size]; omega) wr3 wr3 J).trans (at_new w3 _ _ J)).trans e0
           have x24 : w4.cell? ⟨u, 2, none⟩ = some (.int .i64 xb) := ((B4.out.cell (b := u) (by rw [alloc_size]; omega) ur ur 2).trans (cell_keep w3 _ u 2 lu3)).trans x23
           go_wp2_with fail
           refine hK.out _ _ x24 (fun h8 => ?_)
           clear hK K
           replace hHeld := h8
           clear h8
           try simp only [Act.put, lay]
           refine tk 14 hHeld rfl (v := ?_) ?_ ?_
           rotate_left
           · intro w9 h9; (try dsimp only at h9); go_simp <;> first | with_reducible rfl | rw [if_neg (by omega)]
           try simp only [Act.put, lay]
           refine tk 15 hHeld rfl (v := ?_) ?_ ?_
           rotate_left
           · intro w9 h9; (try dsimp only at h9); go_simp <;> first | with_reducible rfl | rw [if_neg (by omega)]
           try simp only [Act.put, lay]
           refine tk 16 hHeld rfl (v := ?_) ?_ ?_
           rotate_left
           · intro w9 h9; (try dsimp only at h9); go_simp <;> first | with_reducible rfl | rw [if_neg (by omega)]
           try simp only [Act.put, lay]
           refine wpAnyH_done (by kernel_rfl) ?_ _
           go_wp2_with fail
           go_ret
           first | exact HF.out _ _ _ _ _ H3.out H4.out (Below.refl _ _) | exact HF.out _ _ _ _ _ H3.out H4.out ((Below.refl _ _).alloc (Nat.le_refl _) _)
         exact AllReadyH.nil
       refine AllReadyH.cons rfl (fun K hK => ?_) ?_
       · go_simp
         refine Calls.mono (HCn.out Z1 (w3.alloc (.cells #[.string ⟨#[43]⟩, .string ⟨#[45]⟩, .string ⟨#[42]⟩, .string ⟨#[46, 46]⟩, .string ⟨#[47]⟩, .string ⟨#[37]⟩] 9)) (H3.out.alloc _)) ?_
         rintro e w4 ⟨Z2, rfl, H4, B4⟩
         have z2 : Z2.size ≤ 100000000 := H4.out.small
         have e4 : w4.cell? ⟨w3.heap.size, J, none⟩ = some (.string OB) := ((B4.out.cell (b := w3.heap.size) (by rw [alloc_size]; omega) wr3 wr3 J).trans (at_new w3 _ _ J)).trans e0
         have x24 : w4.cell? ⟨u, 2, none⟩ = some (.int .i64 xb) := ((B4.out.cell (b := u) (by rw [alloc_size]; omega) ur ur 2).trans (cell_keep w3 _ u 2 lu3)).trans x23
         go_wp2_with fail
         refine hK.out _ _ x24 (fun h8 => ?_)
         clear hK K
         replace hHeld := h8
         clear h8
         try simp only [Act.put, lay]
         refine wpAnyH_ready (rs := [9]) (by kernel_rfl) (by simp) ?_
         refine AllReadyH.cons rfl (fun K hK => ?_) ?_
         · go_simp
           refine hK.out _ _ hHeld (fun h8 => ?_)
           clear hK K
           replace hHeld := h8
           clear h8
           try simp only [Act.put, lay]
           refine tk 10 hHeld rfl (v := ?_) ?_ ?_
           rotate_left
           · intro w9 h9; (try dsimp only at h9); go_simp <;> first | with_reducible rfl | rw [if_neg (by omega)]
           try simp only [Act.put, lay]
           refine tk 11 hHeld rfl (v := ?_) ?_ ?_
           rotate_left
           · intro w9 h9; (try dsimp only at h9); go_simp <;> first | with_reducible rfl | rw [if_neg (by omega)]
           try simp only [Act.put, lay]
           refine tk 14 hHeld rfl (v := ?_) ?_ ?_
           rotate_left
           · intro w9 h9; (try dsimp only at h9); go_simp <;> first | with_reducible rfl | rw [if_neg (by omega)]
           try simp only [Act.put, lay]
           refine tk 15 hHeld rfl (v := ?_) ?_ ?_
           rotate_left
           · intro w9 h9; (try dsimp only at h9); go_simp <;> first | with_reducible rfl | rw [if_neg (by omega)]
           try simp only [Act.put, lay]
           refine tk 16 hHeld rfl (v := ?_) ?_ ?_
           rotate_left
           · intro w9 h9; (try dsimp only at h9); go_simp <;> first | with_reducible rfl | rw [if_neg (by omega)]
           try simp only [Act.put, lay]
           refine wpAnyH_done (by kernel_rfl) ?_ _
           go_wp2_with fail
           go_ret
           first | exact HF.out _ _ _ _ _ H3.out H4.out (Below.refl _ _) | exact HF.out _ _ _ _ _ H3.out H4.out ((Below.refl _ _).alloc (Nat.le_refl _) _)
         exact AllReadyH.nil
       exact AllReadyH.nil
     refine AllReadyH.cons rfl (fun K hK => ?_) ?_
     · go_simp
       refine Calls.mono (HCn.out Z1 w3 H3.out) ?_
       rintro e w4 ⟨Z2, rfl, H4, B4⟩
       have z2 : Z2.size ≤ 100000000 := H4.out.small
       have x24 : w4.cell? ⟨u, 2, none⟩ = some (.int .i64 xb) := (B4.out.cell (b := u) lu3 ur ur 2).trans x23
       go_wp2_with fail
       refine hK.out _ _ x24 (fun h8 => ?_)
       clear hK K
       replace hHeld := h8
       clear h8
       try simp only [Act.put, lay]
       refine wpAnyH_ready (rs := [4]) (by kernel_rfl) (by simp) ?_
       refine AllReadyH.cons rfl (fun K hK => ?_) ?_
       · go_simp
         refine hK.out _ _ ((cell_keep _ _ u 2 (World.block_lt_of_cell? _ ⟨u, 2, none⟩ hHeld)).trans hHeld) (fun h8 => ?_)
         clear hK K
         replace hHeld := h8
         clear h8
         try simp only [Act.put, lay]
         refine tk 8 hHeld rfl (v := ?_) ?_ ?_
         rotate_left
         · intro w9 h9; (try dsimp only at h9); go_simp <;> first | with_reducible rfl | rw [if_neg (by omega)]
         try simp only [Act.put, lay]
         refine wpAnyH_ready (rs := [9]) (by kernel_rfl) (by simp) ?_
         refine AllReadyH.cons rfl (fun K hK => ?_) ?_
         · go_simp
           refine hK.out _ _ hHeld (fun h8 => ?_)
           clear hK K
           replace hHeld := h8
           clear h8
           try simp only [Act.put, lay]
           refine tk 10 hHeld rfl (v := ?_) ?_ ?_
           rotate_left
           · intro w9 h9; (try dsimp only at h9); go_simp <;> first | with_reducible rfl | rw [if_neg (by omega)]
           try simp only [Act.put, lay]
           refine tk 11 hHeld rfl (v := ?_) ?_ ?_
           rotate_left
           · intro w9 h9; (try dsimp only at h9); go_simp <;> first | with_reducible rfl | rw [if_neg (by omega)]
           try simp only [Act.put, lay]
           refine tk 14 hHeld rfl (v := ?_) ?_ ?_
           rotate_left
           · intro w9 h9; (try dsimp only at h9); go_simp <;> first | with_reducible rfl | rw [if_neg (by omega)]
           try simp only [Act.put, lay]
           refine tk 15 hHeld rfl (v := ?_) ?_ ?_
           rotate_left
           · intro w9 h9; (try dsimp only at h9); go_simp <;> first | with_reducible rfl | rw [if_neg (by omega)]
           try simp only [Act.put, lay]
           refine tk 16 hHeld rfl (v := ?_) ?_ ?_
           rotate_left
           · intro w9 h9; (try dsimp only at h9); go_simp <;> first | with_reducible rfl | rw [if_neg (by omega)]
           try simp only [Act.put, lay]
           refine wpAnyH_done (by kernel_rfl) ?_ _
           go_wp2_with fail
           go_ret
           first | exact HF.out _ _ _ _ _ H3.out H4.out (Below.refl _ _) | exact HF.out _ _ _ _ _ H3.out H4.out ((Below.refl _ _).alloc (Nat.le_refl _) _)
         exact AllReadyH.nil
       exact AllReadyH.nil
     exact AllReadyH.nil
   exact AllReadyH.nil
 refine AllReadyH.cons rfl (fun K hK => ?_) ?_
 · go_simp
   refine hK.out _ _ ((cell_keep _ _ u 2 (World.block_lt_of_cell? _ ⟨u, 2, none⟩ hHeld)).trans hHeld) (fun h8 => ?_)
   clear hK K
   replace hHeld := h8
   clear h8
   try simp only [Act.put, lay]
   refine wpAnyH_ready (rs := [1]) (by kernel_rfl) (by simp) ?_
   refine AllReadyH.cons rfl (fun K hK => ?_) ?_
   · go_simp
     refine Calls.mono HCb.out ?_
     rintro e w3 ⟨Z1, rfl, H3, z1, rw3, wr3, lu3, nu3, x23, g3, e3⟩
     go_wp2_with fail
     refine hK.out _ _ x23 (fun h8 => ?_)
     clear hK K
     replace hHeld := h8
     clear h8
     try simp only [Act.put, lay]
     refine tk 2 hHeld rfl (v := ?_) ?_ ?_
     rotate_left
     · intro w9 h9; (try dsimp only at h9); go_simp <;> first | with_reducible rfl | rw [if_neg (by omega)]
     try simp only [Act.put, lay]
     refine tk 3 hHeld rfl (v := ?_) ?_ ?_
     rotate_left
     · intro w9 h9; (try dsimp only at h9); go_simp <;> first | with_reducible rfl | rw [if_neg (by omega)]
     try simp only [Act.put, lay]
     refine wpAnyH_ready (rs := [7]) (by kernel_rfl) (by simp) ?_
     refine AllReadyH.cons rfl (fun K hK => ?_) ?_
     · go_simp
       refine Calls.mono (HPB.out _) ?_
       rintro e w2 ⟨rfl, hw2⟩
       rw [hw2]
       clear hw2 w2
       go_wp2_with fail
       refine hK.out _ _ hHeld (fun h8 => ?_)
       clear hK K
       replace hHeld := h8
       clear h8
       try simp only [Act.put, lay]
       refine tk 8 hHeld rfl (v := ?_) ?_ ?_
       rotate_left
       · intro w9 h9; (try dsimp only at h9); go_simp <;> first | with_reducible rfl | rw [if_neg (by omega)]
       try simp only [Act.put, lay]
       refine wpAnyH_ready (rs := [9, 13]) (by kernel_rfl) (by simp) ?_
       refine AllReadyH.cons rfl (fun K hK => ?_) ?_
       · go_simp
         refine hK.out _ _ hHeld (fun h8 => ?_)
         clear hK K
         replace hHeld := h8
         clear h8
         try simp only [Act.put, lay]
         refine tk 10 hHeld rfl (v := ?_) ?_ ?_
         rotate_left
         · intro w9 h9; (try dsimp only at h9); go_simp <;> first | with_reducible rfl | rw [if_neg (by omega)]
         try simp only [Act.put, lay]
         refine tk 11 hHeld rfl (v := ?_) ?_ ?_
         rotate_left
         · intro w9 h9; (try dsimp only at h9); go_simp <;> first | with_reducible rfl | rw [if_neg (by omega)]
         try simp only [Act.put, lay]
         refine wpAnyH_ready (rs := [13]) (by kernel_rfl) (by simp) ?_
         refine AllReadyH.cons rfl (fun K hK => ?_) ?_
         · go_simp
           refine Calls.mono (HCn.out Z1 w3 H3.out) ?_
           rintro e w4 ⟨Z2, rfl, H4, B4⟩
           have z2 : Z2.size ≤ 100000000 := H4.out.small
           have x24 : w4.cell? ⟨u, 2, none⟩ = some (.int .i64 xb) := (B4.out.cell (b := u) lu3 ur ur 2).trans x23
           have e4 : w4.cell? ⟨W2.heap.size, J, none⟩ = some (.string OB) := (B4.out.cell (b := W2.heap.size) g3 Wr Wr J).trans e3
           go_wp2_with fail
           refine hK.out _ _ x24 (fun h8 => ?_)
           clear hK K
           replace hHeld := h8
           clear h8
           try simp only [Act.put, lay]
           refine tk 14 hHeld rfl (v := ?_) ?_ ?_
           rotate_left
           · intro w9 h9; (try dsimp only at h9); go_simp <;> first | with_reducible rfl | rw [if_neg (by omega)]
           try simp only [Act.put, lay]
           refine tk 15 hHeld rfl (v := ?_) ?_ ?_
           rotate_left
           · intro w9 h9; (try dsimp only at h9); go_simp <;> first | with_reducible rfl | rw [if_neg (by omega)]
           try simp only [Act.put, lay]
           refine tk 16 hHeld rfl (v := ?_) ?_ ?_
           rotate_left
           · intro w9 h9; (try dsimp only at h9); go_simp <;> first | with_reducible rfl | rw [if_neg (by omega)]
           try simp only [Act.put, lay]
           refine wpAnyH_done (by kernel_rfl) ?_ _
           go_wp2_with fail
           go_ret
           first | exact HF.out _ _ _ _ _ H3.out H4.out (Below.refl _ _) | exact HF.out _ _ _ _ _ H3.out H4.out ((Below.refl _ _).alloc (Nat.le_refl _) _)
         exact AllReadyH.nil
       refine AllReadyH.cons rfl (fun K hK => ?_) ?_
       · go_simp
         refine Calls.mono (HCn.out Z1 w3 H3.out) ?_
         rintro e w4 ⟨Z2, rfl, H4, B4⟩
         have z2 : Z2.size ≤ 100000000 := H4.out.small
         have x24 : w4.cell? ⟨u, 2, none⟩ = some (.int .i64 xb) := (B4.out.cell (b := u) lu3 ur ur 2).trans x23
         have e4 : w4.cell? ⟨W2.heap.size, J, none⟩ = some (.string OB) := (B4.out.cell (b := W2.heap.size) g3 Wr Wr J).trans e3
         go_wp2_with fail
         refine hK.out _ _ x24 (fun h8 => ?_)
         clear hK K
         replace hHeld := h8
         clear h8
         try simp only [Act.put, lay]
         refine wpAnyH_ready (rs := [9]) (by kernel_rfl) (by simp) ?_
         refine AllReadyH.cons rfl (fun K hK => ?_) ?_
         · go_simp
           refine hK.out _ _ hHeld (fun h8 => ?_)
           clear hK K
           replace hHeld := h8
           clear h8
           try simp only [Act.put, lay]
           refine tk 10 hHeld rfl (v := ?_) ?_ ?_
           rotate_left
           · intro w9 h9; (try dsimp only at h9); go_simp <;> first | with_reducible rfl | rw [if_neg (by omega)]
           try simp only [Act.put, lay]
           refine tk 11 hHeld rfl (v := ?_) ?_ ?_
           rotate_left
           · intro w9 h9; (try dsimp only at h9); go_simp <;> first | with_reducible rfl | rw [if_neg (by omega)]
           try simp only [Act.put, lay]
           refine tk 14 hHeld rfl (v := ?_) ?_ ?_
           rotate_left
           · intro w9 h9; (try dsimp only at h9); go_simp <;> first | with_reducible rfl | rw [if_neg (by omega)]
           try simp only [Act.put, lay]
           refine tk 15 hHeld rfl (v := ?_) ?_ ?_
           rotate_left
           · intro w9 h9; (try dsimp only at h9); go_simp <;> first | with_reducible rfl | rw [if_neg (by omega)]
           try simp only [Act.put, lay]
           refine tk 16 hHeld rfl (v := ?_) ?_ ?_
           rotate_left
           · intro w9 h9; (try dsimp only at h9); go_simp <;> first | with_reducible rfl | rw [if_neg (by omega)]
           try simp only [Act.put, lay]
           refine wpAnyH_done (by kernel_rfl) ?_ _
           go_wp2_with fail
           go_ret
           first | exact HF.out _ _ _ _ _ H3.out H4.out (Below.refl _ _) | exact HF.out _ _ _ _ _ H3.out H4.out ((Below.refl _ _).alloc (Nat.le_refl _) _)
         exact AllReadyH.nil
       exact AllReadyH.nil
     exact AllReadyH.nil
   exact AllReadyH.nil
 exact AllReadyH.nil
end Go.Proofs.YtfbpkbochhfnhaaGreatDoor
