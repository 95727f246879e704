/-
  The maker's statements, kind by kind. / The maker's statements, kind by kind. / The maker's statements, kind by kind. / The maker's statements, kind by kind.
-/
import Derived.Test.YtfbpkbochhfnhaaGreatDoorSrcX0
import Derived.Deep.RegionHeld3
namespace Go.Proofs.YtfbpkbochhfnhaaGreatDoor
open Go.ChangeShapes Go.WideShapes Go.ChangeAt Go.RowKit Go.Joins
set_option linter.unusedVariables false
set_option maxRecDepth 100000
set_option maxHeartbeats 4000000 in
theorem st_set {d c : Nat} (hX1 : MkE 1 16) (hX2 : MkE 2 64) (hc : 200 ≤ c) (r : Nat) (l : List Rw) (i : Nat) (b : Bool) (w : World) (hM : Mk r w l i) (hi : i + c ≤ 1000000) (hd : d ≤ 10)
 (hk : pickR (nextR l i).kind 22 < 4) :
 Calls Tryz.prog 32 #[.pointer (some ⟨r, 0, none⟩), .int .i64 (d : Int), .bool b] w (MkOut (GS d b) c r l i w) := by
 obtain ⟨D, hD⟩ : ∃ D : Int, D = (d : Int) := ⟨_, rfl⟩
 obtain ⟨x, hx⟩ : ∃ x, x = nextR l i := ⟨_, rfl⟩
 obtain ⟨W, hW⟩ : ∃ W, W = ((w.alloc (.cells #[.pointer (some ⟨r, 0, none⟩)] 40)).alloc (.cells #[.bool b] 4)) := ⟨_, rfl⟩
 have HMW : Hid (Mk r W l i) := by rw [hW]; exact (hM.alloc _).alloc _
 have HBW : Hid (But r r w W) := by rw [hW]; exact ((But.refl _ _ _).alloc _).alloc _
 have HBO : Hid (Bc r w.heap.size (w.heap.size + 1) b W) := by rw [hW]; exact Bc.new hM.lt _ _
 have HDR : Hid _ := draw_c r l i W HMW.out (by omega)
 have HOK : Hid (x.ok) := by rw [hx]; exact hM.ok i
 have HWW : Hid (W = _) := hW
 rw [← hD]
 rw [← hx] at hk HDR
 have HIC : Hid (i + c ≤ 1000000 ∧ 200 ≤ c) := ⟨hi, hc⟩
 have HDD : Hid (D = _) := hD
 obtain ⟨xk, xa, xb, xc⟩ := x
 simp only at hk
 obtain ⟨K, hK⟩ : ∃ K : Int, K = ((pickR xk 22 : Nat) : Int) := ⟨_, rfl⟩
 have HPK : Hid (∀ W : World, Calls Tryz.prog 8 #[.int .i64 xk, .int .i64 22] W fun e w' => e = .returned (.int .i64 K) ∧ w' = W) := fun W => by
  have h := picked_x xk 22 W HOK.out.1 (by decide) (by decide)
  rw [hK]
  exact h
 have kf0 : K < 4 := by first | omega | (simp only [beq_eq_false_iff_ne, ne_eq]; omega)
 clear hK
 obtain ⟨JV, hJV⟩ : ∃ J : Nat, J = pickR xa 3 := ⟨_, rfl⟩
 have hJV2 : JV < 3 := by rw [hJV]; exact pickR_lt _ (by decide)
 have HPV : Hid (∀ W : World, Calls Tryz.prog 8 #[.int .i64 xa, .int .i64 3] W fun e w' => e = .returned (.int .i64 (JV : Int)) ∧ w' = W) := fun W => by
  have h := picked_x xa 3 W HOK.out.2.1 (by decide) (by decide)
  rw [hJV]
  exact h
 obtain ⟨VB, hVB⟩ : ∃ VB : ByteArray, (∃ v, VB = bs v ∧ v ∈ varsL) ∧ ∀ h : JV < ([.string ⟨#[120]⟩, .string ⟨#[121]⟩, .string ⟨#[122]⟩] : List Value).length, ([.string ⟨#[120]⟩, .string ⟨#[121]⟩, .string ⟨#[122]⟩] : List Value)[JV]'h = .string VB := by
  have h : JV = 0 ∨ JV = 1 ∨ JV = 2 := by omega
  clear HPV hJV hJV2
  rcases h with rfl | rfl | rfl
  · exact ⟨_, ⟨[120], rfl, by decide⟩, fun _ => rfl⟩
  · exact ⟨_, ⟨[121], rfl, by decide⟩, fun _ => rfl⟩
  · exact ⟨_, ⟨[122], rfl, by decide⟩, fun _ => rfl⟩
 have ev := hVB.2
 have HVB : Hid (∃ v, VB = bs v ∧ v ∈ varsL) := hVB.1
 have zv : VB.size ≤ 4 := by obtain ⟨v, rfl, hv⟩ := hVB.1; rw [bs_size]; exact vars_len hv
 have jv0 : (0 : Int) ≤ (JV : Int) := by omega
 have jv1 : (JV : Int) < 3 := by omega
 clear hk hx hi hc hW hM hD hJV hVB
 go_enter Tryz.func32, Tryz.ntmps32
 go_wp2_with fail
 rw [← HWW.out]
 refine Calls.mono HDR.out ?_
 rintro e w1 ⟨rfl, hM1, hb1⟩
 obtain ⟨p, hp⟩ : ∃ p, p = w.heap.size := ⟨_, rfl⟩
 obtain ⟨q, hq⟩ : ∃ p, p = w.heap.size + 1 := ⟨_, rfl⟩
 have HBO1 := HBO.out.but hb1
 rw [← hq, ← hp] at HBO1 ⊢
 obtain ⟨u, hu⟩ : ∃ p, p = w1.heap.size := ⟨_, rfl⟩
 obtain ⟨W2, hW2⟩ : ∃ W2, W2 = (w1.alloc (.cells #[.int .i64 xk, .int .i64 xa, .int .i64 xb, .int .i64 xc] 44)).alloc (.cells #[.string ⟨#[120]⟩, .string ⟨#[121]⟩, .string ⟨#[122]⟩] 9) := ⟨_, rfl⟩
 have HM2 : Hid (Mk r W2 l (i + 1)) := by rw [hW2]; exact (hM1.alloc _).alloc _
 have HB2 : Hid (But r r w W2) := by rw [hW2]; exact ((HBW.out.trans hb1).alloc _).alloc _
 have HBS2 : Hid (Bs r p q w1.heap.size b ⟨xk, xa, xb, xc⟩ W2) := by rw [hW2]; exact Bs.new ⟨xk, xa, xb, xc⟩ HBO1 hM1.lt _ _ _
 rw [← hu] at HBS2
 have HUV : Hid (u = _) := hu
 have HWW2 : Hid (W2 = _) := hW2
 clear hM1 hb1 HDR HBO HBW HMW HWW hp hq hu hW2 HBO1
 unfold rwV
 go_wp2_with fail
 refine Calls.mono (HPV.out _) ?_
 rintro e w2 ⟨rfl, hw2⟩
 rw [hw2]
 clear hw2 w2 HPV
 go_wp2_with fail
 rw [← HWW2.out, ← HUV.out]
 clear HWW2 HUV
 obtain ⟨b0, b1, x0, x1, x2, x3, rp, rq, ru⟩ := HBS2.out
 simp only at x0 x1 x2 x3
 refine Calls.mono (HPK.out W2) ?_
 rintro e w2 ⟨rfl, hw2⟩
 rw [hw2]
 clear hw2 w2 HPK
 have HC1 : Hid (Calls Tryz.prog 52 #[.int .i64 2, .pointer (some ⟨p, 0, none⟩), .pointer (some ⟨q, 0, none⟩)] W2 (MkOut (GE 2 b) 64 r l (i + 1) W2)) := ex_c hX2 (by decide) r p q l (i + 1) b W2 HM2.out (by obtain ⟨h1, h2⟩ := HIC.out; omega) ⟨HBS2.out.c0, HBS2.out.c1, HBS2.out.rp, HBS2.out.rq⟩
 go_wp2_with fail
 refine Calls.mono HC1.out ?_
 rintro e w3 ⟨s1, i3, rfl, hG1, hM3, hi3, hb3⟩
 obtain ⟨Z1, hZ1⟩ : ∃ Z, Z = bs s1 := ⟨_, rfl⟩
 rw [← hZ1]
 have z1 : Z1.size ≤ 100000000 := by rw [hZ1, bs_size]; exact hG1.short10 (by decide)
 have HG1 : Hid (Z1 = bs s1 ∧ GE 2 b s1) := ⟨hZ1, hG1⟩
 have HM3 : Hid (Mk r w3 l i3) := hM3
 have HI1 : Hid (i3 ≤ i + 65) := by unfold Hid; omega
 have HB3 : Hid (But r r w w3) := HB2.out.trans hb3
 have HBS3 : Hid (Bs r p q u b ⟨xk, xa, xb, xc⟩ w3) := HBS2.out.but hb3
 clear hG1 hM3 hi3 hb3 hZ1 HC1
 have HE : Hid (MkOut (GS d b) c r l i w (.returned (.string (VB ++ ⟨#[32, 61, 32]⟩ ++ Z1 ++ ⟨#[59]⟩))) w3) := by
  obtain ⟨vn, hvn, hvm⟩ := HVB.out
  exact ⟨vn ++ [32, 61, 32] ++ s1 ++ [59], i3, by rw [hvn, HG1.out.1]; simp only [← bs_app]; rfl, GS.set hvm HG1.out.2, HM3.out, by obtain ⟨h1, h2⟩ := HIC.out; have h3 := HI1.out; omega, HB3.out⟩
 go_wp2_with fail
 go_ret
 exact HE.out
set_option maxHeartbeats 4000000 in
theorem st_put {d c : Nat} (hX1 : MkE 1 16) (hX2 : MkE 2 64) (hc : 200 ≤ c) (r : Nat) (l : List Rw) (i : Nat) (b : Bool) (w : World) (hM : Mk r w l i) (hi : i + c ≤ 1000000) (hd : d ≤ 10)
 (hk : 4 ≤ pickR (nextR l i).kind 22 ∧ pickR (nextR l i).kind 22 < 6) :
 Calls Tryz.prog 32 #[.pointer (some ⟨r, 0, none⟩), .int .i64 (d : Int), .bool b] w (MkOut (GS d b) c r l i w) := by
 obtain ⟨D, hD⟩ : ∃ D : Int, D = (d : Int) := ⟨_, rfl⟩
 obtain ⟨x, hx⟩ : ∃ x, x = nextR l i := ⟨_, rfl⟩
 obtain ⟨W, hW⟩ : ∃ W, W = ((w.alloc (.cells #[.pointer (some ⟨r, 0, none⟩)] 40)).alloc (.cells #[.bool b] 4)) := ⟨_, rfl⟩
 have HMW : Hid (Mk r W l i) := by rw [hW]; exact (hM.alloc _).alloc _
 have HBW : Hid (But r r w W) := by rw [hW]; exact ((But.refl _ _ _).alloc _).alloc _
 have HBO : Hid (Bc r w.heap.size (w.heap.size + 1) b W) := by rw [hW]; exact Bc.new hM.lt _ _
 have HDR : Hid _ := draw_c r l i W HMW.out (by omega)
 have HOK : Hid (x.ok) := by rw [hx]; exact hM.ok i
 have HWW : Hid (W = _) := hW
 rw [← hD]
 rw [← hx] at hk HDR
 have HIC : Hid (i + c ≤ 1000000 ∧ 200 ≤ c) := ⟨hi, hc⟩
 have HDD : Hid (D = _) := hD
 obtain ⟨xk, xa, xb, xc⟩ := x
 simp only at hk
 obtain ⟨K, hK⟩ : ∃ K : Int, K = ((pickR xk 22 : Nat) : Int) := ⟨_, rfl⟩
 have HPK : Hid (∀ W : World, Calls Tryz.prog 8 #[.int .i64 xk, .int .i64 22] W fun e w' => e = .returned (.int .i64 K) ∧ w' = W) := fun W => by
  have h := picked_x xk 22 W HOK.out.1 (by decide) (by decide)
  rw [hK]
  exact h
 have kf0 : ¬ K < 4 := by first | omega | (simp only [beq_eq_false_iff_ne, ne_eq]; omega)
 have kf1 : K < 6 := by first | omega | (simp only [beq_eq_false_iff_ne, ne_eq]; omega)
 clear hK
 obtain ⟨JV, hJV⟩ : ∃ J : Nat, J = pickR xa 3 := ⟨_, rfl⟩
 have hJV2 : JV < 3 := by rw [hJV]; exact pickR_lt _ (by decide)
 have HPV : Hid (∀ W : World, Calls Tryz.prog 8 #[.int .i64 xa, .int .i64 3] W fun e w' => e = .returned (.int .i64 (JV : Int)) ∧ w' = W) := fun W => by
  have h := picked_x xa 3 W HOK.out.2.1 (by decide) (by decide)
  rw [hJV]
  exact h
 obtain ⟨VB, hVB⟩ : ∃ VB : ByteArray, (∃ v, VB = bs v ∧ v ∈ varsL) ∧ ∀ h : JV < ([.string ⟨#[120]⟩, .string ⟨#[121]⟩, .string ⟨#[122]⟩] : List Value).length, ([.string ⟨#[120]⟩, .string ⟨#[121]⟩, .string ⟨#[122]⟩] : List Value)[JV]'h = .string VB := by
  have h : JV = 0 ∨ JV = 1 ∨ JV = 2 := by omega
  clear HPV hJV hJV2
  rcases h with rfl | rfl | rfl
  · exact ⟨_, ⟨[120], rfl, by decide⟩, fun _ => rfl⟩
  · exact ⟨_, ⟨[121], rfl, by decide⟩, fun _ => rfl⟩
  · exact ⟨_, ⟨[122], rfl, by decide⟩, fun _ => rfl⟩
 have ev := hVB.2
 have HVB : Hid (∃ v, VB = bs v ∧ v ∈ varsL) := hVB.1
 have zv : VB.size ≤ 4 := by obtain ⟨v, rfl, hv⟩ := hVB.1; rw [bs_size]; exact vars_len hv
 have jv0 : (0 : Int) ≤ (JV : Int) := by omega
 have jv1 : (JV : Int) < 3 := by omega
 clear hk hx hi hc hW hM hD hJV hVB
 go_enter Tryz.func32, Tryz.ntmps32
 go_wp2_with fail
 rw [← HWW.out]
 refine Calls.mono HDR.out ?_
 rintro e w1 ⟨rfl, hM1, hb1⟩
 obtain ⟨p, hp⟩ : ∃ p, p = w.heap.size := ⟨_, rfl⟩
 obtain ⟨q, hq⟩ : ∃ p, p = w.heap.size + 1 := ⟨_, rfl⟩
 have HBO1 := HBO.out.but hb1
 rw [← hq, ← hp] at HBO1 ⊢
 obtain ⟨u, hu⟩ : ∃ p, p = w1.heap.size := ⟨_, rfl⟩
 obtain ⟨W2, hW2⟩ : ∃ W2, W2 = (w1.alloc (.cells #[.int .i64 xk, .int .i64 xa, .int .i64 xb, .int .i64 xc] 44)).alloc (.cells #[.string ⟨#[120]⟩, .string ⟨#[121]⟩, .string ⟨#[122]⟩] 9) := ⟨_, rfl⟩
 have HM2 : Hid (Mk r W2 l (i + 1)) := by rw [hW2]; exact (hM1.alloc _).alloc _
 have HB2 : Hid (But r r w W2) := by rw [hW2]; exact ((HBW.out.trans hb1).alloc _).alloc _
 have HBS2 : Hid (Bs r p q w1.heap.size b ⟨xk, xa, xb, xc⟩ W2) := by rw [hW2]; exact Bs.new ⟨xk, xa, xb, xc⟩ HBO1 hM1.lt _ _ _
 rw [← hu] at HBS2
 have HUV : Hid (u = _) := hu
 have HWW2 : Hid (W2 = _) := hW2
 clear hM1 hb1 HDR HBO HBW HMW HWW hp hq hu hW2 HBO1
 unfold rwV
 go_wp2_with fail
 refine Calls.mono (HPV.out _) ?_
 rintro e w2 ⟨rfl, hw2⟩
 rw [hw2]
 clear hw2 w2 HPV
 go_wp2_with fail
 rw [← HWW2.out, ← HUV.out]
 clear HWW2 HUV
 obtain ⟨b0, b1, x0, x1, x2, x3, rp, rq, ru⟩ := HBS2.out
 simp only at x0 x1 x2 x3
 refine Calls.mono (HPK.out W2) ?_
 rintro e w2 ⟨rfl, hw2⟩
 rw [hw2]
 clear hw2 w2 HPK
 have HC1 : Hid (Calls Tryz.prog 52 #[.int .i64 1, .pointer (some ⟨p, 0, none⟩), .pointer (some ⟨q, 0, none⟩)] W2 (MkOut (GE 1 b) 16 r l (i + 1) W2)) := ex_c hX1 (by decide) r p q l (i + 1) b W2 HM2.out (by obtain ⟨h1, h2⟩ := HIC.out; omega) ⟨HBS2.out.c0, HBS2.out.c1, HBS2.out.rp, HBS2.out.rq⟩
 go_wp2_with fail
 refine Calls.mono HC1.out ?_
 rintro e w3 ⟨s1, i3, rfl, hG1, hM3, hi3, hb3⟩
 obtain ⟨Z1, hZ1⟩ : ∃ Z, Z = bs s1 := ⟨_, rfl⟩
 rw [← hZ1]
 have z1 : Z1.size ≤ 100000000 := by rw [hZ1, bs_size]; exact hG1.short10 (by decide)
 have HG1 : Hid (Z1 = bs s1 ∧ GE 1 b s1) := ⟨hZ1, hG1⟩
 have HM3 : Hid (Mk r w3 l i3) := hM3
 have HI1 : Hid (i3 ≤ i + 17) := by unfold Hid; omega
 have HB3 : Hid (But r r w w3) := HB2.out.trans hb3
 have HBS3 : Hid (Bs r p q u b ⟨xk, xa, xb, xc⟩ w3) := HBS2.out.but hb3
 clear hG1 hM3 hi3 hb3 hZ1 HC1
 have HC2 : Hid (Calls Tryz.prog 52 #[.int .i64 2, .pointer (some ⟨p, 0, none⟩), .pointer (some ⟨q, 0, none⟩)] w3 (MkOut (GE 2 b) 64 r l i3 w3)) := ex_c hX2 (by decide) r p q l i3 b w3 HM3.out (by obtain ⟨h1, h2⟩ := HIC.out; have h3 := HI1.out; omega) ⟨HBS3.out.c0, HBS3.out.c1, HBS3.out.rp, HBS3.out.rq⟩
 go_wp2_with fail
 refine Calls.mono HC2.out ?_
 rintro e w4 ⟨s2, i4, rfl, hG2, hM4, hi4, hb4⟩
 obtain ⟨Z2, hZ2⟩ : ∃ Z, Z = bs s2 := ⟨_, rfl⟩
 rw [← hZ2]
 have z2 : Z2.size ≤ 100000000 := by rw [hZ2, bs_size]; exact hG2.short10 (by decide)
 have HG2 : Hid (Z2 = bs s2 ∧ GE 2 b s2) := ⟨hZ2, hG2⟩
 have HM4 : Hid (Mk r w4 l i4) := hM4
 have HI2 : Hid (i4 ≤ i + 81) := by unfold Hid; have h3 := HI1.out; omega
 have HB4 : Hid (But r r w w4) := HB3.out.trans hb4
 have HBS4 : Hid (Bs r p q u b ⟨xk, xa, xb, xc⟩ w4) := HBS3.out.but hb4
 clear hG2 hM4 hi4 hb4 hZ2 HC2
 have HE : Hid (MkOut (GS d b) c r l i w (.returned (.string (⟨#[98, 91]⟩ ++ Z1 ++ ⟨#[93, 32, 61, 32]⟩ ++ Z2 ++ ⟨#[59]⟩))) w4) := by
  exact ⟨[98, 91] ++ s1 ++ [93, 32, 61, 32] ++ s2 ++ [59], i4, by rw [HG1.out.1, HG2.out.1]; simp only [← bs_app]; rfl, GS.put HG1.out.2 HG2.out.2, HM4.out, by obtain ⟨h1, h2⟩ := HIC.out; have h3 := HI2.out; omega, HB4.out⟩
 go_wp2_with fail
 go_ret
 exact HE.out
set_option maxHeartbeats 4000000 in
theorem st_print {d c : Nat} (hX1 : MkE 1 16) (hX2 : MkE 2 64) (hc : 200 ≤ c) (r : Nat) (l : List Rw) (i : Nat) (b : Bool) (w : World) (hM : Mk r w l i) (hi : i + c ≤ 1000000) (hd : d ≤ 10)
 (hk : 6 ≤ pickR (nextR l i).kind 22 ∧ pickR (nextR l i).kind 22 < 10) :
 Calls Tryz.prog 32 #[.pointer (some ⟨r, 0, none⟩), .int .i64 (d : Int), .bool b] w (MkOut (GS d b) c r l i w) := by
 obtain ⟨D, hD⟩ : ∃ D : Int, D = (d : Int) := ⟨_, rfl⟩
 obtain ⟨x, hx⟩ : ∃ x, x = nextR l i := ⟨_, rfl⟩
 obtain ⟨W, hW⟩ : ∃ W, W = ((w.alloc (.cells #[.pointer (some ⟨r, 0, none⟩)] 40)).alloc (.cells #[.bool b] 4)) := ⟨_, rfl⟩
 have HMW : Hid (Mk r W l i) := by rw [hW]; exact (hM.alloc _).alloc _
 have HBW : Hid (But r r w W) := by rw [hW]; exact ((But.refl _ _ _).alloc _).alloc _
 have HBO : Hid (Bc r w.heap.size (w.heap.size + 1) b W) := by rw [hW]; exact Bc.new hM.lt _ _
 have HDR : Hid _ := draw_c r l i W HMW.out (by omega)
 have HOK : Hid (x.ok) := by rw [hx]; exact hM.ok i
 have HWW : Hid (W = _) := hW
 rw [← hD]
 rw [← hx] at hk HDR
 have HIC : Hid (i + c ≤ 1000000 ∧ 200 ≤ c) := ⟨hi, hc⟩
 have HDD : Hid (D = _) := hD
 obtain ⟨xk, xa, xb, xc⟩ := x
 simp only at hk
 obtain ⟨K, hK⟩ : ∃ K : Int, K = ((pickR xk 22 : Nat) : Int) := ⟨_, rfl⟩
 have HPK : Hid (∀ W : World, Calls Tryz.prog 8 #[.int .i64 xk, .int .i64 22] W fun e w' => e = .returned (.int .i64 K) ∧ w' = W) := fun W => by
  have h := picked_x xk 22 W HOK.out.1 (by decide) (by decide)
  rw [hK]
  exact h
 have kf0 : ¬ K < 4 := by first | omega | (simp only [beq_eq_false_iff_ne, ne_eq]; omega)
 have kf1 : ¬ K < 6 := by first | omega | (simp only [beq_eq_false_iff_ne, ne_eq]; omega)
 have kf2 : K < 10 := by first | omega | (simp only [beq_eq_false_iff_ne, ne_eq]; omega)
 clear hK
 obtain ⟨JV, hJV⟩ : ∃ J : Nat, J = pickR xa 3 := ⟨_, rfl⟩
 have hJV2 : JV < 3 := by rw [hJV]; exact pickR_lt _ (by decide)
 have HPV : Hid (∀ W : World, Calls Tryz.prog 8 #[.int .i64 xa, .int .i64 3] W fun e w' => e = .returned (.int .i64 (JV : Int)) ∧ w' = W) := fun W => by
  have h := picked_x xa 3 W HOK.out.2.1 (by decide) (by decide)
  rw [hJV]
  exact h
 obtain ⟨VB, hVB⟩ : ∃ VB : ByteArray, (∃ v, VB = bs v ∧ v ∈ varsL) ∧ ∀ h : JV < ([.string ⟨#[120]⟩, .string ⟨#[121]⟩, .string ⟨#[122]⟩] : List Value).length, ([.string ⟨#[120]⟩, .string ⟨#[121]⟩, .string ⟨#[122]⟩] : List Value)[JV]'h = .string VB := by
  have h : JV = 0 ∨ JV = 1 ∨ JV = 2 := by omega
  clear HPV hJV hJV2
  rcases h with rfl | rfl | rfl
  · exact ⟨_, ⟨[120], rfl, by decide⟩, fun _ => rfl⟩
  · exact ⟨_, ⟨[121], rfl, by decide⟩, fun _ => rfl⟩
  · exact ⟨_, ⟨[122], rfl, by decide⟩, fun _ => rfl⟩
 have ev := hVB.2
 have HVB : Hid (∃ v, VB = bs v ∧ v ∈ varsL) := hVB.1
 have zv : VB.size ≤ 4 := by obtain ⟨v, rfl, hv⟩ := hVB.1; rw [bs_size]; exact vars_len hv
 have jv0 : (0 : Int) ≤ (JV : Int) := by omega
 have jv1 : (JV : Int) < 3 := by omega
 clear hk hx hi hc hW hM hD hJV hVB
 go_enter Tryz.func32, Tryz.ntmps32
 go_wp2_with fail
 rw [← HWW.out]
 refine Calls.mono HDR.out ?_
 rintro e w1 ⟨rfl, hM1, hb1⟩
 obtain ⟨p, hp⟩ : ∃ p, p = w.heap.size := ⟨_, rfl⟩
 obtain ⟨q, hq⟩ : ∃ p, p = w.heap.size + 1 := ⟨_, rfl⟩
 have HBO1 := HBO.out.but hb1
 rw [← hq, ← hp] at HBO1 ⊢
 obtain ⟨u, hu⟩ : ∃ p, p = w1.heap.size := ⟨_, rfl⟩
 obtain ⟨W2, hW2⟩ : ∃ W2, W2 = (w1.alloc (.cells #[.int .i64 xk, .int .i64 xa, .int .i64 xb, .int .i64 xc] 44)).alloc (.cells #[.string ⟨#[120]⟩, .string ⟨#[121]⟩, .string ⟨#[122]⟩] 9) := ⟨_, rfl⟩
 have HM2 : Hid (Mk r W2 l (i + 1)) := by rw [hW2]; exact (hM1.alloc _).alloc _
 have HB2 : Hid (But r r w W2) := by rw [hW2]; exact ((HBW.out.trans hb1).alloc _).alloc _
 have HBS2 : Hid (Bs r p q w1.heap.size b ⟨xk, xa, xb, xc⟩ W2) := by rw [hW2]; exact Bs.new ⟨xk, xa, xb, xc⟩ HBO1 hM1.lt _ _ _
 rw [← hu] at HBS2
 have HUV : Hid (u = _) := hu
 have HWW2 : Hid (W2 = _) := hW2
 clear hM1 hb1 HDR HBO HBW HMW HWW hp hq hu hW2 HBO1
 unfold rwV
 go_wp2_with fail
 refine Calls.mono (HPV.out _) ?_
 rintro e w2 ⟨rfl, hw2⟩
 rw [hw2]
 clear hw2 w2 HPV
 go_wp2_with fail
 rw [← HWW2.out, ← HUV.out]
 clear HWW2 HUV
 obtain ⟨b0, b1, x0, x1, x2, x3, rp, rq, ru⟩ := HBS2.out
 simp only at x0 x1 x2 x3
 refine Calls.mono (HPK.out W2) ?_
 rintro e w2 ⟨rfl, hw2⟩
 rw [hw2]
 clear hw2 w2 HPK
 have HC1 : Hid (Calls Tryz.prog 52 #[.int .i64 2, .pointer (some ⟨p, 0, none⟩), .pointer (some ⟨q, 0, none⟩)] W2 (MkOut (GE 2 b) 64 r l (i + 1) W2)) := ex_c hX2 (by decide) r p q l (i + 1) b W2 HM2.out (by obtain ⟨h1, h2⟩ := HIC.out; omega) ⟨HBS2.out.c0, HBS2.out.c1, HBS2.out.rp, HBS2.out.rq⟩
 go_wp2_with fail
 refine Calls.mono HC1.out ?_
 rintro e w3 ⟨s1, i3, rfl, hG1, hM3, hi3, hb3⟩
 obtain ⟨Z1, hZ1⟩ : ∃ Z, Z = bs s1 := ⟨_, rfl⟩
 rw [← hZ1]
 have z1 : Z1.size ≤ 100000000 := by rw [hZ1, bs_size]; exact hG1.short10 (by decide)
 have HG1 : Hid (Z1 = bs s1 ∧ GE 2 b s1) := ⟨hZ1, hG1⟩
 have HM3 : Hid (Mk r w3 l i3) := hM3
 have HI1 : Hid (i3 ≤ i + 65) := by unfold Hid; omega
 have HB3 : Hid (But r r w w3) := HB2.out.trans hb3
 have HBS3 : Hid (Bs r p q u b ⟨xk, xa, xb, xc⟩ w3) := HBS2.out.but hb3
 clear hG1 hM3 hi3 hb3 hZ1 HC1
 have HC2 : Hid (Calls Tryz.prog 52 #[.int .i64 1, .pointer (some ⟨p, 0, none⟩), .pointer (some ⟨q, 0, none⟩)] w3 (MkOut (GE 1 b) 16 r l i3 w3)) := ex_c hX1 (by decide) r p q l i3 b w3 HM3.out (by obtain ⟨h1, h2⟩ := HIC.out; have h3 := HI1.out; omega) ⟨HBS3.out.c0, HBS3.out.c1, HBS3.out.rp, HBS3.out.rq⟩
 go_wp2_with fail
 refine Calls.mono HC2.out ?_
 rintro e w4 ⟨s2, i4, rfl, hG2, hM4, hi4, hb4⟩
 obtain ⟨Z2, hZ2⟩ : ∃ Z, Z = bs s2 := ⟨_, rfl⟩
 rw [← hZ2]
 have z2 : Z2.size ≤ 100000000 := by rw [hZ2, bs_size]; exact hG2.short10 (by decide)
 have HG2 : Hid (Z2 = bs s2 ∧ GE 1 b s2) := ⟨hZ2, hG2⟩
 have HM4 : Hid (Mk r w4 l i4) := hM4
 have HI2 : Hid (i4 ≤ i + 81) := by unfold Hid; have h3 := HI1.out; omega
 have HB4 : Hid (But r r w w4) := HB3.out.trans hb4
 have HBS4 : Hid (Bs r p q u b ⟨xk, xa, xb, xc⟩ w4) := HBS3.out.but hb4
 clear hG2 hM4 hi4 hb4 hZ2 HC2
 have HE : Hid (MkOut (GS d b) c r l i w (.returned (.string (⟨#[112, 114, 105, 110, 116, 32]⟩ ++ Z1 ++ ⟨#[44, 32]⟩ ++ Z2 ++ ⟨#[59]⟩))) w4) := by
  exact ⟨[112, 114, 105, 110, 116, 32] ++ s1 ++ [44, 32] ++ s2 ++ [59], i4, by rw [HG1.out.1, HG2.out.1]; simp only [← bs_app]; rfl, GS.print HG1.out.2 HG2.out.2, HM4.out, by obtain ⟨h1, h2⟩ := HIC.out; have h3 := HI2.out; omega, HB4.out⟩
 go_wp2_with fail
 go_ret
 exact HE.out
set_option maxHeartbeats 4000000 in
theorem st_load {d c : Nat} (hX1 : MkE 1 16) (hX2 : MkE 2 64) (hc : 200 ≤ c) (r : Nat) (l : List Rw) (i : Nat) (w : World) (hM : Mk r w l i) (hi : i + c ≤ 1000000) (hd : d ≤ 10)
 (hk : pickR (nextR l i).kind 22 = 10) :
 Calls Tryz.prog 32 #[.pointer (some ⟨r, 0, none⟩), .int .i64 (d : Int), .bool true] w (MkOut (GS d true) c r l i w) := by
 obtain ⟨D, hD⟩ : ∃ D : Int, D = (d : Int) := ⟨_, rfl⟩
 obtain ⟨x, hx⟩ : ∃ x, x = nextR l i := ⟨_, rfl⟩
 obtain ⟨W, hW⟩ : ∃ W, W = ((w.alloc (.cells #[.pointer (some ⟨r, 0, none⟩)] 40)).alloc (.cells #[.bool true] 4)) := ⟨_, rfl⟩
 have HMW : Hid (Mk r W l i) := by rw [hW]; exact (hM.alloc _).alloc _
 have HBW : Hid (But r r w W) := by rw [hW]; exact ((But.refl _ _ _).alloc _).alloc _
 have HBO : Hid (Bc r w.heap.size (w.heap.size + 1) true W) := by rw [hW]; exact Bc.new hM.lt _ _
 have HDR : Hid _ := draw_c r l i W HMW.out (by omega)
 have HOK : Hid (x.ok) := by rw [hx]; exact hM.ok i
 have HWW : Hid (W = _) := hW
 rw [← hD]
 rw [← hx] at hk HDR
 have HIC : Hid (i + c ≤ 1000000 ∧ 200 ≤ c) := ⟨hi, hc⟩
 have HDD : Hid (D = _) := hD
 obtain ⟨xk, xa, xb, xc⟩ := x
 simp only at hk
 have HPK : Hid (∀ W : World, Calls Tryz.prog 8 #[.int .i64 xk, .int .i64 22] W fun e w' => e = .returned (.int .i64 10) ∧ w' = W) := fun W => by
  have h := picked_x xk 22 W HOK.out.1 (by decide) (by decide)
  rw [hk] at h
  exact h
 obtain ⟨JV, hJV⟩ : ∃ J : Nat, J = pickR xa 3 := ⟨_, rfl⟩
 have hJV2 : JV < 3 := by rw [hJV]; exact pickR_lt _ (by decide)
 have HPV : Hid (∀ W : World, Calls Tryz.prog 8 #[.int .i64 xa, .int .i64 3] W fun e w' => e = .returned (.int .i64 (JV : Int)) ∧ w' = W) := fun W => by
  have h := picked_x xa 3 W HOK.out.2.1 (by decide) (by decide)
  rw [hJV]
  exact h
 obtain ⟨VB, hVB⟩ : ∃ VB : ByteArray, (∃ v, VB = bs v ∧ v ∈ varsL) ∧ ∀ h : JV < ([.string ⟨#[120]⟩, .string ⟨#[121]⟩, .string ⟨#[122]⟩] : List Value).length, ([.string ⟨#[120]⟩, .string ⟨#[121]⟩, .string ⟨#[122]⟩] : List Value)[JV]'h = .string VB := by
  have h : JV = 0 ∨ JV = 1 ∨ JV = 2 := by omega
  clear HPV hJV hJV2
  rcases h with rfl | rfl | rfl
  · exact ⟨_, ⟨[120], rfl, by decide⟩, fun _ => rfl⟩
  · exact ⟨_, ⟨[121], rfl, by decide⟩, fun _ => rfl⟩
  · exact ⟨_, ⟨[122], rfl, by decide⟩, fun _ => rfl⟩
 have ev := hVB.2
 have HVB : Hid (∃ v, VB = bs v ∧ v ∈ varsL) := hVB.1
 have zv : VB.size ≤ 4 := by obtain ⟨v, rfl, hv⟩ := hVB.1; rw [bs_size]; exact vars_len hv
 have jv0 : (0 : Int) ≤ (JV : Int) := by omega
 have jv1 : (JV : Int) < 3 := by omega
 clear hk hx hi hc hW hM hD hJV hVB
 go_enter Tryz.func32, Tryz.ntmps32
 go_wp2_with fail
 rw [← HWW.out]
 refine Calls.mono HDR.out ?_
 rintro e w1 ⟨rfl, hM1, hb1⟩
 obtain ⟨p, hp⟩ : ∃ p, p = w.heap.size := ⟨_, rfl⟩
 obtain ⟨q, hq⟩ : ∃ p, p = w.heap.size + 1 := ⟨_, rfl⟩
 have HBO1 := HBO.out.but hb1
 rw [← hq, ← hp] at HBO1 ⊢
 obtain ⟨u, hu⟩ : ∃ p, p = w1.heap.size := ⟨_, rfl⟩
 obtain ⟨W2, hW2⟩ : ∃ W2, W2 = (w1.alloc (.cells #[.int .i64 xk, .int .i64 xa, .int .i64 xb, .int .i64 xc] 44)).alloc (.cells #[.string ⟨#[120]⟩, .string ⟨#[121]⟩, .string ⟨#[122]⟩] 9) := ⟨_, rfl⟩
 have HM2 : Hid (Mk r W2 l (i + 1)) := by rw [hW2]; exact (hM1.alloc _).alloc _
 have HB2 : Hid (But r r w W2) := by rw [hW2]; exact ((HBW.out.trans hb1).alloc _).alloc _
 have HBS2 : Hid (Bs r p q w1.heap.size true ⟨xk, xa, xb, xc⟩ W2) := by rw [hW2]; exact Bs.new ⟨xk, xa, xb, xc⟩ HBO1 hM1.lt _ _ _
 rw [← hu] at HBS2
 have HUV : Hid (u = _) := hu
 have HWW2 : Hid (W2 = _) := hW2
 clear hM1 hb1 HDR HBO HBW HMW HWW hp hq hu hW2 HBO1
 unfold rwV
 go_wp2_with fail
 refine Calls.mono (HPV.out _) ?_
 rintro e w2 ⟨rfl, hw2⟩
 rw [hw2]
 clear hw2 w2 HPV
 go_wp2_with fail
 rw [← HWW2.out, ← HUV.out]
 clear HWW2 HUV
 obtain ⟨b0, b1, x0, x1, x2, x3, rp, rq, ru⟩ := HBS2.out
 simp only at x0 x1 x2 x3
 refine Calls.mono (HPK.out W2) ?_
 rintro e w2 ⟨rfl, hw2⟩
 rw [hw2]
 clear hw2 w2 HPK
 have HE : Hid (MkOut (GS d true) c r l i w (.returned (.string (⟨#[108, 111, 97, 100, 32, 34, 116, 97, 98, 34, 32, 97, 59]⟩))) W2) := by
  exact ⟨[108, 111, 97, 100, 32, 34, 116, 97, 98, 34, 32, 97, 59], (i + 1), by rfl, GS.load, HM2.out, by obtain ⟨h1, h2⟩ := HIC.out; omega, HB2.out⟩
 go_wp2_with fail
 go_ret
 exact HE.out
set_option maxHeartbeats 4000000 in
theorem st_delete {d c : Nat} (hX1 : MkE 1 16) (hX2 : MkE 2 64) (hc : 200 ≤ c) (r : Nat) (l : List Rw) (i : Nat) (b : Bool) (w : World) (hM : Mk r w l i) (hi : i + c ≤ 1000000) (hd : d ≤ 10)
 (hk : pickR (nextR l i).kind 22 = 11) :
 Calls Tryz.prog 32 #[.pointer (some ⟨r, 0, none⟩), .int .i64 (d : Int), .bool b] w (MkOut (GS d b) c r l i w) := by
 obtain ⟨D, hD⟩ : ∃ D : Int, D = (d : Int) := ⟨_, rfl⟩
 obtain ⟨x, hx⟩ : ∃ x, x = nextR l i := ⟨_, rfl⟩
 obtain ⟨W, hW⟩ : ∃ W, W = ((w.alloc (.cells #[.pointer (some ⟨r, 0, none⟩)] 40)).alloc (.cells #[.bool b] 4)) := ⟨_, rfl⟩
 have HMW : Hid (Mk r W l i) := by rw [hW]; exact (hM.alloc _).alloc _
 have HBW : Hid (But r r w W) := by rw [hW]; exact ((But.refl _ _ _).alloc _).alloc _
 have HBO : Hid (Bc r w.heap.size (w.heap.size + 1) b W) := by rw [hW]; exact Bc.new hM.lt _ _
 have HDR : Hid _ := draw_c r l i W HMW.out (by omega)
 have HOK : Hid (x.ok) := by rw [hx]; exact hM.ok i
 have HWW : Hid (W = _) := hW
 rw [← hD]
 rw [← hx] at hk HDR
 have HIC : Hid (i + c ≤ 1000000 ∧ 200 ≤ c) := ⟨hi, hc⟩
 have HDD : Hid (D = _) := hD
 obtain ⟨xk, xa, xb, xc⟩ := x
 simp only at hk
 have HPK : Hid (∀ W : World, Calls Tryz.prog 8 #[.int .i64 xk, .int .i64 22] W fun e w' => e = .returned (.int .i64 11) ∧ w' = W) := fun W => by
  have h := picked_x xk 22 W HOK.out.1 (by decide) (by decide)
  rw [hk] at h
  exact h
 obtain ⟨JV, hJV⟩ : ∃ J : Nat, J = pickR xa 3 := ⟨_, rfl⟩
 have hJV2 : JV < 3 := by rw [hJV]; exact pickR_lt _ (by decide)
 have HPV : Hid (∀ W : World, Calls Tryz.prog 8 #[.int .i64 xa, .int .i64 3] W fun e w' => e = .returned (.int .i64 (JV : Int)) ∧ w' = W) := fun W => by
  have h := picked_x xa 3 W HOK.out.2.1 (by decide) (by decide)
  rw [hJV]
  exact h
 obtain ⟨VB, hVB⟩ : ∃ VB : ByteArray, (∃ v, VB = bs v ∧ v ∈ varsL) ∧ ∀ h : JV < ([.string ⟨#[120]⟩, .string ⟨#[121]⟩, .string ⟨#[122]⟩] : List Value).length, ([.string ⟨#[120]⟩, .string ⟨#[121]⟩, .string ⟨#[122]⟩] : List Value)[JV]'h = .string VB := by
  have h : JV = 0 ∨ JV = 1 ∨ JV = 2 := by omega
  clear HPV hJV hJV2
  rcases h with rfl | rfl | rfl
  · exact ⟨_, ⟨[120], rfl, by decide⟩, fun _ => rfl⟩
  · exact ⟨_, ⟨[121], rfl, by decide⟩, fun _ => rfl⟩
  · exact ⟨_, ⟨[122], rfl, by decide⟩, fun _ => rfl⟩
 have ev := hVB.2
 have HVB : Hid (∃ v, VB = bs v ∧ v ∈ varsL) := hVB.1
 have zv : VB.size ≤ 4 := by obtain ⟨v, rfl, hv⟩ := hVB.1; rw [bs_size]; exact vars_len hv
 have jv0 : (0 : Int) ≤ (JV : Int) := by omega
 have jv1 : (JV : Int) < 3 := by omega
 clear hk hx hi hc hW hM hD hJV hVB
 go_enter Tryz.func32, Tryz.ntmps32
 go_wp2_with fail
 rw [← HWW.out]
 refine Calls.mono HDR.out ?_
 rintro e w1 ⟨rfl, hM1, hb1⟩
 obtain ⟨p, hp⟩ : ∃ p, p = w.heap.size := ⟨_, rfl⟩
 obtain ⟨q, hq⟩ : ∃ p, p = w.heap.size + 1 := ⟨_, rfl⟩
 have HBO1 := HBO.out.but hb1
 rw [← hq, ← hp] at HBO1 ⊢
 obtain ⟨u, hu⟩ : ∃ p, p = w1.heap.size := ⟨_, rfl⟩
 obtain ⟨W2, hW2⟩ : ∃ W2, W2 = (w1.alloc (.cells #[.int .i64 xk, .int .i64 xa, .int .i64 xb, .int .i64 xc] 44)).alloc (.cells #[.string ⟨#[120]⟩, .string ⟨#[121]⟩, .string ⟨#[122]⟩] 9) := ⟨_, rfl⟩
 have HM2 : Hid (Mk r W2 l (i + 1)) := by rw [hW2]; exact (hM1.alloc _).alloc _
 have HB2 : Hid (But r r w W2) := by rw [hW2]; exact ((HBW.out.trans hb1).alloc _).alloc _
 have HBS2 : Hid (Bs r p q w1.heap.size b ⟨xk, xa, xb, xc⟩ W2) := by rw [hW2]; exact Bs.new ⟨xk, xa, xb, xc⟩ HBO1 hM1.lt _ _ _
 rw [← hu] at HBS2
 have HUV : Hid (u = _) := hu
 have HWW2 : Hid (W2 = _) := hW2
 clear hM1 hb1 HDR HBO HBW HMW HWW hp hq hu hW2 HBO1
 unfold rwV
 go_wp2_with fail
 refine Calls.mono (HPV.out _) ?_
 rintro e w2 ⟨rfl, hw2⟩
 rw [hw2]
 clear hw2 w2 HPV
 go_wp2_with fail
 rw [← HWW2.out, ← HUV.out]
 clear HWW2 HUV
 obtain ⟨b0, b1, x0, x1, x2, x3, rp, rq, ru⟩ := HBS2.out
 simp only at x0 x1 x2 x3
 refine Calls.mono (HPK.out W2) ?_
 rintro e w2 ⟨rfl, hw2⟩
 rw [hw2]
 clear hw2 w2 HPK
 have HC1 : Hid (Calls Tryz.prog 52 #[.int .i64 1, .pointer (some ⟨p, 0, none⟩), .pointer (some ⟨q, 0, none⟩)] W2 (MkOut (GE 1 b) 16 r l (i + 1) W2)) := ex_c hX1 (by decide) r p q l (i + 1) b W2 HM2.out (by obtain ⟨h1, h2⟩ := HIC.out; omega) ⟨HBS2.out.c0, HBS2.out.c1, HBS2.out.rp, HBS2.out.rq⟩
 go_wp2_with fail
 refine Calls.mono HC1.out ?_
 rintro e w3 ⟨s1, i3, rfl, hG1, hM3, hi3, hb3⟩
 obtain ⟨Z1, hZ1⟩ : ∃ Z, Z = bs s1 := ⟨_, rfl⟩
 rw [← hZ1]
 have z1 : Z1.size ≤ 100000000 := by rw [hZ1, bs_size]; exact hG1.short10 (by decide)
 have HG1 : Hid (Z1 = bs s1 ∧ GE 1 b s1) := ⟨hZ1, hG1⟩
 have HM3 : Hid (Mk r w3 l i3) := hM3
 have HI1 : Hid (i3 ≤ i + 17) := by unfold Hid; omega
 have HB3 : Hid (But r r w w3) := HB2.out.trans hb3
 have HBS3 : Hid (Bs r p q u b ⟨xk, xa, xb, xc⟩ w3) := HBS2.out.but hb3
 clear hG1 hM3 hi3 hb3 hZ1 HC1
 have HE : Hid (MkOut (GS d b) c r l i w (.returned (.string (⟨#[100, 101, 108, 101, 116, 101, 32, 98, 91]⟩ ++ Z1 ++ ⟨#[93, 59]⟩))) w3) := by
  exact ⟨[100, 101, 108, 101, 116, 101, 32, 98, 91] ++ s1 ++ [93, 59], i3, by rw [HG1.out.1]; simp only [← bs_app]; rfl, GS.delete HG1.out.2, HM3.out, by obtain ⟨h1, h2⟩ := HIC.out; have h3 := HI1.out; omega, HB3.out⟩
 go_wp2_with fail
 go_ret
 exact HE.out
end Go.Proofs.YtfbpkbochhfnhaaGreatDoor
namespace Go.Proofs.YtfbpkbochhfnhaaGreatDoor
open Go.ChangeShapes Go.WideShapes Go.ChangeAt Go.RowKit Go.Joins
set_option linter.unusedVariables false
set_option maxRecDepth 100000
set_option maxHeartbeats 4000000 in
theorem st_seed {d c : Nat} (hX1 : MkE 1 16) (hX2 : MkE 2 64) (hc : 200 ≤ c) (r : Nat) (l : List Rw) (i : Nat) (w : World) (hM : Mk r w l i) (hi : i + c ≤ 1000000) (hd : d ≤ 10)
 (hk : pickR (nextR l i).kind 22 = 12) :
 Calls Tryz.prog 32 #[.pointer (some ⟨r, 0, none⟩), .int .i64 (d : Int), .bool true] w (MkOut (GS d true) c r l i w) := by
 obtain ⟨D, hD⟩ : ∃ D : Int, D = (d : Int) := ⟨_, rfl⟩
 obtain ⟨x, hx⟩ : ∃ x, x = nextR l i := ⟨_, rfl⟩
 obtain ⟨W, hW⟩ : ∃ W, W = ((w.alloc (.cells #[.pointer (some ⟨r, 0, none⟩)] 40)).alloc (.cells #[.bool true] 4)) := ⟨_, rfl⟩
 have HMW : Hid (Mk r W l i) := by rw [hW]; exact (hM.alloc _).alloc _
 have HBW : Hid (But r r w W) := by rw [hW]; exact ((But.refl _ _ _).alloc _).alloc _
 have HBO : Hid (Bc r w.heap.size (w.heap.size + 1) true W) := by rw [hW]; exact Bc.new hM.lt _ _
 have HDR : Hid _ := draw_c r l i W HMW.out (by omega)
 have HOK : Hid (x.ok) := by rw [hx]; exact hM.ok i
 have HWW : Hid (W = _) := hW
 rw [← hD]
 rw [← hx] at hk HDR
 have HIC : Hid (i + c ≤ 1000000 ∧ 200 ≤ c) := ⟨hi, hc⟩
 have HDD : Hid (D = _) := hD
 obtain ⟨xk, xa, xb, xc⟩ := x
 simp only at hk
 have HPK : Hid (∀ W : World, Calls Tryz.prog 8 #[.int .i64 xk, .int .i64 22] W fun e w' => e = .returned (.int .i64 12) ∧ w' = W) := fun W => by
  have h := picked_x xk 22 W HOK.out.1 (by decide) (by decide)
  rw [hk] at h
  exact h
 obtain ⟨JV, hJV⟩ : ∃ J : Nat, J = pickR xa 3 := ⟨_, rfl⟩
 have hJV2 : JV < 3 := by rw [hJV]; exact pickR_lt _ (by decide)
 have HPV : Hid (∀ W : World, Calls Tryz.prog 8 #[.int .i64 xa, .int .i64 3] W fun e w' => e = .returned (.int .i64 (JV : Int)) ∧ w' = W) := fun W => by
  have h := picked_x xa 3 W HOK.out.2.1 (by decide) (by decide)
  rw [hJV]
  exact h
 obtain ⟨VB, hVB⟩ : ∃ VB : ByteArray, (∃ v, VB = bs v ∧ v ∈ varsL) ∧ ∀ h : JV < ([.string ⟨#[120]⟩, .string ⟨#[121]⟩, .string ⟨#[122]⟩] : List Value).length, ([.string ⟨#[120]⟩, .string ⟨#[121]⟩, .string ⟨#[122]⟩] : List Value)[JV]'h = .string VB := by
  have h : JV = 0 ∨ JV = 1 ∨ JV = 2 := by omega
  clear HPV hJV hJV2
  rcases h with rfl | rfl | rfl
  · exact ⟨_, ⟨[120], rfl, by decide⟩, fun _ => rfl⟩
  · exact ⟨_, ⟨[121], rfl, by decide⟩, fun _ => rfl⟩
  · exact ⟨_, ⟨[122], rfl, by decide⟩, fun _ => rfl⟩
 have ev := hVB.2
 have HVB : Hid (∃ v, VB = bs v ∧ v ∈ varsL) := hVB.1
 have zv : VB.size ≤ 4 := by obtain ⟨v, rfl, hv⟩ := hVB.1; rw [bs_size]; exact vars_len hv
 have jv0 : (0 : Int) ≤ (JV : Int) := by omega
 have jv1 : (JV : Int) < 3 := by omega
 clear hk hx hi hc hW hM hD hJV hVB
 go_enter Tryz.func32, Tryz.ntmps32
 go_wp2_with fail
 rw [← HWW.out]
 refine Calls.mono HDR.out ?_
 rintro e w1 ⟨rfl, hM1, hb1⟩
 obtain ⟨p, hp⟩ : ∃ p, p = w.heap.size := ⟨_, rfl⟩
 obtain ⟨q, hq⟩ : ∃ p, p = w.heap.size + 1 := ⟨_, rfl⟩
 have HBO1 := HBO.out.but hb1
 rw [← hq, ← hp] at HBO1 ⊢
 obtain ⟨u, hu⟩ : ∃ p, p = w1.heap.size := ⟨_, rfl⟩
 obtain ⟨W2, hW2⟩ : ∃ W2, W2 = (w1.alloc (.cells #[.int .i64 xk, .int .i64 xa, .int .i64 xb, .int .i64 xc] 44)).alloc (.cells #[.string ⟨#[120]⟩, .string ⟨#[121]⟩, .string ⟨#[122]⟩] 9) := ⟨_, rfl⟩
 have HM2 : Hid (Mk r W2 l (i + 1)) := by rw [hW2]; exact (hM1.alloc _).alloc _
 have HB2 : Hid (But r r w W2) := by rw [hW2]; exact ((HBW.out.trans hb1).alloc _).alloc _
 have HBS2 : Hid (Bs r p q w1.heap.size true ⟨xk, xa, xb, xc⟩ W2) := by rw [hW2]; exact Bs.new ⟨xk, xa, xb, xc⟩ HBO1 hM1.lt _ _ _
 rw [← hu] at HBS2
 have HUV : Hid (u = _) := hu
 have HWW2 : Hid (W2 = _) := hW2
 clear hM1 hb1 HDR HBO HBW HMW HWW hp hq hu hW2 HBO1
 unfold rwV
 go_wp2_with fail
 refine Calls.mono (HPV.out _) ?_
 rintro e w2 ⟨rfl, hw2⟩
 rw [hw2]
 clear hw2 w2 HPV
 go_wp2_with fail
 rw [← HWW2.out, ← HUV.out]
 clear HWW2 HUV
 obtain ⟨b0, b1, x0, x1, x2, x3, rp, rq, ru⟩ := HBS2.out
 simp only at x0 x1 x2 x3
 refine Calls.mono (HPK.out W2) ?_
 rintro e w2 ⟨rfl, hw2⟩
 rw [hw2]
 clear hw2 w2 HPK
 have HC1 : Hid (Calls Tryz.prog 52 #[.int .i64 2, .pointer (some ⟨p, 0, none⟩), .pointer (some ⟨q, 0, none⟩)] W2 (MkOut (GE 2 true) 64 r l (i + 1) W2)) := ex_c hX2 (by decide) r p q l (i + 1) true W2 HM2.out (by obtain ⟨h1, h2⟩ := HIC.out; omega) ⟨HBS2.out.c0, HBS2.out.c1, HBS2.out.rp, HBS2.out.rq⟩
 go_wp2_with fail
 refine Calls.mono HC1.out ?_
 rintro e w3 ⟨s1, i3, rfl, hG1, hM3, hi3, hb3⟩
 obtain ⟨Z1, hZ1⟩ : ∃ Z, Z = bs s1 := ⟨_, rfl⟩
 rw [← hZ1]
 have z1 : Z1.size ≤ 100000000 := by rw [hZ1, bs_size]; exact hG1.short10 (by decide)
 have HG1 : Hid (Z1 = bs s1 ∧ GE 2 true s1) := ⟨hZ1, hG1⟩
 have HM3 : Hid (Mk r w3 l i3) := hM3
 have HI1 : Hid (i3 ≤ i + 65) := by unfold Hid; omega
 have HB3 : Hid (But r r w w3) := HB2.out.trans hb3
 have HBS3 : Hid (Bs r p q u true ⟨xk, xa, xb, xc⟩ w3) := HBS2.out.but hb3
 clear hG1 hM3 hi3 hb3 hZ1 HC1
 have HE : Hid (MkOut (GS d true) c r l i w (.returned (.string (⟨#[115, 101, 101, 100, 32, 61, 32]⟩ ++ Z1 ++ ⟨#[59]⟩))) w3) := by
  exact ⟨[115, 101, 101, 100, 32, 61, 32] ++ s1 ++ [59], i3, by rw [HG1.out.1]; simp only [← bs_app]; rfl, GS.set (v := [115, 101, 101, 100]) (by decide) HG1.out.2, HM3.out, by obtain ⟨h1, h2⟩ := HIC.out; have h3 := HI1.out; omega, HB3.out⟩
 go_wp2_with fail
 go_ret
 exact HE.out
set_option maxHeartbeats 4000000 in
theorem st_next {d c : Nat} (hX1 : MkE 1 16) (hX2 : MkE 2 64) (hc : 200 ≤ c) (r : Nat) (l : List Rw) (i : Nat) (w : World) (hM : Mk r w l i) (hi : i + c ≤ 1000000) (hd : d ≤ 10)
 (hk : pickR (nextR l i).kind 22 = 12) :
 Calls Tryz.prog 32 #[.pointer (some ⟨r, 0, none⟩), .int .i64 (d : Int), .bool false] w (MkOut (GS d false) c r l i w) := by
 obtain ⟨D, hD⟩ : ∃ D : Int, D = (d : Int) := ⟨_, rfl⟩
 obtain ⟨x, hx⟩ : ∃ x, x = nextR l i := ⟨_, rfl⟩
 obtain ⟨W, hW⟩ : ∃ W, W = ((w.alloc (.cells #[.pointer (some ⟨r, 0, none⟩)] 40)).alloc (.cells #[.bool false] 4)) := ⟨_, rfl⟩
 have HMW : Hid (Mk r W l i) := by rw [hW]; exact (hM.alloc _).alloc _
 have HBW : Hid (But r r w W) := by rw [hW]; exact ((But.refl _ _ _).alloc _).alloc _
 have HBO : Hid (Bc r w.heap.size (w.heap.size + 1) false W) := by rw [hW]; exact Bc.new hM.lt _ _
 have HDR : Hid _ := draw_c r l i W HMW.out (by omega)
 have HOK : Hid (x.ok) := by rw [hx]; exact hM.ok i
 have HWW : Hid (W = _) := hW
 rw [← hD]
 rw [← hx] at hk HDR
 have HIC : Hid (i + c ≤ 1000000 ∧ 200 ≤ c) := ⟨hi, hc⟩
 have HDD : Hid (D = _) := hD
 obtain ⟨xk, xa, xb, xc⟩ := x
 simp only at hk
 have HPK : Hid (∀ W : World, Calls Tryz.prog 8 #[.int .i64 xk, .int .i64 22] W fun e w' => e = .returned (.int .i64 12) ∧ w' = W) := fun W => by
  have h := picked_x xk 22 W HOK.out.1 (by decide) (by decide)
  rw [hk] at h
  exact h
 obtain ⟨JV, hJV⟩ : ∃ J : Nat, J = pickR xa 3 := ⟨_, rfl⟩
 have hJV2 : JV < 3 := by rw [hJV]; exact pickR_lt _ (by decide)
 have HPV : Hid (∀ W : World, Calls Tryz.prog 8 #[.int .i64 xa, .int .i64 3] W fun e w' => e = .returned (.int .i64 (JV : Int)) ∧ w' = W) := fun W => by
  have h := picked_x xa 3 W HOK.out.2.1 (by decide) (by decide)
  rw [hJV]
  exact h
 obtain ⟨VB, hVB⟩ : ∃ VB : ByteArray, (∃ v, VB = bs v ∧ v ∈ varsL) ∧ ∀ h : JV < ([.string ⟨#[120]⟩, .string ⟨#[121]⟩, .string ⟨#[122]⟩] : List Value).length, ([.string ⟨#[120]⟩, .string ⟨#[121]⟩, .string ⟨#[122]⟩] : List Value)[JV]'h = .string VB := by
  have h : JV = 0 ∨ JV = 1 ∨ JV = 2 := by omega
  clear HPV hJV hJV2
  rcases h with rfl | rfl | rfl
  · exact ⟨_, ⟨[120], rfl, by decide⟩, fun _ => rfl⟩
  · exact ⟨_, ⟨[121], rfl, by decide⟩, fun _ => rfl⟩
  · exact ⟨_, ⟨[122], rfl, by decide⟩, fun _ => rfl⟩
 have ev := hVB.2
 have HVB : Hid (∃ v, VB = bs v ∧ v ∈ varsL) := hVB.1
 have zv : VB.size ≤ 4 := by obtain ⟨v, rfl, hv⟩ := hVB.1; rw [bs_size]; exact vars_len hv
 have jv0 : (0 : Int) ≤ (JV : Int) := by omega
 have jv1 : (JV : Int) < 3 := by omega
 clear hk hx hi hc hW hM hD hJV hVB
 go_enter Tryz.func32, Tryz.ntmps32
 go_wp2_with fail
 rw [← HWW.out]
 refine Calls.mono HDR.out ?_
 rintro e w1 ⟨rfl, hM1, hb1⟩
 obtain ⟨p, hp⟩ : ∃ p, p = w.heap.size := ⟨_, rfl⟩
 obtain ⟨q, hq⟩ : ∃ p, p = w.heap.size + 1 := ⟨_, rfl⟩
 have HBO1 := HBO.out.but hb1
 rw [← hq, ← hp] at HBO1 ⊢
 obtain ⟨u, hu⟩ : ∃ p, p = w1.heap.size := ⟨_, rfl⟩
 obtain ⟨W2, hW2⟩ : ∃ W2, W2 = (w1.alloc (.cells #[.int .i64 xk, .int .i64 xa, .int .i64 xb, .int .i64 xc] 44)).alloc (.cells #[.string ⟨#[120]⟩, .string ⟨#[121]⟩, .string ⟨#[122]⟩] 9) := ⟨_, rfl⟩
 have HM2 : Hid (Mk r W2 l (i + 1)) := by rw [hW2]; exact (hM1.alloc _).alloc _
 have HB2 : Hid (But r r w W2) := by rw [hW2]; exact ((HBW.out.trans hb1).alloc _).alloc _
 have HBS2 : Hid (Bs r p q w1.heap.size false ⟨xk, xa, xb, xc⟩ W2) := by rw [hW2]; exact Bs.new ⟨xk, xa, xb, xc⟩ HBO1 hM1.lt _ _ _
 rw [← hu] at HBS2
 have HUV : Hid (u = _) := hu
 have HWW2 : Hid (W2 = _) := hW2
 clear hM1 hb1 HDR HBO HBW HMW HWW hp hq hu hW2 HBO1
 unfold rwV
 go_wp2_with fail
 refine Calls.mono (HPV.out _) ?_
 rintro e w2 ⟨rfl, hw2⟩
 rw [hw2]
 clear hw2 w2 HPV
 go_wp2_with fail
 rw [← HWW2.out, ← HUV.out]
 clear HWW2 HUV
 obtain ⟨b0, b1, x0, x1, x2, x3, rp, rq, ru⟩ := HBS2.out
 simp only at x0 x1 x2 x3
 refine Calls.mono (HPK.out W2) ?_
 rintro e w2 ⟨rfl, hw2⟩
 rw [hw2]
 clear hw2 w2 HPK
 have HC1 : Hid (Calls Tryz.prog 52 #[.int .i64 1, .pointer (some ⟨p, 0, none⟩), .pointer (some ⟨q, 0, none⟩)] W2 (MkOut (GE 1 false) 16 r l (i + 1) W2)) := ex_c hX1 (by decide) r p q l (i + 1) false W2 HM2.out (by obtain ⟨h1, h2⟩ := HIC.out; omega) ⟨HBS2.out.c0, HBS2.out.c1, HBS2.out.rp, HBS2.out.rq⟩
 go_wp2_with fail
 refine Calls.mono HC1.out ?_
 rintro e w3 ⟨s1, i3, rfl, hG1, hM3, hi3, hb3⟩
 obtain ⟨Z1, hZ1⟩ : ∃ Z, Z = bs s1 := ⟨_, rfl⟩
 rw [← hZ1]
 have z1 : Z1.size ≤ 100000000 := by rw [hZ1, bs_size]; exact hG1.short10 (by decide)
 have HG1 : Hid (Z1 = bs s1 ∧ GE 1 false s1) := ⟨hZ1, hG1⟩
 have HM3 : Hid (Mk r w3 l i3) := hM3
 have HI1 : Hid (i3 ≤ i + 17) := by unfold Hid; omega
 have HB3 : Hid (But r r w w3) := HB2.out.trans hb3
 have HBS3 : Hid (Bs r p q u false ⟨xk, xa, xb, xc⟩ w3) := HBS2.out.but hb3
 clear hG1 hM3 hi3 hb3 hZ1 HC1
 have HE : Hid (MkOut (GS d false) c r l i w (.returned (.string (⟨#[105, 102, 32, 40]⟩ ++ Z1 ++ ⟨#[41, 32, 123, 32, 110, 101, 120, 116, 59, 32, 125]⟩))) w3) := by
  exact ⟨[105, 102, 32, 40] ++ s1 ++ [41, 32, 123, 32, 110, 101, 120, 116, 59, 32, 125], i3, by rw [HG1.out.1]; simp only [← bs_app]; rfl, GS.next HG1.out.2, HM3.out, by obtain ⟨h1, h2⟩ := HIC.out; have h3 := HI1.out; omega, HB3.out⟩
 go_wp2_with fail
 go_ret
 exact HE.out
set_option maxHeartbeats 4000000 in
theorem st_two {d c : Nat} (hX1 : MkE 1 16) (hX2 : MkE 2 64) (hc : 200 ≤ c) (r : Nat) (l : List Rw) (i : Nat) (b : Bool) (w : World) (hM : Mk r w l i) (hi : i + c ≤ 1000000) (hd : d ≤ 10)
 (hk : 12 < pickR (nextR l i).kind 22) (hd0 : d = 0) :
 Calls Tryz.prog 32 #[.pointer (some ⟨r, 0, none⟩), .int .i64 (d : Int), .bool b] w (MkOut (GS d b) c r l i w) := by
 obtain ⟨D, hD⟩ : ∃ D : Int, D = (d : Int) := ⟨_, rfl⟩
 obtain ⟨x, hx⟩ : ∃ x, x = nextR l i := ⟨_, rfl⟩
 obtain ⟨W, hW⟩ : ∃ W, W = ((w.alloc (.cells #[.pointer (some ⟨r, 0, none⟩)] 40)).alloc (.cells #[.bool b] 4)) := ⟨_, rfl⟩
 have HMW : Hid (Mk r W l i) := by rw [hW]; exact (hM.alloc _).alloc _
 have HBW : Hid (But r r w W) := by rw [hW]; exact ((But.refl _ _ _).alloc _).alloc _
 have HBO : Hid (Bc r w.heap.size (w.heap.size + 1) b W) := by rw [hW]; exact Bc.new hM.lt _ _
 have HDR : Hid _ := draw_c r l i W HMW.out (by omega)
 have HOK : Hid (x.ok) := by rw [hx]; exact hM.ok i
 have d1 : D ≤ 0 := by omega
 have HWW : Hid (W = _) := hW
 rw [← hD]
 rw [← hx] at hk HDR
 have HIC : Hid (i + c ≤ 1000000 ∧ 200 ≤ c) := ⟨hi, hc⟩
 have HDD : Hid (D = _) := hD
 obtain ⟨xk, xa, xb, xc⟩ := x
 simp only at hk
 obtain ⟨K, hK⟩ : ∃ K : Int, K = ((pickR xk 22 : Nat) : Int) := ⟨_, rfl⟩
 have HPK : Hid (∀ W : World, Calls Tryz.prog 8 #[.int .i64 xk, .int .i64 22] W fun e w' => e = .returned (.int .i64 K) ∧ w' = W) := fun W => by
  have h := picked_x xk 22 W HOK.out.1 (by decide) (by decide)
  rw [hK]
  exact h
 have kf0 : ¬ K < 4 := by first | omega | (simp only [beq_eq_false_iff_ne, ne_eq]; omega)
 have kf1 : ¬ K < 6 := by first | omega | (simp only [beq_eq_false_iff_ne, ne_eq]; omega)
 have kf2 : ¬ K < 10 := by first | omega | (simp only [beq_eq_false_iff_ne, ne_eq]; omega)
 have kf3 : (K == 10) = false := by first | omega | (simp only [beq_eq_false_iff_ne, ne_eq]; omega)
 have kf4 : (K == 11) = false := by first | omega | (simp only [beq_eq_false_iff_ne, ne_eq]; omega)
 have kf5 : (K == 12) = false := by first | omega | (simp only [beq_eq_false_iff_ne, ne_eq]; omega)
 clear hK
 obtain ⟨JV, hJV⟩ : ∃ J : Nat, J = pickR xa 3 := ⟨_, rfl⟩
 have hJV2 : JV < 3 := by rw [hJV]; exact pickR_lt _ (by decide)
 have HPV : Hid (∀ W : World, Calls Tryz.prog 8 #[.int .i64 xa, .int .i64 3] W fun e w' => e = .returned (.int .i64 (JV : Int)) ∧ w' = W) := fun W => by
  have h := picked_x xa 3 W HOK.out.2.1 (by decide) (by decide)
  rw [hJV]
  exact h
 obtain ⟨VB, hVB⟩ : ∃ VB : ByteArray, (∃ v, VB = bs v ∧ v ∈ varsL) ∧ ∀ h : JV < ([.string ⟨#[120]⟩, .string ⟨#[121]⟩, .string ⟨#[122]⟩] : List Value).length, ([.string ⟨#[120]⟩, .string ⟨#[121]⟩, .string ⟨#[122]⟩] : List Value)[JV]'h = .string VB := by
  have h : JV = 0 ∨ JV = 1 ∨ JV = 2 := by omega
  clear HPV hJV hJV2
  rcases h with rfl | rfl | rfl
  · exact ⟨_, ⟨[120], rfl, by decide⟩, fun _ => rfl⟩
  · exact ⟨_, ⟨[121], rfl, by decide⟩, fun _ => rfl⟩
  · exact ⟨_, ⟨[122], rfl, by decide⟩, fun _ => rfl⟩
 have ev := hVB.2
 have HVB : Hid (∃ v, VB = bs v ∧ v ∈ varsL) := hVB.1
 have zv : VB.size ≤ 4 := by obtain ⟨v, rfl, hv⟩ := hVB.1; rw [bs_size]; exact vars_len hv
 have jv0 : (0 : Int) ≤ (JV : Int) := by omega
 have jv1 : (JV : Int) < 3 := by omega
 clear hk hx hi hc hW hM hD hJV hVB
 go_enter Tryz.func32, Tryz.ntmps32
 go_wp2_with fail
 rw [← HWW.out]
 refine Calls.mono HDR.out ?_
 rintro e w1 ⟨rfl, hM1, hb1⟩
 obtain ⟨p, hp⟩ : ∃ p, p = w.heap.size := ⟨_, rfl⟩
 obtain ⟨q, hq⟩ : ∃ p, p = w.heap.size + 1 := ⟨_, rfl⟩
 have HBO1 := HBO.out.but hb1
 rw [← hq, ← hp] at HBO1 ⊢
 obtain ⟨u, hu⟩ : ∃ p, p = w1.heap.size := ⟨_, rfl⟩
 obtain ⟨W2, hW2⟩ : ∃ W2, W2 = (w1.alloc (.cells #[.int .i64 xk, .int .i64 xa, .int .i64 xb, .int .i64 xc] 44)).alloc (.cells #[.string ⟨#[120]⟩, .string ⟨#[121]⟩, .string ⟨#[122]⟩] 9) := ⟨_, rfl⟩
 have HM2 : Hid (Mk r W2 l (i + 1)) := by rw [hW2]; exact (hM1.alloc _).alloc _
 have HB2 : Hid (But r r w W2) := by rw [hW2]; exact ((HBW.out.trans hb1).alloc _).alloc _
 have HBS2 : Hid (Bs r p q w1.heap.size b ⟨xk, xa, xb, xc⟩ W2) := by rw [hW2]; exact Bs.new ⟨xk, xa, xb, xc⟩ HBO1 hM1.lt _ _ _
 rw [← hu] at HBS2
 have HUV : Hid (u = _) := hu
 have HWW2 : Hid (W2 = _) := hW2
 clear hM1 hb1 HDR HBO HBW HMW HWW hp hq hu hW2 HBO1
 unfold rwV
 go_wp2_with fail
 refine Calls.mono (HPV.out _) ?_
 rintro e w2 ⟨rfl, hw2⟩
 rw [hw2]
 clear hw2 w2 HPV
 go_wp2_with fail
 rw [← HWW2.out, ← HUV.out]
 clear HWW2 HUV
 obtain ⟨b0, b1, x0, x1, x2, x3, rp, rq, ru⟩ := HBS2.out
 simp only at x0 x1 x2 x3
 refine Calls.mono (HPK.out W2) ?_
 rintro e w2 ⟨rfl, hw2⟩
 rw [hw2]
 clear hw2 w2 HPK
 have HE : Hid (MkOut (GS d b) c r l i w (.returned (.string (⟨#[112, 114, 105, 110, 116, 32, 120, 44, 32, 121, 59]⟩))) W2) := by
  exact ⟨[112, 114, 105, 110, 116, 32, 120, 44, 32, 121, 59], (i + 1), by rfl, GS.print2, HM2.out, by obtain ⟨h1, h2⟩ := HIC.out; omega, HB2.out⟩
 go_wp2_with fail
 go_ret
 exact HE.out
end Go.Proofs.YtfbpkbochhfnhaaGreatDoor
namespace Go.Proofs.YtfbpkbochhfnhaaGreatDoor
open Go.ChangeShapes Go.WideShapes Go.ChangeAt Go.RowKit Go.Joins
set_option linter.unusedVariables false
set_option maxRecDepth 100000
set_option maxHeartbeats 4000000 in
theorem st_write {d c : Nat} (hX1 : MkE 1 16) (hX2 : MkE 2 64) (hc : 200 ≤ c) (r : Nat) (l : List Rw) (i : Nat) (w : World) (hM : Mk r w l i) (hi : i + c ≤ 1000000) (hd : d ≤ 10)
 (hk : pickR (nextR l i).kind 22 = 10) :
 Calls Tryz.prog 32 #[.pointer (some ⟨r, 0, none⟩), .int .i64 (d : Int), .bool false] w (MkOut (GS d false) c r l i w) := by
 obtain ⟨D, hD⟩ : ∃ D : Int, D = (d : Int) := ⟨_, rfl⟩
 obtain ⟨x, hx⟩ : ∃ x, x = nextR l i := ⟨_, rfl⟩
 obtain ⟨W, hW⟩ : ∃ W, W = ((w.alloc (.cells #[.pointer (some ⟨r, 0, none⟩)] 40)).alloc (.cells #[.bool false] 4)) := ⟨_, rfl⟩
 have HMW : Hid (Mk r W l i) := by rw [hW]; exact (hM.alloc _).alloc _
 have HBW : Hid (But r r w W) := by rw [hW]; exact ((But.refl _ _ _).alloc _).alloc _
 have HBO : Hid (Bc r w.heap.size (w.heap.size + 1) false W) := by rw [hW]; exact Bc.new hM.lt _ _
 have HDR : Hid _ := draw_c r l i W HMW.out (by omega)
 have HOK : Hid (x.ok) := by rw [hx]; exact hM.ok i
 have HWW : Hid (W = _) := hW
 rw [← hD]
 rw [← hx] at hk HDR
 have HIC : Hid (i + c ≤ 1000000 ∧ 200 ≤ c) := ⟨hi, hc⟩
 have HDD : Hid (D = _) := hD
 obtain ⟨xk, xa, xb, xc⟩ := x
 simp only at hk
 have HPK : Hid (∀ W : World, Calls Tryz.prog 8 #[.int .i64 xk, .int .i64 22] W fun e w' => e = .returned (.int .i64 10) ∧ w' = W) := fun W => by
  have h := picked_x xk 22 W HOK.out.1 (by decide) (by decide)
  rw [hk] at h
  exact h
 obtain ⟨JV, hJV⟩ : ∃ J : Nat, J = pickR xa 3 := ⟨_, rfl⟩
 have hJV2 : JV < 3 := by rw [hJV]; exact pickR_lt _ (by decide)
 have HPV : Hid (∀ W : World, Calls Tryz.prog 8 #[.int .i64 xa, .int .i64 3] W fun e w' => e = .returned (.int .i64 (JV : Int)) ∧ w' = W) := fun W => by
  have h := picked_x xa 3 W HOK.out.2.1 (by decide) (by decide)
  rw [hJV]
  exact h
 obtain ⟨VB, hVB⟩ : ∃ VB : ByteArray, (∃ v, VB = bs v ∧ v ∈ varsL) ∧ ∀ h : JV < ([.string ⟨#[120]⟩, .string ⟨#[121]⟩, .string ⟨#[122]⟩] : List Value).length, ([.string ⟨#[120]⟩, .string ⟨#[121]⟩, .string ⟨#[122]⟩] : List Value)[JV]'h = .string VB := by
  have h : JV = 0 ∨ JV = 1 ∨ JV = 2 := by omega
  clear HPV hJV hJV2
  rcases h with rfl | rfl | rfl
  · exact ⟨_, ⟨[120], rfl, by decide⟩, fun _ => rfl⟩
  · exact ⟨_, ⟨[121], rfl, by decide⟩, fun _ => rfl⟩
  · exact ⟨_, ⟨[122], rfl, by decide⟩, fun _ => rfl⟩
 have ev := hVB.2
 have HVB : Hid (∃ v, VB = bs v ∧ v ∈ varsL) := hVB.1
 have zv : VB.size ≤ 4 := by obtain ⟨v, rfl, hv⟩ := hVB.1; rw [bs_size]; exact vars_len hv
 have jv0 : (0 : Int) ≤ (JV : Int) := by omega
 have jv1 : (JV : Int) < 3 := by omega
 obtain ⟨J, hJ⟩ : ∃ J : Nat, J = pickR xb 3 := ⟨_, rfl⟩
 have hJ2 : J < 3 := by rw [hJ]; exact pickR_lt _ (by decide)
 have HPJ : Hid (∀ W : World, Calls Tryz.prog 8 #[.int .i64 xb, .int .i64 3] W fun e w' => e = .returned (.int .i64 (J : Int)) ∧ w' = W) := fun W => by
  have h := picked_x xb 3 W HOK.out.2.2.1 (by decide) (by decide)
  rw [hJ]
  exact h
 have cJ0 : (-9223372036854775808 : Int) ≤ 1 + (J : Int) := by omega
 have cJ1 : 1 + (J : Int) ≤ 9223372036854775807 := by omega
 clear hJ
 clear hk hx hi hc hW hM hD hJV hVB
 go_enter Tryz.func32, Tryz.ntmps32
 go_wp2_with fail
 rw [← HWW.out]
 refine Calls.mono HDR.out ?_
 rintro e w1 ⟨rfl, hM1, hb1⟩
 obtain ⟨p, hp⟩ : ∃ p, p = w.heap.size := ⟨_, rfl⟩
 obtain ⟨q, hq⟩ : ∃ p, p = w.heap.size + 1 := ⟨_, rfl⟩
 have HBO1 := HBO.out.but hb1
 rw [← hq, ← hp] at HBO1 ⊢
 obtain ⟨u, hu⟩ : ∃ p, p = w1.heap.size := ⟨_, rfl⟩
 obtain ⟨W2, hW2⟩ : ∃ W2, W2 = (w1.alloc (.cells #[.int .i64 xk, .int .i64 xa, .int .i64 xb, .int .i64 xc] 44)).alloc (.cells #[.string ⟨#[120]⟩, .string ⟨#[121]⟩, .string ⟨#[122]⟩] 9) := ⟨_, rfl⟩
 have HM2 : Hid (Mk r W2 l (i + 1)) := by rw [hW2]; exact (hM1.alloc _).alloc _
 have HB2 : Hid (But r r w W2) := by rw [hW2]; exact ((HBW.out.trans hb1).alloc _).alloc _
 have HBS2 : Hid (Bs r p q w1.heap.size false ⟨xk, xa, xb, xc⟩ W2) := by rw [hW2]; exact Bs.new ⟨xk, xa, xb, xc⟩ HBO1 hM1.lt _ _ _
 rw [← hu] at HBS2
 have HUV : Hid (u = _) := hu
 have HWW2 : Hid (W2 = _) := hW2
 clear hM1 hb1 HDR HBO HBW HMW HWW hp hq hu hW2 HBO1
 unfold rwV
 go_wp2_with fail
 refine Calls.mono (HPV.out _) ?_
 rintro e w2 ⟨rfl, hw2⟩
 rw [hw2]
 clear hw2 w2 HPV
 go_wp2_with fail
 rw [← HWW2.out, ← HUV.out]
 clear HWW2 HUV
 obtain ⟨b0, b1, x0, x1, x2, x3, rp, rq, ru⟩ := HBS2.out
 simp only at x0 x1 x2 x3
 refine Calls.mono (HPK.out W2) ?_
 rintro e w2 ⟨rfl, hw2⟩
 rw [hw2]
 clear hw2 w2 HPK
 obtain ⟨TB, hTB⟩ : ∃ T, T = bs (digs (J + 1)) := ⟨_, rfl⟩
 have zb : TB.size ≤ 2 := by rw [hTB, bs_size]; exact digs_len (by omega)
 have HTB : Hid (TB = bs (digs (J + 1))) := hTB
 have HPW : Hid (Pow W2) := HM2.out.pw.elim fun _ h => h.2.2
 have HIA : Hid (Calls Tryz.prog 33 #[.int .i64 (1 + (J : Int))] W2 fun e w3 => e = .returned (.string TB) ∧ Below W2.heap.size W2 w3) := by
  rw [show 1 + (J : Int) = ((J + 1 : Nat) : Int) by omega]
  refine (Tryz.strconv_Itoa ((J + 1 : Nat) : Int) (by omega) (by omega) W2 HPW.out).mono ?_
  rintro e w3 ⟨rfl, hg⟩
  exact ⟨by rw [hTB]; rfl, below_grown_k hg⟩
 clear hTB
 go_wp2_with fail
 refine Calls.mono (HPJ.out _) ?_
 rintro e w2 ⟨rfl, hw2⟩
 rw [hw2]
 clear hw2 w2
 go_wp2_with fail
 refine Calls.mono HIA.out ?_
 rintro e w3 ⟨rfl, hb3⟩
 have HM3 : Hid (Mk r w3 l (i + 1)) := HM2.out.below hb3
 have HB3 : Hid (But r r w w3) := HB2.out.more hb3
 have HBS3 : Hid (Bs r p q u false ⟨xk, xa, xb, xc⟩ w3) := HBS2.out.below hb3
 clear hb3 HIA
 have HC : Hid (Calls Tryz.prog 52 #[.int .i64 1, .pointer (some ⟨p, 0, none⟩), .pointer (some ⟨q, 0, none⟩)] w3 (MkOut (GE 1 false) 16 r l (i + 1) w3)) := ex_c hX1 (by decide) r p q l (i + 1) false w3 HM3.out (by obtain ⟨h1, h2⟩ := HIC.out; omega) ⟨HBS3.out.c0, HBS3.out.c1, HBS3.out.rp, HBS3.out.rq⟩
 go_wp2_with fail
 refine Calls.mono HC.out ?_
 rintro e w4 ⟨s1, i4, rfl, hG1, hM4, hi4, hb4⟩
 obtain ⟨Z1, hZ1⟩ : ∃ Z, Z = bs s1 := ⟨_, rfl⟩
 rw [← hZ1]
 have z1 : Z1.size ≤ 100000000 := by rw [hZ1, bs_size]; exact hG1.short10 (by decide)
 have HE : Hid (MkOut (GS d false) c r l i w (.returned (.string (⟨#[36]⟩ ++ TB ++ ⟨#[32, 61, 32]⟩ ++ Z1 ++ ⟨#[59]⟩))) w4) :=
  ⟨[36] ++ digs (J + 1) ++ [32, 61, 32] ++ s1 ++ [59], i4, by rw [HTB.out, hZ1]; simp only [← bs_app]; rfl, GS.write (by omega) (by omega) hG1, hM4, by obtain ⟨h1, h2⟩ := HIC.out; omega, HB3.out.trans hb4⟩
 clear hG1 hM4 hi4 hb4 hZ1 HC
 go_wp2_with fail
 go_ret
 exact HE.out
set_option maxHeartbeats 4000000 in
theorem st_branch {d c : Nat} (hX1 : MkE 1 16) (hX2 : MkE 2 64) (hS : MkS d c) (hc : 200 ≤ c) (r : Nat) (l : List Rw) (i : Nat) (b : Bool) (w : World) (hM : Mk r w l i) (hi : i + (2 * c + 65) ≤ 1000000) (hd : d ≤ 10)
 (hk : 12 < pickR (nextR l i).kind 22 ∧ pickR (nextR l i).kind 22 < 17) :
 Calls Tryz.prog 32 #[.pointer (some ⟨r, 0, none⟩), .int .i64 ((d + 1 : Nat) : Int), .bool b] w (MkOut (GS (d + 1) b) (2 * c + 65) r l i w) := by
 obtain ⟨D, hD⟩ : ∃ D : Int, D = ((d + 1 : Nat) : Int) := ⟨_, rfl⟩
 obtain ⟨x, hx⟩ : ∃ x, x = nextR l i := ⟨_, rfl⟩
 obtain ⟨W, hW⟩ : ∃ W, W = ((w.alloc (.cells #[.pointer (some ⟨r, 0, none⟩)] 40)).alloc (.cells #[.bool b] 4)) := ⟨_, rfl⟩
 have HMW : Hid (Mk r W l i) := by rw [hW]; exact (hM.alloc _).alloc _
 have HBW : Hid (But r r w W) := by rw [hW]; exact ((But.refl _ _ _).alloc _).alloc _
 have HBO : Hid (Bc r w.heap.size (w.heap.size + 1) b W) := by rw [hW]; exact Bc.new hM.lt _ _
 have HDR : Hid _ := draw_c r l i W HMW.out (by omega)
 have HOK : Hid (x.ok) := by rw [hx]; exact hM.ok i
 have d1 : ¬ D ≤ 0 := by omega
 have HWW : Hid (W = _) := hW
 rw [← hD]
 rw [← hx] at hk HDR
 have HIC : Hid (i + (2 * c + 65) ≤ 1000000 ∧ 200 ≤ c) := ⟨hi, hc⟩
 have HDD : Hid (D = _) := hD
 obtain ⟨xk, xa, xb, xc⟩ := x
 simp only at hk
 obtain ⟨K, hK⟩ : ∃ K : Int, K = ((pickR xk 22 : Nat) : Int) := ⟨_, rfl⟩
 have HPK : Hid (∀ W : World, Calls Tryz.prog 8 #[.int .i64 xk, .int .i64 22] W fun e w' => e = .returned (.int .i64 K) ∧ w' = W) := fun W => by
  have h := picked_x xk 22 W HOK.out.1 (by decide) (by decide)
  rw [hK]
  exact h
 have kf0 : ¬ K < 4 := by first | omega | (simp only [beq_eq_false_iff_ne, ne_eq]; omega)
 have kf1 : ¬ K < 6 := by first | omega | (simp only [beq_eq_false_iff_ne, ne_eq]; omega)
 have kf2 : ¬ K < 10 := by first | omega | (simp only [beq_eq_false_iff_ne, ne_eq]; omega)
 have kf3 : (K == 10) = false := by first | omega | (simp only [beq_eq_false_iff_ne, ne_eq]; omega)
 have kf4 : (K == 11) = false := by first | omega | (simp only [beq_eq_false_iff_ne, ne_eq]; omega)
 have kf5 : (K == 12) = false := by first | omega | (simp only [beq_eq_false_iff_ne, ne_eq]; omega)
 have kf6 : K < 17 := by first | omega | (simp only [beq_eq_false_iff_ne, ne_eq]; omega)
 clear hK
 obtain ⟨JV, hJV⟩ : ∃ J : Nat, J = pickR xa 3 := ⟨_, rfl⟩
 have hJV2 : JV < 3 := by rw [hJV]; exact pickR_lt _ (by decide)
 have HPV : Hid (∀ W : World, Calls Tryz.prog 8 #[.int .i64 xa, .int .i64 3] W fun e w' => e = .returned (.int .i64 (JV : Int)) ∧ w' = W) := fun W => by
  have h := picked_x xa 3 W HOK.out.2.1 (by decide) (by decide)
  rw [hJV]
  exact h
 obtain ⟨VB, hVB⟩ : ∃ VB : ByteArray, (∃ v, VB = bs v ∧ v ∈ varsL) ∧ ∀ h : JV < ([.string ⟨#[120]⟩, .string ⟨#[121]⟩, .string ⟨#[122]⟩] : List Value).length, ([.string ⟨#[120]⟩, .string ⟨#[121]⟩, .string ⟨#[122]⟩] : List Value)[JV]'h = .string VB := by
  have h : JV = 0 ∨ JV = 1 ∨ JV = 2 := by omega
  clear HPV hJV hJV2
  rcases h with rfl | rfl | rfl
  · exact ⟨_, ⟨[120], rfl, by decide⟩, fun _ => rfl⟩
  · exact ⟨_, ⟨[121], rfl, by decide⟩, fun _ => rfl⟩
  · exact ⟨_, ⟨[122], rfl, by decide⟩, fun _ => rfl⟩
 have ev := hVB.2
 have HVB : Hid (∃ v, VB = bs v ∧ v ∈ varsL) := hVB.1
 have zv : VB.size ≤ 4 := by obtain ⟨v, rfl, hv⟩ := hVB.1; rw [bs_size]; exact vars_len hv
 have jv0 : (0 : Int) ≤ (JV : Int) := by omega
 have jv1 : (JV : Int) < 3 := by omega
 clear hk hx hi hc hW hM hD hJV hVB
 go_enter Tryz.func32, Tryz.ntmps32
 go_wp2_with fail
 rw [← HWW.out]
 refine Calls.mono HDR.out ?_
 rintro e w1 ⟨rfl, hM1, hb1⟩
 obtain ⟨p, hp⟩ : ∃ p, p = w.heap.size := ⟨_, rfl⟩
 obtain ⟨q, hq⟩ : ∃ p, p = w.heap.size + 1 := ⟨_, rfl⟩
 have HBO1 := HBO.out.but hb1
 rw [← hq, ← hp] at HBO1 ⊢
 obtain ⟨u, hu⟩ : ∃ p, p = w1.heap.size := ⟨_, rfl⟩
 obtain ⟨W2, hW2⟩ : ∃ W2, W2 = (w1.alloc (.cells #[.int .i64 xk, .int .i64 xa, .int .i64 xb, .int .i64 xc] 44)).alloc (.cells #[.string ⟨#[120]⟩, .string ⟨#[121]⟩, .string ⟨#[122]⟩] 9) := ⟨_, rfl⟩
 have HM2 : Hid (Mk r W2 l (i + 1)) := by rw [hW2]; exact (hM1.alloc _).alloc _
 have HB2 : Hid (But r r w W2) := by rw [hW2]; exact ((HBW.out.trans hb1).alloc _).alloc _
 have HBS2 : Hid (Bs r p q w1.heap.size b ⟨xk, xa, xb, xc⟩ W2) := by rw [hW2]; exact Bs.new ⟨xk, xa, xb, xc⟩ HBO1 hM1.lt _ _ _
 rw [← hu] at HBS2
 have HUV : Hid (u = _) := hu
 have HWW2 : Hid (W2 = _) := hW2
 clear hM1 hb1 HDR HBO HBW HMW HWW hp hq hu hW2 HBO1
 unfold rwV
 go_wp2_with fail
 refine Calls.mono (HPV.out _) ?_
 rintro e w2 ⟨rfl, hw2⟩
 rw [hw2]
 clear hw2 w2 HPV
 go_wp2_with fail
 rw [← HWW2.out, ← HUV.out]
 clear HWW2 HUV
 obtain ⟨b0, b1, x0, x1, x2, x3, rp, rq, ru⟩ := HBS2.out
 simp only at x0 x1 x2 x3
 refine Calls.mono (HPK.out W2) ?_
 rintro e w2 ⟨rfl, hw2⟩
 rw [hw2]
 clear hw2 w2 HPK
 have dd0 : (-9223372036854775808 : Int) ≤ D - 1 := by have := HDD.out; omega
 have dd1 : D - 1 ≤ 9223372036854775807 := by have := HDD.out; omega
 have HD1 : Hid (D - 1 = (d : Int)) := by have := HDD.out; unfold Hid; omega
 have HD2 : Hid (IntKind.i64.wrap (D - 1) = (d : Int)) := by unfold Hid; rw [IntKind.wrap_i64]; have := HDD.out; omega
 have HXA : Hid (Calls Tryz.prog 52 #[.int .i64 2, .pointer (some ⟨p, 0, none⟩), .pointer (some ⟨q, 0, none⟩)] W2.drew fun e w3 => ∃ Z1, e = .returned (.string Z1) ∧ Z1.size ≤ 100000000 ∧ Hid (∃ s1 i3, Z1 = bs s1 ∧ GE 2 b s1 ∧ Mk r w3 l i3 ∧ i3 ≤ i + 65 ∧ But r r w w3) ∧ w3.cell? ⟨p, 0, none⟩ = some (.pointer (some ⟨r, 0, none⟩)) ∧ w3.cell? ⟨q, 0, none⟩ = some (.bool b)) := by
  have hB := HBS2.out.below (below_drew W2)
  refine (ex_c hX2 (by decide) r p q l (i + 1) b W2.drew (HM2.out.below (below_drew _)) (by obtain ⟨h1, h2⟩ := HIC.out; omega) ⟨hB.c0, hB.c1, hB.rp, hB.rq⟩).mono ?_
  rintro e w3 ⟨s1, i3, rfl, hG1, hM3, hi3, hb3⟩
  have hB3 := hB.but hb3
  exact ⟨_, rfl, by rw [bs_size]; exact hG1.short10 (by decide), ⟨s1, i3, rfl, hG1, hM3, by omega, (HB2.out.more (below_drew _)).trans hb3⟩, hB3.c0, hB3.c1⟩
 have HST : Hid (∀ (n : Nat) (w3 : World), n ≤ 1 → (∃ i3, Mk r w3 l i3 ∧ i3 ≤ i + 65 + n * c ∧ But r r w w3) → w3.cell? ⟨p, 0, none⟩ = some (.pointer (some ⟨r, 0, none⟩)) → w3.cell? ⟨q, 0, none⟩ = some (.bool b) → ∀ Dm : Int, Dm = (d : Int) → Calls Tryz.prog 32 #[.pointer (some ⟨r, 0, none⟩), .int .i64 Dm, .bool b] w3 fun e w4 => ∃ Z2, e = .returned (.string Z2) ∧ Z2.size ≤ 1000000000 ∧ Hid ((∃ s2, Z2 = bs s2 ∧ GS d b s2) ∧ ∃ i4, Mk r w4 l i4 ∧ i4 ≤ i + 65 + (n + 1) * c ∧ But r r w w4) ∧ w4.cell? ⟨p, 0, none⟩ = some (.pointer (some ⟨r, 0, none⟩)) ∧ w4.cell? ⟨q, 0, none⟩ = some (.bool b)) := by
  intro n w3 hn ⟨i3, hM3, hi3, hb3⟩ c0 c1 Dm hDm
  rw [hDm]
  have hB : Bc r p q b w3 := ⟨c0, c1, rp, rq⟩
  have hnc : n * c ≤ c := by have : n * c ≤ 1 * c := Nat.mul_le_mul_right c hn; omega
  refine (hS r l i3 b w3 hM3 (by obtain ⟨h1, h2⟩ := HIC.out; omega)).mono ?_
  rintro e w4 ⟨s2, i4, rfl, hG2, hM4, hi4, hb4⟩
  have hB4 := hB.but hb4
  exact ⟨_, rfl, by rw [bs_size]; exact hG2.short10 hd, ⟨⟨s2, rfl, hG2⟩, i4, hM4, by rw [Nat.succ_mul]; omega, hb3.trans hb4⟩, hB4.c0, hB4.c1⟩
 have HF : Hid (∀ Z1 Z2 Z3 w3 w4 w5, (∃ s1 i3, Z1 = bs s1 ∧ GE 2 b s1 ∧ Mk r w3 l i3 ∧ i3 ≤ i + 65 ∧ But r r w w3) → ((∃ s2, Z2 = bs s2 ∧ GS d b s2) ∧ ∃ i4, Mk r w4 l i4 ∧ i4 ≤ i + 65 + (0 + 1) * c ∧ But r r w w4) → ((∃ s2, Z3 = bs s2 ∧ GS d b s2) ∧ ∃ i4, Mk r w5 l i4 ∧ i4 ≤ i + 65 + (1 + 1) * c ∧ But r r w w5) → MkOut (GS (d + 1) b) (2 * c + 65) r l i w (.returned (.string (⟨#[105, 102, 32, 40]⟩ ++ Z1 ++ ⟨#[41, 32, 123, 32]⟩ ++ Z2 ++ ⟨#[32, 125, 32, 101, 108, 115, 101, 32, 123, 32]⟩ ++ Z3 ++ ⟨#[32, 125]⟩))) w5) := by
  rintro Z1 Z2 Z3 w3 w4 w5 ⟨s1, i3, rfl, hG1, -, -, -⟩ ⟨⟨s2, rfl, hG2⟩, -⟩ ⟨⟨s3, rfl, hG3⟩, i5, hM5, hi5, hb5⟩
  exact ⟨[105, 102, 32, 40] ++ s1 ++ [41, 32, 123, 32] ++ s2 ++ [32, 125, 32, 101, 108, 115, 101, 32, 123, 32] ++ s3 ++ [32, 125], i5, by simp only [← bs_app]; rfl, GS.branch hG1 hG2 hG3, hM5, by omega, hb5⟩
 have HS0 : Hid (W2.drew.cell? ⟨p, 0, none⟩ = some (.pointer (some ⟨r, 0, none⟩)) ∧ W2.drew.cell? ⟨q, 0, none⟩ = some (.bool b)) := ⟨HBS2.out.c0, HBS2.out.c1⟩
 clear HM2 HB2 HBS2 x0 x1 x2 x3 rp rq ru hX1 hX2 hS HIC HOK HDD hd HVB
 go_wp2_with fail
 refine wp_region_held_drew (S := fun w9 => w9.cell? ⟨p, 0, none⟩ = some (.pointer (some ⟨r, 0, none⟩)) ∧ w9.cell? ⟨q, 0, none⟩ = some (.bool b)) (by kernel_rfl) HS0.out (fun hHeld => ?_)
 refine wpAnyH_take (i := 0) (v := ?_) rfl (by kernel_rfl) (by kernel_rfl) (by kernel_rfl) (fun _ _ _ h => h) (Or.inl ⟨by rfl, ?_⟩) hHeld ?_
 rotate_left
 · first | (intro w9 hSw; (try dsimp only at hSw); go_simp; done) | (intro w9 hSw; (try dsimp only at hSw); go_simp; with_reducible rfl) | (intro w9 hSw; (try dsimp only at hSw); go_simp; rw [if_neg (by omega)])
 try simp only [Act.put, List.getElem_toArray, List.getElem_cons_zero, List.setIfInBounds_toArray, List.set_cons_zero, List.set_cons_succ]
 refine wpAnyH_take (i := 4) (v := ?_) rfl (by kernel_rfl) (by kernel_rfl) (by kernel_rfl) (fun _ _ _ h => h) (Or.inl ⟨by rfl, ?_⟩) hHeld ?_
 rotate_left
 · first | (intro w9 hSw; (try dsimp only at hSw); go_simp; done) | (intro w9 hSw; (try dsimp only at hSw); go_simp; with_reducible rfl) | (intro w9 hSw; (try dsimp only at hSw); go_simp; rw [if_neg (by omega)])
 try simp only [Act.put, List.getElem_toArray, List.getElem_cons_zero, List.getElem_cons_succ, List.setIfInBounds_toArray, List.set_cons_zero, List.set_cons_succ]
 refine wpAnyH_take (i := 5) (v := ?_) rfl (by kernel_rfl) (by kernel_rfl) (by kernel_rfl) (fun _ _ _ h => h) (Or.inl ⟨by rfl, ?_⟩) hHeld ?_
 rotate_left
 · first | (intro w9 hSw; (try dsimp only at hSw); go_simp; done) | (intro w9 hSw; (try dsimp only at hSw); go_simp; with_reducible rfl) | (intro w9 hSw; (try dsimp only at hSw); go_simp; rw [if_neg (by omega)])
 try simp only [Act.put, List.getElem_toArray, List.getElem_cons_zero, List.getElem_cons_succ, List.setIfInBounds_toArray, List.set_cons_zero, List.set_cons_succ]
 refine wpAnyH_take (i := 6) (v := ?_) rfl (by kernel_rfl) (by kernel_rfl) (by kernel_rfl) (fun _ _ _ h => h) (Or.inl ⟨by rfl, ?_⟩) hHeld ?_
 rotate_left
 · first | (intro w9 hSw; (try dsimp only at hSw); go_simp; done) | (intro w9 hSw; (try dsimp only at hSw); go_simp; with_reducible rfl) | (intro w9 hSw; (try dsimp only at hSw); go_simp; rw [if_neg (by omega)])
 try simp only [Act.put, List.getElem_toArray, List.getElem_cons_zero, List.getElem_cons_succ, List.setIfInBounds_toArray, List.set_cons_zero, List.set_cons_succ]
 refine wpAnyH_take (i := 7) (v := ?_) rfl (by kernel_rfl) (by kernel_rfl) (by kernel_rfl) (fun _ _ _ h => h) (Or.inl ⟨by rfl, ?_⟩) hHeld ?_
 rotate_left
 · first | (intro w9 hSw; (try dsimp only at hSw); go_simp; done) | (intro w9 hSw; (try dsimp only at hSw); go_simp; with_reducible rfl) | (intro w9 hSw; (try dsimp only at hSw); go_simp; rw [if_neg (by omega)])
 try simp only [Act.put, List.getElem_toArray, List.getElem_cons_zero, List.getElem_cons_succ, List.setIfInBounds_toArray, List.set_cons_zero, List.set_cons_succ]
 refine wpAnyH_take (i := 11) (v := ?_) rfl (by kernel_rfl) (by kernel_rfl) (by kernel_rfl) (fun _ _ _ h => h) (Or.inl ⟨by rfl, ?_⟩) hHeld ?_
 rotate_left
 · first | (intro w9 hSw; (try dsimp only at hSw); go_simp; done) | (intro w9 hSw; (try dsimp only at hSw); go_simp; with_reducible rfl) | (intro w9 hSw; (try dsimp only at hSw); go_simp; rw [if_neg (by omega)])
 try simp only [Act.put, List.getElem_toArray, List.getElem_cons_zero, List.getElem_cons_succ, List.setIfInBounds_toArray, List.set_cons_zero, List.set_cons_succ]
 refine wpAnyH_take (i := 12) (v := ?_) rfl (by kernel_rfl) (by kernel_rfl) (by kernel_rfl) (fun _ _ _ h => h) (Or.inl ⟨by rfl, ?_⟩) hHeld ?_
 rotate_left
 · first | (intro w9 hSw; (try dsimp only at hSw); go_simp; done) | (intro w9 hSw; (try dsimp only at hSw); go_simp; with_reducible rfl) | (intro w9 hSw; (try dsimp only at hSw); go_simp; rw [if_neg (by omega)])
 try simp only [Act.put, List.getElem_toArray, List.getElem_cons_zero, List.getElem_cons_succ, List.setIfInBounds_toArray, List.set_cons_zero, List.set_cons_succ]
 refine wpAnyH_take (i := 13) (v := ?_) rfl (by kernel_rfl) (by kernel_rfl) (by kernel_rfl) (fun _ _ _ h => h) (Or.inl ⟨by rfl, ?_⟩) hHeld ?_
 rotate_left
 · first | (intro w9 hSw; (try dsimp only at hSw); go_simp; done) | (intro w9 hSw; (try dsimp only at hSw); go_simp; with_reducible rfl) | (intro w9 hSw; (try dsimp only at hSw); go_simp; rw [if_neg (by omega)])
 try simp only [Act.put, List.getElem_toArray, List.getElem_cons_zero, List.getElem_cons_succ, List.setIfInBounds_toArray, List.set_cons_zero, List.set_cons_succ]
 refine wpAnyH_take (i := 14) (v := ?_) rfl (by kernel_rfl) (by kernel_rfl) (by kernel_rfl) (fun _ _ _ h => h) (Or.inl ⟨by rfl, ?_⟩) hHeld ?_
 rotate_left
 · first | (intro w9 hSw; (try dsimp only at hSw); go_simp; done) | (intro w9 hSw; (try dsimp only at hSw); go_simp; with_reducible rfl) | (intro w9 hSw; (try dsimp only at hSw); go_simp; rw [if_neg (by omega)])
 try simp only [Act.put, List.getElem_toArray, List.getElem_cons_zero, List.getElem_cons_succ, List.setIfInBounds_toArray, List.set_cons_zero, List.set_cons_succ]
 refine wpAnyH_ready (rs := [1]) (by kernel_rfl) (by simp) ?_
 refine AllReadyH.cons rfl (fun K hK => ?_) ?_
 · go_simp
   refine Calls.mono HXA.out ?_
   rintro e w3 ⟨Z1, rfl, z1, H3, p3, q3⟩
   go_wp2_with fail
   refine hK.out _ _ ⟨p3, q3⟩ (fun hHeld2 => ?_)
   clear hK K hHeld
   have hHeld := hHeld2
   clear hHeld2
   try simp only [Act.put, List.getElem_toArray, List.getElem_cons_zero, List.getElem_cons_succ, List.setIfInBounds_toArray, List.set_cons_zero, List.set_cons_succ]
   refine wpAnyH_take (i := 2) (v := ?_) rfl (by kernel_rfl) (by kernel_rfl) (by kernel_rfl) (fun _ _ _ h => h) (Or.inl ⟨by rfl, ?_⟩) hHeld ?_
   rotate_left
   · first | (intro w9 hSw; (try dsimp only at hSw); go_simp; done) | (intro w9 hSw; (try dsimp only at hSw); go_simp; with_reducible rfl) | (intro w9 hSw; (try dsimp only at hSw); go_simp; rw [if_neg (by omega)])
   try simp only [Act.put, List.getElem_toArray, List.getElem_cons_zero, List.getElem_cons_succ, List.setIfInBounds_toArray, List.set_cons_zero, List.set_cons_succ]
   refine wpAnyH_take (i := 3) (v := ?_) rfl (by kernel_rfl) (by kernel_rfl) (by kernel_rfl) (fun _ _ _ h => h) (Or.inl ⟨by rfl, ?_⟩) hHeld ?_
   rotate_left
   · first | (intro w9 hSw; (try dsimp only at hSw); go_simp; done) | (intro w9 hSw; (try dsimp only at hSw); go_simp; with_reducible rfl) | (intro w9 hSw; (try dsimp only at hSw); go_simp; rw [if_neg (by omega)])
   try simp only [Act.put, List.getElem_toArray, List.getElem_cons_zero, List.getElem_cons_succ, List.setIfInBounds_toArray, List.set_cons_zero, List.set_cons_succ]
   refine wpAnyH_ready (rs := [8]) (by kernel_rfl) (by simp) ?_
   refine AllReadyH.cons rfl (fun K hK => ?_) ?_
   · go_simp
     first | with_reducible refine Calls.mono (HST.out 0 w3 (by decide) (by obtain ⟨_, i3, _, _, h1, h2, h3⟩ := H3.out; exact ⟨i3, h1, by omega, h3⟩) p3 q3 _ HD1.out) ?_ | with_reducible refine Calls.mono (HST.out 0 w3 (by decide) (by obtain ⟨_, i3, _, _, h1, h2, h3⟩ := H3.out; exact ⟨i3, h1, by omega, h3⟩) p3 q3 _ HD2.out) ?_
     rintro e w4 ⟨Z2, rfl, z2, H4, p4, q4⟩
     go_wp2_with fail
     refine hK.out _ _ ⟨p4, q4⟩ (fun hHeld2 => ?_)
     clear hK K hHeld
     have hHeld := hHeld2
     clear hHeld2
     try simp only [Act.put, List.getElem_toArray, List.getElem_cons_zero, List.getElem_cons_succ, List.setIfInBounds_toArray, List.set_cons_zero, List.set_cons_succ]
     refine wpAnyH_take (i := 9) (v := ?_) rfl (by kernel_rfl) (by kernel_rfl) (by kernel_rfl) (fun _ _ _ h => h) (Or.inl ⟨by rfl, ?_⟩) hHeld ?_
     rotate_left
     · first | (intro w9 hSw; (try dsimp only at hSw); go_simp; done) | (intro w9 hSw; (try dsimp only at hSw); go_simp; with_reducible rfl) | (intro w9 hSw; (try dsimp only at hSw); go_simp; rw [if_neg (by omega)])
     try simp only [Act.put, List.getElem_toArray, List.getElem_cons_zero, List.getElem_cons_succ, List.setIfInBounds_toArray, List.set_cons_zero, List.set_cons_succ]
     refine wpAnyH_take (i := 10) (v := ?_) rfl (by kernel_rfl) (by kernel_rfl) (by kernel_rfl) (fun _ _ _ h => h) (Or.inl ⟨by rfl, ?_⟩) hHeld ?_
     rotate_left
     · first | (intro w9 hSw; (try dsimp only at hSw); go_simp; done) | (intro w9 hSw; (try dsimp only at hSw); go_simp; with_reducible rfl) | (intro w9 hSw; (try dsimp only at hSw); go_simp; rw [if_neg (by omega)])
     try simp only [Act.put, List.getElem_toArray, List.getElem_cons_zero, List.getElem_cons_succ, List.setIfInBounds_toArray, List.set_cons_zero, List.set_cons_succ]
     refine wpAnyH_ready (rs := [15]) (by kernel_rfl) (by simp) ?_
     refine AllReadyH.cons rfl (fun K hK => ?_) ?_
     · go_simp
       first | with_reducible refine Calls.mono (HST.out 1 w4 (by decide) H4.out.2 p4 q4 _ HD1.out) ?_ | with_reducible refine Calls.mono (HST.out 1 w4 (by decide) H4.out.2 p4 q4 _ HD2.out) ?_
       rintro e w5 ⟨Z3, rfl, z3, H5, p5, q5⟩
       go_wp2_with fail
       refine hK.out _ _ ⟨p5, q5⟩ (fun hHeld2 => ?_)
       clear hK K hHeld
       have hHeld := hHeld2
       clear hHeld2
       try simp only [Act.put, List.getElem_toArray, List.getElem_cons_zero, List.getElem_cons_succ, List.setIfInBounds_toArray, List.set_cons_zero, List.set_cons_succ]
       refine wpAnyH_take (i := 16) (v := ?_) rfl (by kernel_rfl) (by kernel_rfl) (by kernel_rfl) (fun _ _ _ h => h) (Or.inl ⟨by rfl, ?_⟩) hHeld ?_
       rotate_left
       · first | (intro w9 hSw; (try dsimp only at hSw); go_simp; done) | (intro w9 hSw; (try dsimp only at hSw); go_simp; with_reducible rfl) | (intro w9 hSw; (try dsimp only at hSw); go_simp; rw [if_neg (by omega)])
       try simp only [Act.put, List.getElem_toArray, List.getElem_cons_zero, List.getElem_cons_succ, List.setIfInBounds_toArray, List.set_cons_zero, List.set_cons_succ]
       refine wpAnyH_take (i := 17) (v := ?_) rfl (by kernel_rfl) (by kernel_rfl) (by kernel_rfl) (fun _ _ _ h => h) (Or.inl ⟨by rfl, ?_⟩) hHeld ?_
       rotate_left
       · first | (intro w9 hSw; (try dsimp only at hSw); go_simp; done) | (intro w9 hSw; (try dsimp only at hSw); go_simp; with_reducible rfl) | (intro w9 hSw; (try dsimp only at hSw); go_simp; rw [if_neg (by omega)])
       try simp only [Act.put, List.getElem_toArray, List.getElem_cons_zero, List.getElem_cons_succ, List.setIfInBounds_toArray, List.set_cons_zero, List.set_cons_succ]
       refine wpAnyH_take (i := 18) (v := ?_) rfl (by kernel_rfl) (by kernel_rfl) (by kernel_rfl) (fun _ _ _ h => h) (Or.inl ⟨by rfl, ?_⟩) hHeld ?_
       rotate_left
       · first | (intro w9 hSw; (try dsimp only at hSw); go_simp; done) | (intro w9 hSw; (try dsimp only at hSw); go_simp; with_reducible rfl) | (intro w9 hSw; (try dsimp only at hSw); go_simp; rw [if_neg (by omega)])
       try simp only [Act.put, List.getElem_toArray, List.getElem_cons_zero, List.getElem_cons_succ, List.setIfInBounds_toArray, List.set_cons_zero, List.set_cons_succ]
       refine wpAnyH_done (by kernel_rfl) ?_ _
       go_wp2_with fail
       go_ret
       exact HF.out _ _ _ _ _ _ H3.out H4.out H5.out
     exact AllReadyH.nil
   exact AllReadyH.nil
 exact AllReadyH.nil
end Go.Proofs.YtfbpkbochhfnhaaGreatDoor
namespace Go.Proofs.YtfbpkbochhfnhaaGreatDoor
open Go.ChangeShapes Go.WideShapes Go.ChangeAt Go.RowKit Go.Joins
set_option linter.unusedVariables false
set_option maxRecDepth 100000
set_option maxHeartbeats 4000000 in
theorem st_loop {d c : Nat} (hX1 : MkE 1 16) (hX2 : MkE 2 64) (hS : MkS 0 200) (hc : 200 ≤ c) (r : Nat) (l : List Rw) (i : Nat) (b : Bool) (w : World) (hM : Mk r w l i) (hi : i + (2 * c + 65) ≤ 1000000) (hd : d ≤ 10)
 (hk : 19 < pickR (nextR l i).kind 22) :
 Calls Tryz.prog 32 #[.pointer (some ⟨r, 0, none⟩), .int .i64 ((d + 1 : Nat) : Int), .bool b] w (MkOut (GS (d + 1) b) (2 * c + 65) r l i w) := by
 obtain ⟨D, hD⟩ : ∃ D : Int, D = ((d + 1 : Nat) : Int) := ⟨_, rfl⟩
 obtain ⟨x, hx⟩ : ∃ x, x = nextR l i := ⟨_, rfl⟩
 obtain ⟨W, hW⟩ : ∃ W, W = ((w.alloc (.cells #[.pointer (some ⟨r, 0, none⟩)] 40)).alloc (.cells #[.bool b] 4)) := ⟨_, rfl⟩
 have HMW : Hid (Mk r W l i) := by rw [hW]; exact (hM.alloc _).alloc _
 have HBW : Hid (But r r w W) := by rw [hW]; exact ((But.refl _ _ _).alloc _).alloc _
 have HBO : Hid (Bc r w.heap.size (w.heap.size + 1) b W) := by rw [hW]; exact Bc.new hM.lt _ _
 have HDR : Hid _ := draw_c r l i W HMW.out (by omega)
 have HOK : Hid (x.ok) := by rw [hx]; exact hM.ok i
 have d1 : ¬ D ≤ 0 := by omega
 have HWW : Hid (W = _) := hW
 rw [← hD]
 rw [← hx] at hk HDR
 have HIC : Hid (i + (2 * c + 65) ≤ 1000000 ∧ 200 ≤ c) := ⟨hi, hc⟩
 have HDD : Hid (D = _) := hD
 obtain ⟨xk, xa, xb, xc⟩ := x
 simp only at hk
 obtain ⟨K, hK⟩ : ∃ K : Int, K = ((pickR xk 22 : Nat) : Int) := ⟨_, rfl⟩
 have HPK : Hid (∀ W : World, Calls Tryz.prog 8 #[.int .i64 xk, .int .i64 22] W fun e w' => e = .returned (.int .i64 K) ∧ w' = W) := fun W => by
  have h := picked_x xk 22 W HOK.out.1 (by decide) (by decide)
  rw [hK]
  exact h
 have kf0 : ¬ K < 4 := by first | omega | (simp only [beq_eq_false_iff_ne, ne_eq]; omega)
 have kf1 : ¬ K < 6 := by first | omega | (simp only [beq_eq_false_iff_ne, ne_eq]; omega)
 have kf2 : ¬ K < 10 := by first | omega | (simp only [beq_eq_false_iff_ne, ne_eq]; omega)
 have kf3 : (K == 10) = false := by first | omega | (simp only [beq_eq_false_iff_ne, ne_eq]; omega)
 have kf4 : (K == 11) = false := by first | omega | (simp only [beq_eq_false_iff_ne, ne_eq]; omega)
 have kf5 : (K == 12) = false := by first | omega | (simp only [beq_eq_false_iff_ne, ne_eq]; omega)
 have kf6 : ¬ K < 17 := by first | omega | (simp only [beq_eq_false_iff_ne, ne_eq]; omega)
 have kf7 : ¬ K < 20 := by first | omega | (simp only [beq_eq_false_iff_ne, ne_eq]; omega)
 clear hK
 obtain ⟨JV, hJV⟩ : ∃ J : Nat, J = pickR xa 3 := ⟨_, rfl⟩
 have hJV2 : JV < 3 := by rw [hJV]; exact pickR_lt _ (by decide)
 have HPV : Hid (∀ W : World, Calls Tryz.prog 8 #[.int .i64 xa, .int .i64 3] W fun e w' => e = .returned (.int .i64 (JV : Int)) ∧ w' = W) := fun W => by
  have h := picked_x xa 3 W HOK.out.2.1 (by decide) (by decide)
  rw [hJV]
  exact h
 obtain ⟨VB, hVB⟩ : ∃ VB : ByteArray, (∃ v, VB = bs v ∧ v ∈ varsL) ∧ ∀ h : JV < ([.string ⟨#[120]⟩, .string ⟨#[121]⟩, .string ⟨#[122]⟩] : List Value).length, ([.string ⟨#[120]⟩, .string ⟨#[121]⟩, .string ⟨#[122]⟩] : List Value)[JV]'h = .string VB := by
  have h : JV = 0 ∨ JV = 1 ∨ JV = 2 := by omega
  clear HPV hJV hJV2
  rcases h with rfl | rfl | rfl
  · exact ⟨_, ⟨[120], rfl, by decide⟩, fun _ => rfl⟩
  · exact ⟨_, ⟨[121], rfl, by decide⟩, fun _ => rfl⟩
  · exact ⟨_, ⟨[122], rfl, by decide⟩, fun _ => rfl⟩
 have ev := hVB.2
 have HVB : Hid (∃ v, VB = bs v ∧ v ∈ varsL) := hVB.1
 have zv : VB.size ≤ 4 := by obtain ⟨v, rfl, hv⟩ := hVB.1; rw [bs_size]; exact vars_len hv
 have jv0 : (0 : Int) ≤ (JV : Int) := by omega
 have jv1 : (JV : Int) < 3 := by omega
 obtain ⟨J, hJ⟩ : ∃ J : Nat, J = pickR xb 4 := ⟨_, rfl⟩
 have hJ2 : J < 4 := by rw [hJ]; exact pickR_lt _ (by decide)
 have HPJ : Hid (∀ W : World, Calls Tryz.prog 8 #[.int .i64 xb, .int .i64 4] W fun e w' => e = .returned (.int .i64 (J : Int)) ∧ w' = W) := fun W => by
  have h := picked_x xb 4 W HOK.out.2.2.1 (by decide) (by decide)
  rw [hJ]
  exact h
 have cJ0 : (-9223372036854775808 : Int) ≤ 1 + (J : Int) := by omega
 have cJ1 : 1 + (J : Int) ≤ 9223372036854775807 := by omega
 clear hJ
 clear hk hx hi hc hW hM hD hJV hVB
 go_enter Tryz.func32, Tryz.ntmps32
 go_wp2_with fail
 rw [← HWW.out]
 refine Calls.mono HDR.out ?_
 rintro e w1 ⟨rfl, hM1, hb1⟩
 obtain ⟨p, hp⟩ : ∃ p, p = w.heap.size := ⟨_, rfl⟩
 obtain ⟨q, hq⟩ : ∃ p, p = w.heap.size + 1 := ⟨_, rfl⟩
 have HBO1 := HBO.out.but hb1
 rw [← hq, ← hp] at HBO1 ⊢
 obtain ⟨u, hu⟩ : ∃ p, p = w1.heap.size := ⟨_, rfl⟩
 obtain ⟨W2, hW2⟩ : ∃ W2, W2 = (w1.alloc (.cells #[.int .i64 xk, .int .i64 xa, .int .i64 xb, .int .i64 xc] 44)).alloc (.cells #[.string ⟨#[120]⟩, .string ⟨#[121]⟩, .string ⟨#[122]⟩] 9) := ⟨_, rfl⟩
 have HM2 : Hid (Mk r W2 l (i + 1)) := by rw [hW2]; exact (hM1.alloc _).alloc _
 have HB2 : Hid (But r r w W2) := by rw [hW2]; exact ((HBW.out.trans hb1).alloc _).alloc _
 have HBS2 : Hid (Bs r p q w1.heap.size b ⟨xk, xa, xb, xc⟩ W2) := by rw [hW2]; exact Bs.new ⟨xk, xa, xb, xc⟩ HBO1 hM1.lt _ _ _
 rw [← hu] at HBS2
 have HUV : Hid (u = _) := hu
 have HWW2 : Hid (W2 = _) := hW2
 clear hM1 hb1 HDR HBO HBW HMW HWW hp hq hu hW2 HBO1
 unfold rwV
 go_wp2_with fail
 refine Calls.mono (HPV.out _) ?_
 rintro e w2 ⟨rfl, hw2⟩
 rw [hw2]
 clear hw2 w2 HPV
 go_wp2_with fail
 rw [← HWW2.out, ← HUV.out]
 clear HWW2 HUV
 obtain ⟨b0, b1, x0, x1, x2, x3, rp, rq, ru⟩ := HBS2.out
 simp only at x0 x1 x2 x3
 refine Calls.mono (HPK.out W2) ?_
 rintro e w2 ⟨rfl, hw2⟩
 rw [hw2]
 clear hw2 w2 HPK
 obtain ⟨TB, hTB⟩ : ∃ T, T = bs (digs (J + 1)) := ⟨_, rfl⟩
 have zb : TB.size ≤ 2 := by rw [hTB, bs_size]; exact digs_len (by omega)
 have HPW : Hid (Pow W2) := HM2.out.pw.elim fun _ h => h.2.2
 have HIA : Hid (∀ Jm : Int, Jm = ((J + 1 : Nat) : Int) → Calls Tryz.prog 33 #[.int .i64 Jm] W2.drew fun e w3 => e = .returned (.string TB) ∧ Hid (Below W2.heap.size W2 w3) ∧ w3.cell? ⟨u, 2, none⟩ = some (.int .i64 xb) ∧ w3.cell? ⟨p, 0, none⟩ = some (.pointer (some ⟨r, 0, none⟩)) ∧ w3.cell? ⟨q, 0, none⟩ = some (.bool b)) := by
  intro Jm hJm
  rw [hJm]
  refine (Tryz.strconv_Itoa ((J + 1 : Nat) : Int) (by omega) (by omega) W2.drew (HPW.out.stays (below_drew _))).mono ?_
  rintro e w3 ⟨rfl, hg⟩
  have hb : Below W2.heap.size W2 w3 := bl_trans (below_drew W2) (below_grown_k hg)
  have hB := HBS2.out.below hb
  exact ⟨by rw [hTB]; rfl, hb, hB.x2, hB.c0, hB.c1⟩
 have HJ1 : Hid (1 + (J : Int) = ((J + 1 : Nat) : Int)) := by unfold Hid; omega
 have HJ2 : Hid (IntKind.i64.wrap (1 + (J : Int)) = ((J + 1 : Nat) : Int)) := by unfold Hid; rw [IntKind.wrap_i64]; omega
 have HST : Hid (∀ w3, Below W2.heap.size W2 w3 → Calls Tryz.prog 32 #[.pointer (some ⟨r, 0, none⟩), .int .i64 0, .bool b] w3 fun e w4 => ∃ Z2, e = .returned (.string Z2) ∧ Z2.size ≤ 1000000000 ∧ Hid (MkOut (GS (d + 1) b) (2 * c + 65) r l i w (.returned (.string (⟨#[122, 32, 61, 32, 48, 59, 32, 119, 104, 105, 108, 101, 32, 40, 122, 32, 60, 32]⟩ ++ TB ++ ⟨#[41, 32, 123, 32, 122, 32, 61, 32, 122, 32, 43, 32, 49, 59, 32]⟩ ++ Z2 ++ ⟨#[32, 125]⟩))) w4) ∧ w4.cell? ⟨u, 2, none⟩ = some (.int .i64 xb) ∧ w4.cell? ⟨p, 0, none⟩ = some (.pointer (some ⟨r, 0, none⟩)) ∧ w4.cell? ⟨q, 0, none⟩ = some (.bool b)) := by
  intro w3 hb
  have hB := HBS2.out.below hb
  refine (show Calls Tryz.prog 32 #[.pointer (some ⟨r, 0, none⟩), .int .i64 0, .bool b] w3 (MkOut (GS 0 b) 200 r l (i + 1) w3) from hS r l (i + 1) b w3 (HM2.out.below hb) (by obtain ⟨h1, h2⟩ := HIC.out; omega)).mono ?_
  rintro e w4 ⟨s2, i4, rfl, hG2, hM4, hi4, hb4⟩
  have hB4 := hB.but hb4
  exact ⟨_, rfl, by rw [bs_size]; exact hG2.short10 (by decide), ⟨[122, 32, 61, 32, 48, 59, 32, 119, 104, 105, 108, 101, 32, 40, 122, 32, 60, 32] ++ digs (J + 1) ++ [41, 32, 123, 32, 122, 32, 61, 32, 122, 32, 43, 32, 49, 59, 32] ++ s2 ++ [32, 125], i4, by rw [hTB]; simp only [← bs_app]; rfl, GS.loop (by omega) (by omega) hG2, hM4, by obtain ⟨h1, h2⟩ := HIC.out; omega, (HB2.out.more hb).trans hb4⟩, hB4.x2, hB4.c0, hB4.c1⟩
 have HS0 : Hid (W2.drew.cell? ⟨u, 2, none⟩ = some (.int .i64 xb) ∧ W2.drew.cell? ⟨p, 0, none⟩ = some (.pointer (some ⟨r, 0, none⟩)) ∧ W2.drew.cell? ⟨q, 0, none⟩ = some (.bool b)) := ⟨HBS2.out.x2, HBS2.out.c0, HBS2.out.c1⟩
 clear HM2 HB2 HBS2 x0 x1 x2 x3 rp rq ru hX1 hX2 hS HIC HOK HDD hd HVB HPW hTB
 go_wp2_with fail
 refine wp_region_held_drew (S := fun w9 => w9.cell? ⟨u, 2, none⟩ = some (.int .i64 xb) ∧ w9.cell? ⟨p, 0, none⟩ = some (.pointer (some ⟨r, 0, none⟩)) ∧ w9.cell? ⟨q, 0, none⟩ = some (.bool b)) (by kernel_rfl) HS0.out (fun hHeld => ?_)
 refine wpAnyH_take (i := 0) (v := ?_) rfl (by kernel_rfl) (by kernel_rfl) (by kernel_rfl) (fun _ _ _ h => h) (Or.inl ⟨by rfl, ?_⟩) hHeld ?_
 rotate_left
 · first | (intro w9 hSw; (try dsimp only at hSw); go_simp; done) | (intro w9 hSw; (try dsimp only at hSw); go_simp; with_reducible rfl) | (intro w9 hSw; (try dsimp only at hSw); go_simp; rw [if_neg (by omega)])
 try simp only [Act.put, List.getElem_toArray, List.getElem_cons_zero, List.setIfInBounds_toArray, List.set_cons_zero, List.set_cons_succ]
 refine wpAnyH_take (i := 1) (v := ?_) rfl (by kernel_rfl) (by kernel_rfl) (by kernel_rfl) (fun _ _ _ h => h) (Or.inl ⟨by rfl, ?_⟩) hHeld ?_
 rotate_left
 · first | (intro w9 hSw; (try dsimp only at hSw); go_simp; done) | (intro w9 hSw; (try dsimp only at hSw); go_simp; with_reducible rfl) | (intro w9 hSw; (try dsimp only at hSw); go_simp; rw [if_neg (by omega)])
 try simp only [Act.put, List.getElem_toArray, List.getElem_cons_zero, List.getElem_cons_succ, List.setIfInBounds_toArray, List.set_cons_zero, List.set_cons_succ]
 refine wpAnyH_take (i := 7) (v := ?_) rfl (by kernel_rfl) (by kernel_rfl) (by kernel_rfl) (fun _ _ _ h => h) (Or.inl ⟨by rfl, ?_⟩) hHeld ?_
 rotate_left
 · first | (intro w9 hSw; (try dsimp only at hSw); go_simp; done) | (intro w9 hSw; (try dsimp only at hSw); go_simp; with_reducible rfl) | (intro w9 hSw; (try dsimp only at hSw); go_simp; rw [if_neg (by omega)])
 try simp only [Act.put, List.getElem_toArray, List.getElem_cons_zero, List.getElem_cons_succ, List.setIfInBounds_toArray, List.set_cons_zero, List.set_cons_succ]
 refine wpAnyH_take (i := 8) (v := ?_) rfl (by kernel_rfl) (by kernel_rfl) (by kernel_rfl) (fun _ _ _ h => h) (Or.inl ⟨by rfl, ?_⟩) hHeld ?_
 rotate_left
 · first | (intro w9 hSw; (try dsimp only at hSw); go_simp; done) | (intro w9 hSw; (try dsimp only at hSw); go_simp; with_reducible rfl) | (intro w9 hSw; (try dsimp only at hSw); go_simp; rw [if_neg (by omega)])
 try simp only [Act.put, List.getElem_toArray, List.getElem_cons_zero, List.getElem_cons_succ, List.setIfInBounds_toArray, List.set_cons_zero, List.set_cons_succ]
 refine wpAnyH_ready (rs := [2]) (by kernel_rfl) (by simp) ?_
 refine AllReadyH.cons rfl (fun K hK => ?_) ?_
 · go_simp
   refine Calls.mono (HPJ.out _) ?_
   rintro e w2 ⟨rfl, hw2⟩
   rw [hw2]
   clear hw2 w2
   go_wp2_with fail
   refine hK.out _ _ hHeld (fun hHeld2 => ?_)
   clear hK K hHeld
   have hHeld := hHeld2
   clear hHeld2
   try simp only [Act.put, List.getElem_toArray, List.getElem_cons_zero, List.getElem_cons_succ, List.setIfInBounds_toArray, List.set_cons_zero, List.set_cons_succ]
   refine wpAnyH_take (i := 3) (v := ?_) rfl (by kernel_rfl) (by kernel_rfl) (by kernel_rfl) (fun _ _ _ h => h) (Or.inl ⟨by rfl, ?_⟩) hHeld ?_
   rotate_left
   · first | (intro w9 hSw; (try dsimp only at hSw); go_simp; done) | (intro w9 hSw; (try dsimp only at hSw); go_simp; with_reducible rfl) | (intro w9 hSw; (try dsimp only at hSw); go_simp; rw [if_neg (by omega)])
   try simp only [Act.put, List.getElem_toArray, List.getElem_cons_zero, List.getElem_cons_succ, List.setIfInBounds_toArray, List.set_cons_zero, List.set_cons_succ]
   refine wpAnyH_ready (rs := [4]) (by kernel_rfl) (by simp) ?_
   refine AllReadyH.cons rfl (fun K hK => ?_) ?_
   · go_simp
     first | with_reducible refine Calls.mono (HIA.out _ HJ1.out) ?_ | with_reducible refine Calls.mono (HIA.out _ HJ2.out) ?_
     rintro e w3 ⟨rfl, H3, u3, p3, q3⟩
     go_wp2_with fail
     refine hK.out _ _ ⟨u3, p3, q3⟩ (fun hHeld2 => ?_)
     clear hK K hHeld
     have hHeld := hHeld2
     clear hHeld2
     try simp only [Act.put, List.getElem_toArray, List.getElem_cons_zero, List.getElem_cons_succ, List.setIfInBounds_toArray, List.set_cons_zero, List.set_cons_succ]
     refine wpAnyH_take (i := 5) (v := ?_) rfl (by kernel_rfl) (by kernel_rfl) (by kernel_rfl) (fun _ _ _ h => h) (Or.inl ⟨by rfl, ?_⟩) hHeld ?_
     rotate_left
     · first | (intro w9 hSw; (try dsimp only at hSw); go_simp; done) | (intro w9 hSw; (try dsimp only at hSw); go_simp; with_reducible rfl) | (intro w9 hSw; (try dsimp only at hSw); go_simp; rw [if_neg (by omega)])
     try simp only [Act.put, List.getElem_toArray, List.getElem_cons_zero, List.getElem_cons_succ, List.setIfInBounds_toArray, List.set_cons_zero, List.set_cons_succ]
     refine wpAnyH_take (i := 6) (v := ?_) rfl (by kernel_rfl) (by kernel_rfl) (by kernel_rfl) (fun _ _ _ h => h) (Or.inl ⟨by rfl, ?_⟩) hHeld ?_
     rotate_left
     · first | (intro w9 hSw; (try dsimp only at hSw); go_simp; done) | (intro w9 hSw; (try dsimp only at hSw); go_simp; with_reducible rfl) | (intro w9 hSw; (try dsimp only at hSw); go_simp; rw [if_neg (by omega)])
     try simp only [Act.put, List.getElem_toArray, List.getElem_cons_zero, List.getElem_cons_succ, List.setIfInBounds_toArray, List.set_cons_zero, List.set_cons_succ]
     refine wpAnyH_ready (rs := [9]) (by kernel_rfl) (by simp) ?_
     refine AllReadyH.cons rfl (fun K hK => ?_) ?_
     · go_simp
       refine Calls.mono (HST.out w3 H3.out) ?_
       rintro e w4 ⟨Z2, rfl, z2, H4, u4, p4, q4⟩
       go_wp2_with fail
       refine hK.out _ _ ⟨u4, p4, q4⟩ (fun hHeld2 => ?_)
       clear hK K hHeld
       have hHeld := hHeld2
       clear hHeld2
       try simp only [Act.put, List.getElem_toArray, List.getElem_cons_zero, List.getElem_cons_succ, List.setIfInBounds_toArray, List.set_cons_zero, List.set_cons_succ]
       refine wpAnyH_take (i := 10) (v := ?_) rfl (by kernel_rfl) (by kernel_rfl) (by kernel_rfl) (fun _ _ _ h => h) (Or.inl ⟨by rfl, ?_⟩) hHeld ?_
       rotate_left
       · first | (intro w9 hSw; (try dsimp only at hSw); go_simp; done) | (intro w9 hSw; (try dsimp only at hSw); go_simp; with_reducible rfl) | (intro w9 hSw; (try dsimp only at hSw); go_simp; rw [if_neg (by omega)])
       try simp only [Act.put, List.getElem_toArray, List.getElem_cons_zero, List.getElem_cons_succ, List.setIfInBounds_toArray, List.set_cons_zero, List.set_cons_succ]
       refine wpAnyH_take (i := 11) (v := ?_) rfl (by kernel_rfl) (by kernel_rfl) (by kernel_rfl) (fun _ _ _ h => h) (Or.inl ⟨by rfl, ?_⟩) hHeld ?_
       rotate_left
       · first | (intro w9 hSw; (try dsimp only at hSw); go_simp; done) | (intro w9 hSw; (try dsimp only at hSw); go_simp; with_reducible rfl) | (intro w9 hSw; (try dsimp only at hSw); go_simp; rw [if_neg (by omega)])
       try simp only [Act.put, List.getElem_toArray, List.getElem_cons_zero, List.getElem_cons_succ, List.setIfInBounds_toArray, List.set_cons_zero, List.set_cons_succ]
       refine wpAnyH_take (i := 12) (v := ?_) rfl (by kernel_rfl) (by kernel_rfl) (by kernel_rfl) (fun _ _ _ h => h) (Or.inl ⟨by rfl, ?_⟩) hHeld ?_
       rotate_left
       · first | (intro w9 hSw; (try dsimp only at hSw); go_simp; done) | (intro w9 hSw; (try dsimp only at hSw); go_simp; with_reducible rfl) | (intro w9 hSw; (try dsimp only at hSw); go_simp; rw [if_neg (by omega)])
       try simp only [Act.put, List.getElem_toArray, List.getElem_cons_zero, List.getElem_cons_succ, List.setIfInBounds_toArray, List.set_cons_zero, List.set_cons_succ]
       refine wpAnyH_done (by kernel_rfl) ?_ _
       go_wp2_with fail
       go_ret
       exact H4.out
     exact AllReadyH.nil
   exact AllReadyH.nil
 exact AllReadyH.nil
end Go.Proofs.YtfbpkbochhfnhaaGreatDoor
