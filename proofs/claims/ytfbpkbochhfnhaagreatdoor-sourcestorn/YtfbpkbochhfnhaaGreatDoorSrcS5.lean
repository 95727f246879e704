/-
  The maker's statements, kind by kind.
-/
import Derived.Test.YtfbpkbochhfnhaaGreatDoorSrcX0
import Derived.Deep.RegionHeld3
namespace Go.Proofs.YtfbpkbochhfnhaaGreatDoor
open Go.ChangeShapes Go.WideShapes Go.ChangeAt Go.RowKit Go.Joins
set_option linter.unusedVariables false
set_option maxRecDepth 100000
set_option maxHeartbeats 16000000 in
theorem st_each {d c : Nat} (hX1 : MkE 1 16) (hX2 : MkE 2 64) (hS : MkS d c) (hc : 200 ≤ c) (r : Nat) (l : List Rw) (i : Nat) (b : Bool) (w : World) (hM : Mk r w l i) (hi : i + (2 * c + 65) ≤ 1000000) (hd : d ≤ 10)
 (hk : 16 < pickR (nextR l i).kind 22 ∧ pickR (nextR l i).kind 22 < 20) :
 Calls Tryz.prog 32 #[.pointer (some ⟨r, 0, none⟩), .int .i64 ((d + 1 : Nat) : Int), .bool b] w (MkOut (GS (d + 1) b) (2 * c + 65) r l i w) := by
 obtain ⟨D, hD⟩ : ∃ D : Int, D = ((d + 1 : Nat) : Int) := ⟨_, rfl⟩
 obtain ⟨x, hx⟩ : ∃ x, x = nextR l i := ⟨_, rfl⟩
 obtain ⟨W, hW⟩ : ∃ W, W = ((w.alloc (.cells #[.pointer (some ⟨r, 0, none⟩)] 40)).alloc (.cells #[.bool b] 4)) := ⟨_, rfl⟩
 have HMW : Hid (Mk r W l i) := by rw [hW]; exact (hM.alloc _).alloc _
 have HBW : Hid (But r r w W) := by rw [hW]; exact ((But.refl _ _ _).alloc _).alloc _
 have HBO : Hid (Bc r w.heap.size (w.heap.size + 1) b W) := by rw [hW]; exact Bc.new hM.lt _ _
 have HDR : Hid _ := draw_c r l i W HMW.out (by omega)
 have HOK : Hid (x.ok) := by rw [hx]; exact hM.ok i
 have d1 : ¬ D ≤ 0 := by omega
 have HWW : Hid (W = _) := hW
 rw [← hD]
 rw [← hx] at hk HDR
 have HIC : Hid (i + (2 * c + 65) ≤ 1000000 ∧ 200 ≤ c) := ⟨hi, hc⟩
 have HDD : Hid (D = _) := hD
 obtain ⟨xk, xa, xb, xc⟩ := x
 simp only at hk
 obtain ⟨K, hK⟩ : ∃ K : Int, K = ((pickR xk 22 : Nat) : Int) := ⟨_, rfl⟩
 have HPK : Hid (∀ W : World, Calls Tryz.prog 8 #[.int .i64 xk, .int .i64 22] W fun e w' => e = .returned (.int .i64 K) ∧ w' = W) := fun W => by
  have h := picked_x xk 22 W HOK.out.1 (by decide) (by decide)
  rw [hK]
  exact h
 have kf0 : ¬ K < 4 := by first | omega | (simp only [beq_eq_false_iff_ne, ne_eq]; omega)
 have kf1 : ¬ K < 6 := by first | omega | (simp only [beq_eq_false_iff_ne, ne_eq]; omega)
 have kf2 : ¬ K < 10 := by first | omega | (simp only [beq_eq_false_iff_ne, ne_eq]; omega)
 have kf3 : (K == 10) = false := by first | omega | (simp only [beq_eq_false_iff_ne, ne_eq]; omega)
 have kf4 : (K == 11) = false := by first | omega | (simp only [beq_eq_false_iff_ne, ne_eq]; omega)
 have kf5 : (K == 12) = false := by first | omega | (simp only [beq_eq_false_iff_ne, ne_eq]; omega)
 have kf6 : ¬ K < 17 := by first | omega | (simp only [beq_eq_false_iff_ne, ne_eq]; omega)
 have kf7 : K < 20 := by first | omega | (simp only [beq_eq_false_iff_ne, ne_eq]; omega)
 clear hK
 obtain ⟨JV, hJV⟩ : ∃ J : Nat, J = pickR xa 3 := ⟨_, rfl⟩
 have hJV2 : JV < 3 := by rw [hJV]; exact pickR_lt _ (by decide)
 have HPV : Hid (∀ W : World, Calls Tryz.prog 8 #[.int .i64 xa, .int .i64 3] W fun e w' => e = .returned (.int .i64 (JV : Int)) ∧ w' = W) := fun W => by
  have h := picked_x xa 3 W HOK.out.2.1 (by decide) (by decide)
  rw [hJV]
  exact h
 obtain ⟨VB, hVB⟩ : ∃ VB : ByteArray, (∃ v, VB = bs v ∧ v ∈ varsL) ∧ ∀ h : JV < ([.string ⟨#[120]⟩, .string ⟨#[121]⟩, .string ⟨#[122]⟩] : List Value).length, ([.string ⟨#[120]⟩, .string ⟨#[121]⟩, .string ⟨#[122]⟩] : List Value)[JV]'h = .string VB := by
  have h : JV = 0 ∨ JV = 1 ∨ JV = 2 := by omega
  clear HPV hJV hJV2
  rcases h with rfl | rfl | rfl
  · exact ⟨_, ⟨[120], rfl, by decide⟩, fun _ => rfl⟩
  · exact ⟨_, ⟨[121], rfl, by decide⟩, fun _ => rfl⟩
  · exact ⟨_, ⟨[122], rfl, by decide⟩, fun _ => rfl⟩
 have ev := hVB.2
 have HVB : Hid (∃ v, VB = bs v ∧ v ∈ varsL) := hVB.1
 have zv : VB.size ≤ 4 := by obtain ⟨v, rfl, hv⟩ := hVB.1; rw [bs_size]; exact vars_len hv
 have jv0 : (0 : Int) ≤ (JV : Int) := by omega
 have jv1 : (JV : Int) < 3 := by omega
 obtain ⟨J1, hJ1⟩ : ∃ J : Nat, J = pickR xb 3 := ⟨_, rfl⟩
 have hJ12 : J1 < 3 := by rw [hJ1]; exact pickR_lt _ (by decide)
 have HPJ1 : Hid (∀ W : World, Calls Tryz.prog 8 #[.int .i64 xb, .int .i64 3] W fun e w' => e = .returned (.int .i64 (J1 : Int)) ∧ w' = W) := fun W => by
  have h := picked_x xb 3 W HOK.out.2.2.1 (by decide) (by decide)
  rw [hJ1]
  exact h
 have cJ10 : (-9223372036854775808 : Int) ≤ 1 + (J1 : Int) := by omega
 have cJ11 : 1 + (J1 : Int) ≤ 9223372036854775807 := by omega
 clear hJ1
 obtain ⟨J2, hJ2⟩ : ∃ J : Nat, J = pickR xc 2 := ⟨_, rfl⟩
 have hJ22 : J2 < 2 := by rw [hJ2]; exact pickR_lt _ (by decide)
 have HPJ2 : Hid (∀ W : World, Calls Tryz.prog 8 #[.int .i64 xc, .int .i64 2] W fun e w' => e = .returned (.int .i64 (J2 : Int)) ∧ w' = W) := fun W => by
  have h := picked_x xc 2 W HOK.out.2.2.2 (by decide) (by decide)
  rw [hJ2]
  exact h
 have cJ20 : (-9223372036854775808 : Int) ≤ 1 + (J2 : Int) := by omega
 have cJ21 : 1 + (J2 : Int) ≤ 9223372036854775807 := by omega
 clear hJ2
 clear hk hx hi hc hW hM hD hJV hVB
 go_enter Tryz.func32, Tryz.ntmps32
 go_wp2_with fail
 rw [← HWW.out]
 refine Calls.mono HDR.out ?_
 rintro e w1 ⟨rfl, hM1, hb1⟩
 obtain ⟨p, hp⟩ : ∃ p, p = w.heap.size := ⟨_, rfl⟩
 obtain ⟨q, hq⟩ : ∃ p, p = w.heap.size + 1 := ⟨_, rfl⟩
 have HBO1 := HBO.out.but hb1
 rw [← hq, ← hp] at HBO1 ⊢
 obtain ⟨u, hu⟩ : ∃ p, p = w1.heap.size := ⟨_, rfl⟩
 obtain ⟨W2, hW2⟩ : ∃ W2, W2 = (w1.alloc (.cells #[.int .i64 xk, .int .i64 xa, .int .i64 xb, .int .i64 xc] 44)).alloc (.cells #[.string ⟨#[120]⟩, .string ⟨#[121]⟩, .string ⟨#[122]⟩] 9) := ⟨_, rfl⟩
 have HM2 : Hid (Mk r W2 l (i + 1)) := by rw [hW2]; exact (hM1.alloc _).alloc _
 have HB2 : Hid (But r r w W2) := by rw [hW2]; exact ((HBW.out.trans hb1).alloc _).alloc _
 have HBS2 : Hid (Bs r p q w1.heap.size b ⟨xk, xa, xb, xc⟩ W2) := by rw [hW2]; exact Bs.new ⟨xk, xa, xb, xc⟩ HBO1 hM1.lt _ _ _
 rw [← hu] at HBS2
 have HUV : Hid (u = _) := hu
 have HWW2 : Hid (W2 = _) := hW2
 clear hM1 hb1 HDR HBO HBW HMW HWW hp hq hu hW2 HBO1
 unfold rwV
 go_wp2_with fail
 refine Calls.mono (HPV.out _) ?_
 rintro e w2 ⟨rfl, hw2⟩
 rw [hw2]
 clear hw2 w2 HPV
 go_wp2_with fail
 rw [← HWW2.out, ← HUV.out]
 clear HWW2 HUV
 obtain ⟨b0, b1, x0, x1, x2, x3, rp, rq, ru⟩ := HBS2.out
 simp only at x0 x1 x2 x3
 refine Calls.mono (HPK.out W2) ?_
 rintro e w2 ⟨rfl, hw2⟩
 rw [hw2]
 clear hw2 w2 HPK
 obtain ⟨n0, cn⟩ := HM2.out.cn
 have fn := HM2.out.fn
 go_wp2_with fail
 obtain ⟨X, hX⟩ : ∃ X, X = W2.setCell ⟨r, 2, none⟩ (.int .i64 (wrap64 (n0 + 1))) := ⟨_, rfl⟩
 rw [← hX]
 have HMX : Hid (Mk r X l (i + 1)) := by rw [hX]; exact HM2.out.setn _
 have HBX : Hid (But r r w X) := by rw [hX]; exact HB2.out.set _ _
 have HSX : Hid (Bs r p q u b ⟨xk, xa, xb, xc⟩ X) := by rw [hX]; exact HBS2.out.but ((But.refl _ _ _).set _ _)
 clear hX cn fn HM2 HB2 HBS2 x0 x1 x2 x3
 obtain ⟨O1, hO1⟩ : ∃ O : List UInt8, O ∈ ([[107], [120], [106]] : List (List UInt8)) ∧ ((#[.string ⟨#[107]⟩, .string ⟨#[120]⟩, .string ⟨#[106]⟩]) : Array Value)[J1]? = some (.string (bs O)) := by
  have h : J1 = 0 ∨ J1 = 1 ∨ J1 = 2 := by omega
  clear HPJ1 hJ12 cJ10 cJ11
  rcases h with rfl | rfl | rfl
  · exact ⟨[107], by simp, rfl⟩
  · exact ⟨[120], by simp, rfl⟩
  · exact ⟨[106], by simp, rfl⟩
 obtain ⟨OB1, hOB1⟩ : ∃ OB, OB = bs O1 := ⟨_, rfl⟩
 have o1 : OB1.size ≤ 10 := by
  rw [hOB1, bs_size]
  have h : ∀ v ∈ ([[107], [120], [106]] : List (List UInt8)), v.length ≤ 10 := by decide
  exact h O1 hO1.1
 have e01 := hO1.2
 rw [← hOB1] at e01
 have HO1 : Hid (OB1 = bs O1 ∧ O1 ∈ ([[107], [120], [106]] : List (List UInt8))) := ⟨hOB1, hO1.1⟩
 clear hO1 hOB1
 have j10 : (0 : Int) ≤ (J1 : Int) := by omega
 have j12 : (J1 : Int) < 3 := by omega
 obtain ⟨O2, hO2⟩ : ∃ O : List UInt8, O ∈ ([[97], [98]] : List (List UInt8)) ∧ ((#[.string ⟨#[97]⟩, .string ⟨#[98]⟩]) : Array Value)[J2]? = some (.string (bs O)) := by
  have h : J2 = 0 ∨ J2 = 1 := by omega
  clear HPJ2 hJ22 cJ20 cJ21
  rcases h with rfl | rfl
  · exact ⟨[97], by simp, rfl⟩
  · exact ⟨[98], by simp, rfl⟩
 obtain ⟨OB2, hOB2⟩ : ∃ OB, OB = bs O2 := ⟨_, rfl⟩
 have o2 : OB2.size ≤ 10 := by
  rw [hOB2, bs_size]
  have h : ∀ v ∈ ([[97], [98]] : List (List UInt8)), v.length ≤ 10 := by decide
  exact h O2 hO2.1
 have e02 := hO2.2
 rw [← hOB2] at e02
 have HO2 : Hid (OB2 = bs O2 ∧ O2 ∈ ([[97], [98]] : List (List UInt8))) := ⟨hOB2, hO2.1⟩
 clear hO2 hOB2
 have j20 : (0 : Int) ≤ (J2 : Int) := by omega
 have j22 : (J2 : Int) < 2 := by omega
 have dd0 : (-9223372036854775808 : Int) ≤ D - 1 := by have := HDD.out; omega
 have dd1 : D - 1 ≤ 9223372036854775807 := by have := HDD.out; omega
 have HD1 : Hid (D - 1 = (d : Int)) := by have := HDD.out; unfold Hid; omega
 have HD2 : Hid (IntKind.i64.wrap (D - 1) = (d : Int)) := by unfold Hid; rw [IntKind.wrap_i64]; have := HDD.out; omega
 have ur : u ≠ r := by omega
 have pr : p ≠ r := by omega
 have qr : q ≠ r := by omega
 have g0r : X.heap.size ≠ r := by have := HMX.out.lt; omega
 have g1r : X.heap.size + 1 ≠ r := by have := HMX.out.lt; omega
 have HWf : Hid (∀ W', Below X.heap.size X W' → ∃ i3, Mk r W' l i3 ∧ i3 ≤ i + 1 ∧ But r r w W') := fun W' hb => ⟨i + 1, HMX.out.below hb, Nat.le_refl _, HBX.out.more hb⟩
 have HST : Hid (∀ W, (∃ i3, Mk r W l i3 ∧ i3 ≤ i + 1 ∧ But r r w W) → ∀ Dm : Int, Dm = (d : Int) → Calls Tryz.prog 32 #[.pointer (some ⟨r, 0, none⟩), .int .i64 Dm, .bool b] W fun e w3 => ∃ Z2, e = .returned (.string Z2) ∧ Z2.size ≤ 1000000000 ∧ Hid ((∃ s2, Z2 = bs s2 ∧ GS d b s2) ∧ ∃ i4, Mk r w3 l i4 ∧ i4 ≤ i + 1 + c ∧ But r r w w3) ∧ Hid (But r r W w3) ∧ w3.heap.size ≠ r ∧ w3.heap.size + 1 ≠ r) := by
  intro W ⟨i3, hM3, hi3, hb3⟩ Dm hDm
  rw [hDm]
  refine (hS r l i3 b W hM3 (by obtain ⟨h1, h2⟩ := HIC.out; omega)).mono ?_
  rintro e w3 ⟨s2, i4, rfl, hG2, hM4, hi4, hb4⟩
  have := hM4.lt
  exact ⟨_, rfl, by rw [bs_size]; exact hG2.short10 hd, ⟨⟨s2, rfl, hG2⟩, i4, hM4, by omega, hb3.trans hb4⟩, hb4, by omega, by omega⟩
 have HEX : Hid (∀ W, (∃ i4, Mk r W l i4 ∧ i4 ≤ i + 1 + c ∧ But r r w W) → W.cell? ⟨p, 0, none⟩ = some (.pointer (some ⟨r, 0, none⟩)) → W.cell? ⟨q, 0, none⟩ = some (.bool b) → Calls Tryz.prog 52 #[.int .i64 1, .pointer (some ⟨p, 0, none⟩), .pointer (some ⟨q, 0, none⟩)] W fun e w4 => ∃ Z3, e = .returned (.string Z3) ∧ Z3.size ≤ 100000000 ∧ Hid ((∃ s3, Z3 = bs s3 ∧ GE 1 b s3) ∧ ∃ i5, Mk r w4 l i5 ∧ i5 ≤ i + 17 + c ∧ But r r w w4) ∧ Hid (But r r W w4)) := by
  intro W ⟨i4, hM4, hi4, hb4⟩ c0 c1
  refine (ex_c hX1 (by decide) r p q l i4 b W hM4 (by obtain ⟨h1, h2⟩ := HIC.out; omega) ⟨c0, c1, rp, rq⟩).mono ?_
  rintro e w4 ⟨s3, i5, rfl, hG3, hM5, hi5, hb5⟩
  exact ⟨_, rfl, by rw [bs_size]; exact hG3.short10 (by decide), ⟨⟨s3, rfl, hG3⟩, i5, hM5, by omega, hb4.trans hb5⟩, hb5⟩
 have HF : Hid (∀ Z2 Z3 w3 w4 w', ((∃ s2, Z2 = bs s2 ∧ GS d b s2) ∧ ∃ i4, Mk r w3 l i4 ∧ i4 ≤ i + 1 + c ∧ But r r w w3) → ((∃ s3, Z3 = bs s3 ∧ GE 1 b s3) ∧ ∃ i5, Mk r w4 l i5 ∧ i5 ≤ i + 17 + c ∧ But r r w w4) → Below w4.heap.size w4 w' → MkOut (GS (d + 1) b) (2 * c + 65) r l i w (.returned (.string (⟨#[102, 111, 114, 32, 40]⟩ ++ OB1 ++ ⟨#[32, 105, 110, 32]⟩ ++ OB2 ++ ⟨#[41, 32, 123, 32]⟩ ++ Z2 ++ ⟨#[32, 112, 114, 105, 110, 116, 32]⟩ ++ Z3 ++ ⟨#[59, 32, 125]⟩))) w') := by
  rintro Z2 Z3 w3 w4 w' ⟨⟨s2, rfl, hG2⟩, -⟩ ⟨⟨s3, rfl, hG3⟩, i5, hM5, hi5, hb5⟩ hb
  obtain ⟨ho1, hm1⟩ := HO1.out
  obtain ⟨ho2, hm2⟩ := HO2.out
  exact ⟨[102, 111, 114, 32, 40] ++ O1 ++ [32, 105, 110, 32] ++ O2 ++ [41, 32, 123, 32] ++ s2 ++ [32, 112, 114, 105, 110, 116, 32] ++ s3 ++ [59, 32, 125], i5, by rw [ho1, ho2]; simp only [← bs_app]; rfl, GS.each hm1 hm2 hG2 hG3, hM5.below hb, by obtain ⟨h1, h2⟩ := HIC.out; omega, hb5.more hb⟩
 have HS0 : Hid (X.drew.cell? ⟨u, 2, none⟩ = some (.int .i64 xb) ∧ X.drew.cell? ⟨u, 3, none⟩ = some (.int .i64 xc) ∧ X.drew.cell? ⟨p, 0, none⟩ = some (.pointer (some ⟨r, 0, none⟩)) ∧ X.drew.cell? ⟨q, 0, none⟩ = some (.bool b)) := ⟨HSX.out.x2, HSX.out.x3, HSX.out.c0, HSX.out.c1⟩
 clear HMX HBX HSX rp rq ru hX1 hX2 hS HIC HOK HDD hd HVB HO1 HO2
 refine wp_region_held_drew (S := fun w9 => w9.cell? ⟨u, 2, none⟩ = some (.int .i64 xb) ∧ w9.cell? ⟨u, 3, none⟩ = some (.int .i64 xc) ∧ w9.cell? ⟨p, 0, none⟩ = some (.pointer (some ⟨r, 0, none⟩)) ∧ w9.cell? ⟨q, 0, none⟩ = some (.bool b)) (by kernel_rfl) HS0.out (fun hHeld => ?_)
 refine tk 1 hHeld rfl (v := ?_) ?_ ?_
 rotate_left
 · intro w9 h9; (try dsimp only at h9); go_simp <;> first | with_reducible rfl | rw [if_neg (by omega)]
 try simp only [Act.put, lay]
 refine tk 2 hHeld rfl (v := ?_) ?_ ?_
 rotate_left
 · intro w9 h9; (try dsimp only at h9); go_simp <;> first | with_reducible rfl | rw [if_neg (by omega)]
 try simp only [Act.put, lay]
 refine tk 9 hHeld rfl (v := ?_) ?_ ?_
 rotate_left
 · intro w9 h9; (try dsimp only at h9); go_simp <;> first | with_reducible rfl | rw [if_neg (by omega)]
 try simp only [Act.put, lay]
 refine tk 10 hHeld rfl (v := ?_) ?_ ?_
 rotate_left
 · intro w9 h9; (try dsimp only at h9); go_simp <;> first | with_reducible rfl | rw [if_neg (by omega)]
 try simp only [Act.put, lay]
 refine tk 16 hHeld rfl (v := ?_) ?_ ?_
 rotate_left
 · intro w9 h9; (try dsimp only at h9); go_simp <;> first | with_reducible rfl | rw [if_neg (by omega)]
 try simp only [Act.put, lay]
 refine tk 17 hHeld rfl (v := ?_) ?_ ?_
 rotate_left
 · intro w9 h9; (try dsimp only at h9); go_simp <;> first | with_reducible rfl | rw [if_neg (by omega)]
 try simp only [Act.put, lay]
 refine tk 18 hHeld rfl (v := ?_) ?_ ?_
 rotate_left
 · intro w9 h9; (try dsimp only at h9); go_simp <;> first | with_reducible rfl | rw [if_neg (by omega)]
 try simp only [Act.put, lay]
 refine tk 19 hHeld rfl (v := ?_) ?_ ?_
 rotate_left
 · intro w9 h9; (try dsimp only at h9); go_simp <;> first | with_reducible rfl | rw [if_neg (by omega)]
 try simp only [Act.put, lay]
 refine tk 23 hHeld rfl (v := ?_) ?_ ?_
 rotate_left
 · intro w9 h9; (try dsimp only at h9); go_simp <;> first | with_reducible rfl | rw [if_neg (by omega)]
 try simp only [Act.put, lay]
 refine wpAnyH_ready (rs := [0, 3, 8]) (by kernel_rfl) (by simp) ?_
 refine AllReadyH.cons rfl (fun K hK => ?_) ?_
 · go_simp
   refine hK.out _ _ ⟨ck hHeld.1, ck hHeld.2.1, ck hHeld.2.2.1, ck hHeld.2.2.2⟩ (fun h8 => ?_)
   clear hK K
   replace hHeld := h8
   clear h8
   try simp only [Act.put, lay]
   refine wpAnyH_stronger (S' := fun w9 => (w9.cell? ⟨u, 2, none⟩ = some (.int .i64 xb) ∧ w9.cell? ⟨u, 3, none⟩ = some (.int .i64 xc) ∧ w9.cell? ⟨p, 0, none⟩ = some (.pointer (some ⟨r, 0, none⟩)) ∧ w9.cell? ⟨q, 0, none⟩ = some (.bool b)) ∧ w9.cell? ⟨X.heap.size, J1, none⟩ = some (.string OB1)) (fun _ h => h.1) _ _ _ _ ?_
   have hHeld3 : ((X.alloc (.cells #[.string ⟨#[107]⟩, .string ⟨#[120]⟩, .string ⟨#[106]⟩] 9)).drew.cell? ⟨u, 2, none⟩ = some (.int .i64 xb) ∧ (X.alloc (.cells #[.string ⟨#[107]⟩, .string ⟨#[120]⟩, .string ⟨#[106]⟩] 9)).drew.cell? ⟨u, 3, none⟩ = some (.int .i64 xc) ∧ (X.alloc (.cells #[.string ⟨#[107]⟩, .string ⟨#[120]⟩, .string ⟨#[106]⟩] 9)).drew.cell? ⟨p, 0, none⟩ = some (.pointer (some ⟨r, 0, none⟩)) ∧ (X.alloc (.cells #[.string ⟨#[107]⟩, .string ⟨#[120]⟩, .string ⟨#[106]⟩] 9)).drew.cell? ⟨q, 0, none⟩ = some (.bool b)) ∧ (X.alloc (.cells #[.string ⟨#[107]⟩, .string ⟨#[120]⟩, .string ⟨#[106]⟩] 9)).drew.cell? ⟨X.heap.size, J1, none⟩ = some (.string OB1) := ⟨hHeld, ((at_new X _ _ J1).trans e01)⟩
   clear hHeld
   have hHeld := hHeld3
   clear hHeld3
   refine wpAnyH_ready (rs := [3, 8]) (by kernel_rfl) (by simp) ?_
   refine AllReadyH.cons rfl (fun K hK => ?_) ?_
   · go_simp
     refine Calls.mono (HPJ1.out _) ?_
     rintro e w2 ⟨rfl, hw2⟩
     rw [hw2]
     clear hw2 w2
     go_wp2_with fail
     refine hK.out _ _ hHeld (fun h8 => ?_)
     clear hK K
     replace hHeld := h8
     clear h8
     try simp only [Act.put, lay]
     refine tk 4 hHeld rfl (v := ?_) ?_ ?_
     rotate_left
     · intro w9 h9; (try dsimp only at h9); go_simp <;> first | with_reducible rfl | rw [if_neg (by omega)]
     try simp only [Act.put, lay]
     refine tk 5 hHeld rfl (v := ?_) ?_ ?_
     rotate_left
     · intro w9 h9; (try dsimp only at h9); go_simp <;> first | with_reducible rfl | rw [if_neg (by omega)]
     try simp only [Act.put, lay]
     refine tk 6 hHeld rfl (v := ?_) ?_ ?_
     rotate_left
     · intro w9 h9; (try dsimp only at h9); go_simp <;> first | with_reducible rfl | rw [if_neg (by omega)]
     try simp only [Act.put, lay]
     refine tk 7 hHeld rfl (v := ?_) ?_ ?_
     rotate_left
     · intro w9 h9; (try dsimp only at h9); go_simp <;> first | with_reducible rfl | rw [if_neg (by omega)]
     try simp only [Act.put, lay]
     refine wpAnyH_ready (rs := [8, 11]) (by kernel_rfl) (by simp) ?_
     refine AllReadyH.cons rfl (fun K hK => ?_) ?_
     · go_simp
       refine hK.out _ _ ⟨⟨ck hHeld.1.1, ck hHeld.1.2.1, ck hHeld.1.2.2.1, ck hHeld.1.2.2.2⟩, ck hHeld.2⟩ (fun h8 => ?_)
       clear hK K
       replace hHeld := h8
       clear h8
       try simp only [Act.put, lay]
       refine wpAnyH_stronger (S' := fun w9 => ((w9.cell? ⟨u, 2, none⟩ = some (.int .i64 xb) ∧ w9.cell? ⟨u, 3, none⟩ = some (.int .i64 xc) ∧ w9.cell? ⟨p, 0, none⟩ = some (.pointer (some ⟨r, 0, none⟩)) ∧ w9.cell? ⟨q, 0, none⟩ = some (.bool b)) ∧ w9.cell? ⟨X.heap.size, J1, none⟩ = some (.string OB1)) ∧ w9.cell? ⟨X.heap.size + 1, J2, none⟩ = some (.string OB2)) (fun _ h => h.1) _ _ _ _ ?_
       have hHeld3 : ((((X.alloc (.cells #[.string ⟨#[107]⟩, .string ⟨#[120]⟩, .string ⟨#[106]⟩] 9)).alloc (.cells #[.string ⟨#[97]⟩, .string ⟨#[98]⟩] 9)).drew.cell? ⟨u, 2, none⟩ = some (.int .i64 xb) ∧ ((X.alloc (.cells #[.string ⟨#[107]⟩, .string ⟨#[120]⟩, .string ⟨#[106]⟩] 9)).alloc (.cells #[.string ⟨#[97]⟩, .string ⟨#[98]⟩] 9)).drew.cell? ⟨u, 3, none⟩ = some (.int .i64 xc) ∧ ((X.alloc (.cells #[.string ⟨#[107]⟩, .string ⟨#[120]⟩, .string ⟨#[106]⟩] 9)).alloc (.cells #[.string ⟨#[97]⟩, .string ⟨#[98]⟩] 9)).drew.cell? ⟨p, 0, none⟩ = some (.pointer (some ⟨r, 0, none⟩)) ∧ ((X.alloc (.cells #[.string ⟨#[107]⟩, .string ⟨#[120]⟩, .string ⟨#[106]⟩] 9)).alloc (.cells #[.string ⟨#[97]⟩, .string ⟨#[98]⟩] 9)).drew.cell? ⟨q, 0, none⟩ = some (.bool b)) ∧ ((X.alloc (.cells #[.string ⟨#[107]⟩, .string ⟨#[120]⟩, .string ⟨#[106]⟩] 9)).alloc (.cells #[.string ⟨#[97]⟩, .string ⟨#[98]⟩] 9)).drew.cell? ⟨X.heap.size, J1, none⟩ = some (.string OB1)) ∧ ((X.alloc (.cells #[.string ⟨#[107]⟩, .string ⟨#[120]⟩, .string ⟨#[106]⟩] 9)).alloc (.cells #[.string ⟨#[97]⟩, .string ⟨#[98]⟩] 9)).drew.cell? ⟨X.heap.size + 1, J2, none⟩ = some (.string OB2) := ⟨hHeld, (by have h := at_new (X.alloc (.cells #[.string ⟨#[107]⟩, .string ⟨#[120]⟩, .string ⟨#[106]⟩] 9)) #[.string ⟨#[97]⟩, .string ⟨#[98]⟩] 9 J2; rw [alloc_size] at h; exact h.trans e02)⟩
       clear hHeld
       have hHeld := hHeld3
       clear hHeld3
       refine wpAnyH_ready (rs := [11]) (by kernel_rfl) (by simp) ?_
       refine AllReadyH.cons rfl (fun K hK => ?_) ?_
       · go_simp
         refine Calls.mono (HPJ2.out _) ?_
         rintro e w2 ⟨rfl, hw2⟩
         rw [hw2]
         clear hw2 w2
         go_wp2_with fail
         refine hK.out _ _ hHeld (fun h8 => ?_)
         clear hK K
         replace hHeld := h8
         clear h8
         try simp only [Act.put, lay]
         refine tk 12 hHeld rfl (v := ?_) ?_ ?_
         rotate_left
         · intro w9 h9; (try dsimp only at h9); go_simp <;> first | with_reducible rfl | rw [if_neg (by omega)]
         try simp only [Act.put, lay]
         refine tk 13 hHeld rfl (v := ?_) ?_ ?_
         rotate_left
         · intro w9 h9; (try dsimp only at h9); go_simp <;> first | with_reducible rfl | rw [if_neg (by omega)]
         try simp only [Act.put, lay]
         refine tk 14 hHeld rfl (v := ?_) ?_ ?_
         rotate_left
         · intro w9 h9; (try dsimp only at h9); go_simp <;> first | with_reducible rfl | rw [if_neg (by omega)]
         try simp only [Act.put, lay]
         refine tk 15 hHeld rfl (v := ?_) ?_ ?_
         rotate_left
         · intro w9 h9; (try dsimp only at h9); go_simp <;> first | with_reducible rfl | rw [if_neg (by omega)]
         try simp only [Act.put, lay]
         refine wpAnyH_ready (rs := [20]) (by kernel_rfl) (by simp) ?_
         refine AllReadyH.cons rfl (fun K hK => ?_) ?_
         · go_simp
           first | with_reducible refine Calls.mono (HST.out ((X.alloc (.cells #[.string ⟨#[107]⟩, .string ⟨#[120]⟩, .string ⟨#[106]⟩] 9)).alloc (.cells #[.string ⟨#[97]⟩, .string ⟨#[98]⟩] 9)).drew (HWf.out _ (bl_trans (((Below.refl _ _).alloc (Nat.le_refl _) _).alloc (by rw [alloc_size]; omega) _) (below_drew _))) _ HD1.out) ?_ | with_reducible refine Calls.mono (HST.out ((X.alloc (.cells #[.string ⟨#[107]⟩, .string ⟨#[120]⟩, .string ⟨#[106]⟩] 9)).alloc (.cells #[.string ⟨#[97]⟩, .string ⟨#[98]⟩] 9)).drew (HWf.out _ (bl_trans (((Below.refl _ _).alloc (Nat.le_refl _) _).alloc (by rw [alloc_size]; omega) _) (below_drew _))) _ HD2.out) ?_
           rintro e w3 ⟨Z2, rfl, z2, H3, B3, w3r, w31r⟩
           have m30 := bk B3.out ur hHeld.1.1.1
           have m31 := bk B3.out ur hHeld.1.1.2.1
           have m32 := bk B3.out pr hHeld.1.1.2.2.1
           have m33 := bk B3.out qr hHeld.1.1.2.2.2
           have m34 := bk B3.out g0r hHeld.1.2
           have m35 := bk B3.out g1r hHeld.2
           go_wp2_with fail
           refine hK.out _ _ ⟨⟨⟨m30, m31, m32, m33⟩, m34⟩, m35⟩ (fun h8 => ?_)
           clear hK K
           replace hHeld := h8
           clear h8
           try simp only [Act.put, lay]
           refine tk 21 hHeld rfl (v := ?_) ?_ ?_
           rotate_left
           · intro w9 h9; (try dsimp only at h9); go_simp <;> first | with_reducible rfl | rw [if_neg (by omega)]
           try simp only [Act.put, lay]
           refine tk 22 hHeld rfl (v := ?_) ?_ ?_
           rotate_left
           · intro w9 h9; (try dsimp only at h9); go_simp <;> first | with_reducible rfl | rw [if_neg (by omega)]
           try simp only [Act.put, lay]
           refine wpAnyH_ready (rs := [24]) (by kernel_rfl) (by simp) ?_
           refine AllReadyH.cons rfl (fun K hK => ?_) ?_
           · go_simp
             have HW4 : ∃ i4, Mk r w3 l i4 ∧ i4 ≤ i + 1 + c ∧ But r r w w3 := by obtain ⟨i4, h1, h2, h3⟩ := H3.out.2; exact ⟨i4, h1.below (Below.refl _ _), h2, h3.more (Below.refl _ _)⟩
             with_reducible refine Calls.mono (HEX.out w3 HW4 hHeld.1.1.2.2.1 hHeld.1.1.2.2.2) ?_
             rintro e w4 ⟨Z3, rfl, z3, H4, B4⟩
             clear HW4
             have m40 := bk B4.out ur hHeld.1.1.1
             have m41 := bk B4.out ur hHeld.1.1.2.1
             have m42 := bk B4.out pr hHeld.1.1.2.2.1
             have m43 := bk B4.out qr hHeld.1.1.2.2.2
             have m44 := bk B4.out g0r hHeld.1.2
             have m45 := bk B4.out g1r hHeld.2
             go_wp2_with fail
             refine hK.out _ _ ⟨⟨⟨m40, m41, m42, m43⟩, m44⟩, m45⟩ (fun h8 => ?_)
             clear hK K
             replace hHeld := h8
             clear h8
             try simp only [Act.put, lay]
             refine tk 25 hHeld rfl (v := ?_) ?_ ?_
             rotate_left
             · intro w9 h9; (try dsimp only at h9); go_simp <;> first | with_reducible rfl | rw [if_neg (by omega)]
             try simp only [Act.put, lay]
             refine tk 26 hHeld rfl (v := ?_) ?_ ?_
             rotate_left
             · intro w9 h9; (try dsimp only at h9); go_simp <;> first | with_reducible rfl | rw [if_neg (by omega)]
             try simp only [Act.put, lay]
             refine tk 27 hHeld rfl (v := ?_) ?_ ?_
             rotate_left
             · intro w9 h9; (try dsimp only at h9); go_simp <;> first | with_reducible rfl | rw [if_neg (by omega)]
             try simp only [Act.put, lay]
             refine wpAnyH_done (by kernel_rfl) ?_ _
             go_wp2_with fail
             go_ret
             first | exact HF.out _ _ _ _ _ H3.out H4.out (Below.refl _ _) | exact HF.out _ _ _ _ _ H3.out H4.out ((Below.refl _ _).alloc (Nat.le_refl _) _) | exact HF.out _ _ _ _ _ H3.out H4.out (((Below.refl _ _).alloc (Nat.le_refl _) _).alloc (by rw [alloc_size]; omega) _)
           exact AllReadyH.nil
         exact AllReadyH.nil
       exact AllReadyH.nil
     refine AllReadyH.cons rfl (fun K hK => ?_) ?_
     · go_simp
       refine Calls.mono (HPJ2.out _) ?_
       rintro e w2 ⟨rfl, hw2⟩
       rw [hw2]
       clear hw2 w2
       go_wp2_with fail
       refine hK.out _ _ hHeld (fun h8 => ?_)
       clear hK K
       replace hHeld := h8
       clear h8
       try simp only [Act.put, lay]
       refine wpAnyH_ready (rs := [8, 20]) (by kernel_rfl) (by simp) ?_
       refine AllReadyH.cons rfl (fun K hK => ?_) ?_
       · go_simp
         refine hK.out _ _ ⟨⟨ck hHeld.1.1, ck hHeld.1.2.1, ck hHeld.1.2.2.1, ck hHeld.1.2.2.2⟩, ck hHeld.2⟩ (fun h8 => ?_)
         clear hK K
         replace hHeld := h8
         clear h8
         try simp only [Act.put, lay]
         refine wpAnyH_stronger (S' := fun w9 => ((w9.cell? ⟨u, 2, none⟩ = some (.int .i64 xb) ∧ w9.cell? ⟨u, 3, none⟩ = some (.int .i64 xc) ∧ w9.cell? ⟨p, 0, none⟩ = some (.pointer (some ⟨r, 0, none⟩)) ∧ w9.cell? ⟨q, 0, none⟩ = some (.bool b)) ∧ w9.cell? ⟨X.heap.size, J1, none⟩ = some (.string OB1)) ∧ w9.cell? ⟨X.heap.size + 1, J2, none⟩ = some (.string OB2)) (fun _ h => h.1) _ _ _ _ ?_
         have hHeld3 : ((((X.alloc (.cells #[.string ⟨#[107]⟩, .string ⟨#[120]⟩, .string ⟨#[106]⟩] 9)).alloc (.cells #[.string ⟨#[97]⟩, .string ⟨#[98]⟩] 9)).drew.cell? ⟨u, 2, none⟩ = some (.int .i64 xb) ∧ ((X.alloc (.cells #[.string ⟨#[107]⟩, .string ⟨#[120]⟩, .string ⟨#[106]⟩] 9)).alloc (.cells #[.string ⟨#[97]⟩, .string ⟨#[98]⟩] 9)).drew.cell? ⟨u, 3, none⟩ = some (.int .i64 xc) ∧ ((X.alloc (.cells #[.string ⟨#[107]⟩, .string ⟨#[120]⟩, .string ⟨#[106]⟩] 9)).alloc (.cells #[.string ⟨#[97]⟩, .string ⟨#[98]⟩] 9)).drew.cell? ⟨p, 0, none⟩ = some (.pointer (some ⟨r, 0, none⟩)) ∧ ((X.alloc (.cells #[.string ⟨#[107]⟩, .string ⟨#[120]⟩, .string ⟨#[106]⟩] 9)).alloc (.cells #[.string ⟨#[97]⟩, .string ⟨#[98]⟩] 9)).drew.cell? ⟨q, 0, none⟩ = some (.bool b)) ∧ ((X.alloc (.cells #[.string ⟨#[107]⟩, .string ⟨#[120]⟩, .string ⟨#[106]⟩] 9)).alloc (.cells #[.string ⟨#[97]⟩, .string ⟨#[98]⟩] 9)).drew.cell? ⟨X.heap.size, J1, none⟩ = some (.string OB1)) ∧ ((X.alloc (.cells #[.string ⟨#[107]⟩, .string ⟨#[120]⟩, .string ⟨#[106]⟩] 9)).alloc (.cells #[.string ⟨#[97]⟩, .string ⟨#[98]⟩] 9)).drew.cell? ⟨X.heap.size + 1, J2, none⟩ = some (.string OB2) := ⟨hHeld, (by have h := at_new (X.alloc (.cells #[.string ⟨#[107]⟩, .string ⟨#[120]⟩, .string ⟨#[106]⟩] 9)) #[.string ⟨#[97]⟩, .string ⟨#[98]⟩] 9 J2; rw [alloc_size] at h; exact h.trans e02)⟩
         clear hHeld
         have hHeld := hHeld3
         clear hHeld3
         refine tk 12 hHeld rfl (v := ?_) ?_ ?_
         rotate_left
         · intro w9 h9; (try dsimp only at h9); go_simp <;> first | with_reducible rfl | rw [if_neg (by omega)]
         try simp only [Act.put, lay]
         refine tk 13 hHeld rfl (v := ?_) ?_ ?_
         rotate_left
         · intro w9 h9; (try dsimp only at h9); go_simp <;> first | with_reducible rfl | rw [if_neg (by omega)]
         try simp only [Act.put, lay]
         refine tk 14 hHeld rfl (v := ?_) ?_ ?_
         rotate_left
         · intro w9 h9; (try dsimp only at h9); go_simp <;> first | with_reducible rfl | rw [if_neg (by omega)]
         try simp only [Act.put, lay]
         refine tk 15 hHeld rfl (v := ?_) ?_ ?_
         rotate_left
         · intro w9 h9; (try dsimp only at h9); go_simp <;> first | with_reducible rfl | rw [if_neg (by omega)]
         try simp only [Act.put, lay]
         refine wpAnyH_ready (rs := [20]) (by kernel_rfl) (by simp) ?_
         refine AllReadyH.cons rfl (fun K hK => ?_) ?_
         · go_simp
           first | with_reducible refine Calls.mono (HST.out ((X.alloc (.cells #[.string ⟨#[107]⟩, .string ⟨#[120]⟩, .string ⟨#[106]⟩] 9)).alloc (.cells #[.string ⟨#[97]⟩, .string ⟨#[98]⟩] 9)).drew (HWf.out _ (bl_trans (((Below.refl _ _).alloc (Nat.le_refl _) _).alloc (by rw [alloc_size]; omega) _) (below_drew _))) _ HD1.out) ?_ | with_reducible refine Calls.mono (HST.out ((X.alloc (.cells #[.string ⟨#[107]⟩, .string ⟨#[120]⟩, .string ⟨#[106]⟩] 9)).alloc (.cells #[.string ⟨#[97]⟩, .string ⟨#[98]⟩] 9)).drew (HWf.out _ (bl_trans (((Below.refl _ _).alloc (Nat.le_refl _) _).alloc (by rw [alloc_size]; omega) _) (below_drew _))) _ HD2.out) ?_
           rintro e w3 ⟨Z2, rfl, z2, H3, B3, w3r, w31r⟩
           have m30 := bk B3.out ur hHeld.1.1.1
           have m31 := bk B3.out ur hHeld.1.1.2.1
           have m32 := bk B3.out pr hHeld.1.1.2.2.1
           have m33 := bk B3.out qr hHeld.1.1.2.2.2
           have m34 := bk B3.out g0r hHeld.1.2
           have m35 := bk B3.out g1r hHeld.2
           go_wp2_with fail
           refine hK.out _ _ ⟨⟨⟨m30, m31, m32, m33⟩, m34⟩, m35⟩ (fun h8 => ?_)
           clear hK K
           replace hHeld := h8
           clear h8
           try simp only [Act.put, lay]
           refine tk 21 hHeld rfl (v := ?_) ?_ ?_
           rotate_left
           · intro w9 h9; (try dsimp only at h9); go_simp <;> first | with_reducible rfl | rw [if_neg (by omega)]
           try simp only [Act.put, lay]
           refine tk 22 hHeld rfl (v := ?_) ?_ ?_
           rotate_left
           · intro w9 h9; (try dsimp only at h9); go_simp <;> first | with_reducible rfl | rw [if_neg (by omega)]
           try simp only [Act.put, lay]
           refine wpAnyH_ready (rs := [24]) (by kernel_rfl) (by simp) ?_
           refine AllReadyH.cons rfl (fun K hK => ?_) ?_
           · go_simp
             have HW4 : ∃ i4, Mk r w3 l i4 ∧ i4 ≤ i + 1 + c ∧ But r r w w3 := by obtain ⟨i4, h1, h2, h3⟩ := H3.out.2; exact ⟨i4, h1.below (Below.refl _ _), h2, h3.more (Below.refl _ _)⟩
             with_reducible refine Calls.mono (HEX.out w3 HW4 hHeld.1.1.2.2.1 hHeld.1.1.2.2.2) ?_
             rintro e w4 ⟨Z3, rfl, z3, H4, B4⟩
             clear HW4
             have m40 := bk B4.out ur hHeld.1.1.1
             have m41 := bk B4.out ur hHeld.1.1.2.1
             have m42 := bk B4.out pr hHeld.1.1.2.2.1
             have m43 := bk B4.out qr hHeld.1.1.2.2.2
             have m44 := bk B4.out g0r hHeld.1.2
             have m45 := bk B4.out g1r hHeld.2
             go_wp2_with fail
             refine hK.out _ _ ⟨⟨⟨m40, m41, m42, m43⟩, m44⟩, m45⟩ (fun h8 => ?_)
             clear hK K
             replace hHeld := h8
             clear h8
             try simp only [Act.put, lay]
             refine tk 25 hHeld rfl (v := ?_) ?_ ?_
             rotate_left
             · intro w9 h9; (try dsimp only at h9); go_simp <;> first | with_reducible rfl | rw [if_neg (by omega)]
             try simp only [Act.put, lay]
             refine tk 26 hHeld rfl (v := ?_) ?_ ?_
             rotate_left
             · intro w9 h9; (try dsimp only at h9); go_simp <;> first | with_reducible rfl | rw [if_neg (by omega)]
             try simp only [Act.put, lay]
             refine tk 27 hHeld rfl (v := ?_) ?_ ?_
             rotate_left
             · intro w9 h9; (try dsimp only at h9); go_simp <;> first | with_reducible rfl | rw [if_neg (by omega)]
             try simp only [Act.put, lay]
             refine wpAnyH_done (by kernel_rfl) ?_ _
             go_wp2_with fail
             go_ret
             first | exact HF.out _ _ _ _ _ H3.out H4.out (Below.refl _ _) | exact HF.out _ _ _ _ _ H3.out H4.out ((Below.refl _ _).alloc (Nat.le_refl _) _) | exact HF.out _ _ _ _ _ H3.out H4.out (((Below.refl _ _).alloc (Nat.le_refl _) _).alloc (by rw [alloc_size]; omega) _)
           exact AllReadyH.nil
         exact AllReadyH.nil
       refine AllReadyH.cons rfl (fun K hK => ?_) ?_
       · go_simp
         first | with_reducible refine Calls.mono (HST.out (X.alloc (.cells #[.string ⟨#[107]⟩, .string ⟨#[120]⟩, .string ⟨#[106]⟩] 9)).drew (HWf.out _ (bl_trans ((Below.refl _ _).alloc (Nat.le_refl _) _) (below_drew _))) _ HD1.out) ?_ | with_reducible refine Calls.mono (HST.out (X.alloc (.cells #[.string ⟨#[107]⟩, .string ⟨#[120]⟩, .string ⟨#[106]⟩] 9)).drew (HWf.out _ (bl_trans ((Below.refl _ _).alloc (Nat.le_refl _) _) (below_drew _))) _ HD2.out) ?_
         rintro e w3 ⟨Z2, rfl, z2, H3, B3, w3r, w31r⟩
         have m30 := bk B3.out ur hHeld.1.1
         have m31 := bk B3.out ur hHeld.1.2.1
         have m32 := bk B3.out pr hHeld.1.2.2.1
         have m33 := bk B3.out qr hHeld.1.2.2.2
         have m34 := bk B3.out g0r hHeld.2
         go_wp2_with fail
         refine hK.out _ _ ⟨⟨m30, m31, m32, m33⟩, m34⟩ (fun h8 => ?_)
         clear hK K
         replace hHeld := h8
         clear h8
         try simp only [Act.put, lay]
         refine wpAnyH_ready (rs := [8, 24]) (by kernel_rfl) (by simp) ?_
         refine AllReadyH.cons rfl (fun K hK => ?_) ?_
         · go_simp
           refine hK.out _ _ ⟨⟨ck hHeld.1.1, ck hHeld.1.2.1, ck hHeld.1.2.2.1, ck hHeld.1.2.2.2⟩, ck hHeld.2⟩ (fun h8 => ?_)
           clear hK K
           replace hHeld := h8
           clear h8
           try simp only [Act.put, lay]
           refine wpAnyH_stronger (S' := fun w9 => ((w9.cell? ⟨u, 2, none⟩ = some (.int .i64 xb) ∧ w9.cell? ⟨u, 3, none⟩ = some (.int .i64 xc) ∧ w9.cell? ⟨p, 0, none⟩ = some (.pointer (some ⟨r, 0, none⟩)) ∧ w9.cell? ⟨q, 0, none⟩ = some (.bool b)) ∧ w9.cell? ⟨X.heap.size, J1, none⟩ = some (.string OB1)) ∧ w9.cell? ⟨w3.heap.size, J2, none⟩ = some (.string OB2)) (fun _ h => h.1) _ _ _ _ ?_
           have hHeld3 : (((w3.alloc (.cells #[.string ⟨#[97]⟩, .string ⟨#[98]⟩] 9)).cell? ⟨u, 2, none⟩ = some (.int .i64 xb) ∧ (w3.alloc (.cells #[.string ⟨#[97]⟩, .string ⟨#[98]⟩] 9)).cell? ⟨u, 3, none⟩ = some (.int .i64 xc) ∧ (w3.alloc (.cells #[.string ⟨#[97]⟩, .string ⟨#[98]⟩] 9)).cell? ⟨p, 0, none⟩ = some (.pointer (some ⟨r, 0, none⟩)) ∧ (w3.alloc (.cells #[.string ⟨#[97]⟩, .string ⟨#[98]⟩] 9)).cell? ⟨q, 0, none⟩ = some (.bool b)) ∧ (w3.alloc (.cells #[.string ⟨#[97]⟩, .string ⟨#[98]⟩] 9)).cell? ⟨X.heap.size, J1, none⟩ = some (.string OB1)) ∧ (w3.alloc (.cells #[.string ⟨#[97]⟩, .string ⟨#[98]⟩] 9)).cell? ⟨w3.heap.size, J2, none⟩ = some (.string OB2) := ⟨hHeld, ((at_new w3 _ _ J2).trans e02)⟩
           clear hHeld
           have hHeld := hHeld3
           clear hHeld3
           refine tk 12 hHeld rfl (v := ?_) ?_ ?_
           rotate_left
           · intro w9 h9; (try dsimp only at h9); go_simp <;> first | with_reducible rfl | rw [if_neg (by omega)]
           try simp only [Act.put, lay]
           refine tk 13 hHeld rfl (v := ?_) ?_ ?_
           rotate_left
           · intro w9 h9; (try dsimp only at h9); go_simp <;> first | with_reducible rfl | rw [if_neg (by omega)]
           try simp only [Act.put, lay]
           refine tk 14 hHeld rfl (v := ?_) ?_ ?_
           rotate_left
           · intro w9 h9; (try dsimp only at h9); go_simp <;> first | with_reducible rfl | rw [if_neg (by omega)]
           try simp only [Act.put, lay]
           refine tk 15 hHeld rfl (v := ?_) ?_ ?_
           rotate_left
           · intro w9 h9; (try dsimp only at h9); go_simp <;> first | with_reducible rfl | rw [if_neg (by omega)]
           try simp only [Act.put, lay]
           refine tk 21 hHeld rfl (v := ?_) ?_ ?_
           rotate_left
           · intro w9 h9; (try dsimp only at h9); go_simp <;> first | with_reducible rfl | rw [if_neg (by omega)]
           try simp only [Act.put, lay]
           refine tk 22 hHeld rfl (v := ?_) ?_ ?_
           rotate_left
           · intro w9 h9; (try dsimp only at h9); go_simp <;> first | with_reducible rfl | rw [if_neg (by omega)]
           try simp only [Act.put, lay]
           refine wpAnyH_ready (rs := [24]) (by kernel_rfl) (by simp) ?_
           refine AllReadyH.cons rfl (fun K hK => ?_) ?_
           · go_simp
             have HW4 : ∃ i4, Mk r (w3.alloc (.cells #[.string ⟨#[97]⟩, .string ⟨#[98]⟩] 9)) l i4 ∧ i4 ≤ i + 1 + c ∧ But r r w (w3.alloc (.cells #[.string ⟨#[97]⟩, .string ⟨#[98]⟩] 9)) := by obtain ⟨i4, h1, h2, h3⟩ := H3.out.2; exact ⟨i4, h1.below ((Below.refl _ _).alloc (Nat.le_refl _) _), h2, h3.more ((Below.refl _ _).alloc (Nat.le_refl _) _)⟩
             with_reducible refine Calls.mono (HEX.out (w3.alloc (.cells #[.string ⟨#[97]⟩, .string ⟨#[98]⟩] 9)) HW4 hHeld.1.1.2.2.1 hHeld.1.1.2.2.2) ?_
             rintro e w4 ⟨Z3, rfl, z3, H4, B4⟩
             clear HW4
             have m40 := bk B4.out ur hHeld.1.1.1
             have m41 := bk B4.out ur hHeld.1.1.2.1
             have m42 := bk B4.out pr hHeld.1.1.2.2.1
             have m43 := bk B4.out qr hHeld.1.1.2.2.2
             have m44 := bk B4.out g0r hHeld.1.2
             have m45 := bk B4.out w3r hHeld.2
             go_wp2_with fail
             refine hK.out _ _ ⟨⟨⟨m40, m41, m42, m43⟩, m44⟩, m45⟩ (fun h8 => ?_)
             clear hK K
             replace hHeld := h8
             clear h8
             try simp only [Act.put, lay]
             refine tk 25 hHeld rfl (v := ?_) ?_ ?_
             rotate_left
             · intro w9 h9; (try dsimp only at h9); go_simp <;> first | with_reducible rfl | rw [if_neg (by omega)]
             try simp only [Act.put, lay]
             refine tk 26 hHeld rfl (v := ?_) ?_ ?_
             rotate_left
             · intro w9 h9; (try dsimp only at h9); go_simp <;> first | with_reducible rfl | rw [if_neg (by omega)]
             try simp only [Act.put, lay]
             refine tk 27 hHeld rfl (v := ?_) ?_ ?_
             rotate_left
             · intro w9 h9; (try dsimp only at h9); go_simp <;> first | with_reducible rfl | rw [if_neg (by omega)]
             try simp only [Act.put, lay]
             refine wpAnyH_done (by kernel_rfl) ?_ _
             go_wp2_with fail
             go_ret
             first | exact HF.out _ _ _ _ _ H3.out H4.out (Below.refl _ _) | exact HF.out _ _ _ _ _ H3.out H4.out ((Below.refl _ _).alloc (Nat.le_refl _) _) | exact HF.out _ _ _ _ _ H3.out H4.out (((Below.refl _ _).alloc (Nat.le_refl _) _).alloc (by rw [alloc_size]; omega) _)
           exact AllReadyH.nil
         refine AllReadyH.cons rfl (fun K hK => ?_) ?_
         · go_simp
           have HW4 : ∃ i4, Mk r w3 l i4 ∧ i4 ≤ i + 1 + c ∧ But r r w w3 := by obtain ⟨i4, h1, h2, h3⟩ := H3.out.2; exact ⟨i4, h1.below (Below.refl _ _), h2, h3.more (Below.refl _ _)⟩
           with_reducible refine Calls.mono (HEX.out w3 HW4 hHeld.1.2.2.1 hHeld.1.2.2.2) ?_
           rintro e w4 ⟨Z3, rfl, z3, H4, B4⟩
           clear HW4
           have m40 := bk B4.out ur hHeld.1.1
           have m41 := bk B4.out ur hHeld.1.2.1
           have m42 := bk B4.out pr hHeld.1.2.2.1
           have m43 := bk B4.out qr hHeld.1.2.2.2
           have m44 := bk B4.out g0r hHeld.2
           go_wp2_with fail
           refine hK.out _ _ ⟨⟨m40, m41, m42, m43⟩, m44⟩ (fun h8 => ?_)
           clear hK K
           replace hHeld := h8
           clear h8
           try simp only [Act.put, lay]
           refine wpAnyH_ready (rs := [8]) (by kernel_rfl) (by simp) ?_
           refine AllReadyH.cons rfl (fun K hK => ?_) ?_
           · go_simp
             refine hK.out _ _ ⟨⟨ck hHeld.1.1, ck hHeld.1.2.1, ck hHeld.1.2.2.1, ck hHeld.1.2.2.2⟩, ck hHeld.2⟩ (fun h8 => ?_)
             clear hK K
             replace hHeld := h8
             clear h8
             try simp only [Act.put, lay]
             refine wpAnyH_stronger (S' := fun w9 => ((w9.cell? ⟨u, 2, none⟩ = some (.int .i64 xb) ∧ w9.cell? ⟨u, 3, none⟩ = some (.int .i64 xc) ∧ w9.cell? ⟨p, 0, none⟩ = some (.pointer (some ⟨r, 0, none⟩)) ∧ w9.cell? ⟨q, 0, none⟩ = some (.bool b)) ∧ w9.cell? ⟨X.heap.size, J1, none⟩ = some (.string OB1)) ∧ w9.cell? ⟨w4.heap.size, J2, none⟩ = some (.string OB2)) (fun _ h => h.1) _ _ _ _ ?_
             have hHeld3 : (((w4.alloc (.cells #[.string ⟨#[97]⟩, .string ⟨#[98]⟩] 9)).cell? ⟨u, 2, none⟩ = some (.int .i64 xb) ∧ (w4.alloc (.cells #[.string ⟨#[97]⟩, .string ⟨#[98]⟩] 9)).cell? ⟨u, 3, none⟩ = some (.int .i64 xc) ∧ (w4.alloc (.cells #[.string ⟨#[97]⟩, .string ⟨#[98]⟩] 9)).cell? ⟨p, 0, none⟩ = some (.pointer (some ⟨r, 0, none⟩)) ∧ (w4.alloc (.cells #[.string ⟨#[97]⟩, .string ⟨#[98]⟩] 9)).cell? ⟨q, 0, none⟩ = some (.bool b)) ∧ (w4.alloc (.cells #[.string ⟨#[97]⟩, .string ⟨#[98]⟩] 9)).cell? ⟨X.heap.size, J1, none⟩ = some (.string OB1)) ∧ (w4.alloc (.cells #[.string ⟨#[97]⟩, .string ⟨#[98]⟩] 9)).cell? ⟨w4.heap.size, J2, none⟩ = some (.string OB2) := ⟨hHeld, ((at_new w4 _ _ J2).trans e02)⟩
             clear hHeld
             have hHeld := hHeld3
             clear hHeld3
             refine tk 12 hHeld rfl (v := ?_) ?_ ?_
             rotate_left
             · intro w9 h9; (try dsimp only at h9); go_simp <;> first | with_reducible rfl | rw [if_neg (by omega)]
             try simp only [Act.put, lay]
             refine tk 13 hHeld rfl (v := ?_) ?_ ?_
             rotate_left
             · intro w9 h9; (try dsimp only at h9); go_simp <;> first | with_reducible rfl | rw [if_neg (by omega)]
             try simp only [Act.put, lay]
             refine tk 14 hHeld rfl (v := ?_) ?_ ?_
             rotate_left
             · intro w9 h9; (try dsimp only at h9); go_simp <;> first | with_reducible rfl | rw [if_neg (by omega)]
             try simp only [Act.put, lay]
             refine tk 15 hHeld rfl (v := ?_) ?_ ?_
             rotate_left
             · intro w9 h9; (try dsimp only at h9); go_simp <;> first | with_reducible rfl | rw [if_neg (by omega)]
             try simp only [Act.put, lay]
             refine tk 21 hHeld rfl (v := ?_) ?_ ?_
             rotate_left
             · intro w9 h9; (try dsimp only at h9); go_simp <;> first | with_reducible rfl | rw [if_neg (by omega)]
             try simp only [Act.put, lay]
             refine tk 22 hHeld rfl (v := ?_) ?_ ?_
             rotate_left
             · intro w9 h9; (try dsimp only at h9); go_simp <;> first | with_reducible rfl | rw [if_neg (by omega)]
             try simp only [Act.put, lay]
             refine tk 25 hHeld rfl (v := ?_) ?_ ?_
             rotate_left
             · intro w9 h9; (try dsimp only at h9); go_simp <;> first | with_reducible rfl | rw [if_neg (by omega)]
             try simp only [Act.put, lay]
             refine tk 26 hHeld rfl (v := ?_) ?_ ?_
             rotate_left
             · intro w9 h9; (try dsimp only at h9); go_simp <;> first | with_reducible rfl | rw [if_neg (by omega)]
             try simp only [Act.put, lay]
             refine tk 27 hHeld rfl (v := ?_) ?_ ?_
             rotate_left
             · intro w9 h9; (try dsimp only at h9); go_simp <;> first | with_reducible rfl | rw [if_neg (by omega)]
             try simp only [Act.put, lay]
             refine wpAnyH_done (by kernel_rfl) ?_ _
             go_wp2_with fail
             go_ret
             first | exact HF.out _ _ _ _ _ H3.out H4.out (Below.refl _ _) | exact HF.out _ _ _ _ _ H3.out H4.out ((Below.refl _ _).alloc (Nat.le_refl _) _) | exact HF.out _ _ _ _ _ H3.out H4.out (((Below.refl _ _).alloc (Nat.le_refl _) _).alloc (by rw [alloc_size]; omega) _)
           exact AllReadyH.nil
         exact AllReadyH.nil
       exact AllReadyH.nil
     exact AllReadyH.nil
   refine AllReadyH.cons rfl (fun K hK => ?_) ?_
   · go_simp
     refine hK.out _ _ ⟨⟨ck hHeld.1.1, ck hHeld.1.2.1, ck hHeld.1.2.2.1, ck hHeld.1.2.2.2⟩, ck hHeld.2⟩ (fun h8 => ?_)
     clear hK K
     replace hHeld := h8
     clear h8
     try simp only [Act.put, lay]
     refine wpAnyH_stronger (S' := fun w9 => ((w9.cell? ⟨u, 2, none⟩ = some (.int .i64 xb) ∧ w9.cell? ⟨u, 3, none⟩ = some (.int .i64 xc) ∧ w9.cell? ⟨p, 0, none⟩ = some (.pointer (some ⟨r, 0, none⟩)) ∧ w9.cell? ⟨q, 0, none⟩ = some (.bool b)) ∧ w9.cell? ⟨X.heap.size, J1, none⟩ = some (.string OB1)) ∧ w9.cell? ⟨X.heap.size + 1, J2, none⟩ = some (.string OB2)) (fun _ h => h.1) _ _ _ _ ?_
     have hHeld3 : ((((X.alloc (.cells #[.string ⟨#[107]⟩, .string ⟨#[120]⟩, .string ⟨#[106]⟩] 9)).alloc (.cells #[.string ⟨#[97]⟩, .string ⟨#[98]⟩] 9)).drew.cell? ⟨u, 2, none⟩ = some (.int .i64 xb) ∧ ((X.alloc (.cells #[.string ⟨#[107]⟩, .string ⟨#[120]⟩, .string ⟨#[106]⟩] 9)).alloc (.cells #[.string ⟨#[97]⟩, .string ⟨#[98]⟩] 9)).drew.cell? ⟨u, 3, none⟩ = some (.int .i64 xc) ∧ ((X.alloc (.cells #[.string ⟨#[107]⟩, .string ⟨#[120]⟩, .string ⟨#[106]⟩] 9)).alloc (.cells #[.string ⟨#[97]⟩, .string ⟨#[98]⟩] 9)).drew.cell? ⟨p, 0, none⟩ = some (.pointer (some ⟨r, 0, none⟩)) ∧ ((X.alloc (.cells #[.string ⟨#[107]⟩, .string ⟨#[120]⟩, .string ⟨#[106]⟩] 9)).alloc (.cells #[.string ⟨#[97]⟩, .string ⟨#[98]⟩] 9)).drew.cell? ⟨q, 0, none⟩ = some (.bool b)) ∧ ((X.alloc (.cells #[.string ⟨#[107]⟩, .string ⟨#[120]⟩, .string ⟨#[106]⟩] 9)).alloc (.cells #[.string ⟨#[97]⟩, .string ⟨#[98]⟩] 9)).drew.cell? ⟨X.heap.size, J1, none⟩ = some (.string OB1)) ∧ ((X.alloc (.cells #[.string ⟨#[107]⟩, .string ⟨#[120]⟩, .string ⟨#[106]⟩] 9)).alloc (.cells #[.string ⟨#[97]⟩, .string ⟨#[98]⟩] 9)).drew.cell? ⟨X.heap.size + 1, J2, none⟩ = some (.string OB2) := ⟨hHeld, (by have h := at_new (X.alloc (.cells #[.string ⟨#[107]⟩, .string ⟨#[120]⟩, .string ⟨#[106]⟩] 9)) #[.string ⟨#[97]⟩, .string ⟨#[98]⟩] 9 J2; rw [alloc_size] at h; exact h.trans e02)⟩
     clear hHeld
     have hHeld := hHeld3
     clear hHeld3
     refine wpAnyH_ready (rs := [3]) (by kernel_rfl) (by simp) ?_
     refine AllReadyH.cons rfl (fun K hK => ?_) ?_
     · go_simp
       refine Calls.mono (HPJ1.out _) ?_
       rintro e w2 ⟨rfl, hw2⟩
       rw [hw2]
       clear hw2 w2
       go_wp2_with fail
       refine hK.out _ _ hHeld (fun h8 => ?_)
       clear hK K
       replace hHeld := h8
       clear h8
       try simp only [Act.put, lay]
       refine tk 4 hHeld rfl (v := ?_) ?_ ?_
       rotate_left
       · intro w9 h9; (try dsimp only at h9); go_simp <;> first | with_reducible rfl | rw [if_neg (by omega)]
       try simp only [Act.put, lay]
       refine tk 5 hHeld rfl (v := ?_) ?_ ?_
       rotate_left
       · intro w9 h9; (try dsimp only at h9); go_simp <;> first | with_reducible rfl | rw [if_neg (by omega)]
       try simp only [Act.put, lay]
       refine tk 6 hHeld rfl (v := ?_) ?_ ?_
       rotate_left
       · intro w9 h9; (try dsimp only at h9); go_simp <;> first | with_reducible rfl | rw [if_neg (by omega)]
       try simp only [Act.put, lay]
       refine tk 7 hHeld rfl (v := ?_) ?_ ?_
       rotate_left
       · intro w9 h9; (try dsimp only at h9); go_simp <;> first | with_reducible rfl | rw [if_neg (by omega)]
       try simp only [Act.put, lay]
       refine wpAnyH_ready (rs := [11]) (by kernel_rfl) (by simp) ?_
       refine AllReadyH.cons rfl (fun K hK => ?_) ?_
       · go_simp
         refine Calls.mono (HPJ2.out _) ?_
         rintro e w2 ⟨rfl, hw2⟩
         rw [hw2]
         clear hw2 w2
         go_wp2_with fail
         refine hK.out _ _ hHeld (fun h8 => ?_)
         clear hK K
         replace hHeld := h8
         clear h8
         try simp only [Act.put, lay]
         refine tk 12 hHeld rfl (v := ?_) ?_ ?_
         rotate_left
         · intro w9 h9; (try dsimp only at h9); go_simp <;> first | with_reducible rfl | rw [if_neg (by omega)]
         try simp only [Act.put, lay]
         refine tk 13 hHeld rfl (v := ?_) ?_ ?_
         rotate_left
         · intro w9 h9; (try dsimp only at h9); go_simp <;> first | with_reducible rfl | rw [if_neg (by omega)]
         try simp only [Act.put, lay]
         refine tk 14 hHeld rfl (v := ?_) ?_ ?_
         rotate_left
         · intro w9 h9; (try dsimp only at h9); go_simp <;> first | with_reducible rfl | rw [if_neg (by omega)]
         try simp only [Act.put, lay]
         refine tk 15 hHeld rfl (v := ?_) ?_ ?_
         rotate_left
         · intro w9 h9; (try dsimp only at h9); go_simp <;> first | with_reducible rfl | rw [if_neg (by omega)]
         try simp only [Act.put, lay]
         refine wpAnyH_ready (rs := [20]) (by kernel_rfl) (by simp) ?_
         refine AllReadyH.cons rfl (fun K hK => ?_) ?_
         · go_simp
           first | with_reducible refine Calls.mono (HST.out ((X.alloc (.cells #[.string ⟨#[107]⟩, .string ⟨#[120]⟩, .string ⟨#[106]⟩] 9)).alloc (.cells #[.string ⟨#[97]⟩, .string ⟨#[98]⟩] 9)).drew (HWf.out _ (bl_trans (((Below.refl _ _).alloc (Nat.le_refl _) _).alloc (by rw [alloc_size]; omega) _) (below_drew _))) _ HD1.out) ?_ | with_reducible refine Calls.mono (HST.out ((X.alloc (.cells #[.string ⟨#[107]⟩, .string ⟨#[120]⟩, .string ⟨#[106]⟩] 9)).alloc (.cells #[.string ⟨#[97]⟩, .string ⟨#[98]⟩] 9)).drew (HWf.out _ (bl_trans (((Below.refl _ _).alloc (Nat.le_refl _) _).alloc (by rw [alloc_size]; omega) _) (below_drew _))) _ HD2.out) ?_
           rintro e w3 ⟨Z2, rfl, z2, H3, B3, w3r, w31r⟩
           have m30 := bk B3.out ur hHeld.1.1.1
           have m31 := bk B3.out ur hHeld.1.1.2.1
           have m32 := bk B3.out pr hHeld.1.1.2.2.1
           have m33 := bk B3.out qr hHeld.1.1.2.2.2
           have m34 := bk B3.out g0r hHeld.1.2
           have m35 := bk B3.out g1r hHeld.2
           go_wp2_with fail
           refine hK.out _ _ ⟨⟨⟨m30, m31, m32, m33⟩, m34⟩, m35⟩ (fun h8 => ?_)
           clear hK K
           replace hHeld := h8
           clear h8
           try simp only [Act.put, lay]
           refine tk 21 hHeld rfl (v := ?_) ?_ ?_
           rotate_left
           · intro w9 h9; (try dsimp only at h9); go_simp <;> first | with_reducible rfl | rw [if_neg (by omega)]
           try simp only [Act.put, lay]
           refine tk 22 hHeld rfl (v := ?_) ?_ ?_
           rotate_left
           · intro w9 h9; (try dsimp only at h9); go_simp <;> first | with_reducible rfl | rw [if_neg (by omega)]
           try simp only [Act.put, lay]
           refine wpAnyH_ready (rs := [24]) (by kernel_rfl) (by simp) ?_
           refine AllReadyH.cons rfl (fun K hK => ?_) ?_
           · go_simp
             have HW4 : ∃ i4, Mk r w3 l i4 ∧ i4 ≤ i + 1 + c ∧ But r r w w3 := by obtain ⟨i4, h1, h2, h3⟩ := H3.out.2; exact ⟨i4, h1.below (Below.refl _ _), h2, h3.more (Below.refl _ _)⟩
             with_reducible refine Calls.mono (HEX.out w3 HW4 hHeld.1.1.2.2.1 hHeld.1.1.2.2.2) ?_
             rintro e w4 ⟨Z3, rfl, z3, H4, B4⟩
             clear HW4
             have m40 := bk B4.out ur hHeld.1.1.1
             have m41 := bk B4.out ur hHeld.1.1.2.1
             have m42 := bk B4.out pr hHeld.1.1.2.2.1
             have m43 := bk B4.out qr hHeld.1.1.2.2.2
             have m44 := bk B4.out g0r hHeld.1.2
             have m45 := bk B4.out g1r hHeld.2
             go_wp2_with fail
             refine hK.out _ _ ⟨⟨⟨m40, m41, m42, m43⟩, m44⟩, m45⟩ (fun h8 => ?_)
             clear hK K
             replace hHeld := h8
             clear h8
             try simp only [Act.put, lay]
             refine tk 25 hHeld rfl (v := ?_) ?_ ?_
             rotate_left
             · intro w9 h9; (try dsimp only at h9); go_simp <;> first | with_reducible rfl | rw [if_neg (by omega)]
             try simp only [Act.put, lay]
             refine tk 26 hHeld rfl (v := ?_) ?_ ?_
             rotate_left
             · intro w9 h9; (try dsimp only at h9); go_simp <;> first | with_reducible rfl | rw [if_neg (by omega)]
             try simp only [Act.put, lay]
             refine tk 27 hHeld rfl (v := ?_) ?_ ?_
             rotate_left
             · intro w9 h9; (try dsimp only at h9); go_simp <;> first | with_reducible rfl | rw [if_neg (by omega)]
             try simp only [Act.put, lay]
             refine wpAnyH_done (by kernel_rfl) ?_ _
             go_wp2_with fail
             go_ret
             first | exact HF.out _ _ _ _ _ H3.out H4.out (Below.refl _ _) | exact HF.out _ _ _ _ _ H3.out H4.out ((Below.refl _ _).alloc (Nat.le_refl _) _) | exact HF.out _ _ _ _ _ H3.out H4.out (((Below.refl _ _).alloc (Nat.le_refl _) _).alloc (by rw [alloc_size]; omega) _)
           exact AllReadyH.nil
         exact AllReadyH.nil
       exact AllReadyH.nil
     exact AllReadyH.nil
   exact AllReadyH.nil
 refine AllReadyH.cons rfl (fun K hK => ?_) ?_
 · go_simp
   refine Calls.mono (HPJ1.out _) ?_
   rintro e w2 ⟨rfl, hw2⟩
   rw [hw2]
   clear hw2 w2
   go_wp2_with fail
   refine hK.out _ _ hHeld (fun h8 => ?_)
   clear hK K
   replace hHeld := h8
   clear h8
   try simp only [Act.put, lay]
   refine wpAnyH_ready (rs := [0, 8, 11]) (by kernel_rfl) (by simp) ?_
   refine AllReadyH.cons rfl (fun K hK => ?_) ?_
   · go_simp
     refine hK.out _ _ ⟨ck hHeld.1, ck hHeld.2.1, ck hHeld.2.2.1, ck hHeld.2.2.2⟩ (fun h8 => ?_)
     clear hK K
     replace hHeld := h8
     clear h8
     try simp only [Act.put, lay]
     refine wpAnyH_stronger (S' := fun w9 => (w9.cell? ⟨u, 2, none⟩ = some (.int .i64 xb) ∧ w9.cell? ⟨u, 3, none⟩ = some (.int .i64 xc) ∧ w9.cell? ⟨p, 0, none⟩ = some (.pointer (some ⟨r, 0, none⟩)) ∧ w9.cell? ⟨q, 0, none⟩ = some (.bool b)) ∧ w9.cell? ⟨X.heap.size, J1, none⟩ = some (.string OB1)) (fun _ h => h.1) _ _ _ _ ?_
     have hHeld3 : ((X.alloc (.cells #[.string ⟨#[107]⟩, .string ⟨#[120]⟩, .string ⟨#[106]⟩] 9)).drew.cell? ⟨u, 2, none⟩ = some (.int .i64 xb) ∧ (X.alloc (.cells #[.string ⟨#[107]⟩, .string ⟨#[120]⟩, .string ⟨#[106]⟩] 9)).drew.cell? ⟨u, 3, none⟩ = some (.int .i64 xc) ∧ (X.alloc (.cells #[.string ⟨#[107]⟩, .string ⟨#[120]⟩, .string ⟨#[106]⟩] 9)).drew.cell? ⟨p, 0, none⟩ = some (.pointer (some ⟨r, 0, none⟩)) ∧ (X.alloc (.cells #[.string ⟨#[107]⟩, .string ⟨#[120]⟩, .string ⟨#[106]⟩] 9)).drew.cell? ⟨q, 0, none⟩ = some (.bool b)) ∧ (X.alloc (.cells #[.string ⟨#[107]⟩, .string ⟨#[120]⟩, .string ⟨#[106]⟩] 9)).drew.cell? ⟨X.heap.size, J1, none⟩ = some (.string OB1) := ⟨hHeld, ((at_new X _ _ J1).trans e01)⟩
     clear hHeld
     have hHeld := hHeld3
     clear hHeld3
     refine tk 4 hHeld rfl (v := ?_) ?_ ?_
     rotate_left
     · intro w9 h9; (try dsimp only at h9); go_simp <;> first | with_reducible rfl | rw [if_neg (by omega)]
     try simp only [Act.put, lay]
     refine tk 5 hHeld rfl (v := ?_) ?_ ?_
     rotate_left
     · intro w9 h9; (try dsimp only at h9); go_simp <;> first | with_reducible rfl | rw [if_neg (by omega)]
     try simp only [Act.put, lay]
     refine tk 6 hHeld rfl (v := ?_) ?_ ?_
     rotate_left
     · intro w9 h9; (try dsimp only at h9); go_simp <;> first | with_reducible rfl | rw [if_neg (by omega)]
     try simp only [Act.put, lay]
     refine tk 7 hHeld rfl (v := ?_) ?_ ?_
     rotate_left
     · intro w9 h9; (try dsimp only at h9); go_simp <;> first | with_reducible rfl | rw [if_neg (by omega)]
     try simp only [Act.put, lay]
     refine wpAnyH_ready (rs := [8, 11]) (by kernel_rfl) (by simp) ?_
     refine AllReadyH.cons rfl (fun K hK => ?_) ?_
     · go_simp
       refine hK.out _ _ ⟨⟨ck hHeld.1.1, ck hHeld.1.2.1, ck hHeld.1.2.2.1, ck hHeld.1.2.2.2⟩, ck hHeld.2⟩ (fun h8 => ?_)
       clear hK K
       replace hHeld := h8
       clear h8
       try simp only [Act.put, lay]
       refine wpAnyH_stronger (S' := fun w9 => ((w9.cell? ⟨u, 2, none⟩ = some (.int .i64 xb) ∧ w9.cell? ⟨u, 3, none⟩ = some (.int .i64 xc) ∧ w9.cell? ⟨p, 0, none⟩ = some (.pointer (some ⟨r, 0, none⟩)) ∧ w9.cell? ⟨q, 0, none⟩ = some (.bool b)) ∧ w9.cell? ⟨X.heap.size, J1, none⟩ = some (.string OB1)) ∧ w9.cell? ⟨X.heap.size + 1, J2, none⟩ = some (.string OB2)) (fun _ h => h.1) _ _ _ _ ?_
       have hHeld3 : ((((X.alloc (.cells #[.string ⟨#[107]⟩, .string ⟨#[120]⟩, .string ⟨#[106]⟩] 9)).alloc (.cells #[.string ⟨#[97]⟩, .string ⟨#[98]⟩] 9)).drew.cell? ⟨u, 2, none⟩ = some (.int .i64 xb) ∧ ((X.alloc (.cells #[.string ⟨#[107]⟩, .string ⟨#[120]⟩, .string ⟨#[106]⟩] 9)).alloc (.cells #[.string ⟨#[97]⟩, .string ⟨#[98]⟩] 9)).drew.cell? ⟨u, 3, none⟩ = some (.int .i64 xc) ∧ ((X.alloc (.cells #[.string ⟨#[107]⟩, .string ⟨#[120]⟩, .string ⟨#[106]⟩] 9)).alloc (.cells #[.string ⟨#[97]⟩, .string ⟨#[98]⟩] 9)).drew.cell? ⟨p, 0, none⟩ = some (.pointer (some ⟨r, 0, none⟩)) ∧ ((X.alloc (.cells #[.string ⟨#[107]⟩, .string ⟨#[120]⟩, .string ⟨#[106]⟩] 9)).alloc (.cells #[.string ⟨#[97]⟩, .string ⟨#[98]⟩] 9)).drew.cell? ⟨q, 0, none⟩ = some (.bool b)) ∧ ((X.alloc (.cells #[.string ⟨#[107]⟩, .string ⟨#[120]⟩, .string ⟨#[106]⟩] 9)).alloc (.cells #[.string ⟨#[97]⟩, .string ⟨#[98]⟩] 9)).drew.cell? ⟨X.heap.size, J1, none⟩ = some (.string OB1)) ∧ ((X.alloc (.cells #[.string ⟨#[107]⟩, .string ⟨#[120]⟩, .string ⟨#[106]⟩] 9)).alloc (.cells #[.string ⟨#[97]⟩, .string ⟨#[98]⟩] 9)).drew.cell? ⟨X.heap.size + 1, J2, none⟩ = some (.string OB2) := ⟨hHeld, (by have h := at_new (X.alloc (.cells #[.string ⟨#[107]⟩, .string ⟨#[120]⟩, .string ⟨#[106]⟩] 9)) #[.string ⟨#[97]⟩, .string ⟨#[98]⟩] 9 J2; rw [alloc_size] at h; exact h.trans e02)⟩
       clear hHeld
       have hHeld := hHeld3
       clear hHeld3
       refine wpAnyH_ready (rs := [11]) (by kernel_rfl) (by simp) ?_
       refine AllReadyH.cons rfl (fun K hK => ?_) ?_
       · go_simp
         refine Calls.mono (HPJ2.out _) ?_
         rintro e w2 ⟨rfl, hw2⟩
         rw [hw2]
         clear hw2 w2
         go_wp2_with fail
         refine hK.out _ _ hHeld (fun h8 => ?_)
         clear hK K
         replace hHeld := h8
         clear h8
         try simp only [Act.put, lay]
         refine tk 12 hHeld rfl (v := ?_) ?_ ?_
         rotate_left
         · intro w9 h9; (try dsimp only at h9); go_simp <;> first | with_reducible rfl | rw [if_neg (by omega)]
         try simp only [Act.put, lay]
         refine tk 13 hHeld rfl (v := ?_) ?_ ?_
         rotate_left
         · intro w9 h9; (try dsimp only at h9); go_simp <;> first | with_reducible rfl | rw [if_neg (by omega)]
         try simp only [Act.put, lay]
         refine tk 14 hHeld rfl (v := ?_) ?_ ?_
         rotate_left
         · intro w9 h9; (try dsimp only at h9); go_simp <;> first | with_reducible rfl | rw [if_neg (by omega)]
         try simp only [Act.put, lay]
         refine tk 15 hHeld rfl (v := ?_) ?_ ?_
         rotate_left
         · intro w9 h9; (try dsimp only at h9); go_simp <;> first | with_reducible rfl | rw [if_neg (by omega)]
         try simp only [Act.put, lay]
         refine wpAnyH_ready (rs := [20]) (by kernel_rfl) (by simp) ?_
         refine AllReadyH.cons rfl (fun K hK => ?_) ?_
         · go_simp
           first | with_reducible refine Calls.mono (HST.out ((X.alloc (.cells #[.string ⟨#[107]⟩, .string ⟨#[120]⟩, .string ⟨#[106]⟩] 9)).alloc (.cells #[.string ⟨#[97]⟩, .string ⟨#[98]⟩] 9)).drew (HWf.out _ (bl_trans (((Below.refl _ _).alloc (Nat.le_refl _) _).alloc (by rw [alloc_size]; omega) _) (below_drew _))) _ HD1.out) ?_ | with_reducible refine Calls.mono (HST.out ((X.alloc (.cells #[.string ⟨#[107]⟩, .string ⟨#[120]⟩, .string ⟨#[106]⟩] 9)).alloc (.cells #[.string ⟨#[97]⟩, .string ⟨#[98]⟩] 9)).drew (HWf.out _ (bl_trans (((Below.refl _ _).alloc (Nat.le_refl _) _).alloc (by rw [alloc_size]; omega) _) (below_drew _))) _ HD2.out) ?_
           rintro e w3 ⟨Z2, rfl, z2, H3, B3, w3r, w31r⟩
           have m30 := bk B3.out ur hHeld.1.1.1
           have m31 := bk B3.out ur hHeld.1.1.2.1
           have m32 := bk B3.out pr hHeld.1.1.2.2.1
           have m33 := bk B3.out qr hHeld.1.1.2.2.2
           have m34 := bk B3.out g0r hHeld.1.2
           have m35 := bk B3.out g1r hHeld.2
           go_wp2_with fail
           refine hK.out _ _ ⟨⟨⟨m30, m31, m32, m33⟩, m34⟩, m35⟩ (fun h8 => ?_)
           clear hK K
           replace hHeld := h8
           clear h8
           try simp only [Act.put, lay]
           refine tk 21 hHeld rfl (v := ?_) ?_ ?_
           rotate_left
           · intro w9 h9; (try dsimp only at h9); go_simp <;> first | with_reducible rfl | rw [if_neg (by omega)]
           try simp only [Act.put, lay]
           refine tk 22 hHeld rfl (v := ?_) ?_ ?_
           rotate_left
           · intro w9 h9; (try dsimp only at h9); go_simp <;> first | with_reducible rfl | rw [if_neg (by omega)]
           try simp only [Act.put, lay]
           refine wpAnyH_ready (rs := [24]) (by kernel_rfl) (by simp) ?_
           refine AllReadyH.cons rfl (fun K hK => ?_) ?_
           · go_simp
             have HW4 : ∃ i4, Mk r w3 l i4 ∧ i4 ≤ i + 1 + c ∧ But r r w w3 := by obtain ⟨i4, h1, h2, h3⟩ := H3.out.2; exact ⟨i4, h1.below (Below.refl _ _), h2, h3.more (Below.refl _ _)⟩
             with_reducible refine Calls.mono (HEX.out w3 HW4 hHeld.1.1.2.2.1 hHeld.1.1.2.2.2) ?_
             rintro e w4 ⟨Z3, rfl, z3, H4, B4⟩
             clear HW4
             have m40 := bk B4.out ur hHeld.1.1.1
             have m41 := bk B4.out ur hHeld.1.1.2.1
             have m42 := bk B4.out pr hHeld.1.1.2.2.1
             have m43 := bk B4.out qr hHeld.1.1.2.2.2
             have m44 := bk B4.out g0r hHeld.1.2
             have m45 := bk B4.out g1r hHeld.2
             go_wp2_with fail
             refine hK.out _ _ ⟨⟨⟨m40, m41, m42, m43⟩, m44⟩, m45⟩ (fun h8 => ?_)
             clear hK K
             replace hHeld := h8
             clear h8
             try simp only [Act.put, lay]
             refine tk 25 hHeld rfl (v := ?_) ?_ ?_
             rotate_left
             · intro w9 h9; (try dsimp only at h9); go_simp <;> first | with_reducible rfl | rw [if_neg (by omega)]
             try simp only [Act.put, lay]
             refine tk 26 hHeld rfl (v := ?_) ?_ ?_
             rotate_left
             · intro w9 h9; (try dsimp only at h9); go_simp <;> first | with_reducible rfl | rw [if_neg (by omega)]
             try simp only [Act.put, lay]
             refine tk 27 hHeld rfl (v := ?_) ?_ ?_
             rotate_left
             · intro w9 h9; (try dsimp only at h9); go_simp <;> first | with_reducible rfl | rw [if_neg (by omega)]
             try simp only [Act.put, lay]
             refine wpAnyH_done (by kernel_rfl) ?_ _
             go_wp2_with fail
             go_ret
             first | exact HF.out _ _ _ _ _ H3.out H4.out (Below.refl _ _) | exact HF.out _ _ _ _ _ H3.out H4.out ((Below.refl _ _).alloc (Nat.le_refl _) _) | exact HF.out _ _ _ _ _ H3.out H4.out (((Below.refl _ _).alloc (Nat.le_refl _) _).alloc (by rw [alloc_size]; omega) _)
           exact AllReadyH.nil
         exact AllReadyH.nil
       exact AllReadyH.nil
     refine AllReadyH.cons rfl (fun K hK => ?_) ?_
     · go_simp
       refine Calls.mono (HPJ2.out _) ?_
       rintro e w2 ⟨rfl, hw2⟩
       rw [hw2]
       clear hw2 w2
       go_wp2_with fail
       refine hK.out _ _ hHeld (fun h8 => ?_)
       clear hK K
       replace hHeld := h8
       clear h8
       try simp only [Act.put, lay]
       refine wpAnyH_ready (rs := [8, 20]) (by kernel_rfl) (by simp) ?_
       refine AllReadyH.cons rfl (fun K hK => ?_) ?_
       · go_simp
         refine hK.out _ _ ⟨⟨ck hHeld.1.1, ck hHeld.1.2.1, ck hHeld.1.2.2.1, ck hHeld.1.2.2.2⟩, ck hHeld.2⟩ (fun h8 => ?_)
         clear hK K
         replace hHeld := h8
         clear h8
         try simp only [Act.put, lay]
         refine wpAnyH_stronger (S' := fun w9 => ((w9.cell? ⟨u, 2, none⟩ = some (.int .i64 xb) ∧ w9.cell? ⟨u, 3, none⟩ = some (.int .i64 xc) ∧ w9.cell? ⟨p, 0, none⟩ = some (.pointer (some ⟨r, 0, none⟩)) ∧ w9.cell? ⟨q, 0, none⟩ = some (.bool b)) ∧ w9.cell? ⟨X.heap.size, J1, none⟩ = some (.string OB1)) ∧ w9.cell? ⟨X.heap.size + 1, J2, none⟩ = some (.string OB2)) (fun _ h => h.1) _ _ _ _ ?_
         have hHeld3 : ((((X.alloc (.cells #[.string ⟨#[107]⟩, .string ⟨#[120]⟩, .string ⟨#[106]⟩] 9)).alloc (.cells #[.string ⟨#[97]⟩, .string ⟨#[98]⟩] 9)).drew.cell? ⟨u, 2, none⟩ = some (.int .i64 xb) ∧ ((X.alloc (.cells #[.string ⟨#[107]⟩, .string ⟨#[120]⟩, .string ⟨#[106]⟩] 9)).alloc (.cells #[.string ⟨#[97]⟩, .string ⟨#[98]⟩] 9)).drew.cell? ⟨u, 3, none⟩ = some (.int .i64 xc) ∧ ((X.alloc (.cells #[.string ⟨#[107]⟩, .string ⟨#[120]⟩, .string ⟨#[106]⟩] 9)).alloc (.cells #[.string ⟨#[97]⟩, .string ⟨#[98]⟩] 9)).drew.cell? ⟨p, 0, none⟩ = some (.pointer (some ⟨r, 0, none⟩)) ∧ ((X.alloc (.cells #[.string ⟨#[107]⟩, .string ⟨#[120]⟩, .string ⟨#[106]⟩] 9)).alloc (.cells #[.string ⟨#[97]⟩, .string ⟨#[98]⟩] 9)).drew.cell? ⟨q, 0, none⟩ = some (.bool b)) ∧ ((X.alloc (.cells #[.string ⟨#[107]⟩, .string ⟨#[120]⟩, .string ⟨#[106]⟩] 9)).alloc (.cells #[.string ⟨#[97]⟩, .string ⟨#[98]⟩] 9)).drew.cell? ⟨X.heap.size, J1, none⟩ = some (.string OB1)) ∧ ((X.alloc (.cells #[.string ⟨#[107]⟩, .string ⟨#[120]⟩, .string ⟨#[106]⟩] 9)).alloc (.cells #[.string ⟨#[97]⟩, .string ⟨#[98]⟩] 9)).drew.cell? ⟨X.heap.size + 1, J2, none⟩ = some (.string OB2) := ⟨hHeld, (by have h := at_new (X.alloc (.cells #[.string ⟨#[107]⟩, .string ⟨#[120]⟩, .string ⟨#[106]⟩] 9)) #[.string ⟨#[97]⟩, .string ⟨#[98]⟩] 9 J2; rw [alloc_size] at h; exact h.trans e02)⟩
         clear hHeld
         have hHeld := hHeld3
         clear hHeld3
         refine tk 12 hHeld rfl (v := ?_) ?_ ?_
         rotate_left
         · intro w9 h9; (try dsimp only at h9); go_simp <;> first | with_reducible rfl | rw [if_neg (by omega)]
         try simp only [Act.put, lay]
         refine tk 13 hHeld rfl (v := ?_) ?_ ?_
         rotate_left
         · intro w9 h9; (try dsimp only at h9); go_simp <;> first | with_reducible rfl | rw [if_neg (by omega)]
         try simp only [Act.put, lay]
         refine tk 14 hHeld rfl (v := ?_) ?_ ?_
         rotate_left
         · intro w9 h9; (try dsimp only at h9); go_simp <;> first | with_reducible rfl | rw [if_neg (by omega)]
         try simp only [Act.put, lay]
         refine tk 15 hHeld rfl (v := ?_) ?_ ?_
         rotate_left
         · intro w9 h9; (try dsimp only at h9); go_simp <;> first | with_reducible rfl | rw [if_neg (by omega)]
         try simp only [Act.put, lay]
         refine wpAnyH_ready (rs := [20]) (by kernel_rfl) (by simp) ?_
         refine AllReadyH.cons rfl (fun K hK => ?_) ?_
         · go_simp
           first | with_reducible refine Calls.mono (HST.out ((X.alloc (.cells #[.string ⟨#[107]⟩, .string ⟨#[120]⟩, .string ⟨#[106]⟩] 9)).alloc (.cells #[.string ⟨#[97]⟩, .string ⟨#[98]⟩] 9)).drew (HWf.out _ (bl_trans (((Below.refl _ _).alloc (Nat.le_refl _) _).alloc (by rw [alloc_size]; omega) _) (below_drew _))) _ HD1.out) ?_ | with_reducible refine Calls.mono (HST.out ((X.alloc (.cells #[.string ⟨#[107]⟩, .string ⟨#[120]⟩, .string ⟨#[106]⟩] 9)).alloc (.cells #[.string ⟨#[97]⟩, .string ⟨#[98]⟩] 9)).drew (HWf.out _ (bl_trans (((Below.refl _ _).alloc (Nat.le_refl _) _).alloc (by rw [alloc_size]; omega) _) (below_drew _))) _ HD2.out) ?_
           rintro e w3 ⟨Z2, rfl, z2, H3, B3, w3r, w31r⟩
           have m30 := bk B3.out ur hHeld.1.1.1
           have m31 := bk B3.out ur hHeld.1.1.2.1
           have m32 := bk B3.out pr hHeld.1.1.2.2.1
           have m33 := bk B3.out qr hHeld.1.1.2.2.2
           have m34 := bk B3.out g0r hHeld.1.2
           have m35 := bk B3.out g1r hHeld.2
           go_wp2_with fail
           refine hK.out _ _ ⟨⟨⟨m30, m31, m32, m33⟩, m34⟩, m35⟩ (fun h8 => ?_)
           clear hK K
           replace hHeld := h8
           clear h8
           try simp only [Act.put, lay]
           refine tk 21 hHeld rfl (v := ?_) ?_ ?_
           rotate_left
           · intro w9 h9; (try dsimp only at h9); go_simp <;> first | with_reducible rfl | rw [if_neg (by omega)]
           try simp only [Act.put, lay]
           refine tk 22 hHeld rfl (v := ?_) ?_ ?_
           rotate_left
           · intro w9 h9; (try dsimp only at h9); go_simp <;> first | with_reducible rfl | rw [if_neg (by omega)]
           try simp only [Act.put, lay]
           refine wpAnyH_ready (rs := [24]) (by kernel_rfl) (by simp) ?_
           refine AllReadyH.cons rfl (fun K hK => ?_) ?_
           · go_simp
             have HW4 : ∃ i4, Mk r w3 l i4 ∧ i4 ≤ i + 1 + c ∧ But r r w w3 := by obtain ⟨i4, h1, h2, h3⟩ := H3.out.2; exact ⟨i4, h1.below (Below.refl _ _), h2, h3.more (Below.refl _ _)⟩
             with_reducible refine Calls.mono (HEX.out w3 HW4 hHeld.1.1.2.2.1 hHeld.1.1.2.2.2) ?_
             rintro e w4 ⟨Z3, rfl, z3, H4, B4⟩
             clear HW4
             have m40 := bk B4.out ur hHeld.1.1.1
             have m41 := bk B4.out ur hHeld.1.1.2.1
             have m42 := bk B4.out pr hHeld.1.1.2.2.1
             have m43 := bk B4.out qr hHeld.1.1.2.2.2
             have m44 := bk B4.out g0r hHeld.1.2
             have m45 := bk B4.out g1r hHeld.2
             go_wp2_with fail
             refine hK.out _ _ ⟨⟨⟨m40, m41, m42, m43⟩, m44⟩, m45⟩ (fun h8 => ?_)
             clear hK K
             replace hHeld := h8
             clear h8
             try simp only [Act.put, lay]
             refine tk 25 hHeld rfl (v := ?_) ?_ ?_
             rotate_left
             · intro w9 h9; (try dsimp only at h9); go_simp <;> first | with_reducible rfl | rw [if_neg (by omega)]
             try simp only [Act.put, lay]
             refine tk 26 hHeld rfl (v := ?_) ?_ ?_
             rotate_left
             · intro w9 h9; (try dsimp only at h9); go_simp <;> first | with_reducible rfl | rw [if_neg (by omega)]
             try simp only [Act.put, lay]
             refine tk 27 hHeld rfl (v := ?_) ?_ ?_
             rotate_left
             · intro w9 h9; (try dsimp only at h9); go_simp <;> first | with_reducible rfl | rw [if_neg (by omega)]
             try simp only [Act.put, lay]
             refine wpAnyH_done (by kernel_rfl) ?_ _
             go_wp2_with fail
             go_ret
             first | exact HF.out _ _ _ _ _ H3.out H4.out (Below.refl _ _) | exact HF.out _ _ _ _ _ H3.out H4.out ((Below.refl _ _).alloc (Nat.le_refl _) _) | exact HF.out _ _ _ _ _ H3.out H4.out (((Below.refl _ _).alloc (Nat.le_refl _) _).alloc (by rw [alloc_size]; omega) _)
           exact AllReadyH.nil
         exact AllReadyH.nil
       refine AllReadyH.cons rfl (fun K hK => ?_) ?_
       · go_simp
         first | with_reducible refine Calls.mono (HST.out (X.alloc (.cells #[.string ⟨#[107]⟩, .string ⟨#[120]⟩, .string ⟨#[106]⟩] 9)).drew (HWf.out _ (bl_trans ((Below.refl _ _).alloc (Nat.le_refl _) _) (below_drew _))) _ HD1.out) ?_ | with_reducible refine Calls.mono (HST.out (X.alloc (.cells #[.string ⟨#[107]⟩, .string ⟨#[120]⟩, .string ⟨#[106]⟩] 9)).drew (HWf.out _ (bl_trans ((Below.refl _ _).alloc (Nat.le_refl _) _) (below_drew _))) _ HD2.out) ?_
         rintro e w3 ⟨Z2, rfl, z2, H3, B3, w3r, w31r⟩
         have m30 := bk B3.out ur hHeld.1.1
         have m31 := bk B3.out ur hHeld.1.2.1
         have m32 := bk B3.out pr hHeld.1.2.2.1
         have m33 := bk B3.out qr hHeld.1.2.2.2
         have m34 := bk B3.out g0r hHeld.2
         go_wp2_with fail
         refine hK.out _ _ ⟨⟨m30, m31, m32, m33⟩, m34⟩ (fun h8 => ?_)
         clear hK K
         replace hHeld := h8
         clear h8
         try simp only [Act.put, lay]
         refine wpAnyH_ready (rs := [8, 24]) (by kernel_rfl) (by simp) ?_
         refine AllReadyH.cons rfl (fun K hK => ?_) ?_
         · go_simp
           refine hK.out _ _ ⟨⟨ck hHeld.1.1, ck hHeld.1.2.1, ck hHeld.1.2.2.1, ck hHeld.1.2.2.2⟩, ck hHeld.2⟩ (fun h8 => ?_)
           clear hK K
           replace hHeld := h8
           clear h8
           try simp only [Act.put, lay]
           refine wpAnyH_stronger (S' := fun w9 => ((w9.cell? ⟨u, 2, none⟩ = some (.int .i64 xb) ∧ w9.cell? ⟨u, 3, none⟩ = some (.int .i64 xc) ∧ w9.cell? ⟨p, 0, none⟩ = some (.pointer (some ⟨r, 0, none⟩)) ∧ w9.cell? ⟨q, 0, none⟩ = some (.bool b)) ∧ w9.cell? ⟨X.heap.size, J1, none⟩ = some (.string OB1)) ∧ w9.cell? ⟨w3.heap.size, J2, none⟩ = some (.string OB2)) (fun _ h => h.1) _ _ _ _ ?_
           have hHeld3 : (((w3.alloc (.cells #[.string ⟨#[97]⟩, .string ⟨#[98]⟩] 9)).cell? ⟨u, 2, none⟩ = some (.int .i64 xb) ∧ (w3.alloc (.cells #[.string ⟨#[97]⟩, .string ⟨#[98]⟩] 9)).cell? ⟨u, 3, none⟩ = some (.int .i64 xc) ∧ (w3.alloc (.cells #[.string ⟨#[97]⟩, .string ⟨#[98]⟩] 9)).cell? ⟨p, 0, none⟩ = some (.pointer (some ⟨r, 0, none⟩)) ∧ (w3.alloc (.cells #[.string ⟨#[97]⟩, .string ⟨#[98]⟩] 9)).cell? ⟨q, 0, none⟩ = some (.bool b)) ∧ (w3.alloc (.cells #[.string ⟨#[97]⟩, .string ⟨#[98]⟩] 9)).cell? ⟨X.heap.size, J1, none⟩ = some (.string OB1)) ∧ (w3.alloc (.cells #[.string ⟨#[97]⟩, .string ⟨#[98]⟩] 9)).cell? ⟨w3.heap.size, J2, none⟩ = some (.string OB2) := ⟨hHeld, ((at_new w3 _ _ J2).trans e02)⟩
           clear hHeld
           have hHeld := hHeld3
           clear hHeld3
           refine tk 12 hHeld rfl (v := ?_) ?_ ?_
           rotate_left
           · intro w9 h9; (try dsimp only at h9); go_simp <;> first | with_reducible rfl | rw [if_neg (by omega)]
           try simp only [Act.put, lay]
           refine tk 13 hHeld rfl (v := ?_) ?_ ?_
           rotate_left
           · intro w9 h9; (try dsimp only at h9); go_simp <;> first | with_reducible rfl | rw [if_neg (by omega)]
           try simp only [Act.put, lay]
           refine tk 14 hHeld rfl (v := ?_) ?_ ?_
           rotate_left
           · intro w9 h9; (try dsimp only at h9); go_simp <;> first | with_reducible rfl | rw [if_neg (by omega)]
           try simp only [Act.put, lay]
           refine tk 15 hHeld rfl (v := ?_) ?_ ?_
           rotate_left
           · intro w9 h9; (try dsimp only at h9); go_simp <;> first | with_reducible rfl | rw [if_neg (by omega)]
           try simp only [Act.put, lay]
           refine tk 21 hHeld rfl (v := ?_) ?_ ?_
           rotate_left
           · intro w9 h9; (try dsimp only at h9); go_simp <;> first | with_reducible rfl | rw [if_neg (by omega)]
           try simp only [Act.put, lay]
           refine tk 22 hHeld rfl (v := ?_) ?_ ?_
           rotate_left
           · intro w9 h9; (try dsimp only at h9); go_simp <;> first | with_reducible rfl | rw [if_neg (by omega)]
           try simp only [Act.put, lay]
           refine wpAnyH_ready (rs := [24]) (by kernel_rfl) (by simp) ?_
           refine AllReadyH.cons rfl (fun K hK => ?_) ?_
           · go_simp
             have HW4 : ∃ i4, Mk r (w3.alloc (.cells #[.string ⟨#[97]⟩, .string ⟨#[98]⟩] 9)) l i4 ∧ i4 ≤ i + 1 + c ∧ But r r w (w3.alloc (.cells #[.string ⟨#[97]⟩, .string ⟨#[98]⟩] 9)) := by obtain ⟨i4, h1, h2, h3⟩ := H3.out.2; exact ⟨i4, h1.below ((Below.refl _ _).alloc (Nat.le_refl _) _), h2, h3.more ((Below.refl _ _).alloc (Nat.le_refl _) _)⟩
             with_reducible refine Calls.mono (HEX.out (w3.alloc (.cells #[.string ⟨#[97]⟩, .string ⟨#[98]⟩] 9)) HW4 hHeld.1.1.2.2.1 hHeld.1.1.2.2.2) ?_
             rintro e w4 ⟨Z3, rfl, z3, H4, B4⟩
             clear HW4
             have m40 := bk B4.out ur hHeld.1.1.1
             have m41 := bk B4.out ur hHeld.1.1.2.1
             have m42 := bk B4.out pr hHeld.1.1.2.2.1
             have m43 := bk B4.out qr hHeld.1.1.2.2.2
             have m44 := bk B4.out g0r hHeld.1.2
             have m45 := bk B4.out w3r hHeld.2
             go_wp2_with fail
             refine hK.out _ _ ⟨⟨⟨m40, m41, m42, m43⟩, m44⟩, m45⟩ (fun h8 => ?_)
             clear hK K
             replace hHeld := h8
             clear h8
             try simp only [Act.put, lay]
             refine tk 25 hHeld rfl (v := ?_) ?_ ?_
             rotate_left
             · intro w9 h9; (try dsimp only at h9); go_simp <;> first | with_reducible rfl | rw [if_neg (by omega)]
             try simp only [Act.put, lay]
             refine tk 26 hHeld rfl (v := ?_) ?_ ?_
             rotate_left
             · intro w9 h9; (try dsimp only at h9); go_simp <;> first | with_reducible rfl | rw [if_neg (by omega)]
             try simp only [Act.put, lay]
             refine tk 27 hHeld rfl (v := ?_) ?_ ?_
             rotate_left
             · intro w9 h9; (try dsimp only at h9); go_simp <;> first | with_reducible rfl | rw [if_neg (by omega)]
             try simp only [Act.put, lay]
             refine wpAnyH_done (by kernel_rfl) ?_ _
             go_wp2_with fail
             go_ret
             first | exact HF.out _ _ _ _ _ H3.out H4.out (Below.refl _ _) | exact HF.out _ _ _ _ _ H3.out H4.out ((Below.refl _ _).alloc (Nat.le_refl _) _) | exact HF.out _ _ _ _ _ H3.out H4.out (((Below.refl _ _).alloc (Nat.le_refl _) _).alloc (by rw [alloc_size]; omega) _)
           exact AllReadyH.nil
         refine AllReadyH.cons rfl (fun K hK => ?_) ?_
         · go_simp
           have HW4 : ∃ i4, Mk r w3 l i4 ∧ i4 ≤ i + 1 + c ∧ But r r w w3 := by obtain ⟨i4, h1, h2, h3⟩ := H3.out.2; exact ⟨i4, h1.below (Below.refl _ _), h2, h3.more (Below.refl _ _)⟩
           with_reducible refine Calls.mono (HEX.out w3 HW4 hHeld.1.2.2.1 hHeld.1.2.2.2) ?_
           rintro e w4 ⟨Z3, rfl, z3, H4, B4⟩
           clear HW4
           have m40 := bk B4.out ur hHeld.1.1
           have m41 := bk B4.out ur hHeld.1.2.1
           have m42 := bk B4.out pr hHeld.1.2.2.1
           have m43 := bk B4.out qr hHeld.1.2.2.2
           have m44 := bk B4.out g0r hHeld.2
           go_wp2_with fail
           refine hK.out _ _ ⟨⟨m40, m41, m42, m43⟩, m44⟩ (fun h8 => ?_)
           clear hK K
           replace hHeld := h8
           clear h8
           try simp only [Act.put, lay]
           refine wpAnyH_ready (rs := [8]) (by kernel_rfl) (by simp) ?_
           refine AllReadyH.cons rfl (fun K hK => ?_) ?_
           · go_simp
             refine hK.out _ _ ⟨⟨ck hHeld.1.1, ck hHeld.1.2.1, ck hHeld.1.2.2.1, ck hHeld.1.2.2.2⟩, ck hHeld.2⟩ (fun h8 => ?_)
             clear hK K
             replace hHeld := h8
             clear h8
             try simp only [Act.put, lay]
             refine wpAnyH_stronger (S' := fun w9 => ((w9.cell? ⟨u, 2, none⟩ = some (.int .i64 xb) ∧ w9.cell? ⟨u, 3, none⟩ = some (.int .i64 xc) ∧ w9.cell? ⟨p, 0, none⟩ = some (.pointer (some ⟨r, 0, none⟩)) ∧ w9.cell? ⟨q, 0, none⟩ = some (.bool b)) ∧ w9.cell? ⟨X.heap.size, J1, none⟩ = some (.string OB1)) ∧ w9.cell? ⟨w4.heap.size, J2, none⟩ = some (.string OB2)) (fun _ h => h.1) _ _ _ _ ?_
             have hHeld3 : (((w4.alloc (.cells #[.string ⟨#[97]⟩, .string ⟨#[98]⟩] 9)).cell? ⟨u, 2, none⟩ = some (.int .i64 xb) ∧ (w4.alloc (.cells #[.string ⟨#[97]⟩, .string ⟨#[98]⟩] 9)).cell? ⟨u, 3, none⟩ = some (.int .i64 xc) ∧ (w4.alloc (.cells #[.string ⟨#[97]⟩, .string ⟨#[98]⟩] 9)).cell? ⟨p, 0, none⟩ = some (.pointer (some ⟨r, 0, none⟩)) ∧ (w4.alloc (.cells #[.string ⟨#[97]⟩, .string ⟨#[98]⟩] 9)).cell? ⟨q, 0, none⟩ = some (.bool b)) ∧ (w4.alloc (.cells #[.string ⟨#[97]⟩, .string ⟨#[98]⟩] 9)).cell? ⟨X.heap.size, J1, none⟩ = some (.string OB1)) ∧ (w4.alloc (.cells #[.string ⟨#[97]⟩, .string ⟨#[98]⟩] 9)).cell? ⟨w4.heap.size, J2, none⟩ = some (.string OB2) := ⟨hHeld, ((at_new w4 _ _ J2).trans e02)⟩
             clear hHeld
             have hHeld := hHeld3
             clear hHeld3
             refine tk 12 hHeld rfl (v := ?_) ?_ ?_
             rotate_left
             · intro w9 h9; (try dsimp only at h9); go_simp <;> first | with_reducible rfl | rw [if_neg (by omega)]
             try simp only [Act.put, lay]
             refine tk 13 hHeld rfl (v := ?_) ?_ ?_
             rotate_left
             · intro w9 h9; (try dsimp only at h9); go_simp <;> first | with_reducible rfl | rw [if_neg (by omega)]
             try simp only [Act.put, lay]
             refine tk 14 hHeld rfl (v := ?_) ?_ ?_
             rotate_left
             · intro w9 h9; (try dsimp only at h9); go_simp <;> first | with_reducible rfl | rw [if_neg (by omega)]
             try simp only [Act.put, lay]
             refine tk 15 hHeld rfl (v := ?_) ?_ ?_
             rotate_left
             · intro w9 h9; (try dsimp only at h9); go_simp <;> first | with_reducible rfl | rw [if_neg (by omega)]
             try simp only [Act.put, lay]
             refine tk 21 hHeld rfl (v := ?_) ?_ ?_
             rotate_left
             · intro w9 h9; (try dsimp only at h9); go_simp <;> first | with_reducible rfl | rw [if_neg (by omega)]
             try simp only [Act.put, lay]
             refine tk 22 hHeld rfl (v := ?_) ?_ ?_
             rotate_left
             · intro w9 h9; (try dsimp only at h9); go_simp <;> first | with_reducible rfl | rw [if_neg (by omega)]
             try simp only [Act.put, lay]
             refine tk 25 hHeld rfl (v := ?_) ?_ ?_
             rotate_left
             · intro w9 h9; (try dsimp only at h9); go_simp <;> first | with_reducible rfl | rw [if_neg (by omega)]
             try simp only [Act.put, lay]
             refine tk 26 hHeld rfl (v := ?_) ?_ ?_
             rotate_left
             · intro w9 h9; (try dsimp only at h9); go_simp <;> first | with_reducible rfl | rw [if_neg (by omega)]
             try simp only [Act.put, lay]
             refine tk 27 hHeld rfl (v := ?_) ?_ ?_
             rotate_left
             · intro w9 h9; (try dsimp only at h9); go_simp <;> first | with_reducible rfl | rw [if_neg (by omega)]
             try simp only [Act.put, lay]
             refine wpAnyH_done (by kernel_rfl) ?_ _
             go_wp2_with fail
             go_ret
             first | exact HF.out _ _ _ _ _ H3.out H4.out (Below.refl _ _) | exact HF.out _ _ _ _ _ H3.out H4.out ((Below.refl _ _).alloc (Nat.le_refl _) _) | exact HF.out _ _ _ _ _ H3.out H4.out (((Below.refl _ _).alloc (Nat.le_refl _) _).alloc (by rw [alloc_size]; omega) _)
           exact AllReadyH.nil
         exact AllReadyH.nil
       exact AllReadyH.nil
     exact AllReadyH.nil
   refine AllReadyH.cons rfl (fun K hK => ?_) ?_
   · go_simp
     refine hK.out _ _ ⟨ck hHeld.1, ck hHeld.2.1, ck hHeld.2.2.1, ck hHeld.2.2.2⟩ (fun h8 => ?_)
     clear hK K
     replace hHeld := h8
     clear h8
     try simp only [Act.put, lay]
     refine wpAnyH_stronger (S' := fun w9 => (w9.cell? ⟨u, 2, none⟩ = some (.int .i64 xb) ∧ w9.cell? ⟨u, 3, none⟩ = some (.int .i64 xc) ∧ w9.cell? ⟨p, 0, none⟩ = some (.pointer (some ⟨r, 0, none⟩)) ∧ w9.cell? ⟨q, 0, none⟩ = some (.bool b)) ∧ w9.cell? ⟨X.heap.size, J2, none⟩ = some (.string OB2)) (fun _ h => h.1) _ _ _ _ ?_
     have hHeld3 : ((X.alloc (.cells #[.string ⟨#[97]⟩, .string ⟨#[98]⟩] 9)).drew.cell? ⟨u, 2, none⟩ = some (.int .i64 xb) ∧ (X.alloc (.cells #[.string ⟨#[97]⟩, .string ⟨#[98]⟩] 9)).drew.cell? ⟨u, 3, none⟩ = some (.int .i64 xc) ∧ (X.alloc (.cells #[.string ⟨#[97]⟩, .string ⟨#[98]⟩] 9)).drew.cell? ⟨p, 0, none⟩ = some (.pointer (some ⟨r, 0, none⟩)) ∧ (X.alloc (.cells #[.string ⟨#[97]⟩, .string ⟨#[98]⟩] 9)).drew.cell? ⟨q, 0, none⟩ = some (.bool b)) ∧ (X.alloc (.cells #[.string ⟨#[97]⟩, .string ⟨#[98]⟩] 9)).drew.cell? ⟨X.heap.size, J2, none⟩ = some (.string OB2) := ⟨hHeld, ((at_new X _ _ J2).trans e02)⟩
     clear hHeld
     have hHeld := hHeld3
     clear hHeld3
     refine wpAnyH_ready (rs := [0, 11]) (by kernel_rfl) (by simp) ?_
     refine AllReadyH.cons rfl (fun K hK => ?_) ?_
     · go_simp
       refine hK.out _ _ ⟨⟨ck hHeld.1.1, ck hHeld.1.2.1, ck hHeld.1.2.2.1, ck hHeld.1.2.2.2⟩, ck hHeld.2⟩ (fun h8 => ?_)
       clear hK K
       replace hHeld := h8
       clear h8
       try simp only [Act.put, lay]
       refine wpAnyH_stronger (S' := fun w9 => ((w9.cell? ⟨u, 2, none⟩ = some (.int .i64 xb) ∧ w9.cell? ⟨u, 3, none⟩ = some (.int .i64 xc) ∧ w9.cell? ⟨p, 0, none⟩ = some (.pointer (some ⟨r, 0, none⟩)) ∧ w9.cell? ⟨q, 0, none⟩ = some (.bool b)) ∧ w9.cell? ⟨X.heap.size, J2, none⟩ = some (.string OB2)) ∧ w9.cell? ⟨X.heap.size + 1, J1, none⟩ = some (.string OB1)) (fun _ h => h.1) _ _ _ _ ?_
       have hHeld3 : ((((X.alloc (.cells #[.string ⟨#[97]⟩, .string ⟨#[98]⟩] 9)).alloc (.cells #[.string ⟨#[107]⟩, .string ⟨#[120]⟩, .string ⟨#[106]⟩] 9)).drew.cell? ⟨u, 2, none⟩ = some (.int .i64 xb) ∧ ((X.alloc (.cells #[.string ⟨#[97]⟩, .string ⟨#[98]⟩] 9)).alloc (.cells #[.string ⟨#[107]⟩, .string ⟨#[120]⟩, .string ⟨#[106]⟩] 9)).drew.cell? ⟨u, 3, none⟩ = some (.int .i64 xc) ∧ ((X.alloc (.cells #[.string ⟨#[97]⟩, .string ⟨#[98]⟩] 9)).alloc (.cells #[.string ⟨#[107]⟩, .string ⟨#[120]⟩, .string ⟨#[106]⟩] 9)).drew.cell? ⟨p, 0, none⟩ = some (.pointer (some ⟨r, 0, none⟩)) ∧ ((X.alloc (.cells #[.string ⟨#[97]⟩, .string ⟨#[98]⟩] 9)).alloc (.cells #[.string ⟨#[107]⟩, .string ⟨#[120]⟩, .string ⟨#[106]⟩] 9)).drew.cell? ⟨q, 0, none⟩ = some (.bool b)) ∧ ((X.alloc (.cells #[.string ⟨#[97]⟩, .string ⟨#[98]⟩] 9)).alloc (.cells #[.string ⟨#[107]⟩, .string ⟨#[120]⟩, .string ⟨#[106]⟩] 9)).drew.cell? ⟨X.heap.size, J2, none⟩ = some (.string OB2)) ∧ ((X.alloc (.cells #[.string ⟨#[97]⟩, .string ⟨#[98]⟩] 9)).alloc (.cells #[.string ⟨#[107]⟩, .string ⟨#[120]⟩, .string ⟨#[106]⟩] 9)).drew.cell? ⟨X.heap.size + 1, J1, none⟩ = some (.string OB1) := ⟨hHeld, (by have h := at_new (X.alloc (.cells #[.string ⟨#[97]⟩, .string ⟨#[98]⟩] 9)) #[.string ⟨#[107]⟩, .string ⟨#[120]⟩, .string ⟨#[106]⟩] 9 J1; rw [alloc_size] at h; exact h.trans e01)⟩
       clear hHeld
       have hHeld := hHeld3
       clear hHeld3
       refine tk 4 hHeld rfl (v := ?_) ?_ ?_
       rotate_left
       · intro w9 h9; (try dsimp only at h9); go_simp <;> first | with_reducible rfl | rw [if_neg (by omega)]
       try simp only [Act.put, lay]
       refine tk 5 hHeld rfl (v := ?_) ?_ ?_
       rotate_left
       · intro w9 h9; (try dsimp only at h9); go_simp <;> first | with_reducible rfl | rw [if_neg (by omega)]
       try simp only [Act.put, lay]
       refine tk 6 hHeld rfl (v := ?_) ?_ ?_
       rotate_left
       · intro w9 h9; (try dsimp only at h9); go_simp <;> first | with_reducible rfl | rw [if_neg (by omega)]
       try simp only [Act.put, lay]
       refine tk 7 hHeld rfl (v := ?_) ?_ ?_
       rotate_left
       · intro w9 h9; (try dsimp only at h9); go_simp <;> first | with_reducible rfl | rw [if_neg (by omega)]
       try simp only [Act.put, lay]
       refine wpAnyH_ready (rs := [11]) (by kernel_rfl) (by simp) ?_
       refine AllReadyH.cons rfl (fun K hK => ?_) ?_
       · go_simp
         refine Calls.mono (HPJ2.out _) ?_
         rintro e w2 ⟨rfl, hw2⟩
         rw [hw2]
         clear hw2 w2
         go_wp2_with fail
         refine hK.out _ _ hHeld (fun h8 => ?_)
         clear hK K
         replace hHeld := h8
         clear h8
         try simp only [Act.put, lay]
         refine tk 12 hHeld rfl (v := ?_) ?_ ?_
         rotate_left
         · intro w9 h9; (try dsimp only at h9); go_simp <;> first | with_reducible rfl | rw [if_neg (by omega)]
         try simp only [Act.put, lay]
         refine tk 13 hHeld rfl (v := ?_) ?_ ?_
         rotate_left
         · intro w9 h9; (try dsimp only at h9); go_simp <;> first | with_reducible rfl | rw [if_neg (by omega)]
         try simp only [Act.put, lay]
         refine tk 14 hHeld rfl (v := ?_) ?_ ?_
         rotate_left
         · intro w9 h9; (try dsimp only at h9); go_simp <;> first | with_reducible rfl | rw [if_neg (by omega)]
         try simp only [Act.put, lay]
         refine tk 15 hHeld rfl (v := ?_) ?_ ?_
         rotate_left
         · intro w9 h9; (try dsimp only at h9); go_simp <;> first | with_reducible rfl | rw [if_neg (by omega)]
         try simp only [Act.put, lay]
         refine wpAnyH_ready (rs := [20]) (by kernel_rfl) (by simp) ?_
         refine AllReadyH.cons rfl (fun K hK => ?_) ?_
         · go_simp
           first | with_reducible refine Calls.mono (HST.out ((X.alloc (.cells #[.string ⟨#[97]⟩, .string ⟨#[98]⟩] 9)).alloc (.cells #[.string ⟨#[107]⟩, .string ⟨#[120]⟩, .string ⟨#[106]⟩] 9)).drew (HWf.out _ (bl_trans (((Below.refl _ _).alloc (Nat.le_refl _) _).alloc (by rw [alloc_size]; omega) _) (below_drew _))) _ HD1.out) ?_ | with_reducible refine Calls.mono (HST.out ((X.alloc (.cells #[.string ⟨#[97]⟩, .string ⟨#[98]⟩] 9)).alloc (.cells #[.string ⟨#[107]⟩, .string ⟨#[120]⟩, .string ⟨#[106]⟩] 9)).drew (HWf.out _ (bl_trans (((Below.refl _ _).alloc (Nat.le_refl _) _).alloc (by rw [alloc_size]; omega) _) (below_drew _))) _ HD2.out) ?_
           rintro e w3 ⟨Z2, rfl, z2, H3, B3, w3r, w31r⟩
           have m30 := bk B3.out ur hHeld.1.1.1
           have m31 := bk B3.out ur hHeld.1.1.2.1
           have m32 := bk B3.out pr hHeld.1.1.2.2.1
           have m33 := bk B3.out qr hHeld.1.1.2.2.2
           have m34 := bk B3.out g0r hHeld.1.2
           have m35 := bk B3.out g1r hHeld.2
           go_wp2_with fail
           refine hK.out _ _ ⟨⟨⟨m30, m31, m32, m33⟩, m34⟩, m35⟩ (fun h8 => ?_)
           clear hK K
           replace hHeld := h8
           clear h8
           try simp only [Act.put, lay]
           refine tk 21 hHeld rfl (v := ?_) ?_ ?_
           rotate_left
           · intro w9 h9; (try dsimp only at h9); go_simp <;> first | with_reducible rfl | rw [if_neg (by omega)]
           try simp only [Act.put, lay]
           refine tk 22 hHeld rfl (v := ?_) ?_ ?_
           rotate_left
           · intro w9 h9; (try dsimp only at h9); go_simp <;> first | with_reducible rfl | rw [if_neg (by omega)]
           try simp only [Act.put, lay]
           refine wpAnyH_ready (rs := [24]) (by kernel_rfl) (by simp) ?_
           refine AllReadyH.cons rfl (fun K hK => ?_) ?_
           · go_simp
             have HW4 : ∃ i4, Mk r w3 l i4 ∧ i4 ≤ i + 1 + c ∧ But r r w w3 := by obtain ⟨i4, h1, h2, h3⟩ := H3.out.2; exact ⟨i4, h1.below (Below.refl _ _), h2, h3.more (Below.refl _ _)⟩
             with_reducible refine Calls.mono (HEX.out w3 HW4 hHeld.1.1.2.2.1 hHeld.1.1.2.2.2) ?_
             rintro e w4 ⟨Z3, rfl, z3, H4, B4⟩
             clear HW4
             have m40 := bk B4.out ur hHeld.1.1.1
             have m41 := bk B4.out ur hHeld.1.1.2.1
             have m42 := bk B4.out pr hHeld.1.1.2.2.1
             have m43 := bk B4.out qr hHeld.1.1.2.2.2
             have m44 := bk B4.out g0r hHeld.1.2
             have m45 := bk B4.out g1r hHeld.2
             go_wp2_with fail
             refine hK.out _ _ ⟨⟨⟨m40, m41, m42, m43⟩, m44⟩, m45⟩ (fun h8 => ?_)
             clear hK K
             replace hHeld := h8
             clear h8
             try simp only [Act.put, lay]
             refine tk 25 hHeld rfl (v := ?_) ?_ ?_
             rotate_left
             · intro w9 h9; (try dsimp only at h9); go_simp <;> first | with_reducible rfl | rw [if_neg (by omega)]
             try simp only [Act.put, lay]
             refine tk 26 hHeld rfl (v := ?_) ?_ ?_
             rotate_left
             · intro w9 h9; (try dsimp only at h9); go_simp <;> first | with_reducible rfl | rw [if_neg (by omega)]
             try simp only [Act.put, lay]
             refine tk 27 hHeld rfl (v := ?_) ?_ ?_
             rotate_left
             · intro w9 h9; (try dsimp only at h9); go_simp <;> first | with_reducible rfl | rw [if_neg (by omega)]
             try simp only [Act.put, lay]
             refine wpAnyH_done (by kernel_rfl) ?_ _
             go_wp2_with fail
             go_ret
             first | exact HF.out _ _ _ _ _ H3.out H4.out (Below.refl _ _) | exact HF.out _ _ _ _ _ H3.out H4.out ((Below.refl _ _).alloc (Nat.le_refl _) _) | exact HF.out _ _ _ _ _ H3.out H4.out (((Below.refl _ _).alloc (Nat.le_refl _) _).alloc (by rw [alloc_size]; omega) _)
           exact AllReadyH.nil
         exact AllReadyH.nil
       exact AllReadyH.nil
     refine AllReadyH.cons rfl (fun K hK => ?_) ?_
     · go_simp
       refine Calls.mono (HPJ2.out _) ?_
       rintro e w2 ⟨rfl, hw2⟩
       rw [hw2]
       clear hw2 w2
       go_wp2_with fail
       refine hK.out _ _ hHeld (fun h8 => ?_)
       clear hK K
       replace hHeld := h8
       clear h8
       try simp only [Act.put, lay]
       refine tk 12 hHeld rfl (v := ?_) ?_ ?_
       rotate_left
       · intro w9 h9; (try dsimp only at h9); go_simp <;> first | with_reducible rfl | rw [if_neg (by omega)]
       try simp only [Act.put, lay]
       refine tk 13 hHeld rfl (v := ?_) ?_ ?_
       rotate_left
       · intro w9 h9; (try dsimp only at h9); go_simp <;> first | with_reducible rfl | rw [if_neg (by omega)]
       try simp only [Act.put, lay]
       refine wpAnyH_ready (rs := [0, 20]) (by kernel_rfl) (by simp) ?_
       refine AllReadyH.cons rfl (fun K hK => ?_) ?_
       · go_simp
         refine hK.out _ _ ⟨⟨ck hHeld.1.1, ck hHeld.1.2.1, ck hHeld.1.2.2.1, ck hHeld.1.2.2.2⟩, ck hHeld.2⟩ (fun h8 => ?_)
         clear hK K
         replace hHeld := h8
         clear h8
         try simp only [Act.put, lay]
         refine wpAnyH_stronger (S' := fun w9 => ((w9.cell? ⟨u, 2, none⟩ = some (.int .i64 xb) ∧ w9.cell? ⟨u, 3, none⟩ = some (.int .i64 xc) ∧ w9.cell? ⟨p, 0, none⟩ = some (.pointer (some ⟨r, 0, none⟩)) ∧ w9.cell? ⟨q, 0, none⟩ = some (.bool b)) ∧ w9.cell? ⟨X.heap.size, J2, none⟩ = some (.string OB2)) ∧ w9.cell? ⟨X.heap.size + 1, J1, none⟩ = some (.string OB1)) (fun _ h => h.1) _ _ _ _ ?_
         have hHeld3 : ((((X.alloc (.cells #[.string ⟨#[97]⟩, .string ⟨#[98]⟩] 9)).alloc (.cells #[.string ⟨#[107]⟩, .string ⟨#[120]⟩, .string ⟨#[106]⟩] 9)).drew.cell? ⟨u, 2, none⟩ = some (.int .i64 xb) ∧ ((X.alloc (.cells #[.string ⟨#[97]⟩, .string ⟨#[98]⟩] 9)).alloc (.cells #[.string ⟨#[107]⟩, .string ⟨#[120]⟩, .string ⟨#[106]⟩] 9)).drew.cell? ⟨u, 3, none⟩ = some (.int .i64 xc) ∧ ((X.alloc (.cells #[.string ⟨#[97]⟩, .string ⟨#[98]⟩] 9)).alloc (.cells #[.string ⟨#[107]⟩, .string ⟨#[120]⟩, .string ⟨#[106]⟩] 9)).drew.cell? ⟨p, 0, none⟩ = some (.pointer (some ⟨r, 0, none⟩)) ∧ ((X.alloc (.cells #[.string ⟨#[97]⟩, .string ⟨#[98]⟩] 9)).alloc (.cells #[.string ⟨#[107]⟩, .string ⟨#[120]⟩, .string ⟨#[106]⟩] 9)).drew.cell? ⟨q, 0, none⟩ = some (.bool b)) ∧ ((X.alloc (.cells #[.string ⟨#[97]⟩, .string ⟨#[98]⟩] 9)).alloc (.cells #[.string ⟨#[107]⟩, .string ⟨#[120]⟩, .string ⟨#[106]⟩] 9)).drew.cell? ⟨X.heap.size, J2, none⟩ = some (.string OB2)) ∧ ((X.alloc (.cells #[.string ⟨#[97]⟩, .string ⟨#[98]⟩] 9)).alloc (.cells #[.string ⟨#[107]⟩, .string ⟨#[120]⟩, .string ⟨#[106]⟩] 9)).drew.cell? ⟨X.heap.size + 1, J1, none⟩ = some (.string OB1) := ⟨hHeld, (by have h := at_new (X.alloc (.cells #[.string ⟨#[97]⟩, .string ⟨#[98]⟩] 9)) #[.string ⟨#[107]⟩, .string ⟨#[120]⟩, .string ⟨#[106]⟩] 9 J1; rw [alloc_size] at h; exact h.trans e01)⟩
         clear hHeld
         have hHeld := hHeld3
         clear hHeld3
         refine tk 4 hHeld rfl (v := ?_) ?_ ?_
         rotate_left
         · intro w9 h9; (try dsimp only at h9); go_simp <;> first | with_reducible rfl | rw [if_neg (by omega)]
         try simp only [Act.put, lay]
         refine tk 5 hHeld rfl (v := ?_) ?_ ?_
         rotate_left
         · intro w9 h9; (try dsimp only at h9); go_simp <;> first | with_reducible rfl | rw [if_neg (by omega)]
         try simp only [Act.put, lay]
         refine tk 6 hHeld rfl (v := ?_) ?_ ?_
         rotate_left
         · intro w9 h9; (try dsimp only at h9); go_simp <;> first | with_reducible rfl | rw [if_neg (by omega)]
         try simp only [Act.put, lay]
         refine tk 7 hHeld rfl (v := ?_) ?_ ?_
         rotate_left
         · intro w9 h9; (try dsimp only at h9); go_simp <;> first | with_reducible rfl | rw [if_neg (by omega)]
         try simp only [Act.put, lay]
         refine tk 14 hHeld rfl (v := ?_) ?_ ?_
         rotate_left
         · intro w9 h9; (try dsimp only at h9); go_simp <;> first | with_reducible rfl | rw [if_neg (by omega)]
         try simp only [Act.put, lay]
         refine tk 15 hHeld rfl (v := ?_) ?_ ?_
         rotate_left
         · intro w9 h9; (try dsimp only at h9); go_simp <;> first | with_reducible rfl | rw [if_neg (by omega)]
         try simp only [Act.put, lay]
         refine wpAnyH_ready (rs := [20]) (by kernel_rfl) (by simp) ?_
         refine AllReadyH.cons rfl (fun K hK => ?_) ?_
         · go_simp
           first | with_reducible refine Calls.mono (HST.out ((X.alloc (.cells #[.string ⟨#[97]⟩, .string ⟨#[98]⟩] 9)).alloc (.cells #[.string ⟨#[107]⟩, .string ⟨#[120]⟩, .string ⟨#[106]⟩] 9)).drew (HWf.out _ (bl_trans (((Below.refl _ _).alloc (Nat.le_refl _) _).alloc (by rw [alloc_size]; omega) _) (below_drew _))) _ HD1.out) ?_ | with_reducible refine Calls.mono (HST.out ((X.alloc (.cells #[.string ⟨#[97]⟩, .string ⟨#[98]⟩] 9)).alloc (.cells #[.string ⟨#[107]⟩, .string ⟨#[120]⟩, .string ⟨#[106]⟩] 9)).drew (HWf.out _ (bl_trans (((Below.refl _ _).alloc (Nat.le_refl _) _).alloc (by rw [alloc_size]; omega) _) (below_drew _))) _ HD2.out) ?_
           rintro e w3 ⟨Z2, rfl, z2, H3, B3, w3r, w31r⟩
           have m30 := bk B3.out ur hHeld.1.1.1
           have m31 := bk B3.out ur hHeld.1.1.2.1
           have m32 := bk B3.out pr hHeld.1.1.2.2.1
           have m33 := bk B3.out qr hHeld.1.1.2.2.2
           have m34 := bk B3.out g0r hHeld.1.2
           have m35 := bk B3.out g1r hHeld.2
           go_wp2_with fail
           refine hK.out _ _ ⟨⟨⟨m30, m31, m32, m33⟩, m34⟩, m35⟩ (fun h8 => ?_)
           clear hK K
           replace hHeld := h8
           clear h8
           try simp only [Act.put, lay]
           refine tk 21 hHeld rfl (v := ?_) ?_ ?_
           rotate_left
           · intro w9 h9; (try dsimp only at h9); go_simp <;> first | with_reducible rfl | rw [if_neg (by omega)]
           try simp only [Act.put, lay]
           refine tk 22 hHeld rfl (v := ?_) ?_ ?_
           rotate_left
           · intro w9 h9; (try dsimp only at h9); go_simp <;> first | with_reducible rfl | rw [if_neg (by omega)]
           try simp only [Act.put, lay]
           refine wpAnyH_ready (rs := [24]) (by kernel_rfl) (by simp) ?_
           refine AllReadyH.cons rfl (fun K hK => ?_) ?_
           · go_simp
             have HW4 : ∃ i4, Mk r w3 l i4 ∧ i4 ≤ i + 1 + c ∧ But r r w w3 := by obtain ⟨i4, h1, h2, h3⟩ := H3.out.2; exact ⟨i4, h1.below (Below.refl _ _), h2, h3.more (Below.refl _ _)⟩
             with_reducible refine Calls.mono (HEX.out w3 HW4 hHeld.1.1.2.2.1 hHeld.1.1.2.2.2) ?_
             rintro e w4 ⟨Z3, rfl, z3, H4, B4⟩
             clear HW4
             have m40 := bk B4.out ur hHeld.1.1.1
             have m41 := bk B4.out ur hHeld.1.1.2.1
             have m42 := bk B4.out pr hHeld.1.1.2.2.1
             have m43 := bk B4.out qr hHeld.1.1.2.2.2
             have m44 := bk B4.out g0r hHeld.1.2
             have m45 := bk B4.out g1r hHeld.2
             go_wp2_with fail
             refine hK.out _ _ ⟨⟨⟨m40, m41, m42, m43⟩, m44⟩, m45⟩ (fun h8 => ?_)
             clear hK K
             replace hHeld := h8
             clear h8
             try simp only [Act.put, lay]
             refine tk 25 hHeld rfl (v := ?_) ?_ ?_
             rotate_left
             · intro w9 h9; (try dsimp only at h9); go_simp <;> first | with_reducible rfl | rw [if_neg (by omega)]
             try simp only [Act.put, lay]
             refine tk 26 hHeld rfl (v := ?_) ?_ ?_
             rotate_left
             · intro w9 h9; (try dsimp only at h9); go_simp <;> first | with_reducible rfl | rw [if_neg (by omega)]
             try simp only [Act.put, lay]
             refine tk 27 hHeld rfl (v := ?_) ?_ ?_
             rotate_left
             · intro w9 h9; (try dsimp only at h9); go_simp <;> first | with_reducible rfl | rw [if_neg (by omega)]
             try simp only [Act.put, lay]
             refine wpAnyH_done (by kernel_rfl) ?_ _
             go_wp2_with fail
             go_ret
             first | exact HF.out _ _ _ _ _ H3.out H4.out (Below.refl _ _) | exact HF.out _ _ _ _ _ H3.out H4.out ((Below.refl _ _).alloc (Nat.le_refl _) _) | exact HF.out _ _ _ _ _ H3.out H4.out (((Below.refl _ _).alloc (Nat.le_refl _) _).alloc (by rw [alloc_size]; omega) _)
           exact AllReadyH.nil
         exact AllReadyH.nil
       refine AllReadyH.cons rfl (fun K hK => ?_) ?_
       · go_simp
         first | with_reducible refine Calls.mono (HST.out (X.alloc (.cells #[.string ⟨#[97]⟩, .string ⟨#[98]⟩] 9)).drew (HWf.out _ (bl_trans ((Below.refl _ _).alloc (Nat.le_refl _) _) (below_drew _))) _ HD1.out) ?_ | with_reducible refine Calls.mono (HST.out (X.alloc (.cells #[.string ⟨#[97]⟩, .string ⟨#[98]⟩] 9)).drew (HWf.out _ (bl_trans ((Below.refl _ _).alloc (Nat.le_refl _) _) (below_drew _))) _ HD2.out) ?_
         rintro e w3 ⟨Z2, rfl, z2, H3, B3, w3r, w31r⟩
         have m30 := bk B3.out ur hHeld.1.1
         have m31 := bk B3.out ur hHeld.1.2.1
         have m32 := bk B3.out pr hHeld.1.2.2.1
         have m33 := bk B3.out qr hHeld.1.2.2.2
         have m34 := bk B3.out g0r hHeld.2
         go_wp2_with fail
         refine hK.out _ _ ⟨⟨m30, m31, m32, m33⟩, m34⟩ (fun h8 => ?_)
         clear hK K
         replace hHeld := h8
         clear h8
         try simp only [Act.put, lay]
         refine wpAnyH_ready (rs := [0, 24]) (by kernel_rfl) (by simp) ?_
         refine AllReadyH.cons rfl (fun K hK => ?_) ?_
         · go_simp
           refine hK.out _ _ ⟨⟨ck hHeld.1.1, ck hHeld.1.2.1, ck hHeld.1.2.2.1, ck hHeld.1.2.2.2⟩, ck hHeld.2⟩ (fun h8 => ?_)
           clear hK K
           replace hHeld := h8
           clear h8
           try simp only [Act.put, lay]
           refine wpAnyH_stronger (S' := fun w9 => ((w9.cell? ⟨u, 2, none⟩ = some (.int .i64 xb) ∧ w9.cell? ⟨u, 3, none⟩ = some (.int .i64 xc) ∧ w9.cell? ⟨p, 0, none⟩ = some (.pointer (some ⟨r, 0, none⟩)) ∧ w9.cell? ⟨q, 0, none⟩ = some (.bool b)) ∧ w9.cell? ⟨X.heap.size, J2, none⟩ = some (.string OB2)) ∧ w9.cell? ⟨w3.heap.size, J1, none⟩ = some (.string OB1)) (fun _ h => h.1) _ _ _ _ ?_
           have hHeld3 : (((w3.alloc (.cells #[.string ⟨#[107]⟩, .string ⟨#[120]⟩, .string ⟨#[106]⟩] 9)).cell? ⟨u, 2, none⟩ = some (.int .i64 xb) ∧ (w3.alloc (.cells #[.string ⟨#[107]⟩, .string ⟨#[120]⟩, .string ⟨#[106]⟩] 9)).cell? ⟨u, 3, none⟩ = some (.int .i64 xc) ∧ (w3.alloc (.cells #[.string ⟨#[107]⟩, .string ⟨#[120]⟩, .string ⟨#[106]⟩] 9)).cell? ⟨p, 0, none⟩ = some (.pointer (some ⟨r, 0, none⟩)) ∧ (w3.alloc (.cells #[.string ⟨#[107]⟩, .string ⟨#[120]⟩, .string ⟨#[106]⟩] 9)).cell? ⟨q, 0, none⟩ = some (.bool b)) ∧ (w3.alloc (.cells #[.string ⟨#[107]⟩, .string ⟨#[120]⟩, .string ⟨#[106]⟩] 9)).cell? ⟨X.heap.size, J2, none⟩ = some (.string OB2)) ∧ (w3.alloc (.cells #[.string ⟨#[107]⟩, .string ⟨#[120]⟩, .string ⟨#[106]⟩] 9)).cell? ⟨w3.heap.size, J1, none⟩ = some (.string OB1) := ⟨hHeld, ((at_new w3 _ _ J1).trans e01)⟩
           clear hHeld
           have hHeld := hHeld3
           clear hHeld3
           refine tk 4 hHeld rfl (v := ?_) ?_ ?_
           rotate_left
           · intro w9 h9; (try dsimp only at h9); go_simp <;> first | with_reducible rfl | rw [if_neg (by omega)]
           try simp only [Act.put, lay]
           refine tk 5 hHeld rfl (v := ?_) ?_ ?_
           rotate_left
           · intro w9 h9; (try dsimp only at h9); go_simp <;> first | with_reducible rfl | rw [if_neg (by omega)]
           try simp only [Act.put, lay]
           refine tk 6 hHeld rfl (v := ?_) ?_ ?_
           rotate_left
           · intro w9 h9; (try dsimp only at h9); go_simp <;> first | with_reducible rfl | rw [if_neg (by omega)]
           try simp only [Act.put, lay]
           refine tk 7 hHeld rfl (v := ?_) ?_ ?_
           rotate_left
           · intro w9 h9; (try dsimp only at h9); go_simp <;> first | with_reducible rfl | rw [if_neg (by omega)]
           try simp only [Act.put, lay]
           refine tk 14 hHeld rfl (v := ?_) ?_ ?_
           rotate_left
           · intro w9 h9; (try dsimp only at h9); go_simp <;> first | with_reducible rfl | rw [if_neg (by omega)]
           try simp only [Act.put, lay]
           refine tk 15 hHeld rfl (v := ?_) ?_ ?_
           rotate_left
           · intro w9 h9; (try dsimp only at h9); go_simp <;> first | with_reducible rfl | rw [if_neg (by omega)]
           try simp only [Act.put, lay]
           refine tk 21 hHeld rfl (v := ?_) ?_ ?_
           rotate_left
           · intro w9 h9; (try dsimp only at h9); go_simp <;> first | with_reducible rfl | rw [if_neg (by omega)]
           try simp only [Act.put, lay]
           refine tk 22 hHeld rfl (v := ?_) ?_ ?_
           rotate_left
           · intro w9 h9; (try dsimp only at h9); go_simp <;> first | with_reducible rfl | rw [if_neg (by omega)]
           try simp only [Act.put, lay]
           refine wpAnyH_ready (rs := [24]) (by kernel_rfl) (by simp) ?_
           refine AllReadyH.cons rfl (fun K hK => ?_) ?_
           · go_simp
             have HW4 : ∃ i4, Mk r (w3.alloc (.cells #[.string ⟨#[107]⟩, .string ⟨#[120]⟩, .string ⟨#[106]⟩] 9)) l i4 ∧ i4 ≤ i + 1 + c ∧ But r r w (w3.alloc (.cells #[.string ⟨#[107]⟩, .string ⟨#[120]⟩, .string ⟨#[106]⟩] 9)) := by obtain ⟨i4, h1, h2, h3⟩ := H3.out.2; exact ⟨i4, h1.below ((Below.refl _ _).alloc (Nat.le_refl _) _), h2, h3.more ((Below.refl _ _).alloc (Nat.le_refl _) _)⟩
             with_reducible refine Calls.mono (HEX.out (w3.alloc (.cells #[.string ⟨#[107]⟩, .string ⟨#[120]⟩, .string ⟨#[106]⟩] 9)) HW4 hHeld.1.1.2.2.1 hHeld.1.1.2.2.2) ?_
             rintro e w4 ⟨Z3, rfl, z3, H4, B4⟩
             clear HW4
             have m40 := bk B4.out ur hHeld.1.1.1
             have m41 := bk B4.out ur hHeld.1.1.2.1
             have m42 := bk B4.out pr hHeld.1.1.2.2.1
             have m43 := bk B4.out qr hHeld.1.1.2.2.2
             have m44 := bk B4.out g0r hHeld.1.2
             have m45 := bk B4.out w3r hHeld.2
             go_wp2_with fail
             refine hK.out _ _ ⟨⟨⟨m40, m41, m42, m43⟩, m44⟩, m45⟩ (fun h8 => ?_)
             clear hK K
             replace hHeld := h8
             clear h8
             try simp only [Act.put, lay]
             refine tk 25 hHeld rfl (v := ?_) ?_ ?_
             rotate_left
             · intro w9 h9; (try dsimp only at h9); go_simp <;> first | with_reducible rfl | rw [if_neg (by omega)]
             try simp only [Act.put, lay]
             refine tk 26 hHeld rfl (v := ?_) ?_ ?_
             rotate_left
             · intro w9 h9; (try dsimp only at h9); go_simp <;> first | with_reducible rfl | rw [if_neg (by omega)]
             try simp only [Act.put, lay]
             refine tk 27 hHeld rfl (v := ?_) ?_ ?_
             rotate_left
             · intro w9 h9; (try dsimp only at h9); go_simp <;> first | with_reducible rfl | rw [if_neg (by omega)]
             try simp only [Act.put, lay]
             refine wpAnyH_done (by kernel_rfl) ?_ _
             go_wp2_with fail
             go_ret
             first | exact HF.out _ _ _ _ _ H3.out H4.out (Below.refl _ _) | exact HF.out _ _ _ _ _ H3.out H4.out ((Below.refl _ _).alloc (Nat.le_refl _) _) | exact HF.out _ _ _ _ _ H3.out H4.out (((Below.refl _ _).alloc (Nat.le_refl _) _).alloc (by rw [alloc_size]; omega) _)
           exact AllReadyH.nil
         refine AllReadyH.cons rfl (fun K hK => ?_) ?_
         · go_simp
           have HW4 : ∃ i4, Mk r w3 l i4 ∧ i4 ≤ i + 1 + c ∧ But r r w w3 := by obtain ⟨i4, h1, h2, h3⟩ := H3.out.2; exact ⟨i4, h1.below (Below.refl _ _), h2, h3.more (Below.refl _ _)⟩
           with_reducible refine Calls.mono (HEX.out w3 HW4 hHeld.1.2.2.1 hHeld.1.2.2.2) ?_
           rintro e w4 ⟨Z3, rfl, z3, H4, B4⟩
           clear HW4
           have m40 := bk B4.out ur hHeld.1.1
           have m41 := bk B4.out ur hHeld.1.2.1
           have m42 := bk B4.out pr hHeld.1.2.2.1
           have m43 := bk B4.out qr hHeld.1.2.2.2
           have m44 := bk B4.out g0r hHeld.2
           go_wp2_with fail
           refine hK.out _ _ ⟨⟨m40, m41, m42, m43⟩, m44⟩ (fun h8 => ?_)
           clear hK K
           replace hHeld := h8
           clear h8
           try simp only [Act.put, lay]
           refine wpAnyH_ready (rs := [0]) (by kernel_rfl) (by simp) ?_
           refine AllReadyH.cons rfl (fun K hK => ?_) ?_
           · go_simp
             refine hK.out _ _ ⟨⟨ck hHeld.1.1, ck hHeld.1.2.1, ck hHeld.1.2.2.1, ck hHeld.1.2.2.2⟩, ck hHeld.2⟩ (fun h8 => ?_)
             clear hK K
             replace hHeld := h8
             clear h8
             try simp only [Act.put, lay]
             refine wpAnyH_stronger (S' := fun w9 => ((w9.cell? ⟨u, 2, none⟩ = some (.int .i64 xb) ∧ w9.cell? ⟨u, 3, none⟩ = some (.int .i64 xc) ∧ w9.cell? ⟨p, 0, none⟩ = some (.pointer (some ⟨r, 0, none⟩)) ∧ w9.cell? ⟨q, 0, none⟩ = some (.bool b)) ∧ w9.cell? ⟨X.heap.size, J2, none⟩ = some (.string OB2)) ∧ w9.cell? ⟨w4.heap.size, J1, none⟩ = some (.string OB1)) (fun _ h => h.1) _ _ _ _ ?_
             have hHeld3 : (((w4.alloc (.cells #[.string ⟨#[107]⟩, .string ⟨#[120]⟩, .string ⟨#[106]⟩] 9)).cell? ⟨u, 2, none⟩ = some (.int .i64 xb) ∧ (w4.alloc (.cells #[.string ⟨#[107]⟩, .string ⟨#[120]⟩, .string ⟨#[106]⟩] 9)).cell? ⟨u, 3, none⟩ = some (.int .i64 xc) ∧ (w4.alloc (.cells #[.string ⟨#[107]⟩, .string ⟨#[120]⟩, .string ⟨#[106]⟩] 9)).cell? ⟨p, 0, none⟩ = some (.pointer (some ⟨r, 0, none⟩)) ∧ (w4.alloc (.cells #[.string ⟨#[107]⟩, .string ⟨#[120]⟩, .string ⟨#[106]⟩] 9)).cell? ⟨q, 0, none⟩ = some (.bool b)) ∧ (w4.alloc (.cells #[.string ⟨#[107]⟩, .string ⟨#[120]⟩, .string ⟨#[106]⟩] 9)).cell? ⟨X.heap.size, J2, none⟩ = some (.string OB2)) ∧ (w4.alloc (.cells #[.string ⟨#[107]⟩, .string ⟨#[120]⟩, .string ⟨#[106]⟩] 9)).cell? ⟨w4.heap.size, J1, none⟩ = some (.string OB1) := ⟨hHeld, ((at_new w4 _ _ J1).trans e01)⟩
             clear hHeld
             have hHeld := hHeld3
             clear hHeld3
             refine tk 4 hHeld rfl (v := ?_) ?_ ?_
             rotate_left
             · intro w9 h9; (try dsimp only at h9); go_simp <;> first | with_reducible rfl | rw [if_neg (by omega)]
             try simp only [Act.put, lay]
             refine tk 5 hHeld rfl (v := ?_) ?_ ?_
             rotate_left
             · intro w9 h9; (try dsimp only at h9); go_simp <;> first | with_reducible rfl | rw [if_neg (by omega)]
             try simp only [Act.put, lay]
             refine tk 6 hHeld rfl (v := ?_) ?_ ?_
             rotate_left
             · intro w9 h9; (try dsimp only at h9); go_simp <;> first | with_reducible rfl | rw [if_neg (by omega)]
             try simp only [Act.put, lay]
             refine tk 7 hHeld rfl (v := ?_) ?_ ?_
             rotate_left
             · intro w9 h9; (try dsimp only at h9); go_simp <;> first | with_reducible rfl | rw [if_neg (by omega)]
             try simp only [Act.put, lay]
             refine tk 14 hHeld rfl (v := ?_) ?_ ?_
             rotate_left
             · intro w9 h9; (try dsimp only at h9); go_simp <;> first | with_reducible rfl | rw [if_neg (by omega)]
             try simp only [Act.put, lay]
             refine tk 15 hHeld rfl (v := ?_) ?_ ?_
             rotate_left
             · intro w9 h9; (try dsimp only at h9); go_simp <;> first | with_reducible rfl | rw [if_neg (by omega)]
             try simp only [Act.put, lay]
             refine tk 21 hHeld rfl (v := ?_) ?_ ?_
             rotate_left
             · intro w9 h9; (try dsimp only at h9); go_simp <;> first | with_reducible rfl | rw [if_neg (by omega)]
             try simp only [Act.put, lay]
             refine tk 22 hHeld rfl (v := ?_) ?_ ?_
             rotate_left
             · intro w9 h9; (try dsimp only at h9); go_simp <;> first | with_reducible rfl | rw [if_neg (by omega)]
             try simp only [Act.put, lay]
             refine tk 25 hHeld rfl (v := ?_) ?_ ?_
             rotate_left
             · intro w9 h9; (try dsimp only at h9); go_simp <;> first | with_reducible rfl | rw [if_neg (by omega)]
             try simp only [Act.put, lay]
             refine tk 26 hHeld rfl (v := ?_) ?_ ?_
             rotate_left
             · intro w9 h9; (try dsimp only at h9); go_simp <;> first | with_reducible rfl | rw [if_neg (by omega)]
             try simp only [Act.put, lay]
             refine tk 27 hHeld rfl (v := ?_) ?_ ?_
             rotate_left
             · intro w9 h9; (try dsimp only at h9); go_simp <;> first | with_reducible rfl | rw [if_neg (by omega)]
             try simp only [Act.put, lay]
             refine wpAnyH_done (by kernel_rfl) ?_ _
             go_wp2_with fail
             go_ret
             first | exact HF.out _ _ _ _ _ H3.out H4.out (Below.refl _ _) | exact HF.out _ _ _ _ _ H3.out H4.out ((Below.refl _ _).alloc (Nat.le_refl _) _) | exact HF.out _ _ _ _ _ H3.out H4.out (((Below.refl _ _).alloc (Nat.le_refl _) _).alloc (by rw [alloc_size]; omega) _)
           exact AllReadyH.nil
         exact AllReadyH.nil
       exact AllReadyH.nil
     exact AllReadyH.nil
   refine AllReadyH.cons rfl (fun K hK => ?_) ?_
   · go_simp
     refine Calls.mono (HPJ2.out _) ?_
     rintro e w2 ⟨rfl, hw2⟩
     rw [hw2]
     clear hw2 w2
     go_wp2_with fail
     refine hK.out _ _ hHeld (fun h8 => ?_)
     clear hK K
     replace hHeld := h8
     clear h8
     try simp only [Act.put, lay]
     refine wpAnyH_ready (rs := [0, 8, 20]) (by kernel_rfl) (by simp) ?_
     refine AllReadyH.cons rfl (fun K hK => ?_) ?_
     · go_simp
       refine hK.out _ _ ⟨ck hHeld.1, ck hHeld.2.1, ck hHeld.2.2.1, ck hHeld.2.2.2⟩ (fun h8 => ?_)
       clear hK K
       replace hHeld := h8
       clear h8
       try simp only [Act.put, lay]
       refine wpAnyH_stronger (S' := fun w9 => (w9.cell? ⟨u, 2, none⟩ = some (.int .i64 xb) ∧ w9.cell? ⟨u, 3, none⟩ = some (.int .i64 xc) ∧ w9.cell? ⟨p, 0, none⟩ = some (.pointer (some ⟨r, 0, none⟩)) ∧ w9.cell? ⟨q, 0, none⟩ = some (.bool b)) ∧ w9.cell? ⟨X.heap.size, J1, none⟩ = some (.string OB1)) (fun _ h => h.1) _ _ _ _ ?_
       have hHeld3 : ((X.alloc (.cells #[.string ⟨#[107]⟩, .string ⟨#[120]⟩, .string ⟨#[106]⟩] 9)).drew.cell? ⟨u, 2, none⟩ = some (.int .i64 xb) ∧ (X.alloc (.cells #[.string ⟨#[107]⟩, .string ⟨#[120]⟩, .string ⟨#[106]⟩] 9)).drew.cell? ⟨u, 3, none⟩ = some (.int .i64 xc) ∧ (X.alloc (.cells #[.string ⟨#[107]⟩, .string ⟨#[120]⟩, .string ⟨#[106]⟩] 9)).drew.cell? ⟨p, 0, none⟩ = some (.pointer (some ⟨r, 0, none⟩)) ∧ (X.alloc (.cells #[.string ⟨#[107]⟩, .string ⟨#[120]⟩, .string ⟨#[106]⟩] 9)).drew.cell? ⟨q, 0, none⟩ = some (.bool b)) ∧ (X.alloc (.cells #[.string ⟨#[107]⟩, .string ⟨#[120]⟩, .string ⟨#[106]⟩] 9)).drew.cell? ⟨X.heap.size, J1, none⟩ = some (.string OB1) := ⟨hHeld, ((at_new X _ _ J1).trans e01)⟩
       clear hHeld
       have hHeld := hHeld3
       clear hHeld3
       refine tk 4 hHeld rfl (v := ?_) ?_ ?_
       rotate_left
       · intro w9 h9; (try dsimp only at h9); go_simp <;> first | with_reducible rfl | rw [if_neg (by omega)]
       try simp only [Act.put, lay]
       refine tk 5 hHeld rfl (v := ?_) ?_ ?_
       rotate_left
       · intro w9 h9; (try dsimp only at h9); go_simp <;> first | with_reducible rfl | rw [if_neg (by omega)]
       try simp only [Act.put, lay]
       refine tk 6 hHeld rfl (v := ?_) ?_ ?_
       rotate_left
       · intro w9 h9; (try dsimp only at h9); go_simp <;> first | with_reducible rfl | rw [if_neg (by omega)]
       try simp only [Act.put, lay]
       refine tk 7 hHeld rfl (v := ?_) ?_ ?_
       rotate_left
       · intro w9 h9; (try dsimp only at h9); go_simp <;> first | with_reducible rfl | rw [if_neg (by omega)]
       try simp only [Act.put, lay]
       refine wpAnyH_ready (rs := [8, 20]) (by kernel_rfl) (by simp) ?_
       refine AllReadyH.cons rfl (fun K hK => ?_) ?_
       · go_simp
         refine hK.out _ _ ⟨⟨ck hHeld.1.1, ck hHeld.1.2.1, ck hHeld.1.2.2.1, ck hHeld.1.2.2.2⟩, ck hHeld.2⟩ (fun h8 => ?_)
         clear hK K
         replace hHeld := h8
         clear h8
         try simp only [Act.put, lay]
         refine wpAnyH_stronger (S' := fun w9 => ((w9.cell? ⟨u, 2, none⟩ = some (.int .i64 xb) ∧ w9.cell? ⟨u, 3, none⟩ = some (.int .i64 xc) ∧ w9.cell? ⟨p, 0, none⟩ = some (.pointer (some ⟨r, 0, none⟩)) ∧ w9.cell? ⟨q, 0, none⟩ = some (.bool b)) ∧ w9.cell? ⟨X.heap.size, J1, none⟩ = some (.string OB1)) ∧ w9.cell? ⟨X.heap.size + 1, J2, none⟩ = some (.string OB2)) (fun _ h => h.1) _ _ _ _ ?_
         have hHeld3 : ((((X.alloc (.cells #[.string ⟨#[107]⟩, .string ⟨#[120]⟩, .string ⟨#[106]⟩] 9)).alloc (.cells #[.string ⟨#[97]⟩, .string ⟨#[98]⟩] 9)).drew.cell? ⟨u, 2, none⟩ = some (.int .i64 xb) ∧ ((X.alloc (.cells #[.string ⟨#[107]⟩, .string ⟨#[120]⟩, .string ⟨#[106]⟩] 9)).alloc (.cells #[.string ⟨#[97]⟩, .string ⟨#[98]⟩] 9)).drew.cell? ⟨u, 3, none⟩ = some (.int .i64 xc) ∧ ((X.alloc (.cells #[.string ⟨#[107]⟩, .string ⟨#[120]⟩, .string ⟨#[106]⟩] 9)).alloc (.cells #[.string ⟨#[97]⟩, .string ⟨#[98]⟩] 9)).drew.cell? ⟨p, 0, none⟩ = some (.pointer (some ⟨r, 0, none⟩)) ∧ ((X.alloc (.cells #[.string ⟨#[107]⟩, .string ⟨#[120]⟩, .string ⟨#[106]⟩] 9)).alloc (.cells #[.string ⟨#[97]⟩, .string ⟨#[98]⟩] 9)).drew.cell? ⟨q, 0, none⟩ = some (.bool b)) ∧ ((X.alloc (.cells #[.string ⟨#[107]⟩, .string ⟨#[120]⟩, .string ⟨#[106]⟩] 9)).alloc (.cells #[.string ⟨#[97]⟩, .string ⟨#[98]⟩] 9)).drew.cell? ⟨X.heap.size, J1, none⟩ = some (.string OB1)) ∧ ((X.alloc (.cells #[.string ⟨#[107]⟩, .string ⟨#[120]⟩, .string ⟨#[106]⟩] 9)).alloc (.cells #[.string ⟨#[97]⟩, .string ⟨#[98]⟩] 9)).drew.cell? ⟨X.heap.size + 1, J2, none⟩ = some (.string OB2) := ⟨hHeld, (by have h := at_new (X.alloc (.cells #[.string ⟨#[107]⟩, .string ⟨#[120]⟩, .string ⟨#[106]⟩] 9)) #[.string ⟨#[97]⟩, .string ⟨#[98]⟩] 9 J2; rw [alloc_size] at h; exact h.trans e02)⟩
         clear hHeld
         have hHeld := hHeld3
         clear hHeld3
         refine tk 12 hHeld rfl (v := ?_) ?_ ?_
         rotate_left
         · intro w9 h9; (try dsimp only at h9); go_simp <;> first | with_reducible rfl | rw [if_neg (by omega)]
         try simp only [Act.put, lay]
         refine tk 13 hHeld rfl (v := ?_) ?_ ?_
         rotate_left
         · intro w9 h9; (try dsimp only at h9); go_simp <;> first | with_reducible rfl | rw [if_neg (by omega)]
         try simp only [Act.put, lay]
         refine tk 14 hHeld rfl (v := ?_) ?_ ?_
         rotate_left
         · intro w9 h9; (try dsimp only at h9); go_simp <;> first | with_reducible rfl | rw [if_neg (by omega)]
         try simp only [Act.put, lay]
         refine tk 15 hHeld rfl (v := ?_) ?_ ?_
         rotate_left
         · intro w9 h9; (try dsimp only at h9); go_simp <;> first | with_reducible rfl | rw [if_neg (by omega)]
         try simp only [Act.put, lay]
         refine wpAnyH_ready (rs := [20]) (by kernel_rfl) (by simp) ?_
         refine AllReadyH.cons rfl (fun K hK => ?_) ?_
         · go_simp
           first | with_reducible refine Calls.mono (HST.out ((X.alloc (.cells #[.string ⟨#[107]⟩, .string ⟨#[120]⟩, .string ⟨#[106]⟩] 9)).alloc (.cells #[.string ⟨#[97]⟩, .string ⟨#[98]⟩] 9)).drew (HWf.out _ (bl_trans (((Below.refl _ _).alloc (Nat.le_refl _) _).alloc (by rw [alloc_size]; omega) _) (below_drew _))) _ HD1.out) ?_ | with_reducible refine Calls.mono (HST.out ((X.alloc (.cells #[.string ⟨#[107]⟩, .string ⟨#[120]⟩, .string ⟨#[106]⟩] 9)).alloc (.cells #[.string ⟨#[97]⟩, .string ⟨#[98]⟩] 9)).drew (HWf.out _ (bl_trans (((Below.refl _ _).alloc (Nat.le_refl _) _).alloc (by rw [alloc_size]; omega) _) (below_drew _))) _ HD2.out) ?_
           rintro e w3 ⟨Z2, rfl, z2, H3, B3, w3r, w31r⟩
           have m30 := bk B3.out ur hHeld.1.1.1
           have m31 := bk B3.out ur hHeld.1.1.2.1
           have m32 := bk B3.out pr hHeld.1.1.2.2.1
           have m33 := bk B3.out qr hHeld.1.1.2.2.2
           have m34 := bk B3.out g0r hHeld.1.2
           have m35 := bk B3.out g1r hHeld.2
           go_wp2_with fail
           refine hK.out _ _ ⟨⟨⟨m30, m31, m32, m33⟩, m34⟩, m35⟩ (fun h8 => ?_)
           clear hK K
           replace hHeld := h8
           clear h8
           try simp only [Act.put, lay]
           refine tk 21 hHeld rfl (v := ?_) ?_ ?_
           rotate_left
           · intro w9 h9; (try dsimp only at h9); go_simp <;> first | with_reducible rfl | rw [if_neg (by omega)]
           try simp only [Act.put, lay]
           refine tk 22 hHeld rfl (v := ?_) ?_ ?_
           rotate_left
           · intro w9 h9; (try dsimp only at h9); go_simp <;> first | with_reducible rfl | rw [if_neg (by omega)]
           try simp only [Act.put, lay]
           refine wpAnyH_ready (rs := [24]) (by kernel_rfl) (by simp) ?_
           refine AllReadyH.cons rfl (fun K hK => ?_) ?_
           · go_simp
             have HW4 : ∃ i4, Mk r w3 l i4 ∧ i4 ≤ i + 1 + c ∧ But r r w w3 := by obtain ⟨i4, h1, h2, h3⟩ := H3.out.2; exact ⟨i4, h1.below (Below.refl _ _), h2, h3.more (Below.refl _ _)⟩
             with_reducible refine Calls.mono (HEX.out w3 HW4 hHeld.1.1.2.2.1 hHeld.1.1.2.2.2) ?_
             rintro e w4 ⟨Z3, rfl, z3, H4, B4⟩
             clear HW4
             have m40 := bk B4.out ur hHeld.1.1.1
             have m41 := bk B4.out ur hHeld.1.1.2.1
             have m42 := bk B4.out pr hHeld.1.1.2.2.1
             have m43 := bk B4.out qr hHeld.1.1.2.2.2
             have m44 := bk B4.out g0r hHeld.1.2
             have m45 := bk B4.out g1r hHeld.2
             go_wp2_with fail
             refine hK.out _ _ ⟨⟨⟨m40, m41, m42, m43⟩, m44⟩, m45⟩ (fun h8 => ?_)
             clear hK K
             replace hHeld := h8
             clear h8
             try simp only [Act.put, lay]
             refine tk 25 hHeld rfl (v := ?_) ?_ ?_
             rotate_left
             · intro w9 h9; (try dsimp only at h9); go_simp <;> first | with_reducible rfl | rw [if_neg (by omega)]
             try simp only [Act.put, lay]
             refine tk 26 hHeld rfl (v := ?_) ?_ ?_
             rotate_left
             · intro w9 h9; (try dsimp only at h9); go_simp <;> first | with_reducible rfl | rw [if_neg (by omega)]
             try simp only [Act.put, lay]
             refine tk 27 hHeld rfl (v := ?_) ?_ ?_
             rotate_left
             · intro w9 h9; (try dsimp only at h9); go_simp <;> first | with_reducible rfl | rw [if_neg (by omega)]
             try simp only [Act.put, lay]
             refine wpAnyH_done (by kernel_rfl) ?_ _
             go_wp2_with fail
             go_ret
             first | exact HF.out _ _ _ _ _ H3.out H4.out (Below.refl _ _) | exact HF.out _ _ _ _ _ H3.out H4.out ((Below.refl _ _).alloc (Nat.le_refl _) _) | exact HF.out _ _ _ _ _ H3.out H4.out (((Below.refl _ _).alloc (Nat.le_refl _) _).alloc (by rw [alloc_size]; omega) _)
           exact AllReadyH.nil
         exact AllReadyH.nil
       refine AllReadyH.cons rfl (fun K hK => ?_) ?_
       · go_simp
         first | with_reducible refine Calls.mono (HST.out (X.alloc (.cells #[.string ⟨#[107]⟩, .string ⟨#[120]⟩, .string ⟨#[106]⟩] 9)).drew (HWf.out _ (bl_trans ((Below.refl _ _).alloc (Nat.le_refl _) _) (below_drew _))) _ HD1.out) ?_ | with_reducible refine Calls.mono (HST.out (X.alloc (.cells #[.string ⟨#[107]⟩, .string ⟨#[120]⟩, .string ⟨#[106]⟩] 9)).drew (HWf.out _ (bl_trans ((Below.refl _ _).alloc (Nat.le_refl _) _) (below_drew _))) _ HD2.out) ?_
         rintro e w3 ⟨Z2, rfl, z2, H3, B3, w3r, w31r⟩
         have m30 := bk B3.out ur hHeld.1.1
         have m31 := bk B3.out ur hHeld.1.2.1
         have m32 := bk B3.out pr hHeld.1.2.2.1
         have m33 := bk B3.out qr hHeld.1.2.2.2
         have m34 := bk B3.out g0r hHeld.2
         go_wp2_with fail
         refine hK.out _ _ ⟨⟨m30, m31, m32, m33⟩, m34⟩ (fun h8 => ?_)
         clear hK K
         replace hHeld := h8
         clear h8
         try simp only [Act.put, lay]
         refine wpAnyH_ready (rs := [8, 24]) (by kernel_rfl) (by simp) ?_
         refine AllReadyH.cons rfl (fun K hK => ?_) ?_
         · go_simp
           refine hK.out _ _ ⟨⟨ck hHeld.1.1, ck hHeld.1.2.1, ck hHeld.1.2.2.1, ck hHeld.1.2.2.2⟩, ck hHeld.2⟩ (fun h8 => ?_)
           clear hK K
           replace hHeld := h8
           clear h8
           try simp only [Act.put, lay]
           refine wpAnyH_stronger (S' := fun w9 => ((w9.cell? ⟨u, 2, none⟩ = some (.int .i64 xb) ∧ w9.cell? ⟨u, 3, none⟩ = some (.int .i64 xc) ∧ w9.cell? ⟨p, 0, none⟩ = some (.pointer (some ⟨r, 0, none⟩)) ∧ w9.cell? ⟨q, 0, none⟩ = some (.bool b)) ∧ w9.cell? ⟨X.heap.size, J1, none⟩ = some (.string OB1)) ∧ w9.cell? ⟨w3.heap.size, J2, none⟩ = some (.string OB2)) (fun _ h => h.1) _ _ _ _ ?_
           have hHeld3 : (((w3.alloc (.cells #[.string ⟨#[97]⟩, .string ⟨#[98]⟩] 9)).cell? ⟨u, 2, none⟩ = some (.int .i64 xb) ∧ (w3.alloc (.cells #[.string ⟨#[97]⟩, .string ⟨#[98]⟩] 9)).cell? ⟨u, 3, none⟩ = some (.int .i64 xc) ∧ (w3.alloc (.cells #[.string ⟨#[97]⟩, .string ⟨#[98]⟩] 9)).cell? ⟨p, 0, none⟩ = some (.pointer (some ⟨r, 0, none⟩)) ∧ (w3.alloc (.cells #[.string ⟨#[97]⟩, .string ⟨#[98]⟩] 9)).cell? ⟨q, 0, none⟩ = some (.bool b)) ∧ (w3.alloc (.cells #[.string ⟨#[97]⟩, .string ⟨#[98]⟩] 9)).cell? ⟨X.heap.size, J1, none⟩ = some (.string OB1)) ∧ (w3.alloc (.cells #[.string ⟨#[97]⟩, .string ⟨#[98]⟩] 9)).cell? ⟨w3.heap.size, J2, none⟩ = some (.string OB2) := ⟨hHeld, ((at_new w3 _ _ J2).trans e02)⟩
           clear hHeld
           have hHeld := hHeld3
           clear hHeld3
           refine tk 12 hHeld rfl (v := ?_) ?_ ?_
           rotate_left
           · intro w9 h9; (try dsimp only at h9); go_simp <;> first | with_reducible rfl | rw [if_neg (by omega)]
           try simp only [Act.put, lay]
           refine tk 13 hHeld rfl (v := ?_) ?_ ?_
           rotate_left
           · intro w9 h9; (try dsimp only at h9); go_simp <;> first | with_reducible rfl | rw [if_neg (by omega)]
           try simp only [Act.put, lay]
           refine tk 14 hHeld rfl (v := ?_) ?_ ?_
           rotate_left
           · intro w9 h9; (try dsimp only at h9); go_simp <;> first | with_reducible rfl | rw [if_neg (by omega)]
           try simp only [Act.put, lay]
           refine tk 15 hHeld rfl (v := ?_) ?_ ?_
           rotate_left
           · intro w9 h9; (try dsimp only at h9); go_simp <;> first | with_reducible rfl | rw [if_neg (by omega)]
           try simp only [Act.put, lay]
           refine tk 21 hHeld rfl (v := ?_) ?_ ?_
           rotate_left
           · intro w9 h9; (try dsimp only at h9); go_simp <;> first | with_reducible rfl | rw [if_neg (by omega)]
           try simp only [Act.put, lay]
           refine tk 22 hHeld rfl (v := ?_) ?_ ?_
           rotate_left
           · intro w9 h9; (try dsimp only at h9); go_simp <;> first | with_reducible rfl | rw [if_neg (by omega)]
           try simp only [Act.put, lay]
           refine wpAnyH_ready (rs := [24]) (by kernel_rfl) (by simp) ?_
           refine AllReadyH.cons rfl (fun K hK => ?_) ?_
           · go_simp
             have HW4 : ∃ i4, Mk r (w3.alloc (.cells #[.string ⟨#[97]⟩, .string ⟨#[98]⟩] 9)) l i4 ∧ i4 ≤ i + 1 + c ∧ But r r w (w3.alloc (.cells #[.string ⟨#[97]⟩, .string ⟨#[98]⟩] 9)) := by obtain ⟨i4, h1, h2, h3⟩ := H3.out.2; exact ⟨i4, h1.below ((Below.refl _ _).alloc (Nat.le_refl _) _), h2, h3.more ((Below.refl _ _).alloc (Nat.le_refl _) _)⟩
             with_reducible refine Calls.mono (HEX.out (w3.alloc (.cells #[.string ⟨#[97]⟩, .string ⟨#[98]⟩] 9)) HW4 hHeld.1.1.2.2.1 hHeld.1.1.2.2.2) ?_
             rintro e w4 ⟨Z3, rfl, z3, H4, B4⟩
             clear HW4
             have m40 := bk B4.out ur hHeld.1.1.1
             have m41 := bk B4.out ur hHeld.1.1.2.1
             have m42 := bk B4.out pr hHeld.1.1.2.2.1
             have m43 := bk B4.out qr hHeld.1.1.2.2.2
             have m44 := bk B4.out g0r hHeld.1.2
             have m45 := bk B4.out w3r hHeld.2
             go_wp2_with fail
             refine hK.out _ _ ⟨⟨⟨m40, m41, m42, m43⟩, m44⟩, m45⟩ (fun h8 => ?_)
             clear hK K
             replace hHeld := h8
             clear h8
             try simp only [Act.put, lay]
             refine tk 25 hHeld rfl (v := ?_) ?_ ?_
             rotate_left
             · intro w9 h9; (try dsimp only at h9); go_simp <;> first | with_reducible rfl | rw [if_neg (by omega)]
             try simp only [Act.put, lay]
             refine tk 26 hHeld rfl (v := ?_) ?_ ?_
             rotate_left
             · intro w9 h9; (try dsimp only at h9); go_simp <;> first | with_reducible rfl | rw [if_neg (by omega)]
             try simp only [Act.put, lay]
             refine tk 27 hHeld rfl (v := ?_) ?_ ?_
             rotate_left
             · intro w9 h9; (try dsimp only at h9); go_simp <;> first | with_reducible rfl | rw [if_neg (by omega)]
             try simp only [Act.put, lay]
             refine wpAnyH_done (by kernel_rfl) ?_ _
             go_wp2_with fail
             go_ret
             first | exact HF.out _ _ _ _ _ H3.out H4.out (Below.refl _ _) | exact HF.out _ _ _ _ _ H3.out H4.out ((Below.refl _ _).alloc (Nat.le_refl _) _) | exact HF.out _ _ _ _ _ H3.out H4.out (((Below.refl _ _).alloc (Nat.le_refl _) _).alloc (by rw [alloc_size]; omega) _)
           exact AllReadyH.nil
         refine AllReadyH.cons rfl (fun K hK => ?_) ?_
         · go_simp
           have HW4 : ∃ i4, Mk r w3 l i4 ∧ i4 ≤ i + 1 + c ∧ But r r w w3 := by obtain ⟨i4, h1, h2, h3⟩ := H3.out.2; exact ⟨i4, h1.below (Below.refl _ _), h2, h3.more (Below.refl _ _)⟩
           with_reducible refine Calls.mono (HEX.out w3 HW4 hHeld.1.2.2.1 hHeld.1.2.2.2) ?_
           rintro e w4 ⟨Z3, rfl, z3, H4, B4⟩
           clear HW4
           have m40 := bk B4.out ur hHeld.1.1
           have m41 := bk B4.out ur hHeld.1.2.1
           have m42 := bk B4.out pr hHeld.1.2.2.1
           have m43 := bk B4.out qr hHeld.1.2.2.2
           have m44 := bk B4.out g0r hHeld.2
           go_wp2_with fail
           refine hK.out _ _ ⟨⟨m40, m41, m42, m43⟩, m44⟩ (fun h8 => ?_)
           clear hK K
           replace hHeld := h8
           clear h8
           try simp only [Act.put, lay]
           refine wpAnyH_ready (rs := [8]) (by kernel_rfl) (by simp) ?_
           refine AllReadyH.cons rfl (fun K hK => ?_) ?_
           · go_simp
             refine hK.out _ _ ⟨⟨ck hHeld.1.1, ck hHeld.1.2.1, ck hHeld.1.2.2.1, ck hHeld.1.2.2.2⟩, ck hHeld.2⟩ (fun h8 => ?_)
             clear hK K
             replace hHeld := h8
             clear h8
             try simp only [Act.put, lay]
             refine wpAnyH_stronger (S' := fun w9 => ((w9.cell? ⟨u, 2, none⟩ = some (.int .i64 xb) ∧ w9.cell? ⟨u, 3, none⟩ = some (.int .i64 xc) ∧ w9.cell? ⟨p, 0, none⟩ = some (.pointer (some ⟨r, 0, none⟩)) ∧ w9.cell? ⟨q, 0, none⟩ = some (.bool b)) ∧ w9.cell? ⟨X.heap.size, J1, none⟩ = some (.string OB1)) ∧ w9.cell? ⟨w4.heap.size, J2, none⟩ = some (.string OB2)) (fun _ h => h.1) _ _ _ _ ?_
             have hHeld3 : (((w4.alloc (.cells #[.string ⟨#[97]⟩, .string ⟨#[98]⟩] 9)).cell? ⟨u, 2, none⟩ = some (.int .i64 xb) ∧ (w4.alloc (.cells #[.string ⟨#[97]⟩, .string ⟨#[98]⟩] 9)).cell? ⟨u, 3, none⟩ = some (.int .i64 xc) ∧ (w4.alloc (.cells #[.string ⟨#[97]⟩, .string ⟨#[98]⟩] 9)).cell? ⟨p, 0, none⟩ = some (.pointer (some ⟨r, 0, none⟩)) ∧ (w4.alloc (.cells #[.string ⟨#[97]⟩, .string ⟨#[98]⟩] 9)).cell? ⟨q, 0, none⟩ = some (.bool b)) ∧ (w4.alloc (.cells #[.string ⟨#[97]⟩, .string ⟨#[98]⟩] 9)).cell? ⟨X.heap.size, J1, none⟩ = some (.string OB1)) ∧ (w4.alloc (.cells #[.string ⟨#[97]⟩, .string ⟨#[98]⟩] 9)).cell? ⟨w4.heap.size, J2, none⟩ = some (.string OB2) := ⟨hHeld, ((at_new w4 _ _ J2).trans e02)⟩
             clear hHeld
             have hHeld := hHeld3
             clear hHeld3
             refine tk 12 hHeld rfl (v := ?_) ?_ ?_
             rotate_left
             · intro w9 h9; (try dsimp only at h9); go_simp <;> first | with_reducible rfl | rw [if_neg (by omega)]
             try simp only [Act.put, lay]
             refine tk 13 hHeld rfl (v := ?_) ?_ ?_
             rotate_left
             · intro w9 h9; (try dsimp only at h9); go_simp <;> first | with_reducible rfl | rw [if_neg (by omega)]
             try simp only [Act.put, lay]
             refine tk 14 hHeld rfl (v := ?_) ?_ ?_
             rotate_left
             · intro w9 h9; (try dsimp only at h9); go_simp <;> first | with_reducible rfl | rw [if_neg (by omega)]
             try simp only [Act.put, lay]
             refine tk 15 hHeld rfl (v := ?_) ?_ ?_
             rotate_left
             · intro w9 h9; (try dsimp only at h9); go_simp <;> first | with_reducible rfl | rw [if_neg (by omega)]
             try simp only [Act.put, lay]
             refine tk 21 hHeld rfl (v := ?_) ?_ ?_
             rotate_left
             · intro w9 h9; (try dsimp only at h9); go_simp <;> first | with_reducible rfl | rw [if_neg (by omega)]
             try simp only [Act.put, lay]
             refine tk 22 hHeld rfl (v := ?_) ?_ ?_
             rotate_left
             · intro w9 h9; (try dsimp only at h9); go_simp <;> first | with_reducible rfl | rw [if_neg (by omega)]
             try simp only [Act.put, lay]
             refine tk 25 hHeld rfl (v := ?_) ?_ ?_
             rotate_left
             · intro w9 h9; (try dsimp only at h9); go_simp <;> first | with_reducible rfl | rw [if_neg (by omega)]
             try simp only [Act.put, lay]
             refine tk 26 hHeld rfl (v := ?_) ?_ ?_
             rotate_left
             · intro w9 h9; (try dsimp only at h9); go_simp <;> first | with_reducible rfl | rw [if_neg (by omega)]
             try simp only [Act.put, lay]
             refine tk 27 hHeld rfl (v := ?_) ?_ ?_
             rotate_left
             · intro w9 h9; (try dsimp only at h9); go_simp <;> first | with_reducible rfl | rw [if_neg (by omega)]
             try simp only [Act.put, lay]
             refine wpAnyH_done (by kernel_rfl) ?_ _
             go_wp2_with fail
             go_ret
             first | exact HF.out _ _ _ _ _ H3.out H4.out (Below.refl _ _) | exact HF.out _ _ _ _ _ H3.out H4.out ((Below.refl _ _).alloc (Nat.le_refl _) _) | exact HF.out _ _ _ _ _ H3.out H4.out (((Below.refl _ _).alloc (Nat.le_refl _) _).alloc (by rw [alloc_size]; omega) _)
           exact AllReadyH.nil
         exact AllReadyH.nil
       exact AllReadyH.nil
     refine AllReadyH.cons rfl (fun K hK => ?_) ?_
     · go_simp
       refine hK.out _ _ ⟨ck hHeld.1, ck hHeld.2.1, ck hHeld.2.2.1, ck hHeld.2.2.2⟩ (fun h8 => ?_)
       clear hK K
       replace hHeld := h8
       clear h8
       try simp only [Act.put, lay]
       refine wpAnyH_stronger (S' := fun w9 => (w9.cell? ⟨u, 2, none⟩ = some (.int .i64 xb) ∧ w9.cell? ⟨u, 3, none⟩ = some (.int .i64 xc) ∧ w9.cell? ⟨p, 0, none⟩ = some (.pointer (some ⟨r, 0, none⟩)) ∧ w9.cell? ⟨q, 0, none⟩ = some (.bool b)) ∧ w9.cell? ⟨X.heap.size, J2, none⟩ = some (.string OB2)) (fun _ h => h.1) _ _ _ _ ?_
       have hHeld3 : ((X.alloc (.cells #[.string ⟨#[97]⟩, .string ⟨#[98]⟩] 9)).drew.cell? ⟨u, 2, none⟩ = some (.int .i64 xb) ∧ (X.alloc (.cells #[.string ⟨#[97]⟩, .string ⟨#[98]⟩] 9)).drew.cell? ⟨u, 3, none⟩ = some (.int .i64 xc) ∧ (X.alloc (.cells #[.string ⟨#[97]⟩, .string ⟨#[98]⟩] 9)).drew.cell? ⟨p, 0, none⟩ = some (.pointer (some ⟨r, 0, none⟩)) ∧ (X.alloc (.cells #[.string ⟨#[97]⟩, .string ⟨#[98]⟩] 9)).drew.cell? ⟨q, 0, none⟩ = some (.bool b)) ∧ (X.alloc (.cells #[.string ⟨#[97]⟩, .string ⟨#[98]⟩] 9)).drew.cell? ⟨X.heap.size, J2, none⟩ = some (.string OB2) := ⟨hHeld, ((at_new X _ _ J2).trans e02)⟩
       clear hHeld
       have hHeld := hHeld3
       clear hHeld3
       refine tk 12 hHeld rfl (v := ?_) ?_ ?_
       rotate_left
       · intro w9 h9; (try dsimp only at h9); go_simp <;> first | with_reducible rfl | rw [if_neg (by omega)]
       try simp only [Act.put, lay]
       refine tk 13 hHeld rfl (v := ?_) ?_ ?_
       rotate_left
       · intro w9 h9; (try dsimp only at h9); go_simp <;> first | with_reducible rfl | rw [if_neg (by omega)]
       try simp only [Act.put, lay]
       refine wpAnyH_ready (rs := [0, 20]) (by kernel_rfl) (by simp) ?_
       refine AllReadyH.cons rfl (fun K hK => ?_) ?_
       · go_simp
         refine hK.out _ _ ⟨⟨ck hHeld.1.1, ck hHeld.1.2.1, ck hHeld.1.2.2.1, ck hHeld.1.2.2.2⟩, ck hHeld.2⟩ (fun h8 => ?_)
         clear hK K
         replace hHeld := h8
         clear h8
         try simp only [Act.put, lay]
         refine wpAnyH_stronger (S' := fun w9 => ((w9.cell? ⟨u, 2, none⟩ = some (.int .i64 xb) ∧ w9.cell? ⟨u, 3, none⟩ = some (.int .i64 xc) ∧ w9.cell? ⟨p, 0, none⟩ = some (.pointer (some ⟨r, 0, none⟩)) ∧ w9.cell? ⟨q, 0, none⟩ = some (.bool b)) ∧ w9.cell? ⟨X.heap.size, J2, none⟩ = some (.string OB2)) ∧ w9.cell? ⟨X.heap.size + 1, J1, none⟩ = some (.string OB1)) (fun _ h => h.1) _ _ _ _ ?_
         have hHeld3 : ((((X.alloc (.cells #[.string ⟨#[97]⟩, .string ⟨#[98]⟩] 9)).alloc (.cells #[.string ⟨#[107]⟩, .string ⟨#[120]⟩, .string ⟨#[106]⟩] 9)).drew.cell? ⟨u, 2, none⟩ = some (.int .i64 xb) ∧ ((X.alloc (.cells #[.string ⟨#[97]⟩, .string ⟨#[98]⟩] 9)).alloc (.cells #[.string ⟨#[107]⟩, .string ⟨#[120]⟩, .string ⟨#[106]⟩] 9)).drew.cell? ⟨u, 3, none⟩ = some (.int .i64 xc) ∧ ((X.alloc (.cells #[.string ⟨#[97]⟩, .string ⟨#[98]⟩] 9)).alloc (.cells #[.string ⟨#[107]⟩, .string ⟨#[120]⟩, .string ⟨#[106]⟩] 9)).drew.cell? ⟨p, 0, none⟩ = some (.pointer (some ⟨r, 0, none⟩)) ∧ ((X.alloc (.cells #[.string ⟨#[97]⟩, .string ⟨#[98]⟩] 9)).alloc (.cells #[.string ⟨#[107]⟩, .string ⟨#[120]⟩, .string ⟨#[106]⟩] 9)).drew.cell? ⟨q, 0, none⟩ = some (.bool b)) ∧ ((X.alloc (.cells #[.string ⟨#[97]⟩, .string ⟨#[98]⟩] 9)).alloc (.cells #[.string ⟨#[107]⟩, .string ⟨#[120]⟩, .string ⟨#[106]⟩] 9)).drew.cell? ⟨X.heap.size, J2, none⟩ = some (.string OB2)) ∧ ((X.alloc (.cells #[.string ⟨#[97]⟩, .string ⟨#[98]⟩] 9)).alloc (.cells #[.string ⟨#[107]⟩, .string ⟨#[120]⟩, .string ⟨#[106]⟩] 9)).drew.cell? ⟨X.heap.size + 1, J1, none⟩ = some (.string OB1) := ⟨hHeld, (by have h := at_new (X.alloc (.cells #[.string ⟨#[97]⟩, .string ⟨#[98]⟩] 9)) #[.string ⟨#[107]⟩, .string ⟨#[120]⟩, .string ⟨#[106]⟩] 9 J1; rw [alloc_size] at h; exact h.trans e01)⟩
         clear hHeld
         have hHeld := hHeld3
         clear hHeld3
         refine tk 4 hHeld rfl (v := ?_) ?_ ?_
         rotate_left
         · intro w9 h9; (try dsimp only at h9); go_simp <;> first | with_reducible rfl | rw [if_neg (by omega)]
         try simp only [Act.put, lay]
         refine tk 5 hHeld rfl (v := ?_) ?_ ?_
         rotate_left
         · intro w9 h9; (try dsimp only at h9); go_simp <;> first | with_reducible rfl | rw [if_neg (by omega)]
         try simp only [Act.put, lay]
         refine tk 6 hHeld rfl (v := ?_) ?_ ?_
         rotate_left
         · intro w9 h9; (try dsimp only at h9); go_simp <;> first | with_reducible rfl | rw [if_neg (by omega)]
         try simp only [Act.put, lay]
         refine tk 7 hHeld rfl (v := ?_) ?_ ?_
         rotate_left
         · intro w9 h9; (try dsimp only at h9); go_simp <;> first | with_reducible rfl | rw [if_neg (by omega)]
         try simp only [Act.put, lay]
         refine tk 14 hHeld rfl (v := ?_) ?_ ?_
         rotate_left
         · intro w9 h9; (try dsimp only at h9); go_simp <;> first | with_reducible rfl | rw [if_neg (by omega)]
         try simp only [Act.put, lay]
         refine tk 15 hHeld rfl (v := ?_) ?_ ?_
         rotate_left
         · intro w9 h9; (try dsimp only at h9); go_simp <;> first | with_reducible rfl | rw [if_neg (by omega)]
         try simp only [Act.put, lay]
         refine wpAnyH_ready (rs := [20]) (by kernel_rfl) (by simp) ?_
         refine AllReadyH.cons rfl (fun K hK => ?_) ?_
         · go_simp
           first | with_reducible refine Calls.mono (HST.out ((X.alloc (.cells #[.string ⟨#[97]⟩, .string ⟨#[98]⟩] 9)).alloc (.cells #[.string ⟨#[107]⟩, .string ⟨#[120]⟩, .string ⟨#[106]⟩] 9)).drew (HWf.out _ (bl_trans (((Below.refl _ _).alloc (Nat.le_refl _) _).alloc (by rw [alloc_size]; omega) _) (below_drew _))) _ HD1.out) ?_ | with_reducible refine Calls.mono (HST.out ((X.alloc (.cells #[.string ⟨#[97]⟩, .string ⟨#[98]⟩] 9)).alloc (.cells #[.string ⟨#[107]⟩, .string ⟨#[120]⟩, .string ⟨#[106]⟩] 9)).drew (HWf.out _ (bl_trans (((Below.refl _ _).alloc (Nat.le_refl _) _).alloc (by rw [alloc_size]; omega) _) (below_drew _))) _ HD2.out) ?_
           rintro e w3 ⟨Z2, rfl, z2, H3, B3, w3r, w31r⟩
           have m30 := bk B3.out ur hHeld.1.1.1
           have m31 := bk B3.out ur hHeld.1.1.2.1
           have m32 := bk B3.out pr hHeld.1.1.2.2.1
           have m33 := bk B3.out qr hHeld.1.1.2.2.2
           have m34 := bk B3.out g0r hHeld.1.2
           have m35 := bk B3.out g1r hHeld.2
           go_wp2_with fail
           refine hK.out _ _ ⟨⟨⟨m30, m31, m32, m33⟩, m34⟩, m35⟩ (fun h8 => ?_)
           clear hK K
           replace hHeld := h8
           clear h8
           try simp only [Act.put, lay]
           refine tk 21 hHeld rfl (v := ?_) ?_ ?_
           rotate_left
           · intro w9 h9; (try dsimp only at h9); go_simp <;> first | with_reducible rfl | rw [if_neg (by omega)]
           try simp only [Act.put, lay]
           refine tk 22 hHeld rfl (v := ?_) ?_ ?_
           rotate_left
           · intro w9 h9; (try dsimp only at h9); go_simp <;> first | with_reducible rfl | rw [if_neg (by omega)]
           try simp only [Act.put, lay]
           refine wpAnyH_ready (rs := [24]) (by kernel_rfl) (by simp) ?_
           refine AllReadyH.cons rfl (fun K hK => ?_) ?_
           · go_simp
             have HW4 : ∃ i4, Mk r w3 l i4 ∧ i4 ≤ i + 1 + c ∧ But r r w w3 := by obtain ⟨i4, h1, h2, h3⟩ := H3.out.2; exact ⟨i4, h1.below (Below.refl _ _), h2, h3.more (Below.refl _ _)⟩
             with_reducible refine Calls.mono (HEX.out w3 HW4 hHeld.1.1.2.2.1 hHeld.1.1.2.2.2) ?_
             rintro e w4 ⟨Z3, rfl, z3, H4, B4⟩
             clear HW4
             have m40 := bk B4.out ur hHeld.1.1.1
             have m41 := bk B4.out ur hHeld.1.1.2.1
             have m42 := bk B4.out pr hHeld.1.1.2.2.1
             have m43 := bk B4.out qr hHeld.1.1.2.2.2
             have m44 := bk B4.out g0r hHeld.1.2
             have m45 := bk B4.out g1r hHeld.2
             go_wp2_with fail
             refine hK.out _ _ ⟨⟨⟨m40, m41, m42, m43⟩, m44⟩, m45⟩ (fun h8 => ?_)
             clear hK K
             replace hHeld := h8
             clear h8
             try simp only [Act.put, lay]
             refine tk 25 hHeld rfl (v := ?_) ?_ ?_
             rotate_left
             · intro w9 h9; (try dsimp only at h9); go_simp <;> first | with_reducible rfl | rw [if_neg (by omega)]
             try simp only [Act.put, lay]
             refine tk 26 hHeld rfl (v := ?_) ?_ ?_
             rotate_left
             · intro w9 h9; (try dsimp only at h9); go_simp <;> first | with_reducible rfl | rw [if_neg (by omega)]
             try simp only [Act.put, lay]
             refine tk 27 hHeld rfl (v := ?_) ?_ ?_
             rotate_left
             · intro w9 h9; (try dsimp only at h9); go_simp <;> first | with_reducible rfl | rw [if_neg (by omega)]
             try simp only [Act.put, lay]
             refine wpAnyH_done (by kernel_rfl) ?_ _
             go_wp2_with fail
             go_ret
             first | exact HF.out _ _ _ _ _ H3.out H4.out (Below.refl _ _) | exact HF.out _ _ _ _ _ H3.out H4.out ((Below.refl _ _).alloc (Nat.le_refl _) _) | exact HF.out _ _ _ _ _ H3.out H4.out (((Below.refl _ _).alloc (Nat.le_refl _) _).alloc (by rw [alloc_size]; omega) _)
           exact AllReadyH.nil
         exact AllReadyH.nil
       refine AllReadyH.cons rfl (fun K hK => ?_) ?_
       · go_simp
         first | with_reducible refine Calls.mono (HST.out (X.alloc (.cells #[.string ⟨#[97]⟩, .string ⟨#[98]⟩] 9)).drew (HWf.out _ (bl_trans ((Below.refl _ _).alloc (Nat.le_refl _) _) (below_drew _))) _ HD1.out) ?_ | with_reducible refine Calls.mono (HST.out (X.alloc (.cells #[.string ⟨#[97]⟩, .string ⟨#[98]⟩] 9)).drew (HWf.out _ (bl_trans ((Below.refl _ _).alloc (Nat.le_refl _) _) (below_drew _))) _ HD2.out) ?_
         rintro e w3 ⟨Z2, rfl, z2, H3, B3, w3r, w31r⟩
         have m30 := bk B3.out ur hHeld.1.1
         have m31 := bk B3.out ur hHeld.1.2.1
         have m32 := bk B3.out pr hHeld.1.2.2.1
         have m33 := bk B3.out qr hHeld.1.2.2.2
         have m34 := bk B3.out g0r hHeld.2
         go_wp2_with fail
         refine hK.out _ _ ⟨⟨m30, m31, m32, m33⟩, m34⟩ (fun h8 => ?_)
         clear hK K
         replace hHeld := h8
         clear h8
         try simp only [Act.put, lay]
         refine wpAnyH_ready (rs := [0, 24]) (by kernel_rfl) (by simp) ?_
         refine AllReadyH.cons rfl (fun K hK => ?_) ?_
         · go_simp
           refine hK.out _ _ ⟨⟨ck hHeld.1.1, ck hHeld.1.2.1, ck hHeld.1.2.2.1, ck hHeld.1.2.2.2⟩, ck hHeld.2⟩ (fun h8 => ?_)
           clear hK K
           replace hHeld := h8
           clear h8
           try simp only [Act.put, lay]
           refine wpAnyH_stronger (S' := fun w9 => ((w9.cell? ⟨u, 2, none⟩ = some (.int .i64 xb) ∧ w9.cell? ⟨u, 3, none⟩ = some (.int .i64 xc) ∧ w9.cell? ⟨p, 0, none⟩ = some (.pointer (some ⟨r, 0, none⟩)) ∧ w9.cell? ⟨q, 0, none⟩ = some (.bool b)) ∧ w9.cell? ⟨X.heap.size, J2, none⟩ = some (.string OB2)) ∧ w9.cell? ⟨w3.heap.size, J1, none⟩ = some (.string OB1)) (fun _ h => h.1) _ _ _ _ ?_
           have hHeld3 : (((w3.alloc (.cells #[.string ⟨#[107]⟩, .string ⟨#[120]⟩, .string ⟨#[106]⟩] 9)).cell? ⟨u, 2, none⟩ = some (.int .i64 xb) ∧ (w3.alloc (.cells #[.string ⟨#[107]⟩, .string ⟨#[120]⟩, .string ⟨#[106]⟩] 9)).cell? ⟨u, 3, none⟩ = some (.int .i64 xc) ∧ (w3.alloc (.cells #[.string ⟨#[107]⟩, .string ⟨#[120]⟩, .string ⟨#[106]⟩] 9)).cell? ⟨p, 0, none⟩ = some (.pointer (some ⟨r, 0, none⟩)) ∧ (w3.alloc (.cells #[.string ⟨#[107]⟩, .string ⟨#[120]⟩, .string ⟨#[106]⟩] 9)).cell? ⟨q, 0, none⟩ = some (.bool b)) ∧ (w3.alloc (.cells #[.string ⟨#[107]⟩, .string ⟨#[120]⟩, .string ⟨#[106]⟩] 9)).cell? ⟨X.heap.size, J2, none⟩ = some (.string OB2)) ∧ (w3.alloc (.cells #[.string ⟨#[107]⟩, .string ⟨#[120]⟩, .string ⟨#[106]⟩] 9)).cell? ⟨w3.heap.size, J1, none⟩ = some (.string OB1) := ⟨hHeld, ((at_new w3 _ _ J1).trans e01)⟩
           clear hHeld
           have hHeld := hHeld3
           clear hHeld3
           refine tk 4 hHeld rfl (v := ?_) ?_ ?_
           rotate_left
           · intro w9 h9; (try dsimp only at h9); go_simp <;> first | with_reducible rfl | rw [if_neg (by omega)]
           try simp only [Act.put, lay]
           refine tk 5 hHeld rfl (v := ?_) ?_ ?_
           rotate_left
           · intro w9 h9; (try dsimp only at h9); go_simp <;> first | with_reducible rfl | rw [if_neg (by omega)]
           try simp only [Act.put, lay]
           refine tk 6 hHeld rfl (v := ?_) ?_ ?_
           rotate_left
           · intro w9 h9; (try dsimp only at h9); go_simp <;> first | with_reducible rfl | rw [if_neg (by omega)]
           try simp only [Act.put, lay]
           refine tk 7 hHeld rfl (v := ?_) ?_ ?_
           rotate_left
           · intro w9 h9; (try dsimp only at h9); go_simp <;> first | with_reducible rfl | rw [if_neg (by omega)]
           try simp only [Act.put, lay]
           refine tk 14 hHeld rfl (v := ?_) ?_ ?_
           rotate_left
           · intro w9 h9; (try dsimp only at h9); go_simp <;> first | with_reducible rfl | rw [if_neg (by omega)]
           try simp only [Act.put, lay]
           refine tk 15 hHeld rfl (v := ?_) ?_ ?_
           rotate_left
           · intro w9 h9; (try dsimp only at h9); go_simp <;> first | with_reducible rfl | rw [if_neg (by omega)]
           try simp only [Act.put, lay]
           refine tk 21 hHeld rfl (v := ?_) ?_ ?_
           rotate_left
           · intro w9 h9; (try dsimp only at h9); go_simp <;> first | with_reducible rfl | rw [if_neg (by omega)]
           try simp only [Act.put, lay]
           refine tk 22 hHeld rfl (v := ?_) ?_ ?_
           rotate_left
           · intro w9 h9; (try dsimp only at h9); go_simp <;> first | with_reducible rfl | rw [if_neg (by omega)]
           try simp only [Act.put, lay]
           refine wpAnyH_ready (rs := [24]) (by kernel_rfl) (by simp) ?_
           refine AllReadyH.cons rfl (fun K hK => ?_) ?_
           · go_simp
             have HW4 : ∃ i4, Mk r (w3.alloc (.cells #[.string ⟨#[107]⟩, .string ⟨#[120]⟩, .string ⟨#[106]⟩] 9)) l i4 ∧ i4 ≤ i + 1 + c ∧ But r r w (w3.alloc (.cells #[.string ⟨#[107]⟩, .string ⟨#[120]⟩, .string ⟨#[106]⟩] 9)) := by obtain ⟨i4, h1, h2, h3⟩ := H3.out.2; exact ⟨i4, h1.below ((Below.refl _ _).alloc (Nat.le_refl _) _), h2, h3.more ((Below.refl _ _).alloc (Nat.le_refl _) _)⟩
             with_reducible refine Calls.mono (HEX.out (w3.alloc (.cells #[.string ⟨#[107]⟩, .string ⟨#[120]⟩, .string ⟨#[106]⟩] 9)) HW4 hHeld.1.1.2.2.1 hHeld.1.1.2.2.2) ?_
             rintro e w4 ⟨Z3, rfl, z3, H4, B4⟩
             clear HW4
             have m40 := bk B4.out ur hHeld.1.1.1
             have m41 := bk B4.out ur hHeld.1.1.2.1
             have m42 := bk B4.out pr hHeld.1.1.2.2.1
             have m43 := bk B4.out qr hHeld.1.1.2.2.2
             have m44 := bk B4.out g0r hHeld.1.2
             have m45 := bk B4.out w3r hHeld.2
             go_wp2_with fail
             refine hK.out _ _ ⟨⟨⟨m40, m41, m42, m43⟩, m44⟩, m45⟩ (fun h8 => ?_)
             clear hK K
             replace hHeld := h8
             clear h8
             try simp only [Act.put, lay]
             refine tk 25 hHeld rfl (v := ?_) ?_ ?_
             rotate_left
             · intro w9 h9; (try dsimp only at h9); go_simp <;> first | with_reducible rfl | rw [if_neg (by omega)]
             try simp only [Act.put, lay]
             refine tk 26 hHeld rfl (v := ?_) ?_ ?_
             rotate_left
             · intro w9 h9; (try dsimp only at h9); go_simp <;> first | with_reducible rfl | rw [if_neg (by omega)]
             try simp only [Act.put, lay]
             refine tk 27 hHeld rfl (v := ?_) ?_ ?_
             rotate_left
             · intro w9 h9; (try dsimp only at h9); go_simp <;> first | with_reducible rfl | rw [if_neg (by omega)]
             try simp only [Act.put, lay]
             refine wpAnyH_done (by kernel_rfl) ?_ _
             go_wp2_with fail
             go_ret
             first | exact HF.out _ _ _ _ _ H3.out H4.out (Below.refl _ _) | exact HF.out _ _ _ _ _ H3.out H4.out ((Below.refl _ _).alloc (Nat.le_refl _) _) | exact HF.out _ _ _ _ _ H3.out H4.out (((Below.refl _ _).alloc (Nat.le_refl _) _).alloc (by rw [alloc_size]; omega) _)
           exact AllReadyH.nil
         refine AllReadyH.cons rfl (fun K hK => ?_) ?_
         · go_simp
           have HW4 : ∃ i4, Mk r w3 l i4 ∧ i4 ≤ i + 1 + c ∧ But r r w w3 := by obtain ⟨i4, h1, h2, h3⟩ := H3.out.2; exact ⟨i4, h1.below (Below.refl _ _), h2, h3.more (Below.refl _ _)⟩
           with_reducible refine Calls.mono (HEX.out w3 HW4 hHeld.1.2.2.1 hHeld.1.2.2.2) ?_
           rintro e w4 ⟨Z3, rfl, z3, H4, B4⟩
           clear HW4
           have m40 := bk B4.out ur hHeld.1.1
           have m41 := bk B4.out ur hHeld.1.2.1
           have m42 := bk B4.out pr hHeld.1.2.2.1
           have m43 := bk B4.out qr hHeld.1.2.2.2
           have m44 := bk B4.out g0r hHeld.2
           go_wp2_with fail
           refine hK.out _ _ ⟨⟨m40, m41, m42, m43⟩, m44⟩ (fun h8 => ?_)
           clear hK K
           replace hHeld := h8
           clear h8
           try simp only [Act.put, lay]
           refine wpAnyH_ready (rs := [0]) (by kernel_rfl) (by simp) ?_
           refine AllReadyH.cons rfl (fun K hK => ?_) ?_
           · go_simp
             refine hK.out _ _ ⟨⟨ck hHeld.1.1, ck hHeld.1.2.1, ck hHeld.1.2.2.1, ck hHeld.1.2.2.2⟩, ck hHeld.2⟩ (fun h8 => ?_)
             clear hK K
             replace hHeld := h8
             clear h8
             try simp only [Act.put, lay]
             refine wpAnyH_stronger (S' := fun w9 => ((w9.cell? ⟨u, 2, none⟩ = some (.int .i64 xb) ∧ w9.cell? ⟨u, 3, none⟩ = some (.int .i64 xc) ∧ w9.cell? ⟨p, 0, none⟩ = some (.pointer (some ⟨r, 0, none⟩)) ∧ w9.cell? ⟨q, 0, none⟩ = some (.bool b)) ∧ w9.cell? ⟨X.heap.size, J2, none⟩ = some (.string OB2)) ∧ w9.cell? ⟨w4.heap.size, J1, none⟩ = some (.string OB1)) (fun _ h => h.1) _ _ _ _ ?_
             have hHeld3 : (((w4.alloc (.cells #[.string ⟨#[107]⟩, .string ⟨#[120]⟩, .string ⟨#[106]⟩] 9)).cell? ⟨u, 2, none⟩ = some (.int .i64 xb) ∧ (w4.alloc (.cells #[.string ⟨#[107]⟩, .string ⟨#[120]⟩, .string ⟨#[106]⟩] 9)).cell? ⟨u, 3, none⟩ = some (.int .i64 xc) ∧ (w4.alloc (.cells #[.string ⟨#[107]⟩, .string ⟨#[120]⟩, .string ⟨#[106]⟩] 9)).cell? ⟨p, 0, none⟩ = some (.pointer (some ⟨r, 0, none⟩)) ∧ (w4.alloc (.cells #[.string ⟨#[107]⟩, .string ⟨#[120]⟩, .string ⟨#[106]⟩] 9)).cell? ⟨q, 0, none⟩ = some (.bool b)) ∧ (w4.alloc (.cells #[.string ⟨#[107]⟩, .string ⟨#[120]⟩, .string ⟨#[106]⟩] 9)).cell? ⟨X.heap.size, J2, none⟩ = some (.string OB2)) ∧ (w4.alloc (.cells #[.string ⟨#[107]⟩, .string ⟨#[120]⟩, .string ⟨#[106]⟩] 9)).cell? ⟨w4.heap.size, J1, none⟩ = some (.string OB1) := ⟨hHeld, ((at_new w4 _ _ J1).trans e01)⟩
             clear hHeld
             have hHeld := hHeld3
             clear hHeld3
             refine tk 4 hHeld rfl (v := ?_) ?_ ?_
             rotate_left
             · intro w9 h9; (try dsimp only at h9); go_simp <;> first | with_reducible rfl | rw [if_neg (by omega)]
             try simp only [Act.put, lay]
             refine tk 5 hHeld rfl (v := ?_) ?_ ?_
             rotate_left
             · intro w9 h9; (try dsimp only at h9); go_simp <;> first | with_reducible rfl | rw [if_neg (by omega)]
             try simp only [Act.put, lay]
             refine tk 6 hHeld rfl (v := ?_) ?_ ?_
             rotate_left
             · intro w9 h9; (try dsimp only at h9); go_simp <;> first | with_reducible rfl | rw [if_neg (by omega)]
             try simp only [Act.put, lay]
             refine tk 7 hHeld rfl (v := ?_) ?_ ?_
             rotate_left
             · intro w9 h9; (try dsimp only at h9); go_simp <;> first | with_reducible rfl | rw [if_neg (by omega)]
             try simp only [Act.put, lay]
             refine tk 14 hHeld rfl (v := ?_) ?_ ?_
             rotate_left
             · intro w9 h9; (try dsimp only at h9); go_simp <;> first | with_reducible rfl | rw [if_neg (by omega)]
             try simp only [Act.put, lay]
             refine tk 15 hHeld rfl (v := ?_) ?_ ?_
             rotate_left
             · intro w9 h9; (try dsimp only at h9); go_simp <;> first | with_reducible rfl | rw [if_neg (by omega)]
             try simp only [Act.put, lay]
             refine tk 21 hHeld rfl (v := ?_) ?_ ?_
             rotate_left
             · intro w9 h9; (try dsimp only at h9); go_simp <;> first | with_reducible rfl | rw [if_neg (by omega)]
             try simp only [Act.put, lay]
             refine tk 22 hHeld rfl (v := ?_) ?_ ?_
             rotate_left
             · intro w9 h9; (try dsimp only at h9); go_simp <;> first | with_reducible rfl | rw [if_neg (by omega)]
             try simp only [Act.put, lay]
             refine tk 25 hHeld rfl (v := ?_) ?_ ?_
             rotate_left
             · intro w9 h9; (try dsimp only at h9); go_simp <;> first | with_reducible rfl | rw [if_neg (by omega)]
             try simp only [Act.put, lay]
             refine tk 26 hHeld rfl (v := ?_) ?_ ?_
             rotate_left
             · intro w9 h9; (try dsimp only at h9); go_simp <;> first | with_reducible rfl | rw [if_neg (by omega)]
             try simp only [Act.put, lay]
             refine tk 27 hHeld rfl (v := ?_) ?_ ?_
             rotate_left
             · intro w9 h9; (try dsimp only at h9); go_simp <;> first | with_reducible rfl | rw [if_neg (by omega)]
             try simp only [Act.put, lay]
             refine wpAnyH_done (by kernel_rfl) ?_ _
             go_wp2_with fail
             go_ret
             first | exact HF.out _ _ _ _ _ H3.out H4.out (Below.refl _ _) | exact HF.out _ _ _ _ _ H3.out H4.out ((Below.refl _ _).alloc (Nat.le_refl _) _) | exact HF.out _ _ _ _ _ H3.out H4.out (((Below.refl _ _).alloc (Nat.le_refl _) _).alloc (by rw [alloc_size]; omega) _)
           exact AllReadyH.nil
         exact AllReadyH.nil
       exact AllReadyH.nil
     refine AllReadyH.cons rfl (fun K hK => ?_) ?_
     · go_simp
       first | with_reducible refine Calls.mono (HST.out X.drew (HWf.out _ (bl_trans (Below.refl _ _) (below_drew _))) _ HD1.out) ?_ | with_reducible refine Calls.mono (HST.out X.drew (HWf.out _ (bl_trans (Below.refl _ _) (below_drew _))) _ HD2.out) ?_
       rintro e w3 ⟨Z2, rfl, z2, H3, B3, w3r, w31r⟩
       have m30 := bk B3.out ur hHeld.1
       have m31 := bk B3.out ur hHeld.2.1
       have m32 := bk B3.out pr hHeld.2.2.1
       have m33 := bk B3.out qr hHeld.2.2.2
       go_wp2_with fail
       refine hK.out _ _ ⟨m30, m31, m32, m33⟩ (fun h8 => ?_)
       clear hK K
       replace hHeld := h8
       clear h8
       try simp only [Act.put, lay]
       refine wpAnyH_ready (rs := [0, 8, 24]) (by kernel_rfl) (by simp) ?_
       refine AllReadyH.cons rfl (fun K hK => ?_) ?_
       · go_simp
         refine hK.out _ _ ⟨ck hHeld.1, ck hHeld.2.1, ck hHeld.2.2.1, ck hHeld.2.2.2⟩ (fun h8 => ?_)
         clear hK K
         replace hHeld := h8
         clear h8
         try simp only [Act.put, lay]
         refine wpAnyH_stronger (S' := fun w9 => (w9.cell? ⟨u, 2, none⟩ = some (.int .i64 xb) ∧ w9.cell? ⟨u, 3, none⟩ = some (.int .i64 xc) ∧ w9.cell? ⟨p, 0, none⟩ = some (.pointer (some ⟨r, 0, none⟩)) ∧ w9.cell? ⟨q, 0, none⟩ = some (.bool b)) ∧ w9.cell? ⟨w3.heap.size, J1, none⟩ = some (.string OB1)) (fun _ h => h.1) _ _ _ _ ?_
         have hHeld3 : ((w3.alloc (.cells #[.string ⟨#[107]⟩, .string ⟨#[120]⟩, .string ⟨#[106]⟩] 9)).cell? ⟨u, 2, none⟩ = some (.int .i64 xb) ∧ (w3.alloc (.cells #[.string ⟨#[107]⟩, .string ⟨#[120]⟩, .string ⟨#[106]⟩] 9)).cell? ⟨u, 3, none⟩ = some (.int .i64 xc) ∧ (w3.alloc (.cells #[.string ⟨#[107]⟩, .string ⟨#[120]⟩, .string ⟨#[106]⟩] 9)).cell? ⟨p, 0, none⟩ = some (.pointer (some ⟨r, 0, none⟩)) ∧ (w3.alloc (.cells #[.string ⟨#[107]⟩, .string ⟨#[120]⟩, .string ⟨#[106]⟩] 9)).cell? ⟨q, 0, none⟩ = some (.bool b)) ∧ (w3.alloc (.cells #[.string ⟨#[107]⟩, .string ⟨#[120]⟩, .string ⟨#[106]⟩] 9)).cell? ⟨w3.heap.size, J1, none⟩ = some (.string OB1) := ⟨hHeld, ((at_new w3 _ _ J1).trans e01)⟩
         clear hHeld
         have hHeld := hHeld3
         clear hHeld3
         refine tk 4 hHeld rfl (v := ?_) ?_ ?_
         rotate_left
         · intro w9 h9; (try dsimp only at h9); go_simp <;> first | with_reducible rfl | rw [if_neg (by omega)]
         try simp only [Act.put, lay]
         refine tk 5 hHeld rfl (v := ?_) ?_ ?_
         rotate_left
         · intro w9 h9; (try dsimp only at h9); go_simp <;> first | with_reducible rfl | rw [if_neg (by omega)]
         try simp only [Act.put, lay]
         refine tk 6 hHeld rfl (v := ?_) ?_ ?_
         rotate_left
         · intro w9 h9; (try dsimp only at h9); go_simp <;> first | with_reducible rfl | rw [if_neg (by omega)]
         try simp only [Act.put, lay]
         refine tk 7 hHeld rfl (v := ?_) ?_ ?_
         rotate_left
         · intro w9 h9; (try dsimp only at h9); go_simp <;> first | with_reducible rfl | rw [if_neg (by omega)]
         try simp only [Act.put, lay]
         refine wpAnyH_ready (rs := [8, 24]) (by kernel_rfl) (by simp) ?_
         refine AllReadyH.cons rfl (fun K hK => ?_) ?_
         · go_simp
           refine hK.out _ _ ⟨⟨ck hHeld.1.1, ck hHeld.1.2.1, ck hHeld.1.2.2.1, ck hHeld.1.2.2.2⟩, ck hHeld.2⟩ (fun h8 => ?_)
           clear hK K
           replace hHeld := h8
           clear h8
           try simp only [Act.put, lay]
           refine wpAnyH_stronger (S' := fun w9 => ((w9.cell? ⟨u, 2, none⟩ = some (.int .i64 xb) ∧ w9.cell? ⟨u, 3, none⟩ = some (.int .i64 xc) ∧ w9.cell? ⟨p, 0, none⟩ = some (.pointer (some ⟨r, 0, none⟩)) ∧ w9.cell? ⟨q, 0, none⟩ = some (.bool b)) ∧ w9.cell? ⟨w3.heap.size, J1, none⟩ = some (.string OB1)) ∧ w9.cell? ⟨w3.heap.size + 1, J2, none⟩ = some (.string OB2)) (fun _ h => h.1) _ _ _ _ ?_
           have hHeld3 : ((((w3.alloc (.cells #[.string ⟨#[107]⟩, .string ⟨#[120]⟩, .string ⟨#[106]⟩] 9)).alloc (.cells #[.string ⟨#[97]⟩, .string ⟨#[98]⟩] 9)).cell? ⟨u, 2, none⟩ = some (.int .i64 xb) ∧ ((w3.alloc (.cells #[.string ⟨#[107]⟩, .string ⟨#[120]⟩, .string ⟨#[106]⟩] 9)).alloc (.cells #[.string ⟨#[97]⟩, .string ⟨#[98]⟩] 9)).cell? ⟨u, 3, none⟩ = some (.int .i64 xc) ∧ ((w3.alloc (.cells #[.string ⟨#[107]⟩, .string ⟨#[120]⟩, .string ⟨#[106]⟩] 9)).alloc (.cells #[.string ⟨#[97]⟩, .string ⟨#[98]⟩] 9)).cell? ⟨p, 0, none⟩ = some (.pointer (some ⟨r, 0, none⟩)) ∧ ((w3.alloc (.cells #[.string ⟨#[107]⟩, .string ⟨#[120]⟩, .string ⟨#[106]⟩] 9)).alloc (.cells #[.string ⟨#[97]⟩, .string ⟨#[98]⟩] 9)).cell? ⟨q, 0, none⟩ = some (.bool b)) ∧ ((w3.alloc (.cells #[.string ⟨#[107]⟩, .string ⟨#[120]⟩, .string ⟨#[106]⟩] 9)).alloc (.cells #[.string ⟨#[97]⟩, .string ⟨#[98]⟩] 9)).cell? ⟨w3.heap.size, J1, none⟩ = some (.string OB1)) ∧ ((w3.alloc (.cells #[.string ⟨#[107]⟩, .string ⟨#[120]⟩, .string ⟨#[106]⟩] 9)).alloc (.cells #[.string ⟨#[97]⟩, .string ⟨#[98]⟩] 9)).cell? ⟨w3.heap.size + 1, J2, none⟩ = some (.string OB2) := ⟨hHeld, (by have h := at_new (w3.alloc (.cells #[.string ⟨#[107]⟩, .string ⟨#[120]⟩, .string ⟨#[106]⟩] 9)) #[.string ⟨#[97]⟩, .string ⟨#[98]⟩] 9 J2; rw [alloc_size] at h; exact h.trans e02)⟩
           clear hHeld
           have hHeld := hHeld3
           clear hHeld3
           refine tk 12 hHeld rfl (v := ?_) ?_ ?_
           rotate_left
           · intro w9 h9; (try dsimp only at h9); go_simp <;> first | with_reducible rfl | rw [if_neg (by omega)]
           try simp only [Act.put, lay]
           refine tk 13 hHeld rfl (v := ?_) ?_ ?_
           rotate_left
           · intro w9 h9; (try dsimp only at h9); go_simp <;> first | with_reducible rfl | rw [if_neg (by omega)]
           try simp only [Act.put, lay]
           refine tk 14 hHeld rfl (v := ?_) ?_ ?_
           rotate_left
           · intro w9 h9; (try dsimp only at h9); go_simp <;> first | with_reducible rfl | rw [if_neg (by omega)]
           try simp only [Act.put, lay]
           refine tk 15 hHeld rfl (v := ?_) ?_ ?_
           rotate_left
           · intro w9 h9; (try dsimp only at h9); go_simp <;> first | with_reducible rfl | rw [if_neg (by omega)]
           try simp only [Act.put, lay]
           refine tk 21 hHeld rfl (v := ?_) ?_ ?_
           rotate_left
           · intro w9 h9; (try dsimp only at h9); go_simp <;> first | with_reducible rfl | rw [if_neg (by omega)]
           try simp only [Act.put, lay]
           refine tk 22 hHeld rfl (v := ?_) ?_ ?_
           rotate_left
           · intro w9 h9; (try dsimp only at h9); go_simp <;> first | with_reducible rfl | rw [if_neg (by omega)]
           try simp only [Act.put, lay]
           refine wpAnyH_ready (rs := [24]) (by kernel_rfl) (by simp) ?_
           refine AllReadyH.cons rfl (fun K hK => ?_) ?_
           · go_simp
             have HW4 : ∃ i4, Mk r ((w3.alloc (.cells #[.string ⟨#[107]⟩, .string ⟨#[120]⟩, .string ⟨#[106]⟩] 9)).alloc (.cells #[.string ⟨#[97]⟩, .string ⟨#[98]⟩] 9)) l i4 ∧ i4 ≤ i + 1 + c ∧ But r r w ((w3.alloc (.cells #[.string ⟨#[107]⟩, .string ⟨#[120]⟩, .string ⟨#[106]⟩] 9)).alloc (.cells #[.string ⟨#[97]⟩, .string ⟨#[98]⟩] 9)) := by obtain ⟨i4, h1, h2, h3⟩ := H3.out.2; exact ⟨i4, h1.below (((Below.refl _ _).alloc (Nat.le_refl _) _).alloc (by rw [alloc_size]; omega) _), h2, h3.more (((Below.refl _ _).alloc (Nat.le_refl _) _).alloc (by rw [alloc_size]; omega) _)⟩
             with_reducible refine Calls.mono (HEX.out ((w3.alloc (.cells #[.string ⟨#[107]⟩, .string ⟨#[120]⟩, .string ⟨#[106]⟩] 9)).alloc (.cells #[.string ⟨#[97]⟩, .string ⟨#[98]⟩] 9)) HW4 hHeld.1.1.2.2.1 hHeld.1.1.2.2.2) ?_
             rintro e w4 ⟨Z3, rfl, z3, H4, B4⟩
             clear HW4
             have m40 := bk B4.out ur hHeld.1.1.1
             have m41 := bk B4.out ur hHeld.1.1.2.1
             have m42 := bk B4.out pr hHeld.1.1.2.2.1
             have m43 := bk B4.out qr hHeld.1.1.2.2.2
             have m44 := bk B4.out w3r hHeld.1.2
             have m45 := bk B4.out w31r hHeld.2
             go_wp2_with fail
             refine hK.out _ _ ⟨⟨⟨m40, m41, m42, m43⟩, m44⟩, m45⟩ (fun h8 => ?_)
             clear hK K
             replace hHeld := h8
             clear h8
             try simp only [Act.put, lay]
             refine tk 25 hHeld rfl (v := ?_) ?_ ?_
             rotate_left
             · intro w9 h9; (try dsimp only at h9); go_simp <;> first | with_reducible rfl | rw [if_neg (by omega)]
             try simp only [Act.put, lay]
             refine tk 26 hHeld rfl (v := ?_) ?_ ?_
             rotate_left
             · intro w9 h9; (try dsimp only at h9); go_simp <;> first | with_reducible rfl | rw [if_neg (by omega)]
             try simp only [Act.put, lay]
             refine tk 27 hHeld rfl (v := ?_) ?_ ?_
             rotate_left
             · intro w9 h9; (try dsimp only at h9); go_simp <;> first | with_reducible rfl | rw [if_neg (by omega)]
             try simp only [Act.put, lay]
             refine wpAnyH_done (by kernel_rfl) ?_ _
             go_wp2_with fail
             go_ret
             first | exact HF.out _ _ _ _ _ H3.out H4.out (Below.refl _ _) | exact HF.out _ _ _ _ _ H3.out H4.out ((Below.refl _ _).alloc (Nat.le_refl _) _) | exact HF.out _ _ _ _ _ H3.out H4.out (((Below.refl _ _).alloc (Nat.le_refl _) _).alloc (by rw [alloc_size]; omega) _)
           exact AllReadyH.nil
         refine AllReadyH.cons rfl (fun K hK => ?_) ?_
         · go_simp
           have HW4 : ∃ i4, Mk r (w3.alloc (.cells #[.string ⟨#[107]⟩, .string ⟨#[120]⟩, .string ⟨#[106]⟩] 9)) l i4 ∧ i4 ≤ i + 1 + c ∧ But r r w (w3.alloc (.cells #[.string ⟨#[107]⟩, .string ⟨#[120]⟩, .string ⟨#[106]⟩] 9)) := by obtain ⟨i4, h1, h2, h3⟩ := H3.out.2; exact ⟨i4, h1.below ((Below.refl _ _).alloc (Nat.le_refl _) _), h2, h3.more ((Below.refl _ _).alloc (Nat.le_refl _) _)⟩
           with_reducible refine Calls.mono (HEX.out (w3.alloc (.cells #[.string ⟨#[107]⟩, .string ⟨#[120]⟩, .string ⟨#[106]⟩] 9)) HW4 hHeld.1.2.2.1 hHeld.1.2.2.2) ?_
           rintro e w4 ⟨Z3, rfl, z3, H4, B4⟩
           clear HW4
           have m40 := bk B4.out ur hHeld.1.1
           have m41 := bk B4.out ur hHeld.1.2.1
           have m42 := bk B4.out pr hHeld.1.2.2.1
           have m43 := bk B4.out qr hHeld.1.2.2.2
           have m44 := bk B4.out w3r hHeld.2
           go_wp2_with fail
           refine hK.out _ _ ⟨⟨m40, m41, m42, m43⟩, m44⟩ (fun h8 => ?_)
           clear hK K
           replace hHeld := h8
           clear h8
           try simp only [Act.put, lay]
           refine wpAnyH_ready (rs := [8]) (by kernel_rfl) (by simp) ?_
           refine AllReadyH.cons rfl (fun K hK => ?_) ?_
           · go_simp
             refine hK.out _ _ ⟨⟨ck hHeld.1.1, ck hHeld.1.2.1, ck hHeld.1.2.2.1, ck hHeld.1.2.2.2⟩, ck hHeld.2⟩ (fun h8 => ?_)
             clear hK K
             replace hHeld := h8
             clear h8
             try simp only [Act.put, lay]
             refine wpAnyH_stronger (S' := fun w9 => ((w9.cell? ⟨u, 2, none⟩ = some (.int .i64 xb) ∧ w9.cell? ⟨u, 3, none⟩ = some (.int .i64 xc) ∧ w9.cell? ⟨p, 0, none⟩ = some (.pointer (some ⟨r, 0, none⟩)) ∧ w9.cell? ⟨q, 0, none⟩ = some (.bool b)) ∧ w9.cell? ⟨w3.heap.size, J1, none⟩ = some (.string OB1)) ∧ w9.cell? ⟨w4.heap.size, J2, none⟩ = some (.string OB2)) (fun _ h => h.1) _ _ _ _ ?_
             have hHeld3 : (((w4.alloc (.cells #[.string ⟨#[97]⟩, .string ⟨#[98]⟩] 9)).cell? ⟨u, 2, none⟩ = some (.int .i64 xb) ∧ (w4.alloc (.cells #[.string ⟨#[97]⟩, .string ⟨#[98]⟩] 9)).cell? ⟨u, 3, none⟩ = some (.int .i64 xc) ∧ (w4.alloc (.cells #[.string ⟨#[97]⟩, .string ⟨#[98]⟩] 9)).cell? ⟨p, 0, none⟩ = some (.pointer (some ⟨r, 0, none⟩)) ∧ (w4.alloc (.cells #[.string ⟨#[97]⟩, .string ⟨#[98]⟩] 9)).cell? ⟨q, 0, none⟩ = some (.bool b)) ∧ (w4.alloc (.cells #[.string ⟨#[97]⟩, .string ⟨#[98]⟩] 9)).cell? ⟨w3.heap.size, J1, none⟩ = some (.string OB1)) ∧ (w4.alloc (.cells #[.string ⟨#[97]⟩, .string ⟨#[98]⟩] 9)).cell? ⟨w4.heap.size, J2, none⟩ = some (.string OB2) := ⟨hHeld, ((at_new w4 _ _ J2).trans e02)⟩
             clear hHeld
             have hHeld := hHeld3
             clear hHeld3
             refine tk 12 hHeld rfl (v := ?_) ?_ ?_
             rotate_left
             · intro w9 h9; (try dsimp only at h9); go_simp <;> first | with_reducible rfl | rw [if_neg (by omega)]
             try simp only [Act.put, lay]
             refine tk 13 hHeld rfl (v := ?_) ?_ ?_
             rotate_left
             · intro w9 h9; (try dsimp only at h9); go_simp <;> first | with_reducible rfl | rw [if_neg (by omega)]
             try simp only [Act.put, lay]
             refine tk 14 hHeld rfl (v := ?_) ?_ ?_
             rotate_left
             · intro w9 h9; (try dsimp only at h9); go_simp <;> first | with_reducible rfl | rw [if_neg (by omega)]
             try simp only [Act.put, lay]
             refine tk 15 hHeld rfl (v := ?_) ?_ ?_
             rotate_left
             · intro w9 h9; (try dsimp only at h9); go_simp <;> first | with_reducible rfl | rw [if_neg (by omega)]
             try simp only [Act.put, lay]
             refine tk 21 hHeld rfl (v := ?_) ?_ ?_
             rotate_left
             · intro w9 h9; (try dsimp only at h9); go_simp <;> first | with_reducible rfl | rw [if_neg (by omega)]
             try simp only [Act.put, lay]
             refine tk 22 hHeld rfl (v := ?_) ?_ ?_
             rotate_left
             · intro w9 h9; (try dsimp only at h9); go_simp <;> first | with_reducible rfl | rw [if_neg (by omega)]
             try simp only [Act.put, lay]
             refine tk 25 hHeld rfl (v := ?_) ?_ ?_
             rotate_left
             · intro w9 h9; (try dsimp only at h9); go_simp <;> first | with_reducible rfl | rw [if_neg (by omega)]
             try simp only [Act.put, lay]
             refine tk 26 hHeld rfl (v := ?_) ?_ ?_
             rotate_left
             · intro w9 h9; (try dsimp only at h9); go_simp <;> first | with_reducible rfl | rw [if_neg (by omega)]
             try simp only [Act.put, lay]
             refine tk 27 hHeld rfl (v := ?_) ?_ ?_
             rotate_left
             · intro w9 h9; (try dsimp only at h9); go_simp <;> first | with_reducible rfl | rw [if_neg (by omega)]
             try simp only [Act.put, lay]
             refine wpAnyH_done (by kernel_rfl) ?_ _
             go_wp2_with fail
             go_ret
             first | exact HF.out _ _ _ _ _ H3.out H4.out (Below.refl _ _) | exact HF.out _ _ _ _ _ H3.out H4.out ((Below.refl _ _).alloc (Nat.le_refl _) _) | exact HF.out _ _ _ _ _ H3.out H4.out (((Below.refl _ _).alloc (Nat.le_refl _) _).alloc (by rw [alloc_size]; omega) _)
           exact AllReadyH.nil
         exact AllReadyH.nil
       refine AllReadyH.cons rfl (fun K hK => ?_) ?_
       · go_simp
         refine hK.out _ _ ⟨ck hHeld.1, ck hHeld.2.1, ck hHeld.2.2.1, ck hHeld.2.2.2⟩ (fun h8 => ?_)
         clear hK K
         replace hHeld := h8
         clear h8
         try simp only [Act.put, lay]
         refine wpAnyH_stronger (S' := fun w9 => (w9.cell? ⟨u, 2, none⟩ = some (.int .i64 xb) ∧ w9.cell? ⟨u, 3, none⟩ = some (.int .i64 xc) ∧ w9.cell? ⟨p, 0, none⟩ = some (.pointer (some ⟨r, 0, none⟩)) ∧ w9.cell? ⟨q, 0, none⟩ = some (.bool b)) ∧ w9.cell? ⟨w3.heap.size, J2, none⟩ = some (.string OB2)) (fun _ h => h.1) _ _ _ _ ?_
         have hHeld3 : ((w3.alloc (.cells #[.string ⟨#[97]⟩, .string ⟨#[98]⟩] 9)).cell? ⟨u, 2, none⟩ = some (.int .i64 xb) ∧ (w3.alloc (.cells #[.string ⟨#[97]⟩, .string ⟨#[98]⟩] 9)).cell? ⟨u, 3, none⟩ = some (.int .i64 xc) ∧ (w3.alloc (.cells #[.string ⟨#[97]⟩, .string ⟨#[98]⟩] 9)).cell? ⟨p, 0, none⟩ = some (.pointer (some ⟨r, 0, none⟩)) ∧ (w3.alloc (.cells #[.string ⟨#[97]⟩, .string ⟨#[98]⟩] 9)).cell? ⟨q, 0, none⟩ = some (.bool b)) ∧ (w3.alloc (.cells #[.string ⟨#[97]⟩, .string ⟨#[98]⟩] 9)).cell? ⟨w3.heap.size, J2, none⟩ = some (.string OB2) := ⟨hHeld, ((at_new w3 _ _ J2).trans e02)⟩
         clear hHeld
         have hHeld := hHeld3
         clear hHeld3
         refine tk 12 hHeld rfl (v := ?_) ?_ ?_
         rotate_left
         · intro w9 h9; (try dsimp only at h9); go_simp <;> first | with_reducible rfl | rw [if_neg (by omega)]
         try simp only [Act.put, lay]
         refine tk 13 hHeld rfl (v := ?_) ?_ ?_
         rotate_left
         · intro w9 h9; (try dsimp only at h9); go_simp <;> first | with_reducible rfl | rw [if_neg (by omega)]
         try simp only [Act.put, lay]
         refine wpAnyH_ready (rs := [0, 24]) (by kernel_rfl) (by simp) ?_
         refine AllReadyH.cons rfl (fun K hK => ?_) ?_
         · go_simp
           refine hK.out _ _ ⟨⟨ck hHeld.1.1, ck hHeld.1.2.1, ck hHeld.1.2.2.1, ck hHeld.1.2.2.2⟩, ck hHeld.2⟩ (fun h8 => ?_)
           clear hK K
           replace hHeld := h8
           clear h8
           try simp only [Act.put, lay]
           refine wpAnyH_stronger (S' := fun w9 => ((w9.cell? ⟨u, 2, none⟩ = some (.int .i64 xb) ∧ w9.cell? ⟨u, 3, none⟩ = some (.int .i64 xc) ∧ w9.cell? ⟨p, 0, none⟩ = some (.pointer (some ⟨r, 0, none⟩)) ∧ w9.cell? ⟨q, 0, none⟩ = some (.bool b)) ∧ w9.cell? ⟨w3.heap.size, J2, none⟩ = some (.string OB2)) ∧ w9.cell? ⟨w3.heap.size + 1, J1, none⟩ = some (.string OB1)) (fun _ h => h.1) _ _ _ _ ?_
           have hHeld3 : ((((w3.alloc (.cells #[.string ⟨#[97]⟩, .string ⟨#[98]⟩] 9)).alloc (.cells #[.string ⟨#[107]⟩, .string ⟨#[120]⟩, .string ⟨#[106]⟩] 9)).cell? ⟨u, 2, none⟩ = some (.int .i64 xb) ∧ ((w3.alloc (.cells #[.string ⟨#[97]⟩, .string ⟨#[98]⟩] 9)).alloc (.cells #[.string ⟨#[107]⟩, .string ⟨#[120]⟩, .string ⟨#[106]⟩] 9)).cell? ⟨u, 3, none⟩ = some (.int .i64 xc) ∧ ((w3.alloc (.cells #[.string ⟨#[97]⟩, .string ⟨#[98]⟩] 9)).alloc (.cells #[.string ⟨#[107]⟩, .string ⟨#[120]⟩, .string ⟨#[106]⟩] 9)).cell? ⟨p, 0, none⟩ = some (.pointer (some ⟨r, 0, none⟩)) ∧ ((w3.alloc (.cells #[.string ⟨#[97]⟩, .string ⟨#[98]⟩] 9)).alloc (.cells #[.string ⟨#[107]⟩, .string ⟨#[120]⟩, .string ⟨#[106]⟩] 9)).cell? ⟨q, 0, none⟩ = some (.bool b)) ∧ ((w3.alloc (.cells #[.string ⟨#[97]⟩, .string ⟨#[98]⟩] 9)).alloc (.cells #[.string ⟨#[107]⟩, .string ⟨#[120]⟩, .string ⟨#[106]⟩] 9)).cell? ⟨w3.heap.size, J2, none⟩ = some (.string OB2)) ∧ ((w3.alloc (.cells #[.string ⟨#[97]⟩, .string ⟨#[98]⟩] 9)).alloc (.cells #[.string ⟨#[107]⟩, .string ⟨#[120]⟩, .string ⟨#[106]⟩] 9)).cell? ⟨w3.heap.size + 1, J1, none⟩ = some (.string OB1) := ⟨hHeld, (by have h := at_new (w3.alloc (.cells #[.string ⟨#[97]⟩, .string ⟨#[98]⟩] 9)) #[.string ⟨#[107]⟩, .string ⟨#[120]⟩, .string ⟨#[106]⟩] 9 J1; rw [alloc_size] at h; exact h.trans e01)⟩
           clear hHeld
           have hHeld := hHeld3
           clear hHeld3
           refine tk 4 hHeld rfl (v := ?_) ?_ ?_
           rotate_left
           · intro w9 h9; (try dsimp only at h9); go_simp <;> first | with_reducible rfl | rw [if_neg (by omega)]
           try simp only [Act.put, lay]
           refine tk 5 hHeld rfl (v := ?_) ?_ ?_
           rotate_left
           · intro w9 h9; (try dsimp only at h9); go_simp <;> first | with_reducible rfl | rw [if_neg (by omega)]
           try simp only [Act.put, lay]
           refine tk 6 hHeld rfl (v := ?_) ?_ ?_
           rotate_left
           · intro w9 h9; (try dsimp only at h9); go_simp <;> first | with_reducible rfl | rw [if_neg (by omega)]
           try simp only [Act.put, lay]
           refine tk 7 hHeld rfl (v := ?_) ?_ ?_
           rotate_left
           · intro w9 h9; (try dsimp only at h9); go_simp <;> first | with_reducible rfl | rw [if_neg (by omega)]
           try simp only [Act.put, lay]
           refine tk 14 hHeld rfl (v := ?_) ?_ ?_
           rotate_left
           · intro w9 h9; (try dsimp only at h9); go_simp <;> first | with_reducible rfl | rw [if_neg (by omega)]
           try simp only [Act.put, lay]
           refine tk 15 hHeld rfl (v := ?_) ?_ ?_
           rotate_left
           · intro w9 h9; (try dsimp only at h9); go_simp <;> first | with_reducible rfl | rw [if_neg (by omega)]
           try simp only [Act.put, lay]
           refine tk 21 hHeld rfl (v := ?_) ?_ ?_
           rotate_left
           · intro w9 h9; (try dsimp only at h9); go_simp <;> first | with_reducible rfl | rw [if_neg (by omega)]
           try simp only [Act.put, lay]
           refine tk 22 hHeld rfl (v := ?_) ?_ ?_
           rotate_left
           · intro w9 h9; (try dsimp only at h9); go_simp <;> first | with_reducible rfl | rw [if_neg (by omega)]
           try simp only [Act.put, lay]
           refine wpAnyH_ready (rs := [24]) (by kernel_rfl) (by simp) ?_
           refine AllReadyH.cons rfl (fun K hK => ?_) ?_
           · go_simp
             have HW4 : ∃ i4, Mk r ((w3.alloc (.cells #[.string ⟨#[97]⟩, .string ⟨#[98]⟩] 9)).alloc (.cells #[.string ⟨#[107]⟩, .string ⟨#[120]⟩, .string ⟨#[106]⟩] 9)) l i4 ∧ i4 ≤ i + 1 + c ∧ But r r w ((w3.alloc (.cells #[.string ⟨#[97]⟩, .string ⟨#[98]⟩] 9)).alloc (.cells #[.string ⟨#[107]⟩, .string ⟨#[120]⟩, .string ⟨#[106]⟩] 9)) := by obtain ⟨i4, h1, h2, h3⟩ := H3.out.2; exact ⟨i4, h1.below (((Below.refl _ _).alloc (Nat.le_refl _) _).alloc (by rw [alloc_size]; omega) _), h2, h3.more (((Below.refl _ _).alloc (Nat.le_refl _) _).alloc (by rw [alloc_size]; omega) _)⟩
             with_reducible refine Calls.mono (HEX.out ((w3.alloc (.cells #[.string ⟨#[97]⟩, .string ⟨#[98]⟩] 9)).alloc (.cells #[.string ⟨#[107]⟩, .string ⟨#[120]⟩, .string ⟨#[106]⟩] 9)) HW4 hHeld.1.1.2.2.1 hHeld.1.1.2.2.2) ?_
             rintro e w4 ⟨Z3, rfl, z3, H4, B4⟩
             clear HW4
             have m40 := bk B4.out ur hHeld.1.1.1
             have m41 := bk B4.out ur hHeld.1.1.2.1
             have m42 := bk B4.out pr hHeld.1.1.2.2.1
             have m43 := bk B4.out qr hHeld.1.1.2.2.2
             have m44 := bk B4.out w3r hHeld.1.2
             have m45 := bk B4.out w31r hHeld.2
             go_wp2_with fail
             refine hK.out _ _ ⟨⟨⟨m40, m41, m42, m43⟩, m44⟩, m45⟩ (fun h8 => ?_)
             clear hK K
             replace hHeld := h8
             clear h8
             try simp only [Act.put, lay]
             refine tk 25 hHeld rfl (v := ?_) ?_ ?_
             rotate_left
             · intro w9 h9; (try dsimp only at h9); go_simp <;> first | with_reducible rfl | rw [if_neg (by omega)]
             try simp only [Act.put, lay]
             refine tk 26 hHeld rfl (v := ?_) ?_ ?_
             rotate_left
             · intro w9 h9; (try dsimp only at h9); go_simp <;> first | with_reducible rfl | rw [if_neg (by omega)]
             try simp only [Act.put, lay]
             refine tk 27 hHeld rfl (v := ?_) ?_ ?_
             rotate_left
             · intro w9 h9; (try dsimp only at h9); go_simp <;> first | with_reducible rfl | rw [if_neg (by omega)]
             try simp only [Act.put, lay]
             refine wpAnyH_done (by kernel_rfl) ?_ _
             go_wp2_with fail
             go_ret
             first | exact HF.out _ _ _ _ _ H3.out H4.out (Below.refl _ _) | exact HF.out _ _ _ _ _ H3.out H4.out ((Below.refl _ _).alloc (Nat.le_refl _) _) | exact HF.out _ _ _ _ _ H3.out H4.out (((Below.refl _ _).alloc (Nat.le_refl _) _).alloc (by rw [alloc_size]; omega) _)
           exact AllReadyH.nil
         refine AllReadyH.cons rfl (fun K hK => ?_) ?_
         · go_simp
           have HW4 : ∃ i4, Mk r (w3.alloc (.cells #[.string ⟨#[97]⟩, .string ⟨#[98]⟩] 9)) l i4 ∧ i4 ≤ i + 1 + c ∧ But r r w (w3.alloc (.cells #[.string ⟨#[97]⟩, .string ⟨#[98]⟩] 9)) := by obtain ⟨i4, h1, h2, h3⟩ := H3.out.2; exact ⟨i4, h1.below ((Below.refl _ _).alloc (Nat.le_refl _) _), h2, h3.more ((Below.refl _ _).alloc (Nat.le_refl _) _)⟩
           with_reducible refine Calls.mono (HEX.out (w3.alloc (.cells #[.string ⟨#[97]⟩, .string ⟨#[98]⟩] 9)) HW4 hHeld.1.2.2.1 hHeld.1.2.2.2) ?_
           rintro e w4 ⟨Z3, rfl, z3, H4, B4⟩
           clear HW4
           have m40 := bk B4.out ur hHeld.1.1
           have m41 := bk B4.out ur hHeld.1.2.1
           have m42 := bk B4.out pr hHeld.1.2.2.1
           have m43 := bk B4.out qr hHeld.1.2.2.2
           have m44 := bk B4.out w3r hHeld.2
           go_wp2_with fail
           refine hK.out _ _ ⟨⟨m40, m41, m42, m43⟩, m44⟩ (fun h8 => ?_)
           clear hK K
           replace hHeld := h8
           clear h8
           try simp only [Act.put, lay]
           refine wpAnyH_ready (rs := [0]) (by kernel_rfl) (by simp) ?_
           refine AllReadyH.cons rfl (fun K hK => ?_) ?_
           · go_simp
             refine hK.out _ _ ⟨⟨ck hHeld.1.1, ck hHeld.1.2.1, ck hHeld.1.2.2.1, ck hHeld.1.2.2.2⟩, ck hHeld.2⟩ (fun h8 => ?_)
             clear hK K
             replace hHeld := h8
             clear h8
             try simp only [Act.put, lay]
             refine wpAnyH_stronger (S' := fun w9 => ((w9.cell? ⟨u, 2, none⟩ = some (.int .i64 xb) ∧ w9.cell? ⟨u, 3, none⟩ = some (.int .i64 xc) ∧ w9.cell? ⟨p, 0, none⟩ = some (.pointer (some ⟨r, 0, none⟩)) ∧ w9.cell? ⟨q, 0, none⟩ = some (.bool b)) ∧ w9.cell? ⟨w3.heap.size, J2, none⟩ = some (.string OB2)) ∧ w9.cell? ⟨w4.heap.size, J1, none⟩ = some (.string OB1)) (fun _ h => h.1) _ _ _ _ ?_
             have hHeld3 : (((w4.alloc (.cells #[.string ⟨#[107]⟩, .string ⟨#[120]⟩, .string ⟨#[106]⟩] 9)).cell? ⟨u, 2, none⟩ = some (.int .i64 xb) ∧ (w4.alloc (.cells #[.string ⟨#[107]⟩, .string ⟨#[120]⟩, .string ⟨#[106]⟩] 9)).cell? ⟨u, 3, none⟩ = some (.int .i64 xc) ∧ (w4.alloc (.cells #[.string ⟨#[107]⟩, .string ⟨#[120]⟩, .string ⟨#[106]⟩] 9)).cell? ⟨p, 0, none⟩ = some (.pointer (some ⟨r, 0, none⟩)) ∧ (w4.alloc (.cells #[.string ⟨#[107]⟩, .string ⟨#[120]⟩, .string ⟨#[106]⟩] 9)).cell? ⟨q, 0, none⟩ = some (.bool b)) ∧ (w4.alloc (.cells #[.string ⟨#[107]⟩, .string ⟨#[120]⟩, .string ⟨#[106]⟩] 9)).cell? ⟨w3.heap.size, J2, none⟩ = some (.string OB2)) ∧ (w4.alloc (.cells #[.string ⟨#[107]⟩, .string ⟨#[120]⟩, .string ⟨#[106]⟩] 9)).cell? ⟨w4.heap.size, J1, none⟩ = some (.string OB1) := ⟨hHeld, ((at_new w4 _ _ J1).trans e01)⟩
             clear hHeld
             have hHeld := hHeld3
             clear hHeld3
             refine tk 4 hHeld rfl (v := ?_) ?_ ?_
             rotate_left
             · intro w9 h9; (try dsimp only at h9); go_simp <;> first | with_reducible rfl | rw [if_neg (by omega)]
             try simp only [Act.put, lay]
             refine tk 5 hHeld rfl (v := ?_) ?_ ?_
             rotate_left
             · intro w9 h9; (try dsimp only at h9); go_simp <;> first | with_reducible rfl | rw [if_neg (by omega)]
             try simp only [Act.put, lay]
             refine tk 6 hHeld rfl (v := ?_) ?_ ?_
             rotate_left
             · intro w9 h9; (try dsimp only at h9); go_simp <;> first | with_reducible rfl | rw [if_neg (by omega)]
             try simp only [Act.put, lay]
             refine tk 7 hHeld rfl (v := ?_) ?_ ?_
             rotate_left
             · intro w9 h9; (try dsimp only at h9); go_simp <;> first | with_reducible rfl | rw [if_neg (by omega)]
             try simp only [Act.put, lay]
             refine tk 14 hHeld rfl (v := ?_) ?_ ?_
             rotate_left
             · intro w9 h9; (try dsimp only at h9); go_simp <;> first | with_reducible rfl | rw [if_neg (by omega)]
             try simp only [Act.put, lay]
             refine tk 15 hHeld rfl (v := ?_) ?_ ?_
             rotate_left
             · intro w9 h9; (try dsimp only at h9); go_simp <;> first | with_reducible rfl | rw [if_neg (by omega)]
             try simp only [Act.put, lay]
             refine tk 21 hHeld rfl (v := ?_) ?_ ?_
             rotate_left
             · intro w9 h9; (try dsimp only at h9); go_simp <;> first | with_reducible rfl | rw [if_neg (by omega)]
             try simp only [Act.put, lay]
             refine tk 22 hHeld rfl (v := ?_) ?_ ?_
             rotate_left
             · intro w9 h9; (try dsimp only at h9); go_simp <;> first | with_reducible rfl | rw [if_neg (by omega)]
             try simp only [Act.put, lay]
             refine tk 25 hHeld rfl (v := ?_) ?_ ?_
             rotate_left
             · intro w9 h9; (try dsimp only at h9); go_simp <;> first | with_reducible rfl | rw [if_neg (by omega)]
             try simp only [Act.put, lay]
             refine tk 26 hHeld rfl (v := ?_) ?_ ?_
             rotate_left
             · intro w9 h9; (try dsimp only at h9); go_simp <;> first | with_reducible rfl | rw [if_neg (by omega)]
             try simp only [Act.put, lay]
             refine tk 27 hHeld rfl (v := ?_) ?_ ?_
             rotate_left
             · intro w9 h9; (try dsimp only at h9); go_simp <;> first | with_reducible rfl | rw [if_neg (by omega)]
             try simp only [Act.put, lay]
             refine wpAnyH_done (by kernel_rfl) ?_ _
             go_wp2_with fail
             go_ret
             first | exact HF.out _ _ _ _ _ H3.out H4.out (Below.refl _ _) | exact HF.out _ _ _ _ _ H3.out H4.out ((Below.refl _ _).alloc (Nat.le_refl _) _) | exact HF.out _ _ _ _ _ H3.out H4.out (((Below.refl _ _).alloc (Nat.le_refl _) _).alloc (by rw [alloc_size]; omega) _)
           exact AllReadyH.nil
         exact AllReadyH.nil
       refine AllReadyH.cons rfl (fun K hK => ?_) ?_
       · go_simp
         have HW4 : ∃ i4, Mk r w3 l i4 ∧ i4 ≤ i + 1 + c ∧ But r r w w3 := by obtain ⟨i4, h1, h2, h3⟩ := H3.out.2; exact ⟨i4, h1.below (Below.refl _ _), h2, h3.more (Below.refl _ _)⟩
         with_reducible refine Calls.mono (HEX.out w3 HW4 hHeld.2.2.1 hHeld.2.2.2) ?_
         rintro e w4 ⟨Z3, rfl, z3, H4, B4⟩
         clear HW4
         have m40 := bk B4.out ur hHeld.1
         have m41 := bk B4.out ur hHeld.2.1
         have m42 := bk B4.out pr hHeld.2.2.1
         have m43 := bk B4.out qr hHeld.2.2.2
         go_wp2_with fail
         refine hK.out _ _ ⟨m40, m41, m42, m43⟩ (fun h8 => ?_)
         clear hK K
         replace hHeld := h8
         clear h8
         try simp only [Act.put, lay]
         refine wpAnyH_ready (rs := [0, 8]) (by kernel_rfl) (by simp) ?_
         refine AllReadyH.cons rfl (fun K hK => ?_) ?_
         · go_simp
           refine hK.out _ _ ⟨ck hHeld.1, ck hHeld.2.1, ck hHeld.2.2.1, ck hHeld.2.2.2⟩ (fun h8 => ?_)
           clear hK K
           replace hHeld := h8
           clear h8
           try simp only [Act.put, lay]
           refine wpAnyH_stronger (S' := fun w9 => (w9.cell? ⟨u, 2, none⟩ = some (.int .i64 xb) ∧ w9.cell? ⟨u, 3, none⟩ = some (.int .i64 xc) ∧ w9.cell? ⟨p, 0, none⟩ = some (.pointer (some ⟨r, 0, none⟩)) ∧ w9.cell? ⟨q, 0, none⟩ = some (.bool b)) ∧ w9.cell? ⟨w4.heap.size, J1, none⟩ = some (.string OB1)) (fun _ h => h.1) _ _ _ _ ?_
           have hHeld3 : ((w4.alloc (.cells #[.string ⟨#[107]⟩, .string ⟨#[120]⟩, .string ⟨#[106]⟩] 9)).cell? ⟨u, 2, none⟩ = some (.int .i64 xb) ∧ (w4.alloc (.cells #[.string ⟨#[107]⟩, .string ⟨#[120]⟩, .string ⟨#[106]⟩] 9)).cell? ⟨u, 3, none⟩ = some (.int .i64 xc) ∧ (w4.alloc (.cells #[.string ⟨#[107]⟩, .string ⟨#[120]⟩, .string ⟨#[106]⟩] 9)).cell? ⟨p, 0, none⟩ = some (.pointer (some ⟨r, 0, none⟩)) ∧ (w4.alloc (.cells #[.string ⟨#[107]⟩, .string ⟨#[120]⟩, .string ⟨#[106]⟩] 9)).cell? ⟨q, 0, none⟩ = some (.bool b)) ∧ (w4.alloc (.cells #[.string ⟨#[107]⟩, .string ⟨#[120]⟩, .string ⟨#[106]⟩] 9)).cell? ⟨w4.heap.size, J1, none⟩ = some (.string OB1) := ⟨hHeld, ((at_new w4 _ _ J1).trans e01)⟩
           clear hHeld
           have hHeld := hHeld3
           clear hHeld3
           refine tk 4 hHeld rfl (v := ?_) ?_ ?_
           rotate_left
           · intro w9 h9; (try dsimp only at h9); go_simp <;> first | with_reducible rfl | rw [if_neg (by omega)]
           try simp only [Act.put, lay]
           refine tk 5 hHeld rfl (v := ?_) ?_ ?_
           rotate_left
           · intro w9 h9; (try dsimp only at h9); go_simp <;> first | with_reducible rfl | rw [if_neg (by omega)]
           try simp only [Act.put, lay]
           refine tk 6 hHeld rfl (v := ?_) ?_ ?_
           rotate_left
           · intro w9 h9; (try dsimp only at h9); go_simp <;> first | with_reducible rfl | rw [if_neg (by omega)]
           try simp only [Act.put, lay]
           refine tk 7 hHeld rfl (v := ?_) ?_ ?_
           rotate_left
           · intro w9 h9; (try dsimp only at h9); go_simp <;> first | with_reducible rfl | rw [if_neg (by omega)]
           try simp only [Act.put, lay]
           refine wpAnyH_ready (rs := [8]) (by kernel_rfl) (by simp) ?_
           refine AllReadyH.cons rfl (fun K hK => ?_) ?_
           · go_simp
             refine hK.out _ _ ⟨⟨ck hHeld.1.1, ck hHeld.1.2.1, ck hHeld.1.2.2.1, ck hHeld.1.2.2.2⟩, ck hHeld.2⟩ (fun h8 => ?_)
             clear hK K
             replace hHeld := h8
             clear h8
             try simp only [Act.put, lay]
             refine wpAnyH_stronger (S' := fun w9 => ((w9.cell? ⟨u, 2, none⟩ = some (.int .i64 xb) ∧ w9.cell? ⟨u, 3, none⟩ = some (.int .i64 xc) ∧ w9.cell? ⟨p, 0, none⟩ = some (.pointer (some ⟨r, 0, none⟩)) ∧ w9.cell? ⟨q, 0, none⟩ = some (.bool b)) ∧ w9.cell? ⟨w4.heap.size, J1, none⟩ = some (.string OB1)) ∧ w9.cell? ⟨w4.heap.size + 1, J2, none⟩ = some (.string OB2)) (fun _ h => h.1) _ _ _ _ ?_
             have hHeld3 : ((((w4.alloc (.cells #[.string ⟨#[107]⟩, .string ⟨#[120]⟩, .string ⟨#[106]⟩] 9)).alloc (.cells #[.string ⟨#[97]⟩, .string ⟨#[98]⟩] 9)).cell? ⟨u, 2, none⟩ = some (.int .i64 xb) ∧ ((w4.alloc (.cells #[.string ⟨#[107]⟩, .string ⟨#[120]⟩, .string ⟨#[106]⟩] 9)).alloc (.cells #[.string ⟨#[97]⟩, .string ⟨#[98]⟩] 9)).cell? ⟨u, 3, none⟩ = some (.int .i64 xc) ∧ ((w4.alloc (.cells #[.string ⟨#[107]⟩, .string ⟨#[120]⟩, .string ⟨#[106]⟩] 9)).alloc (.cells #[.string ⟨#[97]⟩, .string ⟨#[98]⟩] 9)).cell? ⟨p, 0, none⟩ = some (.pointer (some ⟨r, 0, none⟩)) ∧ ((w4.alloc (.cells #[.string ⟨#[107]⟩, .string ⟨#[120]⟩, .string ⟨#[106]⟩] 9)).alloc (.cells #[.string ⟨#[97]⟩, .string ⟨#[98]⟩] 9)).cell? ⟨q, 0, none⟩ = some (.bool b)) ∧ ((w4.alloc (.cells #[.string ⟨#[107]⟩, .string ⟨#[120]⟩, .string ⟨#[106]⟩] 9)).alloc (.cells #[.string ⟨#[97]⟩, .string ⟨#[98]⟩] 9)).cell? ⟨w4.heap.size, J1, none⟩ = some (.string OB1)) ∧ ((w4.alloc (.cells #[.string ⟨#[107]⟩, .string ⟨#[120]⟩, .string ⟨#[106]⟩] 9)).alloc (.cells #[.string ⟨#[97]⟩, .string ⟨#[98]⟩] 9)).cell? ⟨w4.heap.size + 1, J2, none⟩ = some (.string OB2) := ⟨hHeld, (by have h := at_new (w4.alloc (.cells #[.string ⟨#[107]⟩, .string ⟨#[120]⟩, .string ⟨#[106]⟩] 9)) #[.string ⟨#[97]⟩, .string ⟨#[98]⟩] 9 J2; rw [alloc_size] at h; exact h.trans e02)⟩
             clear hHeld
             have hHeld := hHeld3
             clear hHeld3
             refine tk 12 hHeld rfl (v := ?_) ?_ ?_
             rotate_left
             · intro w9 h9; (try dsimp only at h9); go_simp <;> first | with_reducible rfl | rw [if_neg (by omega)]
             try simp only [Act.put, lay]
             refine tk 13 hHeld rfl (v := ?_) ?_ ?_
             rotate_left
             · intro w9 h9; (try dsimp only at h9); go_simp <;> first | with_reducible rfl | rw [if_neg (by omega)]
             try simp only [Act.put, lay]
             refine tk 14 hHeld rfl (v := ?_) ?_ ?_
             rotate_left
             · intro w9 h9; (try dsimp only at h9); go_simp <;> first | with_reducible rfl | rw [if_neg (by omega)]
             try simp only [Act.put, lay]
             refine tk 15 hHeld rfl (v := ?_) ?_ ?_
             rotate_left
             · intro w9 h9; (try dsimp only at h9); go_simp <;> first | with_reducible rfl | rw [if_neg (by omega)]
             try simp only [Act.put, lay]
             refine tk 21 hHeld rfl (v := ?_) ?_ ?_
             rotate_left
             · intro w9 h9; (try dsimp only at h9); go_simp <;> first | with_reducible rfl | rw [if_neg (by omega)]
             try simp only [Act.put, lay]
             refine tk 22 hHeld rfl (v := ?_) ?_ ?_
             rotate_left
             · intro w9 h9; (try dsimp only at h9); go_simp <;> first | with_reducible rfl | rw [if_neg (by omega)]
             try simp only [Act.put, lay]
             refine tk 25 hHeld rfl (v := ?_) ?_ ?_
             rotate_left
             · intro w9 h9; (try dsimp only at h9); go_simp <;> first | with_reducible rfl | rw [if_neg (by omega)]
             try simp only [Act.put, lay]
             refine tk 26 hHeld rfl (v := ?_) ?_ ?_
             rotate_left
             · intro w9 h9; (try dsimp only at h9); go_simp <;> first | with_reducible rfl | rw [if_neg (by omega)]
             try simp only [Act.put, lay]
             refine tk 27 hHeld rfl (v := ?_) ?_ ?_
             rotate_left
             · intro w9 h9; (try dsimp only at h9); go_simp <;> first | with_reducible rfl | rw [if_neg (by omega)]
             try simp only [Act.put, lay]
             refine wpAnyH_done (by kernel_rfl) ?_ _
             go_wp2_with fail
             go_ret
             first | exact HF.out _ _ _ _ _ H3.out H4.out (Below.refl _ _) | exact HF.out _ _ _ _ _ H3.out H4.out ((Below.refl _ _).alloc (Nat.le_refl _) _) | exact HF.out _ _ _ _ _ H3.out H4.out (((Below.refl _ _).alloc (Nat.le_refl _) _).alloc (by rw [alloc_size]; omega) _)
           exact AllReadyH.nil
         refine AllReadyH.cons rfl (fun K hK => ?_) ?_
         · go_simp
           refine hK.out _ _ ⟨ck hHeld.1, ck hHeld.2.1, ck hHeld.2.2.1, ck hHeld.2.2.2⟩ (fun h8 => ?_)
           clear hK K
           replace hHeld := h8
           clear h8
           try simp only [Act.put, lay]
           refine wpAnyH_stronger (S' := fun w9 => (w9.cell? ⟨u, 2, none⟩ = some (.int .i64 xb) ∧ w9.cell? ⟨u, 3, none⟩ = some (.int .i64 xc) ∧ w9.cell? ⟨p, 0, none⟩ = some (.pointer (some ⟨r, 0, none⟩)) ∧ w9.cell? ⟨q, 0, none⟩ = some (.bool b)) ∧ w9.cell? ⟨w4.heap.size, J2, none⟩ = some (.string OB2)) (fun _ h => h.1) _ _ _ _ ?_
           have hHeld3 : ((w4.alloc (.cells #[.string ⟨#[97]⟩, .string ⟨#[98]⟩] 9)).cell? ⟨u, 2, none⟩ = some (.int .i64 xb) ∧ (w4.alloc (.cells #[.string ⟨#[97]⟩, .string ⟨#[98]⟩] 9)).cell? ⟨u, 3, none⟩ = some (.int .i64 xc) ∧ (w4.alloc (.cells #[.string ⟨#[97]⟩, .string ⟨#[98]⟩] 9)).cell? ⟨p, 0, none⟩ = some (.pointer (some ⟨r, 0, none⟩)) ∧ (w4.alloc (.cells #[.string ⟨#[97]⟩, .string ⟨#[98]⟩] 9)).cell? ⟨q, 0, none⟩ = some (.bool b)) ∧ (w4.alloc (.cells #[.string ⟨#[97]⟩, .string ⟨#[98]⟩] 9)).cell? ⟨w4.heap.size, J2, none⟩ = some (.string OB2) := ⟨hHeld, ((at_new w4 _ _ J2).trans e02)⟩
           clear hHeld
           have hHeld := hHeld3
           clear hHeld3
           refine tk 12 hHeld rfl (v := ?_) ?_ ?_
           rotate_left
           · intro w9 h9; (try dsimp only at h9); go_simp <;> first | with_reducible rfl | rw [if_neg (by omega)]
           try simp only [Act.put, lay]
           refine tk 13 hHeld rfl (v := ?_) ?_ ?_
           rotate_left
           · intro w9 h9; (try dsimp only at h9); go_simp <;> first | with_reducible rfl | rw [if_neg (by omega)]
           try simp only [Act.put, lay]
           refine wpAnyH_ready (rs := [0]) (by kernel_rfl) (by simp) ?_
           refine AllReadyH.cons rfl (fun K hK => ?_) ?_
           · go_simp
             refine hK.out _ _ ⟨⟨ck hHeld.1.1, ck hHeld.1.2.1, ck hHeld.1.2.2.1, ck hHeld.1.2.2.2⟩, ck hHeld.2⟩ (fun h8 => ?_)
             clear hK K
             replace hHeld := h8
             clear h8
             try simp only [Act.put, lay]
             refine wpAnyH_stronger (S' := fun w9 => ((w9.cell? ⟨u, 2, none⟩ = some (.int .i64 xb) ∧ w9.cell? ⟨u, 3, none⟩ = some (.int .i64 xc) ∧ w9.cell? ⟨p, 0, none⟩ = some (.pointer (some ⟨r, 0, none⟩)) ∧ w9.cell? ⟨q, 0, none⟩ = some (.bool b)) ∧ w9.cell? ⟨w4.heap.size, J2, none⟩ = some (.string OB2)) ∧ w9.cell? ⟨w4.heap.size + 1, J1, none⟩ = some (.string OB1)) (fun _ h => h.1) _ _ _ _ ?_
             have hHeld3 : ((((w4.alloc (.cells #[.string ⟨#[97]⟩, .string ⟨#[98]⟩] 9)).alloc (.cells #[.string ⟨#[107]⟩, .string ⟨#[120]⟩, .string ⟨#[106]⟩] 9)).cell? ⟨u, 2, none⟩ = some (.int .i64 xb) ∧ ((w4.alloc (.cells #[.string ⟨#[97]⟩, .string ⟨#[98]⟩] 9)).alloc (.cells #[.string ⟨#[107]⟩, .string ⟨#[120]⟩, .string ⟨#[106]⟩] 9)).cell? ⟨u, 3, none⟩ = some (.int .i64 xc) ∧ ((w4.alloc (.cells #[.string ⟨#[97]⟩, .string ⟨#[98]⟩] 9)).alloc (.cells #[.string ⟨#[107]⟩, .string ⟨#[120]⟩, .string ⟨#[106]⟩] 9)).cell? ⟨p, 0, none⟩ = some (.pointer (some ⟨r, 0, none⟩)) ∧ ((w4.alloc (.cells #[.string ⟨#[97]⟩, .string ⟨#[98]⟩] 9)).alloc (.cells #[.string ⟨#[107]⟩, .string ⟨#[120]⟩, .string ⟨#[106]⟩] 9)).cell? ⟨q, 0, none⟩ = some (.bool b)) ∧ ((w4.alloc (.cells #[.string ⟨#[97]⟩, .string ⟨#[98]⟩] 9)).alloc (.cells #[.string ⟨#[107]⟩, .string ⟨#[120]⟩, .string ⟨#[106]⟩] 9)).cell? ⟨w4.heap.size, J2, none⟩ = some (.string OB2)) ∧ ((w4.alloc (.cells #[.string ⟨#[97]⟩, .string ⟨#[98]⟩] 9)).alloc (.cells #[.string ⟨#[107]⟩, .string ⟨#[120]⟩, .string ⟨#[106]⟩] 9)).cell? ⟨w4.heap.size + 1, J1, none⟩ = some (.string OB1) := ⟨hHeld, (by have h := at_new (w4.alloc (.cells #[.string ⟨#[97]⟩, .string ⟨#[98]⟩] 9)) #[.string ⟨#[107]⟩, .string ⟨#[120]⟩, .string ⟨#[106]⟩] 9 J1; rw [alloc_size] at h; exact h.trans e01)⟩
             clear hHeld
             have hHeld := hHeld3
             clear hHeld3
             refine tk 4 hHeld rfl (v := ?_) ?_ ?_
             rotate_left
             · intro w9 h9; (try dsimp only at h9); go_simp <;> first | with_reducible rfl | rw [if_neg (by omega)]
             try simp only [Act.put, lay]
             refine tk 5 hHeld rfl (v := ?_) ?_ ?_
             rotate_left
             · intro w9 h9; (try dsimp only at h9); go_simp <;> first | with_reducible rfl | rw [if_neg (by omega)]
             try simp only [Act.put, lay]
             refine tk 6 hHeld rfl (v := ?_) ?_ ?_
             rotate_left
             · intro w9 h9; (try dsimp only at h9); go_simp <;> first | with_reducible rfl | rw [if_neg (by omega)]
             try simp only [Act.put, lay]
             refine tk 7 hHeld rfl (v := ?_) ?_ ?_
             rotate_left
             · intro w9 h9; (try dsimp only at h9); go_simp <;> first | with_reducible rfl | rw [if_neg (by omega)]
             try simp only [Act.put, lay]
             refine tk 14 hHeld rfl (v := ?_) ?_ ?_
             rotate_left
             · intro w9 h9; (try dsimp only at h9); go_simp <;> first | with_reducible rfl | rw [if_neg (by omega)]
             try simp only [Act.put, lay]
             refine tk 15 hHeld rfl (v := ?_) ?_ ?_
             rotate_left
             · intro w9 h9; (try dsimp only at h9); go_simp <;> first | with_reducible rfl | rw [if_neg (by omega)]
             try simp only [Act.put, lay]
             refine tk 21 hHeld rfl (v := ?_) ?_ ?_
             rotate_left
             · intro w9 h9; (try dsimp only at h9); go_simp <;> first | with_reducible rfl | rw [if_neg (by omega)]
             try simp only [Act.put, lay]
             refine tk 22 hHeld rfl (v := ?_) ?_ ?_
             rotate_left
             · intro w9 h9; (try dsimp only at h9); go_simp <;> first | with_reducible rfl | rw [if_neg (by omega)]
             try simp only [Act.put, lay]
             refine tk 25 hHeld rfl (v := ?_) ?_ ?_
             rotate_left
             · intro w9 h9; (try dsimp only at h9); go_simp <;> first | with_reducible rfl | rw [if_neg (by omega)]
             try simp only [Act.put, lay]
             refine tk 26 hHeld rfl (v := ?_) ?_ ?_
             rotate_left
             · intro w9 h9; (try dsimp only at h9); go_simp <;> first | with_reducible rfl | rw [if_neg (by omega)]
             try simp only [Act.put, lay]
             refine tk 27 hHeld rfl (v := ?_) ?_ ?_
             rotate_left
             · intro w9 h9; (try dsimp only at h9); go_simp <;> first | with_reducible rfl | rw [if_neg (by omega)]
             try simp only [Act.put, lay]
             refine wpAnyH_done (by kernel_rfl) ?_ _
             go_wp2_with fail
             go_ret
             first | exact HF.out _ _ _ _ _ H3.out H4.out (Below.refl _ _) | exact HF.out _ _ _ _ _ H3.out H4.out ((Below.refl _ _).alloc (Nat.le_refl _) _) | exact HF.out _ _ _ _ _ H3.out H4.out (((Below.refl _ _).alloc (Nat.le_refl _) _).alloc (by rw [alloc_size]; omega) _)
           exact AllReadyH.nil
         exact AllReadyH.nil
       exact AllReadyH.nil
     exact AllReadyH.nil
   exact AllReadyH.nil
 refine AllReadyH.cons rfl (fun K hK => ?_) ?_
 · go_simp
   refine hK.out _ _ ⟨ck hHeld.1, ck hHeld.2.1, ck hHeld.2.2.1, ck hHeld.2.2.2⟩ (fun h8 => ?_)
   clear hK K
   replace hHeld := h8
   clear h8
   try simp only [Act.put, lay]
   refine wpAnyH_stronger (S' := fun w9 => (w9.cell? ⟨u, 2, none⟩ = some (.int .i64 xb) ∧ w9.cell? ⟨u, 3, none⟩ = some (.int .i64 xc) ∧ w9.cell? ⟨p, 0, none⟩ = some (.pointer (some ⟨r, 0, none⟩)) ∧ w9.cell? ⟨q, 0, none⟩ = some (.bool b)) ∧ w9.cell? ⟨X.heap.size, J2, none⟩ = some (.string OB2)) (fun _ h => h.1) _ _ _ _ ?_
   have hHeld3 : ((X.alloc (.cells #[.string ⟨#[97]⟩, .string ⟨#[98]⟩] 9)).drew.cell? ⟨u, 2, none⟩ = some (.int .i64 xb) ∧ (X.alloc (.cells #[.string ⟨#[97]⟩, .string ⟨#[98]⟩] 9)).drew.cell? ⟨u, 3, none⟩ = some (.int .i64 xc) ∧ (X.alloc (.cells #[.string ⟨#[97]⟩, .string ⟨#[98]⟩] 9)).drew.cell? ⟨p, 0, none⟩ = some (.pointer (some ⟨r, 0, none⟩)) ∧ (X.alloc (.cells #[.string ⟨#[97]⟩, .string ⟨#[98]⟩] 9)).drew.cell? ⟨q, 0, none⟩ = some (.bool b)) ∧ (X.alloc (.cells #[.string ⟨#[97]⟩, .string ⟨#[98]⟩] 9)).drew.cell? ⟨X.heap.size, J2, none⟩ = some (.string OB2) := ⟨hHeld, ((at_new X _ _ J2).trans e02)⟩
   clear hHeld
   have hHeld := hHeld3
   clear hHeld3
   refine wpAnyH_ready (rs := [0, 3]) (by kernel_rfl) (by simp) ?_
   refine AllReadyH.cons rfl (fun K hK => ?_) ?_
   · go_simp
     refine hK.out _ _ ⟨⟨ck hHeld.1.1, ck hHeld.1.2.1, ck hHeld.1.2.2.1, ck hHeld.1.2.2.2⟩, ck hHeld.2⟩ (fun h8 => ?_)
     clear hK K
     replace hHeld := h8
     clear h8
     try simp only [Act.put, lay]
     refine wpAnyH_stronger (S' := fun w9 => ((w9.cell? ⟨u, 2, none⟩ = some (.int .i64 xb) ∧ w9.cell? ⟨u, 3, none⟩ = some (.int .i64 xc) ∧ w9.cell? ⟨p, 0, none⟩ = some (.pointer (some ⟨r, 0, none⟩)) ∧ w9.cell? ⟨q, 0, none⟩ = some (.bool b)) ∧ w9.cell? ⟨X.heap.size, J2, none⟩ = some (.string OB2)) ∧ w9.cell? ⟨X.heap.size + 1, J1, none⟩ = some (.string OB1)) (fun _ h => h.1) _ _ _ _ ?_
     have hHeld3 : ((((X.alloc (.cells #[.string ⟨#[97]⟩, .string ⟨#[98]⟩] 9)).alloc (.cells #[.string ⟨#[107]⟩, .string ⟨#[120]⟩, .string ⟨#[106]⟩] 9)).drew.cell? ⟨u, 2, none⟩ = some (.int .i64 xb) ∧ ((X.alloc (.cells #[.string ⟨#[97]⟩, .string ⟨#[98]⟩] 9)).alloc (.cells #[.string ⟨#[107]⟩, .string ⟨#[120]⟩, .string ⟨#[106]⟩] 9)).drew.cell? ⟨u, 3, none⟩ = some (.int .i64 xc) ∧ ((X.alloc (.cells #[.string ⟨#[97]⟩, .string ⟨#[98]⟩] 9)).alloc (.cells #[.string ⟨#[107]⟩, .string ⟨#[120]⟩, .string ⟨#[106]⟩] 9)).drew.cell? ⟨p, 0, none⟩ = some (.pointer (some ⟨r, 0, none⟩)) ∧ ((X.alloc (.cells #[.string ⟨#[97]⟩, .string ⟨#[98]⟩] 9)).alloc (.cells #[.string ⟨#[107]⟩, .string ⟨#[120]⟩, .string ⟨#[106]⟩] 9)).drew.cell? ⟨q, 0, none⟩ = some (.bool b)) ∧ ((X.alloc (.cells #[.string ⟨#[97]⟩, .string ⟨#[98]⟩] 9)).alloc (.cells #[.string ⟨#[107]⟩, .string ⟨#[120]⟩, .string ⟨#[106]⟩] 9)).drew.cell? ⟨X.heap.size, J2, none⟩ = some (.string OB2)) ∧ ((X.alloc (.cells #[.string ⟨#[97]⟩, .string ⟨#[98]⟩] 9)).alloc (.cells #[.string ⟨#[107]⟩, .string ⟨#[120]⟩, .string ⟨#[106]⟩] 9)).drew.cell? ⟨X.heap.size + 1, J1, none⟩ = some (.string OB1) := ⟨hHeld, (by have h := at_new (X.alloc (.cells #[.string ⟨#[97]⟩, .string ⟨#[98]⟩] 9)) #[.string ⟨#[107]⟩, .string ⟨#[120]⟩, .string ⟨#[106]⟩] 9 J1; rw [alloc_size] at h; exact h.trans e01)⟩
     clear hHeld
     have hHeld := hHeld3
     clear hHeld3
     refine wpAnyH_ready (rs := [3]) (by kernel_rfl) (by simp) ?_
     refine AllReadyH.cons rfl (fun K hK => ?_) ?_
     · go_simp
       refine Calls.mono (HPJ1.out _) ?_
       rintro e w2 ⟨rfl, hw2⟩
       rw [hw2]
       clear hw2 w2
       go_wp2_with fail
       refine hK.out _ _ hHeld (fun h8 => ?_)
       clear hK K
       replace hHeld := h8
       clear h8
       try simp only [Act.put, lay]
       refine tk 4 hHeld rfl (v := ?_) ?_ ?_
       rotate_left
       · intro w9 h9; (try dsimp only at h9); go_simp <;> first | with_reducible rfl | rw [if_neg (by omega)]
       try simp only [Act.put, lay]
       refine tk 5 hHeld rfl (v := ?_) ?_ ?_
       rotate_left
       · intro w9 h9; (try dsimp only at h9); go_simp <;> first | with_reducible rfl | rw [if_neg (by omega)]
       try simp only [Act.put, lay]
       refine tk 6 hHeld rfl (v := ?_) ?_ ?_
       rotate_left
       · intro w9 h9; (try dsimp only at h9); go_simp <;> first | with_reducible rfl | rw [if_neg (by omega)]
       try simp only [Act.put, lay]
       refine tk 7 hHeld rfl (v := ?_) ?_ ?_
       rotate_left
       · intro w9 h9; (try dsimp only at h9); go_simp <;> first | with_reducible rfl | rw [if_neg (by omega)]
       try simp only [Act.put, lay]
       refine wpAnyH_ready (rs := [11]) (by kernel_rfl) (by simp) ?_
       refine AllReadyH.cons rfl (fun K hK => ?_) ?_
       · go_simp
         refine Calls.mono (HPJ2.out _) ?_
         rintro e w2 ⟨rfl, hw2⟩
         rw [hw2]
         clear hw2 w2
         go_wp2_with fail
         refine hK.out _ _ hHeld (fun h8 => ?_)
         clear hK K
         replace hHeld := h8
         clear h8
         try simp only [Act.put, lay]
         refine tk 12 hHeld rfl (v := ?_) ?_ ?_
         rotate_left
         · intro w9 h9; (try dsimp only at h9); go_simp <;> first | with_reducible rfl | rw [if_neg (by omega)]
         try simp only [Act.put, lay]
         refine tk 13 hHeld rfl (v := ?_) ?_ ?_
         rotate_left
         · intro w9 h9; (try dsimp only at h9); go_simp <;> first | with_reducible rfl | rw [if_neg (by omega)]
         try simp only [Act.put, lay]
         refine tk 14 hHeld rfl (v := ?_) ?_ ?_
         rotate_left
         · intro w9 h9; (try dsimp only at h9); go_simp <;> first | with_reducible rfl | rw [if_neg (by omega)]
         try simp only [Act.put, lay]
         refine tk 15 hHeld rfl (v := ?_) ?_ ?_
         rotate_left
         · intro w9 h9; (try dsimp only at h9); go_simp <;> first | with_reducible rfl | rw [if_neg (by omega)]
         try simp only [Act.put, lay]
         refine wpAnyH_ready (rs := [20]) (by kernel_rfl) (by simp) ?_
         refine AllReadyH.cons rfl (fun K hK => ?_) ?_
         · go_simp
           first | with_reducible refine Calls.mono (HST.out ((X.alloc (.cells #[.string ⟨#[97]⟩, .string ⟨#[98]⟩] 9)).alloc (.cells #[.string ⟨#[107]⟩, .string ⟨#[120]⟩, .string ⟨#[106]⟩] 9)).drew (HWf.out _ (bl_trans (((Below.refl _ _).alloc (Nat.le_refl _) _).alloc (by rw [alloc_size]; omega) _) (below_drew _))) _ HD1.out) ?_ | with_reducible refine Calls.mono (HST.out ((X.alloc (.cells #[.string ⟨#[97]⟩, .string ⟨#[98]⟩] 9)).alloc (.cells #[.string ⟨#[107]⟩, .string ⟨#[120]⟩, .string ⟨#[106]⟩] 9)).drew (HWf.out _ (bl_trans (((Below.refl _ _).alloc (Nat.le_refl _) _).alloc (by rw [alloc_size]; omega) _) (below_drew _))) _ HD2.out) ?_
           rintro e w3 ⟨Z2, rfl, z2, H3, B3, w3r, w31r⟩
           have m30 := bk B3.out ur hHeld.1.1.1
           have m31 := bk B3.out ur hHeld.1.1.2.1
           have m32 := bk B3.out pr hHeld.1.1.2.2.1
           have m33 := bk B3.out qr hHeld.1.1.2.2.2
           have m34 := bk B3.out g0r hHeld.1.2
           have m35 := bk B3.out g1r hHeld.2
           go_wp2_with fail
           refine hK.out _ _ ⟨⟨⟨m30, m31, m32, m33⟩, m34⟩, m35⟩ (fun h8 => ?_)
           clear hK K
           replace hHeld := h8
           clear h8
           try simp only [Act.put, lay]
           refine tk 21 hHeld rfl (v := ?_) ?_ ?_
           rotate_left
           · intro w9 h9; (try dsimp only at h9); go_simp <;> first | with_reducible rfl | rw [if_neg (by omega)]
           try simp only [Act.put, lay]
           refine tk 22 hHeld rfl (v := ?_) ?_ ?_
           rotate_left
           · intro w9 h9; (try dsimp only at h9); go_simp <;> first | with_reducible rfl | rw [if_neg (by omega)]
           try simp only [Act.put, lay]
           refine wpAnyH_ready (rs := [24]) (by kernel_rfl) (by simp) ?_
           refine AllReadyH.cons rfl (fun K hK => ?_) ?_
           · go_simp
             have HW4 : ∃ i4, Mk r w3 l i4 ∧ i4 ≤ i + 1 + c ∧ But r r w w3 := by obtain ⟨i4, h1, h2, h3⟩ := H3.out.2; exact ⟨i4, h1.below (Below.refl _ _), h2, h3.more (Below.refl _ _)⟩
             with_reducible refine Calls.mono (HEX.out w3 HW4 hHeld.1.1.2.2.1 hHeld.1.1.2.2.2) ?_
             rintro e w4 ⟨Z3, rfl, z3, H4, B4⟩
             clear HW4
             have m40 := bk B4.out ur hHeld.1.1.1
             have m41 := bk B4.out ur hHeld.1.1.2.1
             have m42 := bk B4.out pr hHeld.1.1.2.2.1
             have m43 := bk B4.out qr hHeld.1.1.2.2.2
             have m44 := bk B4.out g0r hHeld.1.2
             have m45 := bk B4.out g1r hHeld.2
             go_wp2_with fail
             refine hK.out _ _ ⟨⟨⟨m40, m41, m42, m43⟩, m44⟩, m45⟩ (fun h8 => ?_)
             clear hK K
             replace hHeld := h8
             clear h8
             try simp only [Act.put, lay]
             refine tk 25 hHeld rfl (v := ?_) ?_ ?_
             rotate_left
             · intro w9 h9; (try dsimp only at h9); go_simp <;> first | with_reducible rfl | rw [if_neg (by omega)]
             try simp only [Act.put, lay]
             refine tk 26 hHeld rfl (v := ?_) ?_ ?_
             rotate_left
             · intro w9 h9; (try dsimp only at h9); go_simp <;> first | with_reducible rfl | rw [if_neg (by omega)]
             try simp only [Act.put, lay]
             refine tk 27 hHeld rfl (v := ?_) ?_ ?_
             rotate_left
             · intro w9 h9; (try dsimp only at h9); go_simp <;> first | with_reducible rfl | rw [if_neg (by omega)]
             try simp only [Act.put, lay]
             refine wpAnyH_done (by kernel_rfl) ?_ _
             go_wp2_with fail
             go_ret
             first | exact HF.out _ _ _ _ _ H3.out H4.out (Below.refl _ _) | exact HF.out _ _ _ _ _ H3.out H4.out ((Below.refl _ _).alloc (Nat.le_refl _) _) | exact HF.out _ _ _ _ _ H3.out H4.out (((Below.refl _ _).alloc (Nat.le_refl _) _).alloc (by rw [alloc_size]; omega) _)
           exact AllReadyH.nil
         exact AllReadyH.nil
       exact AllReadyH.nil
     exact AllReadyH.nil
   refine AllReadyH.cons rfl (fun K hK => ?_) ?_
   · go_simp
     refine Calls.mono (HPJ1.out _) ?_
     rintro e w2 ⟨rfl, hw2⟩
     rw [hw2]
     clear hw2 w2
     go_wp2_with fail
     refine hK.out _ _ hHeld (fun h8 => ?_)
     clear hK K
     replace hHeld := h8
     clear h8
     try simp only [Act.put, lay]
     refine wpAnyH_ready (rs := [0, 11]) (by kernel_rfl) (by simp) ?_
     refine AllReadyH.cons rfl (fun K hK => ?_) ?_
     · go_simp
       refine hK.out _ _ ⟨⟨ck hHeld.1.1, ck hHeld.1.2.1, ck hHeld.1.2.2.1, ck hHeld.1.2.2.2⟩, ck hHeld.2⟩ (fun h8 => ?_)
       clear hK K
       replace hHeld := h8
       clear h8
       try simp only [Act.put, lay]
       refine wpAnyH_stronger (S' := fun w9 => ((w9.cell? ⟨u, 2, none⟩ = some (.int .i64 xb) ∧ w9.cell? ⟨u, 3, none⟩ = some (.int .i64 xc) ∧ w9.cell? ⟨p, 0, none⟩ = some (.pointer (some ⟨r, 0, none⟩)) ∧ w9.cell? ⟨q, 0, none⟩ = some (.bool b)) ∧ w9.cell? ⟨X.heap.size, J2, none⟩ = some (.string OB2)) ∧ w9.cell? ⟨X.heap.size + 1, J1, none⟩ = some (.string OB1)) (fun _ h => h.1) _ _ _ _ ?_
       have hHeld3 : ((((X.alloc (.cells #[.string ⟨#[97]⟩, .string ⟨#[98]⟩] 9)).alloc (.cells #[.string ⟨#[107]⟩, .string ⟨#[120]⟩, .string ⟨#[106]⟩] 9)).drew.cell? ⟨u, 2, none⟩ = some (.int .i64 xb) ∧ ((X.alloc (.cells #[.string ⟨#[97]⟩, .string ⟨#[98]⟩] 9)).alloc (.cells #[.string ⟨#[107]⟩, .string ⟨#[120]⟩, .string ⟨#[106]⟩] 9)).drew.cell? ⟨u, 3, none⟩ = some (.int .i64 xc) ∧ ((X.alloc (.cells #[.string ⟨#[97]⟩, .string ⟨#[98]⟩] 9)).alloc (.cells #[.string ⟨#[107]⟩, .string ⟨#[120]⟩, .string ⟨#[106]⟩] 9)).drew.cell? ⟨p, 0, none⟩ = some (.pointer (some ⟨r, 0, none⟩)) ∧ ((X.alloc (.cells #[.string ⟨#[97]⟩, .string ⟨#[98]⟩] 9)).alloc (.cells #[.string ⟨#[107]⟩, .string ⟨#[120]⟩, .string ⟨#[106]⟩] 9)).drew.cell? ⟨q, 0, none⟩ = some (.bool b)) ∧ ((X.alloc (.cells #[.string ⟨#[97]⟩, .string ⟨#[98]⟩] 9)).alloc (.cells #[.string ⟨#[107]⟩, .string ⟨#[120]⟩, .string ⟨#[106]⟩] 9)).drew.cell? ⟨X.heap.size, J2, none⟩ = some (.string OB2)) ∧ ((X.alloc (.cells #[.string ⟨#[97]⟩, .string ⟨#[98]⟩] 9)).alloc (.cells #[.string ⟨#[107]⟩, .string ⟨#[120]⟩, .string ⟨#[106]⟩] 9)).drew.cell? ⟨X.heap.size + 1, J1, none⟩ = some (.string OB1) := ⟨hHeld, (by have h := at_new (X.alloc (.cells #[.string ⟨#[97]⟩, .string ⟨#[98]⟩] 9)) #[.string ⟨#[107]⟩, .string ⟨#[120]⟩, .string ⟨#[106]⟩] 9 J1; rw [alloc_size] at h; exact h.trans e01)⟩
       clear hHeld
       have hHeld := hHeld3
       clear hHeld3
       refine tk 4 hHeld rfl (v := ?_) ?_ ?_
       rotate_left
       · intro w9 h9; (try dsimp only at h9); go_simp <;> first | with_reducible rfl | rw [if_neg (by omega)]
       try simp only [Act.put, lay]
       refine tk 5 hHeld rfl (v := ?_) ?_ ?_
       rotate_left
       · intro w9 h9; (try dsimp only at h9); go_simp <;> first | with_reducible rfl | rw [if_neg (by omega)]
       try simp only [Act.put, lay]
       refine tk 6 hHeld rfl (v := ?_) ?_ ?_
       rotate_left
       · intro w9 h9; (try dsimp only at h9); go_simp <;> first | with_reducible rfl | rw [if_neg (by omega)]
       try simp only [Act.put, lay]
       refine tk 7 hHeld rfl (v := ?_) ?_ ?_
       rotate_left
       · intro w9 h9; (try dsimp only at h9); go_simp <;> first | with_reducible rfl | rw [if_neg (by omega)]
       try simp only [Act.put, lay]
       refine wpAnyH_ready (rs := [11]) (by kernel_rfl) (by simp) ?_
       refine AllReadyH.cons rfl (fun K hK => ?_) ?_
       · go_simp
         refine Calls.mono (HPJ2.out _) ?_
         rintro e w2 ⟨rfl, hw2⟩
         rw [hw2]
         clear hw2 w2
         go_wp2_with fail
         refine hK.out _ _ hHeld (fun h8 => ?_)
         clear hK K
         replace hHeld := h8
         clear h8
         try simp only [Act.put, lay]
         refine tk 12 hHeld rfl (v := ?_) ?_ ?_
         rotate_left
         · intro w9 h9; (try dsimp only at h9); go_simp <;> first | with_reducible rfl | rw [if_neg (by omega)]
         try simp only [Act.put, lay]
         refine tk 13 hHeld rfl (v := ?_) ?_ ?_
         rotate_left
         · intro w9 h9; (try dsimp only at h9); go_simp <;> first | with_reducible rfl | rw [if_neg (by omega)]
         try simp only [Act.put, lay]
         refine tk 14 hHeld rfl (v := ?_) ?_ ?_
         rotate_left
         · intro w9 h9; (try dsimp only at h9); go_simp <;> first | with_reducible rfl | rw [if_neg (by omega)]
         try simp only [Act.put, lay]
         refine tk 15 hHeld rfl (v := ?_) ?_ ?_
         rotate_left
         · intro w9 h9; (try dsimp only at h9); go_simp <;> first | with_reducible rfl | rw [if_neg (by omega)]
         try simp only [Act.put, lay]
         refine wpAnyH_ready (rs := [20]) (by kernel_rfl) (by simp) ?_
         refine AllReadyH.cons rfl (fun K hK => ?_) ?_
         · go_simp
           first | with_reducible refine Calls.mono (HST.out ((X.alloc (.cells #[.string ⟨#[97]⟩, .string ⟨#[98]⟩] 9)).alloc (.cells #[.string ⟨#[107]⟩, .string ⟨#[120]⟩, .string ⟨#[106]⟩] 9)).drew (HWf.out _ (bl_trans (((Below.refl _ _).alloc (Nat.le_refl _) _).alloc (by rw [alloc_size]; omega) _) (below_drew _))) _ HD1.out) ?_ | with_reducible refine Calls.mono (HST.out ((X.alloc (.cells #[.string ⟨#[97]⟩, .string ⟨#[98]⟩] 9)).alloc (.cells #[.string ⟨#[107]⟩, .string ⟨#[120]⟩, .string ⟨#[106]⟩] 9)).drew (HWf.out _ (bl_trans (((Below.refl _ _).alloc (Nat.le_refl _) _).alloc (by rw [alloc_size]; omega) _) (below_drew _))) _ HD2.out) ?_
           rintro e w3 ⟨Z2, rfl, z2, H3, B3, w3r, w31r⟩
           have m30 := bk B3.out ur hHeld.1.1.1
           have m31 := bk B3.out ur hHeld.1.1.2.1
           have m32 := bk B3.out pr hHeld.1.1.2.2.1
           have m33 := bk B3.out qr hHeld.1.1.2.2.2
           have m34 := bk B3.out g0r hHeld.1.2
           have m35 := bk B3.out g1r hHeld.2
           go_wp2_with fail
           refine hK.out _ _ ⟨⟨⟨m30, m31, m32, m33⟩, m34⟩, m35⟩ (fun h8 => ?_)
           clear hK K
           replace hHeld := h8
           clear h8
           try simp only [Act.put, lay]
           refine tk 21 hHeld rfl (v := ?_) ?_ ?_
           rotate_left
           · intro w9 h9; (try dsimp only at h9); go_simp <;> first | with_reducible rfl | rw [if_neg (by omega)]
           try simp only [Act.put, lay]
           refine tk 22 hHeld rfl (v := ?_) ?_ ?_
           rotate_left
           · intro w9 h9; (try dsimp only at h9); go_simp <;> first | with_reducible rfl | rw [if_neg (by omega)]
           try simp only [Act.put, lay]
           refine wpAnyH_ready (rs := [24]) (by kernel_rfl) (by simp) ?_
           refine AllReadyH.cons rfl (fun K hK => ?_) ?_
           · go_simp
             have HW4 : ∃ i4, Mk r w3 l i4 ∧ i4 ≤ i + 1 + c ∧ But r r w w3 := by obtain ⟨i4, h1, h2, h3⟩ := H3.out.2; exact ⟨i4, h1.below (Below.refl _ _), h2, h3.more (Below.refl _ _)⟩
             with_reducible refine Calls.mono (HEX.out w3 HW4 hHeld.1.1.2.2.1 hHeld.1.1.2.2.2) ?_
             rintro e w4 ⟨Z3, rfl, z3, H4, B4⟩
             clear HW4
             have m40 := bk B4.out ur hHeld.1.1.1
             have m41 := bk B4.out ur hHeld.1.1.2.1
             have m42 := bk B4.out pr hHeld.1.1.2.2.1
             have m43 := bk B4.out qr hHeld.1.1.2.2.2
             have m44 := bk B4.out g0r hHeld.1.2
             have m45 := bk B4.out g1r hHeld.2
             go_wp2_with fail
             refine hK.out _ _ ⟨⟨⟨m40, m41, m42, m43⟩, m44⟩, m45⟩ (fun h8 => ?_)
             clear hK K
             replace hHeld := h8
             clear h8
             try simp only [Act.put, lay]
             refine tk 25 hHeld rfl (v := ?_) ?_ ?_
             rotate_left
             · intro w9 h9; (try dsimp only at h9); go_simp <;> first | with_reducible rfl | rw [if_neg (by omega)]
             try simp only [Act.put, lay]
             refine tk 26 hHeld rfl (v := ?_) ?_ ?_
             rotate_left
             · intro w9 h9; (try dsimp only at h9); go_simp <;> first | with_reducible rfl | rw [if_neg (by omega)]
             try simp only [Act.put, lay]
             refine tk 27 hHeld rfl (v := ?_) ?_ ?_
             rotate_left
             · intro w9 h9; (try dsimp only at h9); go_simp <;> first | with_reducible rfl | rw [if_neg (by omega)]
             try simp only [Act.put, lay]
             refine wpAnyH_done (by kernel_rfl) ?_ _
             go_wp2_with fail
             go_ret
             first | exact HF.out _ _ _ _ _ H3.out H4.out (Below.refl _ _) | exact HF.out _ _ _ _ _ H3.out H4.out ((Below.refl _ _).alloc (Nat.le_refl _) _) | exact HF.out _ _ _ _ _ H3.out H4.out (((Below.refl _ _).alloc (Nat.le_refl _) _).alloc (by rw [alloc_size]; omega) _)
           exact AllReadyH.nil
         exact AllReadyH.nil
       exact AllReadyH.nil
     refine AllReadyH.cons rfl (fun K hK => ?_) ?_
     · go_simp
       refine Calls.mono (HPJ2.out _) ?_
       rintro e w2 ⟨rfl, hw2⟩
       rw [hw2]
       clear hw2 w2
       go_wp2_with fail
       refine hK.out _ _ hHeld (fun h8 => ?_)
       clear hK K
       replace hHeld := h8
       clear h8
       try simp only [Act.put, lay]
       refine tk 12 hHeld rfl (v := ?_) ?_ ?_
       rotate_left
       · intro w9 h9; (try dsimp only at h9); go_simp <;> first | with_reducible rfl | rw [if_neg (by omega)]
       try simp only [Act.put, lay]
       refine tk 13 hHeld rfl (v := ?_) ?_ ?_
       rotate_left
       · intro w9 h9; (try dsimp only at h9); go_simp <;> first | with_reducible rfl | rw [if_neg (by omega)]
       try simp only [Act.put, lay]
       refine wpAnyH_ready (rs := [0, 20]) (by kernel_rfl) (by simp) ?_
       refine AllReadyH.cons rfl (fun K hK => ?_) ?_
       · go_simp
         refine hK.out _ _ ⟨⟨ck hHeld.1.1, ck hHeld.1.2.1, ck hHeld.1.2.2.1, ck hHeld.1.2.2.2⟩, ck hHeld.2⟩ (fun h8 => ?_)
         clear hK K
         replace hHeld := h8
         clear h8
         try simp only [Act.put, lay]
         refine wpAnyH_stronger (S' := fun w9 => ((w9.cell? ⟨u, 2, none⟩ = some (.int .i64 xb) ∧ w9.cell? ⟨u, 3, none⟩ = some (.int .i64 xc) ∧ w9.cell? ⟨p, 0, none⟩ = some (.pointer (some ⟨r, 0, none⟩)) ∧ w9.cell? ⟨q, 0, none⟩ = some (.bool b)) ∧ w9.cell? ⟨X.heap.size, J2, none⟩ = some (.string OB2)) ∧ w9.cell? ⟨X.heap.size + 1, J1, none⟩ = some (.string OB1)) (fun _ h => h.1) _ _ _ _ ?_
         have hHeld3 : ((((X.alloc (.cells #[.string ⟨#[97]⟩, .string ⟨#[98]⟩] 9)).alloc (.cells #[.string ⟨#[107]⟩, .string ⟨#[120]⟩, .string ⟨#[106]⟩] 9)).drew.cell? ⟨u, 2, none⟩ = some (.int .i64 xb) ∧ ((X.alloc (.cells #[.string ⟨#[97]⟩, .string ⟨#[98]⟩] 9)).alloc (.cells #[.string ⟨#[107]⟩, .string ⟨#[120]⟩, .string ⟨#[106]⟩] 9)).drew.cell? ⟨u, 3, none⟩ = some (.int .i64 xc) ∧ ((X.alloc (.cells #[.string ⟨#[97]⟩, .string ⟨#[98]⟩] 9)).alloc (.cells #[.string ⟨#[107]⟩, .string ⟨#[120]⟩, .string ⟨#[106]⟩] 9)).drew.cell? ⟨p, 0, none⟩ = some (.pointer (some ⟨r, 0, none⟩)) ∧ ((X.alloc (.cells #[.string ⟨#[97]⟩, .string ⟨#[98]⟩] 9)).alloc (.cells #[.string ⟨#[107]⟩, .string ⟨#[120]⟩, .string ⟨#[106]⟩] 9)).drew.cell? ⟨q, 0, none⟩ = some (.bool b)) ∧ ((X.alloc (.cells #[.string ⟨#[97]⟩, .string ⟨#[98]⟩] 9)).alloc (.cells #[.string ⟨#[107]⟩, .string ⟨#[120]⟩, .string ⟨#[106]⟩] 9)).drew.cell? ⟨X.heap.size, J2, none⟩ = some (.string OB2)) ∧ ((X.alloc (.cells #[.string ⟨#[97]⟩, .string ⟨#[98]⟩] 9)).alloc (.cells #[.string ⟨#[107]⟩, .string ⟨#[120]⟩, .string ⟨#[106]⟩] 9)).drew.cell? ⟨X.heap.size + 1, J1, none⟩ = some (.string OB1) := ⟨hHeld, (by have h := at_new (X.alloc (.cells #[.string ⟨#[97]⟩, .string ⟨#[98]⟩] 9)) #[.string ⟨#[107]⟩, .string ⟨#[120]⟩, .string ⟨#[106]⟩] 9 J1; rw [alloc_size] at h; exact h.trans e01)⟩
         clear hHeld
         have hHeld := hHeld3
         clear hHeld3
         refine tk 4 hHeld rfl (v := ?_) ?_ ?_
         rotate_left
         · intro w9 h9; (try dsimp only at h9); go_simp <;> first | with_reducible rfl | rw [if_neg (by omega)]
         try simp only [Act.put, lay]
         refine tk 5 hHeld rfl (v := ?_) ?_ ?_
         rotate_left
         · intro w9 h9; (try dsimp only at h9); go_simp <;> first | with_reducible rfl | rw [if_neg (by omega)]
         try simp only [Act.put, lay]
         refine tk 6 hHeld rfl (v := ?_) ?_ ?_
         rotate_left
         · intro w9 h9; (try dsimp only at h9); go_simp <;> first | with_reducible rfl | rw [if_neg (by omega)]
         try simp only [Act.put, lay]
         refine tk 7 hHeld rfl (v := ?_) ?_ ?_
         rotate_left
         · intro w9 h9; (try dsimp only at h9); go_simp <;> first | with_reducible rfl | rw [if_neg (by omega)]
         try simp only [Act.put, lay]
         refine tk 14 hHeld rfl (v := ?_) ?_ ?_
         rotate_left
         · intro w9 h9; (try dsimp only at h9); go_simp <;> first | with_reducible rfl | rw [if_neg (by omega)]
         try simp only [Act.put, lay]
         refine tk 15 hHeld rfl (v := ?_) ?_ ?_
         rotate_left
         · intro w9 h9; (try dsimp only at h9); go_simp <;> first | with_reducible rfl | rw [if_neg (by omega)]
         try simp only [Act.put, lay]
         refine wpAnyH_ready (rs := [20]) (by kernel_rfl) (by simp) ?_
         refine AllReadyH.cons rfl (fun K hK => ?_) ?_
         · go_simp
           first | with_reducible refine Calls.mono (HST.out ((X.alloc (.cells #[.string ⟨#[97]⟩, .string ⟨#[98]⟩] 9)).alloc (.cells #[.string ⟨#[107]⟩, .string ⟨#[120]⟩, .string ⟨#[106]⟩] 9)).drew (HWf.out _ (bl_trans (((Below.refl _ _).alloc (Nat.le_refl _) _).alloc (by rw [alloc_size]; omega) _) (below_drew _))) _ HD1.out) ?_ | with_reducible refine Calls.mono (HST.out ((X.alloc (.cells #[.string ⟨#[97]⟩, .string ⟨#[98]⟩] 9)).alloc (.cells #[.string ⟨#[107]⟩, .string ⟨#[120]⟩, .string ⟨#[106]⟩] 9)).drew (HWf.out _ (bl_trans (((Below.refl _ _).alloc (Nat.le_refl _) _).alloc (by rw [alloc_size]; omega) _) (below_drew _))) _ HD2.out) ?_
           rintro e w3 ⟨Z2, rfl, z2, H3, B3, w3r, w31r⟩
           have m30 := bk B3.out ur hHeld.1.1.1
           have m31 := bk B3.out ur hHeld.1.1.2.1
           have m32 := bk B3.out pr hHeld.1.1.2.2.1
           have m33 := bk B3.out qr hHeld.1.1.2.2.2
           have m34 := bk B3.out g0r hHeld.1.2
           have m35 := bk B3.out g1r hHeld.2
           go_wp2_with fail
           refine hK.out _ _ ⟨⟨⟨m30, m31, m32, m33⟩, m34⟩, m35⟩ (fun h8 => ?_)
           clear hK K
           replace hHeld := h8
           clear h8
           try simp only [Act.put, lay]
           refine tk 21 hHeld rfl (v := ?_) ?_ ?_
           rotate_left
           · intro w9 h9; (try dsimp only at h9); go_simp <;> first | with_reducible rfl | rw [if_neg (by omega)]
           try simp only [Act.put, lay]
           refine tk 22 hHeld rfl (v := ?_) ?_ ?_
           rotate_left
           · intro w9 h9; (try dsimp only at h9); go_simp <;> first | with_reducible rfl | rw [if_neg (by omega)]
           try simp only [Act.put, lay]
           refine wpAnyH_ready (rs := [24]) (by kernel_rfl) (by simp) ?_
           refine AllReadyH.cons rfl (fun K hK => ?_) ?_
           · go_simp
             have HW4 : ∃ i4, Mk r w3 l i4 ∧ i4 ≤ i + 1 + c ∧ But r r w w3 := by obtain ⟨i4, h1, h2, h3⟩ := H3.out.2; exact ⟨i4, h1.below (Below.refl _ _), h2, h3.more (Below.refl _ _)⟩
             with_reducible refine Calls.mono (HEX.out w3 HW4 hHeld.1.1.2.2.1 hHeld.1.1.2.2.2) ?_
             rintro e w4 ⟨Z3, rfl, z3, H4, B4⟩
             clear HW4
             have m40 := bk B4.out ur hHeld.1.1.1
             have m41 := bk B4.out ur hHeld.1.1.2.1
             have m42 := bk B4.out pr hHeld.1.1.2.2.1
             have m43 := bk B4.out qr hHeld.1.1.2.2.2
             have m44 := bk B4.out g0r hHeld.1.2
             have m45 := bk B4.out g1r hHeld.2
             go_wp2_with fail
             refine hK.out _ _ ⟨⟨⟨m40, m41, m42, m43⟩, m44⟩, m45⟩ (fun h8 => ?_)
             clear hK K
             replace hHeld := h8
             clear h8
             try simp only [Act.put, lay]
             refine tk 25 hHeld rfl (v := ?_) ?_ ?_
             rotate_left
             · intro w9 h9; (try dsimp only at h9); go_simp <;> first | with_reducible rfl | rw [if_neg (by omega)]
             try simp only [Act.put, lay]
             refine tk 26 hHeld rfl (v := ?_) ?_ ?_
             rotate_left
             · intro w9 h9; (try dsimp only at h9); go_simp <;> first | with_reducible rfl | rw [if_neg (by omega)]
             try simp only [Act.put, lay]
             refine tk 27 hHeld rfl (v := ?_) ?_ ?_
             rotate_left
             · intro w9 h9; (try dsimp only at h9); go_simp <;> first | with_reducible rfl | rw [if_neg (by omega)]
             try simp only [Act.put, lay]
             refine wpAnyH_done (by kernel_rfl) ?_ _
             go_wp2_with fail
             go_ret
             first | exact HF.out _ _ _ _ _ H3.out H4.out (Below.refl _ _) | exact HF.out _ _ _ _ _ H3.out H4.out ((Below.refl _ _).alloc (Nat.le_refl _) _) | exact HF.out _ _ _ _ _ H3.out H4.out (((Below.refl _ _).alloc (Nat.le_refl _) _).alloc (by rw [alloc_size]; omega) _)
           exact AllReadyH.nil
         exact AllReadyH.nil
       refine AllReadyH.cons rfl (fun K hK => ?_) ?_
       · go_simp
         first | with_reducible refine Calls.mono (HST.out (X.alloc (.cells #[.string ⟨#[97]⟩, .string ⟨#[98]⟩] 9)).drew (HWf.out _ (bl_trans ((Below.refl _ _).alloc (Nat.le_refl _) _) (below_drew _))) _ HD1.out) ?_ | with_reducible refine Calls.mono (HST.out (X.alloc (.cells #[.string ⟨#[97]⟩, .string ⟨#[98]⟩] 9)).drew (HWf.out _ (bl_trans ((Below.refl _ _).alloc (Nat.le_refl _) _) (below_drew _))) _ HD2.out) ?_
         rintro e w3 ⟨Z2, rfl, z2, H3, B3, w3r, w31r⟩
         have m30 := bk B3.out ur hHeld.1.1
         have m31 := bk B3.out ur hHeld.1.2.1
         have m32 := bk B3.out pr hHeld.1.2.2.1
         have m33 := bk B3.out qr hHeld.1.2.2.2
         have m34 := bk B3.out g0r hHeld.2
         go_wp2_with fail
         refine hK.out _ _ ⟨⟨m30, m31, m32, m33⟩, m34⟩ (fun h8 => ?_)
         clear hK K
         replace hHeld := h8
         clear h8
         try simp only [Act.put, lay]
         refine wpAnyH_ready (rs := [0, 24]) (by kernel_rfl) (by simp) ?_
         refine AllReadyH.cons rfl (fun K hK => ?_) ?_
         · go_simp
           refine hK.out _ _ ⟨⟨ck hHeld.1.1, ck hHeld.1.2.1, ck hHeld.1.2.2.1, ck hHeld.1.2.2.2⟩, ck hHeld.2⟩ (fun h8 => ?_)
           clear hK K
           replace hHeld := h8
           clear h8
           try simp only [Act.put, lay]
           refine wpAnyH_stronger (S' := fun w9 => ((w9.cell? ⟨u, 2, none⟩ = some (.int .i64 xb) ∧ w9.cell? ⟨u, 3, none⟩ = some (.int .i64 xc) ∧ w9.cell? ⟨p, 0, none⟩ = some (.pointer (some ⟨r, 0, none⟩)) ∧ w9.cell? ⟨q, 0, none⟩ = some (.bool b)) ∧ w9.cell? ⟨X.heap.size, J2, none⟩ = some (.string OB2)) ∧ w9.cell? ⟨w3.heap.size, J1, none⟩ = some (.string OB1)) (fun _ h => h.1) _ _ _ _ ?_
           have hHeld3 : (((w3.alloc (.cells #[.string ⟨#[107]⟩, .string ⟨#[120]⟩, .string ⟨#[106]⟩] 9)).cell? ⟨u, 2, none⟩ = some (.int .i64 xb) ∧ (w3.alloc (.cells #[.string ⟨#[107]⟩, .string ⟨#[120]⟩, .string ⟨#[106]⟩] 9)).cell? ⟨u, 3, none⟩ = some (.int .i64 xc) ∧ (w3.alloc (.cells #[.string ⟨#[107]⟩, .string ⟨#[120]⟩, .string ⟨#[106]⟩] 9)).cell? ⟨p, 0, none⟩ = some (.pointer (some ⟨r, 0, none⟩)) ∧ (w3.alloc (.cells #[.string ⟨#[107]⟩, .string ⟨#[120]⟩, .string ⟨#[106]⟩] 9)).cell? ⟨q, 0, none⟩ = some (.bool b)) ∧ (w3.alloc (.cells #[.string ⟨#[107]⟩, .string ⟨#[120]⟩, .string ⟨#[106]⟩] 9)).cell? ⟨X.heap.size, J2, none⟩ = some (.string OB2)) ∧ (w3.alloc (.cells #[.string ⟨#[107]⟩, .string ⟨#[120]⟩, .string ⟨#[106]⟩] 9)).cell? ⟨w3.heap.size, J1, none⟩ = some (.string OB1) := ⟨hHeld, ((at_new w3 _ _ J1).trans e01)⟩
           clear hHeld
           have hHeld := hHeld3
           clear hHeld3
           refine tk 4 hHeld rfl (v := ?_) ?_ ?_
           rotate_left
           · intro w9 h9; (try dsimp only at h9); go_simp <;> first | with_reducible rfl | rw [if_neg (by omega)]
           try simp only [Act.put, lay]
           refine tk 5 hHeld rfl (v := ?_) ?_ ?_
           rotate_left
           · intro w9 h9; (try dsimp only at h9); go_simp <;> first | with_reducible rfl | rw [if_neg (by omega)]
           try simp only [Act.put, lay]
           refine tk 6 hHeld rfl (v := ?_) ?_ ?_
           rotate_left
           · intro w9 h9; (try dsimp only at h9); go_simp <;> first | with_reducible rfl | rw [if_neg (by omega)]
           try simp only [Act.put, lay]
           refine tk 7 hHeld rfl (v := ?_) ?_ ?_
           rotate_left
           · intro w9 h9; (try dsimp only at h9); go_simp <;> first | with_reducible rfl | rw [if_neg (by omega)]
           try simp only [Act.put, lay]
           refine tk 14 hHeld rfl (v := ?_) ?_ ?_
           rotate_left
           · intro w9 h9; (try dsimp only at h9); go_simp <;> first | with_reducible rfl | rw [if_neg (by omega)]
           try simp only [Act.put, lay]
           refine tk 15 hHeld rfl (v := ?_) ?_ ?_
           rotate_left
           · intro w9 h9; (try dsimp only at h9); go_simp <;> first | with_reducible rfl | rw [if_neg (by omega)]
           try simp only [Act.put, lay]
           refine tk 21 hHeld rfl (v := ?_) ?_ ?_
           rotate_left
           · intro w9 h9; (try dsimp only at h9); go_simp <;> first | with_reducible rfl | rw [if_neg (by omega)]
           try simp only [Act.put, lay]
           refine tk 22 hHeld rfl (v := ?_) ?_ ?_
           rotate_left
           · intro w9 h9; (try dsimp only at h9); go_simp <;> first | with_reducible rfl | rw [if_neg (by omega)]
           try simp only [Act.put, lay]
           refine wpAnyH_ready (rs := [24]) (by kernel_rfl) (by simp) ?_
           refine AllReadyH.cons rfl (fun K hK => ?_) ?_
           · go_simp
             have HW4 : ∃ i4, Mk r (w3.alloc (.cells #[.string ⟨#[107]⟩, .string ⟨#[120]⟩, .string ⟨#[106]⟩] 9)) l i4 ∧ i4 ≤ i + 1 + c ∧ But r r w (w3.alloc (.cells #[.string ⟨#[107]⟩, .string ⟨#[120]⟩, .string ⟨#[106]⟩] 9)) := by obtain ⟨i4, h1, h2, h3⟩ := H3.out.2; exact ⟨i4, h1.below ((Below.refl _ _).alloc (Nat.le_refl _) _), h2, h3.more ((Below.refl _ _).alloc (Nat.le_refl _) _)⟩
             with_reducible refine Calls.mono (HEX.out (w3.alloc (.cells #[.string ⟨#[107]⟩, .string ⟨#[120]⟩, .string ⟨#[106]⟩] 9)) HW4 hHeld.1.1.2.2.1 hHeld.1.1.2.2.2) ?_
             rintro e w4 ⟨Z3, rfl, z3, H4, B4⟩
             clear HW4
             have m40 := bk B4.out ur hHeld.1.1.1
             have m41 := bk B4.out ur hHeld.1.1.2.1
             have m42 := bk B4.out pr hHeld.1.1.2.2.1
             have m43 := bk B4.out qr hHeld.1.1.2.2.2
             have m44 := bk B4.out g0r hHeld.1.2
             have m45 := bk B4.out w3r hHeld.2
             go_wp2_with fail
             refine hK.out _ _ ⟨⟨⟨m40, m41, m42, m43⟩, m44⟩, m45⟩ (fun h8 => ?_)
             clear hK K
             replace hHeld := h8
             clear h8
             try simp only [Act.put, lay]
             refine tk 25 hHeld rfl (v := ?_) ?_ ?_
             rotate_left
             · intro w9 h9; (try dsimp only at h9); go_simp <;> first | with_reducible rfl | rw [if_neg (by omega)]
             try simp only [Act.put, lay]
             refine tk 26 hHeld rfl (v := ?_) ?_ ?_
             rotate_left
             · intro w9 h9; (try dsimp only at h9); go_simp <;> first | with_reducible rfl | rw [if_neg (by omega)]
             try simp only [Act.put, lay]
             refine tk 27 hHeld rfl (v := ?_) ?_ ?_
             rotate_left
             · intro w9 h9; (try dsimp only at h9); go_simp <;> first | with_reducible rfl | rw [if_neg (by omega)]
             try simp only [Act.put, lay]
             refine wpAnyH_done (by kernel_rfl) ?_ _
             go_wp2_with fail
             go_ret
             first | exact HF.out _ _ _ _ _ H3.out H4.out (Below.refl _ _) | exact HF.out _ _ _ _ _ H3.out H4.out ((Below.refl _ _).alloc (Nat.le_refl _) _) | exact HF.out _ _ _ _ _ H3.out H4.out (((Below.refl _ _).alloc (Nat.le_refl _) _).alloc (by rw [alloc_size]; omega) _)
           exact AllReadyH.nil
         refine AllReadyH.cons rfl (fun K hK => ?_) ?_
         · go_simp
           have HW4 : ∃ i4, Mk r w3 l i4 ∧ i4 ≤ i + 1 + c ∧ But r r w w3 := by obtain ⟨i4, h1, h2, h3⟩ := H3.out.2; exact ⟨i4, h1.below (Below.refl _ _), h2, h3.more (Below.refl _ _)⟩
           with_reducible refine Calls.mono (HEX.out w3 HW4 hHeld.1.2.2.1 hHeld.1.2.2.2) ?_
           rintro e w4 ⟨Z3, rfl, z3, H4, B4⟩
           clear HW4
           have m40 := bk B4.out ur hHeld.1.1
           have m41 := bk B4.out ur hHeld.1.2.1
           have m42 := bk B4.out pr hHeld.1.2.2.1
           have m43 := bk B4.out qr hHeld.1.2.2.2
           have m44 := bk B4.out g0r hHeld.2
           go_wp2_with fail
           refine hK.out _ _ ⟨⟨m40, m41, m42, m43⟩, m44⟩ (fun h8 => ?_)
           clear hK K
           replace hHeld := h8
           clear h8
           try simp only [Act.put, lay]
           refine wpAnyH_ready (rs := [0]) (by kernel_rfl) (by simp) ?_
           refine AllReadyH.cons rfl (fun K hK => ?_) ?_
           · go_simp
             refine hK.out _ _ ⟨⟨ck hHeld.1.1, ck hHeld.1.2.1, ck hHeld.1.2.2.1, ck hHeld.1.2.2.2⟩, ck hHeld.2⟩ (fun h8 => ?_)
             clear hK K
             replace hHeld := h8
             clear h8
             try simp only [Act.put, lay]
             refine wpAnyH_stronger (S' := fun w9 => ((w9.cell? ⟨u, 2, none⟩ = some (.int .i64 xb) ∧ w9.cell? ⟨u, 3, none⟩ = some (.int .i64 xc) ∧ w9.cell? ⟨p, 0, none⟩ = some (.pointer (some ⟨r, 0, none⟩)) ∧ w9.cell? ⟨q, 0, none⟩ = some (.bool b)) ∧ w9.cell? ⟨X.heap.size, J2, none⟩ = some (.string OB2)) ∧ w9.cell? ⟨w4.heap.size, J1, none⟩ = some (.string OB1)) (fun _ h => h.1) _ _ _ _ ?_
             have hHeld3 : (((w4.alloc (.cells #[.string ⟨#[107]⟩, .string ⟨#[120]⟩, .string ⟨#[106]⟩] 9)).cell? ⟨u, 2, none⟩ = some (.int .i64 xb) ∧ (w4.alloc (.cells #[.string ⟨#[107]⟩, .string ⟨#[120]⟩, .string ⟨#[106]⟩] 9)).cell? ⟨u, 3, none⟩ = some (.int .i64 xc) ∧ (w4.alloc (.cells #[.string ⟨#[107]⟩, .string ⟨#[120]⟩, .string ⟨#[106]⟩] 9)).cell? ⟨p, 0, none⟩ = some (.pointer (some ⟨r, 0, none⟩)) ∧ (w4.alloc (.cells #[.string ⟨#[107]⟩, .string ⟨#[120]⟩, .string ⟨#[106]⟩] 9)).cell? ⟨q, 0, none⟩ = some (.bool b)) ∧ (w4.alloc (.cells #[.string ⟨#[107]⟩, .string ⟨#[120]⟩, .string ⟨#[106]⟩] 9)).cell? ⟨X.heap.size, J2, none⟩ = some (.string OB2)) ∧ (w4.alloc (.cells #[.string ⟨#[107]⟩, .string ⟨#[120]⟩, .string ⟨#[106]⟩] 9)).cell? ⟨w4.heap.size, J1, none⟩ = some (.string OB1) := ⟨hHeld, ((at_new w4 _ _ J1).trans e01)⟩
             clear hHeld
             have hHeld := hHeld3
             clear hHeld3
             refine tk 4 hHeld rfl (v := ?_) ?_ ?_
             rotate_left
             · intro w9 h9; (try dsimp only at h9); go_simp <;> first | with_reducible rfl | rw [if_neg (by omega)]
             try simp only [Act.put, lay]
             refine tk 5 hHeld rfl (v := ?_) ?_ ?_
             rotate_left
             · intro w9 h9; (try dsimp only at h9); go_simp <;> first | with_reducible rfl | rw [if_neg (by omega)]
             try simp only [Act.put, lay]
             refine tk 6 hHeld rfl (v := ?_) ?_ ?_
             rotate_left
             · intro w9 h9; (try dsimp only at h9); go_simp <;> first | with_reducible rfl | rw [if_neg (by omega)]
             try simp only [Act.put, lay]
             refine tk 7 hHeld rfl (v := ?_) ?_ ?_
             rotate_left
             · intro w9 h9; (try dsimp only at h9); go_simp <;> first | with_reducible rfl | rw [if_neg (by omega)]
             try simp only [Act.put, lay]
             refine tk 14 hHeld rfl (v := ?_) ?_ ?_
             rotate_left
             · intro w9 h9; (try dsimp only at h9); go_simp <;> first | with_reducible rfl | rw [if_neg (by omega)]
             try simp only [Act.put, lay]
             refine tk 15 hHeld rfl (v := ?_) ?_ ?_
             rotate_left
             · intro w9 h9; (try dsimp only at h9); go_simp <;> first | with_reducible rfl | rw [if_neg (by omega)]
             try simp only [Act.put, lay]
             refine tk 21 hHeld rfl (v := ?_) ?_ ?_
             rotate_left
             · intro w9 h9; (try dsimp only at h9); go_simp <;> first | with_reducible rfl | rw [if_neg (by omega)]
             try simp only [Act.put, lay]
             refine tk 22 hHeld rfl (v := ?_) ?_ ?_
             rotate_left
             · intro w9 h9; (try dsimp only at h9); go_simp <;> first | with_reducible rfl | rw [if_neg (by omega)]
             try simp only [Act.put, lay]
             refine tk 25 hHeld rfl (v := ?_) ?_ ?_
             rotate_left
             · intro w9 h9; (try dsimp only at h9); go_simp <;> first | with_reducible rfl | rw [if_neg (by omega)]
             try simp only [Act.put, lay]
             refine tk 26 hHeld rfl (v := ?_) ?_ ?_
             rotate_left
             · intro w9 h9; (try dsimp only at h9); go_simp <;> first | with_reducible rfl | rw [if_neg (by omega)]
             try simp only [Act.put, lay]
             refine tk 27 hHeld rfl (v := ?_) ?_ ?_
             rotate_left
             · intro w9 h9; (try dsimp only at h9); go_simp <;> first | with_reducible rfl | rw [if_neg (by omega)]
             try simp only [Act.put, lay]
             refine wpAnyH_done (by kernel_rfl) ?_ _
             go_wp2_with fail
             go_ret
             first | exact HF.out _ _ _ _ _ H3.out H4.out (Below.refl _ _) | exact HF.out _ _ _ _ _ H3.out H4.out ((Below.refl _ _).alloc (Nat.le_refl _) _) | exact HF.out _ _ _ _ _ H3.out H4.out (((Below.refl _ _).alloc (Nat.le_refl _) _).alloc (by rw [alloc_size]; omega) _)
           exact AllReadyH.nil
         exact AllReadyH.nil
       exact AllReadyH.nil
     exact AllReadyH.nil
   exact AllReadyH.nil
 exact AllReadyH.nil
end Go.Proofs.YtfbpkbochhfnhaaGreatDoor
