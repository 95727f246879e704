/-
  The maker's expressions: some whose order is drawn. / The maker's expressions: some whose order is drawn. / The maker's expressions: some whose order is drawn. / The maker's expressions: the last ones, and all of them.
-/
import Derived.Test.YtfbpkbochhfnhaaGreatDoorSrcX0
import Derived.Deep.RegionWith
import Derived.Test.YtfbpkbochhfnhaaGreatDoorSrcX1
namespace Go.Proofs.YtfbpkbochhfnhaaGreatDoor
open Go.ChangeShapes Go.WideShapes Go.ChangeAt Go.RowKit Go.Joins
set_option linter.unusedVariables false
set_option maxRecDepth 100000
set_option maxHeartbeats 8000000 in
theorem exp_cmp {d c : Nat} (hX : MkE d c) (hc : 1 ≤ c) (r : Nat) (l : List Rw) (i : Nat) (b : Bool) (w : World) (hM : Mk r w l i) (hi : i + 4 * c ≤ 1000000) (hd : d ≤ 10)
 (hk4 : ¬ pickR (nextR l i).kind 4 = 0) (hk : 4 ≤ pickR ((nextR l i).kind.tdiv 4) 16 ∧ pickR ((nextR l i).kind.tdiv 4) 16 < 6) :
 Calls Tryz.prog 15 #[.pointer (some ⟨r, 0, none⟩), .int .i64 ((d + 1 : Nat) : Int), .bool b] w (MkOut (GE (d + 1) b) (4 * c) r l i w) := by
 obtain ⟨D, hD⟩ : ∃ D : Int, D = ((d + 1 : Nat) : Int) := ⟨_, rfl⟩
 obtain ⟨x, hx⟩ : ∃ x, x = nextR l i := ⟨_, rfl⟩
 obtain ⟨W, hW⟩ : ∃ W, W = (((w.alloc (.cells #[.pointer (some ⟨r, 0, none⟩)] 40)).alloc (.cells #[.int .i64 D] 3)).alloc (.cells #[.bool b] 4)) := ⟨_, rfl⟩
 have HMW : Hid (Mk r W l i) := by rw [hW]; exact ((hM.alloc _).alloc _).alloc _
 have HBW : Hid (But r r w W) := by rw [hW]; exact (((But.refl _ _ _).alloc _).alloc _).alloc _
 have HBO : Hid (Bo r w.heap.size (w.heap.size + 1) (w.heap.size + 1 + 1) D b W) := by rw [hW]; exact Bo.new hM.lt _ _ _
 have HDR : Hid _ := draw_c r l i W HMW.out (by omega)
 have HOK : Hid (x.ok) := by rw [hx]; exact hM.ok i
 have d1 : ¬ D ≤ 0 := by omega
 have HWW : Hid (W = _) := hW
 rw [← hD]
 rw [← hx] at hk4 hk HDR
 have HIC : Hid (i + 4 * c ≤ 1000000 ∧ 1 ≤ c) := ⟨hi, hc⟩
 have HDD : Hid (D = _) := hD
 obtain ⟨xk, xa, xb, xc⟩ := x
 have HP4 : Hid (∀ W : World, _) := fun W => picked_x xk 4 W HOK.out.1 (by decide) (by decide)
 simp only at hk
 obtain ⟨t1, t2⟩ := wf_range (wf_tdiv HOK.out.1)
 obtain ⟨K, hK⟩ : ∃ K : Int, K = ((pickR (xk.tdiv 4) 16 : Nat) : Int) := ⟨_, rfl⟩
 have HPK : Hid (∀ W : World, Calls Tryz.prog 8 #[.int .i64 (xk.tdiv 4), .int .i64 16] W fun e w' => e = .returned (.int .i64 K) ∧ w' = W) := fun W => by
  have h := picked_x (xk.tdiv 4) 16 W (wf_tdiv HOK.out.1) (by decide) (by decide)
  rw [hK]
  exact h
 have kf0 : ¬ K < 4 := by first | omega | (simp only [beq_eq_false_iff_ne, ne_eq]; omega)
 have kf1 : K < 6 := by first | omega | (simp only [beq_eq_false_iff_ne, ne_eq]; omega)
 clear hK
 obtain ⟨K4, hK4⟩ : ∃ K : Int, K = ((pickR xk 4 : Nat) : Int) := ⟨_, rfl⟩
 have k4 : ¬ K4 = 0 := by simp only at hk4; omega
 have k4b : (K4 == 0) = false := by simpa using k4
 rw [← hK4] at HP4
 obtain ⟨J, hJ⟩ : ∃ J : Nat, J = pickR xb 6 := ⟨_, rfl⟩
 have hJ2 : J < 6 := by rw [hJ]; exact pickR_lt _ (by decide)
 have HPB : Hid (∀ W : World, Calls Tryz.prog 8 #[.int .i64 xb, .int .i64 6] W fun e w' => e = .returned (.int .i64 (J : Int)) ∧ w' = W) := fun W => by
  have h := picked_x xb 6 W HOK.out.2.2.1 (by decide) (by decide)
  rw [hJ]
  exact h
 obtain ⟨O, hO⟩ : ∃ O : List UInt8, O ∈ ([[60], [60, 61], [61, 61], [33, 61], [62], [62, 61]] : List (List UInt8)) ∧ ((#[.string ⟨#[60]⟩, .string ⟨#[60, 61]⟩, .string ⟨#[61, 61]⟩, .string ⟨#[33, 61]⟩, .string ⟨#[62]⟩, .string ⟨#[62, 61]⟩]) : Array Value)[J]? = some (.string (bs O)) := by
  have h : J = 0 ∨ J = 1 ∨ J = 2 ∨ J = 3 ∨ J = 4 ∨ J = 5 := by omega
  rcases h with rfl | rfl | rfl | rfl | rfl | rfl
  · exact ⟨[60], by simp, rfl⟩
  · exact ⟨[60, 61], by simp, rfl⟩
  · exact ⟨[61, 61], by simp, rfl⟩
  · exact ⟨[33, 61], by simp, rfl⟩
  · exact ⟨[62], by simp, rfl⟩
  · exact ⟨[62, 61], by simp, rfl⟩
 obtain ⟨OB, hOB⟩ : ∃ OB, OB = bs O := ⟨_, rfl⟩
 have o1 : OB.size ≤ 10 := by
  rw [hOB, bs_size]
  have h : ∀ v ∈ ([[60], [60, 61], [61, 61], [33, 61], [62], [62, 61]] : List (List UInt8)), v.length ≤ 10 := by decide
  exact h O hO.1
 have e0 := hO.2
 rw [← hOB] at e0
 have e1 : ∀ h : J < ([.string ⟨#[60]⟩, .string ⟨#[60, 61]⟩, .string ⟨#[61, 61]⟩, .string ⟨#[33, 61]⟩, .string ⟨#[62]⟩, .string ⟨#[62, 61]⟩] : List Value).length, ([.string ⟨#[60]⟩, .string ⟨#[60, 61]⟩, .string ⟨#[61, 61]⟩, .string ⟨#[33, 61]⟩, .string ⟨#[62]⟩, .string ⟨#[62, 61]⟩] : List Value)[J]'h = .string OB := fun h => by
  have h2 := e0
  rw [List.getElem?_toArray, List.getElem?_eq_getElem h] at h2
  exact Option.some.inj h2
 have HO : Hid (OB = bs O ∧ O ∈ ([[60], [60, 61], [61, 61], [33, 61], [62], [62, 61]] : List (List UInt8))) := ⟨hOB, hO.1⟩
 clear hJ hO hOB
 clear hk4 hk hx hi hc hW hM hD hK4
 go_enter Tryz.func15, Tryz.ntmps15
 go_wp2_with fail
 rw [← HWW.out]
 refine Calls.mono HDR.out ?_
 rintro e w1 ⟨rfl, hM1, hb1⟩
 obtain ⟨p, hp⟩ : ∃ p, p = w.heap.size := ⟨_, rfl⟩
 obtain ⟨q, hq⟩ : ∃ p, p = w.heap.size + 1 := ⟨_, rfl⟩
 obtain ⟨t, ht⟩ : ∃ p, p = w.heap.size + 1 + 1 := ⟨_, rfl⟩
 have HBO1 := HBO.out.but hb1
 rw [← ht, ← hq, ← hp] at HBO1 ⊢
 obtain ⟨b0, b1, b2, rp, rq, rt⟩ := HBO1
 obtain ⟨W2, hW2⟩ : ∃ W2, W2 = (w1.alloc (.cells #[.int .i64 xk, .int .i64 xa, .int .i64 xb, .int .i64 xc] 44)).alloc (.cells #[.string ⟨#[120]⟩, .string ⟨#[121]⟩, .string ⟨#[122]⟩, .string ⟨#[115, 101, 101, 100]⟩] 9) := ⟨_, rfl⟩
 have HM2 : Hid (Mk r W2 l (i + 1)) := by rw [hW2]; exact (hM1.alloc _).alloc _
 have HB2 : Hid (But r r w W2) := by rw [hW2]; exact ((HBW.out.trans hb1).alloc _).alloc _
 have HBO2 : Hid (Bo r p q t D b W2) := by rw [hW2]; exact (Bo.below ⟨b0, b1, b2, rp, rq, rt⟩ ((Below.refl _ _).alloc (Nat.le_refl _) _)).below ((Below.refl _ _).alloc (Nat.le_refl _) _)
 have HLO2 : Hid (Lo r w1.heap.size (w1.heap.size + 1) ⟨xk, xa, xb, xc⟩ W2) := by rw [hW2]; exact Lo.new ⟨xk, xa, xb, xc⟩ hM1.lt _ _
 obtain ⟨u, hu⟩ : ∃ p, p = w1.heap.size := ⟨_, rfl⟩
 obtain ⟨v, hv⟩ : ∃ p, p = w1.heap.size + 1 := ⟨_, rfl⟩
 have HUV : Hid (u = _ ∧ v = _) := ⟨hu, hv⟩
 have HWW2 : Hid (W2 = _) := hW2
 have l1 : q < w1.heap.size := World.block_lt_of_cell? w1 ⟨q, 0, none⟩ b1
 have n1 : ¬ q = w1.heap.size := by omega
 have m1 : ¬ q = w1.heap.size + 1 := by omega
 clear hM1 hb1 HDR HBO HBW HMW HWW hp hq ht hu hv hW2 b0 b2 rp rt
 unfold rwV
 go_wp2_with fail
 rw [← HWW2.out, ← HUV.out.2, ← HUV.out.1]
 rw [← HUV.out.2, ← HUV.out.1] at HLO2
 clear HWW2 HUV l1 n1 m1 b1 rq
 refine Calls.mono (HP4.out W2) ?_
 rintro e w2 ⟨rfl, hw2⟩
 rw [hw2]
 clear hw2 w2 HP4
 obtain ⟨x0, x1, x2, x3, v0, v1, v2, v3, ru, rv⟩ := HLO2.out
 obtain ⟨b0, b1, b2, rp, rq, rt⟩ := HBO2.out
 simp only at x0 x1 x2 x3
 go_wp2_with fail
 refine Calls.mono (HPK.out W2) ?_
 rintro e w2 ⟨rfl, hw2⟩
 rw [hw2]
 clear hw2 w2 HPK
 have j0 : (0 : Int) ≤ (J : Int) := by omega
 have j2 : (J : Int) < 6 := by omega
 have lu : u < W2.heap.size := World.block_lt_of_cell? W2 ⟨u, 2, none⟩ x2
 have nu : ¬ u = W2.heap.size := by omega
 have rW : ¬ r = W2.heap.size := by have := HM2.out.lt; omega
 have Wr : ¬ W2.heap.size = r := by have := HM2.out.lt; omega
 have ur : ¬ u = r := by omega
 have H2 : Hid (∀ Z : ByteArray, Z = bs [120] → StZ d c b r p q t D l i 0 w Z W2) := fun Z hZ => ⟨by rw [hZ, bs_size]; decide, ⟨_, hZ, GE.var (by decide)⟩, ⟨i + 1, HM2.out, by omega⟩, HB2.out, HBO2.out⟩
 obtain ⟨Wb, hWb⟩ : ∃ Wb, Wb = W2.alloc (.cells #[.string ⟨#[60]⟩, .string ⟨#[60, 61]⟩, .string ⟨#[61, 61]⟩, .string ⟨#[33, 61]⟩, .string ⟨#[62]⟩, .string ⟨#[62, 61]⟩] 9) := ⟨_, rfl⟩
 have sb : Wb.heap.size = W2.heap.size + 1 := by rw [hWb, alloc_size]
 have HCa : Hid (Calls Tryz.prog 34 #[.pointer (some ⟨p, 0, none⟩), .pointer (some ⟨q, 0, none⟩), .pointer (some ⟨t, 0, none⟩)] W2.drew fun e w3 => ∃ Z1, e = .returned (.string Z1) ∧ Hid (StZ d c b r p q t D l i 1 w Z1 w3) ∧ Z1.size ≤ 100000000 ∧ ¬ r = w3.heap.size ∧ ¬ w3.heap.size = r ∧ u < w3.heap.size ∧ ¬ u = w3.heap.size ∧ w3.cell? ⟨u, 2, none⟩ = some (.int .i64 xb)) := by
  refine (sub_k (n := 0) hX hd HDD.out HIC.out.1 HIC.out.2 (by decide) (bs [120]) W2.drew ((H2.out _ rfl).below (below_drew _))).mono ?_
  rintro e w3 ⟨Z1, rfl, H3, B3⟩
  have h1 : W2.heap.size ≤ w3.heap.size := B3.out.size
  have h2 := H3.out.lt
  exact ⟨Z1, rfl, H3, H3.out.small, by omega, by omega, by omega, by omega, (B3.out.cell (b := u) lu ur ur 2).trans x2⟩
 have HCb : Hid (Calls Tryz.prog 34 #[.pointer (some ⟨p, 0, none⟩), .pointer (some ⟨q, 0, none⟩), .pointer (some ⟨t, 0, none⟩)] Wb.drew fun e w3 => ∃ Z1, e = .returned (.string Z1) ∧ Hid (StZ d c b r p q t D l i 1 w Z1 w3) ∧ Z1.size ≤ 100000000 ∧ ¬ r = w3.heap.size ∧ ¬ w3.heap.size = r ∧ u < w3.heap.size ∧ ¬ u = w3.heap.size ∧ w3.cell? ⟨u, 2, none⟩ = some (.int .i64 xb) ∧ W2.heap.size < w3.heap.size ∧ w3.cell? ⟨W2.heap.size, J, none⟩ = some (.string OB)) := by
  refine (sub_k (n := 0) hX hd HDD.out HIC.out.1 HIC.out.2 (by decide) (bs [120]) Wb.drew (by rw [hWb]; exact ((H2.out _ rfl).alloc _).below (below_drew _))).mono ?_
  rintro e w3 ⟨Z1, rfl, H3, B3⟩
  have h1 : Wb.heap.size ≤ w3.heap.size := B3.out.size
  have h2 := H3.out.lt
  have h3 : Wb.cell? ⟨u, 2, none⟩ = some (.int .i64 xb) := by rw [hWb]; exact (cell_keep W2 _ u 2 lu).trans x2
  have h4 : Wb.cell? ⟨W2.heap.size, J, none⟩ = some (.string OB) := by rw [hWb]; exact (at_new W2 _ _ J).trans e0
  exact ⟨Z1, rfl, H3, H3.out.small, by omega, by omega, by omega, by omega, (B3.out.cell (b := u) (show u < Wb.heap.size by omega) ur ur 2).trans h3, by omega, (B3.out.cell (b := W2.heap.size) (show W2.heap.size < Wb.heap.size by omega) Wr Wr J).trans h4⟩
 rw [hWb] at HCb
 clear hWb sb Wb
 have HCn : Hid (∀ (Z : ByteArray) (W : World), StZ d c b r p q t D l i 1 w Z W → _) := fun Z W h => sub_k (n := 1) hX hd HDD.out HIC.out.1 HIC.out.2 (by decide) Z W h
 have HF : Hid (∀ Z1 w3 Z2 w4 w', StZ d c b r p q t D l i 1 w Z1 w3 → StZ d c b r p q t D l i 2 w Z2 w4 → Below w4.heap.size w4 w' → MkOut (GE (d + 1) b) (4 * c) r l i w (.returned (.string (⟨#[40]⟩ ++ Z1 ++ ⟨#[32]⟩ ++ OB ++ ⟨#[32]⟩ ++ Z2 ++ ⟨#[41]⟩))) w') := by
  intro Z1 w3 Z2 w4 w' h1 h2 hb
  obtain ⟨hO1, hO2⟩ := HO.out
  obtain ⟨s1, hz1, hg1⟩ := h1.text
  obtain ⟨s2, hz2, hg2⟩ := h2.text
  obtain ⟨j, hm, hj⟩ := (h2.below hb).maker
  refine ⟨[40] ++ s1 ++ [32] ++ O ++ [32] ++ s2 ++ [41], j, by rw [hO1, hz1, hz2]; simp only [← bs_app]; rfl, ?_, hm, by obtain ⟨h8, h9⟩ := HIC.out; omega, (h2.below hb).but⟩
  have h : ∀ v ∈ ([[60], [60, 61], [61, 61], [33, 61], [62], [62, 61]] : List (List UInt8)), ([32] ++ v ++ [32]) ∈ opsL := by decide
  have h' := GE.op (h O hO2) hg1 hg2
  simpa only [List.append_assoc] using h'
 clear HM2 HB2 HBO2 HLO2 b0 b1 b2 rp rq rt H2 v0 v1 v2 v3 rv hd hX HIC HOK HDD t1 t2 k4 x0 x1 x3
 go_wp2_with fail
 refine wp_region_held_drew (S := fun w9 => w9.cell? ⟨u, 2, none⟩ = some (.int .i64 xb)) (by kernel_rfl) x2 (fun hHeld => ?_)
 refine tk 0 hHeld rfl (v := ?_) ?_ ?_
 rotate_left
 · intro w9 h9; (try dsimp only at h9); go_simp <;> first | with_reducible rfl | rw [if_neg (by omega)]
 try simp only [Act.put, lay]
 refine tk 5 hHeld rfl (v := ?_) ?_ ?_
 rotate_left
 · intro w9 h9; (try dsimp only at h9); go_simp <;> first | with_reducible rfl | rw [if_neg (by omega)]
 try simp only [Act.put, lay]
 refine tk 6 hHeld rfl (v := ?_) ?_ ?_
 rotate_left
 · intro w9 h9; (try dsimp only at h9); go_simp <;> first | with_reducible rfl | rw [if_neg (by omega)]
 try simp only [Act.put, lay]
 refine tk 12 hHeld rfl (v := ?_) ?_ ?_
 rotate_left
 · intro w9 h9; (try dsimp only at h9); go_simp <;> first | with_reducible rfl | rw [if_neg (by omega)]
 try simp only [Act.put, lay]
 refine wpAnyH_ready (rs := [1, 4]) (by kernel_rfl) (by simp) ?_
 refine AllReadyH.cons rfl (fun K hK => ?_) ?_
 · go_simp
   refine Calls.mono HCa.out ?_
   rintro e w3 ⟨Z1, rfl, H3, z1, rw3, wr3, lu3, nu3, x23⟩
   go_wp2_with fail
   refine hK.out _ _ x23 (fun h8 => ?_)
   clear hK K
   replace hHeld := h8
   clear h8
   try simp only [Act.put, lay]
   refine tk 2 hHeld rfl (v := ?_) ?_ ?_
   rotate_left
   · intro w9 h9; (try dsimp only at h9); go_simp <;> first | with_reducible rfl | rw [if_neg (by omega)]
   try simp only [Act.put, lay]
   refine tk 3 hHeld rfl (v := ?_) ?_ ?_
   rotate_left
   · intro w9 h9; (try dsimp only at h9); go_simp <;> first | with_reducible rfl | rw [if_neg (by omega)]
   try simp only [Act.put, lay]
   refine wpAnyH_ready (rs := [4, 7]) (by kernel_rfl) (by simp) ?_
   refine AllReadyH.cons rfl (fun K hK => ?_) ?_
   · go_simp
     refine hK.out _ _ ((cell_keep _ _ u 2 (World.block_lt_of_cell? _ ⟨u, 2, none⟩ hHeld)).trans hHeld) (fun h8 => ?_)
     clear hK K
     replace hHeld := h8
     clear h8
     try simp only [Act.put, lay]
     refine wpAnyH_ready (rs := [7]) (by kernel_rfl) (by simp) ?_
     refine AllReadyH.cons rfl (fun K hK => ?_) ?_
     · go_simp
       refine Calls.mono (HPB.out _) ?_
       rintro e w2 ⟨rfl, hw2⟩
       rw [hw2]
       clear hw2 w2
       go_wp2_with fail
       refine hK.out _ _ hHeld (fun h8 => ?_)
       clear hK K
       replace hHeld := h8
       clear h8
       try simp only [Act.put, lay]
       refine tk 8 hHeld rfl (v := ?_) ?_ ?_
       rotate_left
       · intro w9 h9; (try dsimp only at h9); go_simp <;> first | with_reducible rfl | rw [if_neg (by omega)]
       try simp only [Act.put, lay]
       refine wpAnyH_ready (rs := [9, 13]) (by kernel_rfl) (by simp) ?_
       refine AllReadyH.cons rfl (fun K hK => ?_) ?_
       · go_simp
         refine hK.out _ _ hHeld (fun h8 => ?_)
         clear hK K
         replace hHeld := h8
         clear h8
         try simp only [Act.put, lay]
         refine tk 10 hHeld rfl (v := ?_) ?_ ?_
         rotate_left
         · intro w9 h9; (try dsimp only at h9); go_simp <;> first | with_reducible rfl | rw [if_neg (by omega)]
         try simp only [Act.put, lay]
         refine tk 11 hHeld rfl (v := ?_) ?_ ?_
         rotate_left
         · intro w9 h9; (try dsimp only at h9); go_simp <;> first | with_reducible rfl | rw [if_neg (by omega)]
         try simp only [Act.put, lay]
         refine wpAnyH_ready (rs := [13]) (by kernel_rfl) (by simp) ?_
         refine AllReadyH.cons rfl (fun K hK => ?_) ?_
         · go_simp
           refine Calls.mono (HCn.out Z1 (w3.alloc (.cells #[.string ⟨#[60]⟩, .string ⟨#[60, 61]⟩, .string ⟨#[61, 61]⟩, .string ⟨#[33, 61]⟩, .string ⟨#[62]⟩, .string ⟨#[62, 61]⟩] 9)) (H3.out.alloc _)) ?_
           rintro e w4 ⟨Z2, rfl, H4, B4⟩
           have z2 : Z2.size ≤ 100000000 := H4.out.small
           have e4 : w4.cell? ⟨w3.heap.size, J, none⟩ = some (.string OB) := ((B4.out.cell (b := w3.heap.size) (by rw [alloc_size]; omega) wr3 wr3 J).trans (at_new w3 _ _ J)).trans e0
           have x24 : w4.cell? ⟨u, 2, none⟩ = some (.int .i64 xb) := ((B4.out.cell (b := u) (by rw [alloc_size]; omega) ur ur 2).trans (cell_keep w3 _ u 2 lu3)).trans x23
           go_wp2_with fail
           refine hK.out _ _ x24 (fun h8 => ?_)
           clear hK K
           replace hHeld := h8
           clear h8
           try simp only [Act.put, lay]
           refine tk 14 hHeld rfl (v := ?_) ?_ ?_
           rotate_left
           · intro w9 h9; (try dsimp only at h9); go_simp <;> first | with_reducible rfl | rw [if_neg (by omega)]
           try simp only [Act.put, lay]
           refine tk 15 hHeld rfl (v := ?_) ?_ ?_
           rotate_left
           · intro w9 h9; (try dsimp only at h9); go_simp <;> first | with_reducible rfl | rw [if_neg (by omega)]
           try simp only [Act.put, lay]
           refine tk 16 hHeld rfl (v := ?_) ?_ ?_
           rotate_left
           · intro w9 h9; (try dsimp only at h9); go_simp <;> first | with_reducible rfl | rw [if_neg (by omega)]
           try simp only [Act.put, lay]
           refine wpAnyH_done (by kernel_rfl) ?_ _
           go_wp2_with fail
           go_ret
           first | exact HF.out _ _ _ _ _ H3.out H4.out (Below.refl _ _) | exact HF.out _ _ _ _ _ H3.out H4.out ((Below.refl _ _).alloc (Nat.le_refl _) _)
         exact AllReadyH.nil
       refine AllReadyH.cons rfl (fun K hK => ?_) ?_
       · go_simp
         refine Calls.mono (HCn.out Z1 (w3.alloc (.cells #[.string ⟨#[60]⟩, .string ⟨#[60, 61]⟩, .string ⟨#[61, 61]⟩, .string ⟨#[33, 61]⟩, .string ⟨#[62]⟩, .string ⟨#[62, 61]⟩] 9)) (H3.out.alloc _)) ?_
         rintro e w4 ⟨Z2, rfl, H4, B4⟩
         have z2 : Z2.size ≤ 100000000 := H4.out.small
         have e4 : w4.cell? ⟨w3.heap.size, J, none⟩ = some (.string OB) := ((B4.out.cell (b := w3.heap.size) (by rw [alloc_size]; omega) wr3 wr3 J).trans (at_new w3 _ _ J)).trans e0
         have x24 : w4.cell? ⟨u, 2, none⟩ = some (.int .i64 xb) := ((B4.out.cell (b := u) (by rw [alloc_size]; omega) ur ur 2).trans (cell_keep w3 _ u 2 lu3)).trans x23
         go_wp2_with fail
         refine hK.out _ _ x24 (fun h8 => ?_)
         clear hK K
         replace hHeld := h8
         clear h8
         try simp only [Act.put, lay]
         refine wpAnyH_ready (rs := [9]) (by kernel_rfl) (by simp) ?_
         refine AllReadyH.cons rfl (fun K hK => ?_) ?_
         · go_simp
           refine hK.out _ _ hHeld (fun h8 => ?_)
           clear hK K
           replace hHeld := h8
           clear h8
           try simp only [Act.put, lay]
           refine tk 10 hHeld rfl (v := ?_) ?_ ?_
           rotate_left
           · intro w9 h9; (try dsimp only at h9); go_simp <;> first | with_reducible rfl | rw [if_neg (by omega)]
           try simp only [Act.put, lay]
           refine tk 11 hHeld rfl (v := ?_) ?_ ?_
           rotate_left
           · intro w9 h9; (try dsimp only at h9); go_simp <;> first | with_reducible rfl | rw [if_neg (by omega)]
           try simp only [Act.put, lay]
           refine tk 14 hHeld rfl (v := ?_) ?_ ?_
           rotate_left
           · intro w9 h9; (try dsimp only at h9); go_simp <;> first | with_reducible rfl | rw [if_neg (by omega)]
           try simp only [Act.put, lay]
           refine tk 15 hHeld rfl (v := ?_) ?_ ?_
           rotate_left
           · intro w9 h9; (try dsimp only at h9); go_simp <;> first | with_reducible rfl | rw [if_neg (by omega)]
           try simp only [Act.put, lay]
           refine tk 16 hHeld rfl (v := ?_) ?_ ?_
           rotate_left
           · intro w9 h9; (try dsimp only at h9); go_simp <;> first | with_reducible rfl | rw [if_neg (by omega)]
           try simp only [Act.put, lay]
           refine wpAnyH_done (by kernel_rfl) ?_ _
           go_wp2_with fail
           go_ret
           first | exact HF.out _ _ _ _ _ H3.out H4.out (Below.refl _ _) | exact HF.out _ _ _ _ _ H3.out H4.out ((Below.refl _ _).alloc (Nat.le_refl _) _)
         exact AllReadyH.nil
       exact AllReadyH.nil
     exact AllReadyH.nil
   refine AllReadyH.cons rfl (fun K hK => ?_) ?_
   · go_simp
     refine Calls.mono (HPB.out _) ?_
     rintro e w2 ⟨rfl, hw2⟩
     rw [hw2]
     clear hw2 w2
     go_wp2_with fail
     refine hK.out _ _ hHeld (fun h8 => ?_)
     clear hK K
     replace hHeld := h8
     clear h8
     try simp only [Act.put, lay]
     refine wpAnyH_ready (rs := [4, 13]) (by kernel_rfl) (by simp) ?_
     refine AllReadyH.cons rfl (fun K hK => ?_) ?_
     · go_simp
       refine hK.out _ _ ((cell_keep _ _ u 2 (World.block_lt_of_cell? _ ⟨u, 2, none⟩ hHeld)).trans hHeld) (fun h8 => ?_)
       clear hK K
       replace hHeld := h8
       clear h8
       try simp only [Act.put, lay]
       refine tk 8 hHeld rfl (v := ?_) ?_ ?_
       rotate_left
       · intro w9 h9; (try dsimp only at h9); go_simp <;> first | with_reducible rfl | rw [if_neg (by omega)]
       try simp only [Act.put, lay]
       refine wpAnyH_ready (rs := [9, 13]) (by kernel_rfl) (by simp) ?_
       refine AllReadyH.cons rfl (fun K hK => ?_) ?_
       · go_simp
         refine hK.out _ _ hHeld (fun h8 => ?_)
         clear hK K
         replace hHeld := h8
         clear h8
         try simp only [Act.put, lay]
         refine tk 10 hHeld rfl (v := ?_) ?_ ?_
         rotate_left
         · intro w9 h9; (try dsimp only at h9); go_simp <;> first | with_reducible rfl | rw [if_neg (by omega)]
         try simp only [Act.put, lay]
         refine tk 11 hHeld rfl (v := ?_) ?_ ?_
         rotate_left
         · intro w9 h9; (try dsimp only at h9); go_simp <;> first | with_reducible rfl | rw [if_neg (by omega)]
         try simp only [Act.put, lay]
         refine wpAnyH_ready (rs := [13]) (by kernel_rfl) (by simp) ?_
         refine AllReadyH.cons rfl (fun K hK => ?_) ?_
         · go_simp
           refine Calls.mono (HCn.out Z1 (w3.alloc (.cells #[.string ⟨#[60]⟩, .string ⟨#[60, 61]⟩, .string ⟨#[61, 61]⟩, .string ⟨#[33, 61]⟩, .string ⟨#[62]⟩, .string ⟨#[62, 61]⟩] 9)) (H3.out.alloc _)) ?_
           rintro e w4 ⟨Z2, rfl, H4, B4⟩
           have z2 : Z2.size ≤ 100000000 := H4.out.small
           have e4 : w4.cell? ⟨w3.heap.size, J, none⟩ = some (.string OB) := ((B4.out.cell (b := w3.heap.size) (by rw [alloc_size]; omega) wr3 wr3 J).trans (at_new w3 _ _ J)).trans e0
           have x24 : w4.cell? ⟨u, 2, none⟩ = some (.int .i64 xb) := ((B4.out.cell (b := u) (by rw [alloc_size]; omega) ur ur 2).trans (cell_keep w3 _ u 2 lu3)).trans x23
           go_wp2_with fail
           refine hK.out _ _ x24 (fun h8 => ?_)
           clear hK K
           replace hHeld := h8
           clear h8
           try simp only [Act.put, lay]
           refine tk 14 hHeld rfl (v := ?_) ?_ ?_
           rotate_left
           · intro w9 h9; (try dsimp only at h9); go_simp <;> first | with_reducible rfl | rw [if_neg (by omega)]
           try simp only [Act.put, lay]
           refine tk 15 hHeld rfl (v := ?_) ?_ ?_
           rotate_left
           · intro w9 h9; (try dsimp only at h9); go_simp <;> first | with_reducible rfl | rw [if_neg (by omega)]
           try simp only [Act.put, lay]
           refine tk 16 hHeld rfl (v := ?_) ?_ ?_
           rotate_left
           · intro w9 h9; (try dsimp only at h9); go_simp <;> first | with_reducible rfl | rw [if_neg (by omega)]
           try simp only [Act.put, lay]
           refine wpAnyH_done (by kernel_rfl) ?_ _
           go_wp2_with fail
           go_ret
           first | exact HF.out _ _ _ _ _ H3.out H4.out (Below.refl _ _) | exact HF.out _ _ _ _ _ H3.out H4.out ((Below.refl _ _).alloc (Nat.le_refl _) _)
         exact AllReadyH.nil
       refine AllReadyH.cons rfl (fun K hK => ?_) ?_
       · go_simp
         refine Calls.mono (HCn.out Z1 (w3.alloc (.cells #[.string ⟨#[60]⟩, .string ⟨#[60, 61]⟩, .string ⟨#[61, 61]⟩, .string ⟨#[33, 61]⟩, .string ⟨#[62]⟩, .string ⟨#[62, 61]⟩] 9)) (H3.out.alloc _)) ?_
         rintro e w4 ⟨Z2, rfl, H4, B4⟩
         have z2 : Z2.size ≤ 100000000 := H4.out.small
         have e4 : w4.cell? ⟨w3.heap.size, J, none⟩ = some (.string OB) := ((B4.out.cell (b := w3.heap.size) (by rw [alloc_size]; omega) wr3 wr3 J).trans (at_new w3 _ _ J)).trans e0
         have x24 : w4.cell? ⟨u, 2, none⟩ = some (.int .i64 xb) := ((B4.out.cell (b := u) (by rw [alloc_size]; omega) ur ur 2).trans (cell_keep w3 _ u 2 lu3)).trans x23
         go_wp2_with fail
         refine hK.out _ _ x24 (fun h8 => ?_)
         clear hK K
         replace hHeld := h8
         clear h8
         try simp only [Act.put, lay]
         refine wpAnyH_ready (rs := [9]) (by kernel_rfl) (by simp) ?_
         refine AllReadyH.cons rfl (fun K hK => ?_) ?_
         · go_simp
           refine hK.out _ _ hHeld (fun h8 => ?_)
           clear hK K
           replace hHeld := h8
           clear h8
           try simp only [Act.put, lay]
           refine tk 10 hHeld rfl (v := ?_) ?_ ?_
           rotate_left
           · intro w9 h9; (try dsimp only at h9); go_simp <;> first | with_reducible rfl | rw [if_neg (by omega)]
           try simp only [Act.put, lay]
           refine tk 11 hHeld rfl (v := ?_) ?_ ?_
           rotate_left
           · intro w9 h9; (try dsimp only at h9); go_simp <;> first | with_reducible rfl | rw [if_neg (by omega)]
           try simp only [Act.put, lay]
           refine tk 14 hHeld rfl (v := ?_) ?_ ?_
           rotate_left
           · intro w9 h9; (try dsimp only at h9); go_simp <;> first | with_reducible rfl | rw [if_neg (by omega)]
           try simp only [Act.put, lay]
           refine tk 15 hHeld rfl (v := ?_) ?_ ?_
           rotate_left
           · intro w9 h9; (try dsimp only at h9); go_simp <;> first | with_reducible rfl | rw [if_neg (by omega)]
           try simp only [Act.put, lay]
           refine tk 16 hHeld rfl (v := ?_) ?_ ?_
           rotate_left
           · intro w9 h9; (try dsimp only at h9); go_simp <;> first | with_reducible rfl | rw [if_neg (by omega)]
           try simp only [Act.put, lay]
           refine wpAnyH_done (by kernel_rfl) ?_ _
           go_wp2_with fail
           go_ret
           first | exact HF.out _ _ _ _ _ H3.out H4.out (Below.refl _ _) | exact HF.out _ _ _ _ _ H3.out H4.out ((Below.refl _ _).alloc (Nat.le_refl _) _)
         exact AllReadyH.nil
       exact AllReadyH.nil
     refine AllReadyH.cons rfl (fun K hK => ?_) ?_
     · go_simp
       refine Calls.mono (HCn.out Z1 w3 H3.out) ?_
       rintro e w4 ⟨Z2, rfl, H4, B4⟩
       have z2 : Z2.size ≤ 100000000 := H4.out.small
       have x24 : w4.cell? ⟨u, 2, none⟩ = some (.int .i64 xb) := (B4.out.cell (b := u) lu3 ur ur 2).trans x23
       go_wp2_with fail
       refine hK.out _ _ x24 (fun h8 => ?_)
       clear hK K
       replace hHeld := h8
       clear h8
       try simp only [Act.put, lay]
       refine wpAnyH_ready (rs := [4]) (by kernel_rfl) (by simp) ?_
       refine AllReadyH.cons rfl (fun K hK => ?_) ?_
       · go_simp
         refine hK.out _ _ ((cell_keep _ _ u 2 (World.block_lt_of_cell? _ ⟨u, 2, none⟩ hHeld)).trans hHeld) (fun h8 => ?_)
         clear hK K
         replace hHeld := h8
         clear h8
         try simp only [Act.put, lay]
         refine tk 8 hHeld rfl (v := ?_) ?_ ?_
         rotate_left
         · intro w9 h9; (try dsimp only at h9); go_simp <;> first | with_reducible rfl | rw [if_neg (by omega)]
         try simp only [Act.put, lay]
         refine wpAnyH_ready (rs := [9]) (by kernel_rfl) (by simp) ?_
         refine AllReadyH.cons rfl (fun K hK => ?_) ?_
         · go_simp
           refine hK.out _ _ hHeld (fun h8 => ?_)
           clear hK K
           replace hHeld := h8
           clear h8
           try simp only [Act.put, lay]
           refine tk 10 hHeld rfl (v := ?_) ?_ ?_
           rotate_left
           · intro w9 h9; (try dsimp only at h9); go_simp <;> first | with_reducible rfl | rw [if_neg (by omega)]
           try simp only [Act.put, lay]
           refine tk 11 hHeld rfl (v := ?_) ?_ ?_
           rotate_left
           · intro w9 h9; (try dsimp only at h9); go_simp <;> first | with_reducible rfl | rw [if_neg (by omega)]
           try simp only [Act.put, lay]
           refine tk 14 hHeld rfl (v := ?_) ?_ ?_
           rotate_left
           · intro w9 h9; (try dsimp only at h9); go_simp <;> first | with_reducible rfl | rw [if_neg (by omega)]
           try simp only [Act.put, lay]
           refine tk 15 hHeld rfl (v := ?_) ?_ ?_
           rotate_left
           · intro w9 h9; (try dsimp only at h9); go_simp <;> first | with_reducible rfl | rw [if_neg (by omega)]
           try simp only [Act.put, lay]
           refine tk 16 hHeld rfl (v := ?_) ?_ ?_
           rotate_left
           · intro w9 h9; (try dsimp only at h9); go_simp <;> first | with_reducible rfl | rw [if_neg (by omega)]
           try simp only [Act.put, lay]
           refine wpAnyH_done (by kernel_rfl) ?_ _
           go_wp2_with fail
           go_ret
           first | exact HF.out _ _ _ _ _ H3.out H4.out (Below.refl _ _) | exact HF.out _ _ _ _ _ H3.out H4.out ((Below.refl _ _).alloc (Nat.le_refl _) _)
         exact AllReadyH.nil
       exact AllReadyH.nil
     exact AllReadyH.nil
   exact AllReadyH.nil
 refine AllReadyH.cons rfl (fun K hK => ?_) ?_
 · go_simp
   refine hK.out _ _ ((cell_keep _ _ u 2 (World.block_lt_of_cell? _ ⟨u, 2, none⟩ hHeld)).trans hHeld) (fun h8 => ?_)
   clear hK K
   replace hHeld := h8
   clear h8
   try simp only [Act.put, lay]
   refine wpAnyH_ready (rs := [1]) (by kernel_rfl) (by simp) ?_
   refine AllReadyH.cons rfl (fun K hK => ?_) ?_
   · go_simp
     refine Calls.mono HCb.out ?_
     rintro e w3 ⟨Z1, rfl, H3, z1, rw3, wr3, lu3, nu3, x23, g3, e3⟩
     go_wp2_with fail
     refine hK.out _ _ x23 (fun h8 => ?_)
     clear hK K
     replace hHeld := h8
     clear h8
     try simp only [Act.put, lay]
     refine tk 2 hHeld rfl (v := ?_) ?_ ?_
     rotate_left
     · intro w9 h9; (try dsimp only at h9); go_simp <;> first | with_reducible rfl | rw [if_neg (by omega)]
     try simp only [Act.put, lay]
     refine tk 3 hHeld rfl (v := ?_) ?_ ?_
     rotate_left
     · intro w9 h9; (try dsimp only at h9); go_simp <;> first | with_reducible rfl | rw [if_neg (by omega)]
     try simp only [Act.put, lay]
     refine wpAnyH_ready (rs := [7]) (by kernel_rfl) (by simp) ?_
     refine AllReadyH.cons rfl (fun K hK => ?_) ?_
     · go_simp
       refine Calls.mono (HPB.out _) ?_
       rintro e w2 ⟨rfl, hw2⟩
       rw [hw2]
       clear hw2 w2
       go_wp2_with fail
       refine hK.out _ _ hHeld (fun h8 => ?_)
       clear hK K
       replace hHeld := h8
       clear h8
       try simp only [Act.put, lay]
       refine tk 8 hHeld rfl (v := ?_) ?_ ?_
       rotate_left
       · intro w9 h9; (try dsimp only at h9); go_simp <;> first | with_reducible rfl | rw [if_neg (by omega)]
       try simp only [Act.put, lay]
       refine wpAnyH_ready (rs := [9, 13]) (by kernel_rfl) (by simp) ?_
       refine AllReadyH.cons rfl (fun K hK => ?_) ?_
       · go_simp
         refine hK.out _ _ hHeld (fun h8 => ?_)
         clear hK K
         replace hHeld := h8
         clear h8
         try simp only [Act.put, lay]
         refine tk 10 hHeld rfl (v := ?_) ?_ ?_
         rotate_left
         · intro w9 h9; (try dsimp only at h9); go_simp <;> first | with_reducible rfl | rw [if_neg (by omega)]
         try simp only [Act.put, lay]
         refine tk 11 hHeld rfl (v := ?_) ?_ ?_
         rotate_left
         · intro w9 h9; (try dsimp only at h9); go_simp <;> first | with_reducible rfl | rw [if_neg (by omega)]
         try simp only [Act.put, lay]
         refine wpAnyH_ready (rs := [13]) (by kernel_rfl) (by simp) ?_
         refine AllReadyH.cons rfl (fun K hK => ?_) ?_
         · go_simp
           refine Calls.mono (HCn.out Z1 w3 H3.out) ?_
           rintro e w4 ⟨Z2, rfl, H4, B4⟩
           have z2 : Z2.size ≤ 100000000 := H4.out.small
           have x24 : w4.cell? ⟨u, 2, none⟩ = some (.int .i64 xb) := (B4.out.cell (b := u) lu3 ur ur 2).trans x23
           have e4 : w4.cell? ⟨W2.heap.size, J, none⟩ = some (.string OB) := (B4.out.cell (b := W2.heap.size) g3 Wr Wr J).trans e3
           go_wp2_with fail
           refine hK.out _ _ x24 (fun h8 => ?_)
           clear hK K
           replace hHeld := h8
           clear h8
           try simp only [Act.put, lay]
           refine tk 14 hHeld rfl (v := ?_) ?_ ?_
           rotate_left
           · intro w9 h9; (try dsimp only at h9); go_simp <;> first | with_reducible rfl | rw [if_neg (by omega)]
           try simp only [Act.put, lay]
           refine tk 15 hHeld rfl (v := ?_) ?_ ?_
           rotate_left
           · intro w9 h9; (try dsimp only at h9); go_simp <;> first | with_reducible rfl | rw [if_neg (by omega)]
           try simp only [Act.put, lay]
           refine tk 16 hHeld rfl (v := ?_) ?_ ?_
           rotate_left
           · intro w9 h9; (try dsimp only at h9); go_simp <;> first | with_reducible rfl | rw [if_neg (by omega)]
           try simp only [Act.put, lay]
           refine wpAnyH_done (by kernel_rfl) ?_ _
           go_wp2_with fail
           go_ret
           first | exact HF.out _ _ _ _ _ H3.out H4.out (Below.refl _ _) | exact HF.out _ _ _ _ _ H3.out H4.out ((Below.refl _ _).alloc (Nat.le_refl _) _)
         exact AllReadyH.nil
       refine AllReadyH.cons rfl (fun K hK => ?_) ?_
       · go_simp
         refine Calls.mono (HCn.out Z1 w3 H3.out) ?_
         rintro e w4 ⟨Z2, rfl, H4, B4⟩
         have z2 : Z2.size ≤ 100000000 := H4.out.small
         have x24 : w4.cell? ⟨u, 2, none⟩ = some (.int .i64 xb) := (B4.out.cell (b := u) lu3 ur ur 2).trans x23
         have e4 : w4.cell? ⟨W2.heap.size, J, none⟩ = some (.string OB) := (B4.out.cell (b := W2.heap.size) g3 Wr Wr J).trans e3
         go_wp2_with fail
         refine hK.out _ _ x24 (fun h8 => ?_)
         clear hK K
         replace hHeld := h8
         clear h8
         try simp only [Act.put, lay]
         refine wpAnyH_ready (rs := [9]) (by kernel_rfl) (by simp) ?_
         refine AllReadyH.cons rfl (fun K hK => ?_) ?_
         · go_simp
           refine hK.out _ _ hHeld (fun h8 => ?_)
           clear hK K
           replace hHeld := h8
           clear h8
           try simp only [Act.put, lay]
           refine tk 10 hHeld rfl (v := ?_) ?_ ?_
           rotate_left
           · intro w9 h9; (try dsimp only at h9); go_simp <;> first | with_reducible rfl | rw [if_neg (by omega)]
           try simp only [Act.put, lay]
           refine tk 11 hHeld rfl (v := ?_) ?_ ?_
           rotate_left
           · intro w9 h9; (try dsimp only at h9); go_simp <;> first | with_reducible rfl | rw [if_neg (by omega)]
           try simp only [Act.put, lay]
           refine tk 14 hHeld rfl (v := ?_) ?_ ?_
           rotate_left
           · intro w9 h9; (try dsimp only at h9); go_simp <;> first | with_reducible rfl | rw [if_neg (by omega)]
           try simp only [Act.put, lay]
           refine tk 15 hHeld rfl (v := ?_) ?_ ?_
           rotate_left
           · intro w9 h9; (try dsimp only at h9); go_simp <;> first | with_reducible rfl | rw [if_neg (by omega)]
           try simp only [Act.put, lay]
           refine tk 16 hHeld rfl (v := ?_) ?_ ?_
           rotate_left
           · intro w9 h9; (try dsimp only at h9); go_simp <;> first | with_reducible rfl | rw [if_neg (by omega)]
           try simp only [Act.put, lay]
           refine wpAnyH_done (by kernel_rfl) ?_ _
           go_wp2_with fail
           go_ret
           first | exact HF.out _ _ _ _ _ H3.out H4.out (Below.refl _ _) | exact HF.out _ _ _ _ _ H3.out H4.out ((Below.refl _ _).alloc (Nat.le_refl _) _)
         exact AllReadyH.nil
       exact AllReadyH.nil
     exact AllReadyH.nil
   exact AllReadyH.nil
 exact AllReadyH.nil
end Go.Proofs.YtfbpkbochhfnhaaGreatDoor
namespace Go.Proofs.YtfbpkbochhfnhaaGreatDoor
open Go.ChangeShapes Go.WideShapes Go.ChangeAt Go.RowKit Go.Joins
set_option linter.unusedVariables false
set_option maxRecDepth 100000
set_option maxHeartbeats 8000000 in
theorem exp_log {d c : Nat} (hX : MkE d c) (hc : 1 ≤ c) (r : Nat) (l : List Rw) (i : Nat) (b : Bool) (w : World) (hM : Mk r w l i) (hi : i + 4 * c ≤ 1000000) (hd : d ≤ 10)
 (hk4 : ¬ pickR (nextR l i).kind 4 = 0) (hk : pickR ((nextR l i).kind.tdiv 4) 16 = 6) :
 Calls Tryz.prog 15 #[.pointer (some ⟨r, 0, none⟩), .int .i64 ((d + 1 : Nat) : Int), .bool b] w (MkOut (GE (d + 1) b) (4 * c) r l i w) := by
 obtain ⟨D, hD⟩ : ∃ D : Int, D = ((d + 1 : Nat) : Int) := ⟨_, rfl⟩
 obtain ⟨x, hx⟩ : ∃ x, x = nextR l i := ⟨_, rfl⟩
 obtain ⟨W, hW⟩ : ∃ W, W = (((w.alloc (.cells #[.pointer (some ⟨r, 0, none⟩)] 40)).alloc (.cells #[.int .i64 D] 3)).alloc (.cells #[.bool b] 4)) := ⟨_, rfl⟩
 have HMW : Hid (Mk r W l i) := by rw [hW]; exact ((hM.alloc _).alloc _).alloc _
 have HBW : Hid (But r r w W) := by rw [hW]; exact (((But.refl _ _ _).alloc _).alloc _).alloc _
 have HBO : Hid (Bo r w.heap.size (w.heap.size + 1) (w.heap.size + 1 + 1) D b W) := by rw [hW]; exact Bo.new hM.lt _ _ _
 have HDR : Hid _ := draw_c r l i W HMW.out (by omega)
 have HOK : Hid (x.ok) := by rw [hx]; exact hM.ok i
 have d1 : ¬ D ≤ 0 := by omega
 have HWW : Hid (W = _) := hW
 rw [← hD]
 rw [← hx] at hk4 hk HDR
 have HIC : Hid (i + 4 * c ≤ 1000000 ∧ 1 ≤ c) := ⟨hi, hc⟩
 have HDD : Hid (D = _) := hD
 obtain ⟨xk, xa, xb, xc⟩ := x
 have HP4 : Hid (∀ W : World, _) := fun W => picked_x xk 4 W HOK.out.1 (by decide) (by decide)
 simp only at hk
 obtain ⟨t1, t2⟩ := wf_range (wf_tdiv HOK.out.1)
 have HPK : Hid (∀ W : World, Calls Tryz.prog 8 #[.int .i64 (xk.tdiv 4), .int .i64 16] W fun e w' => e = .returned (.int .i64 6) ∧ w' = W) := fun W => by
  have h := picked_x (xk.tdiv 4) 16 W (wf_tdiv HOK.out.1) (by decide) (by decide)
  rw [hk] at h
  exact h
 obtain ⟨K4, hK4⟩ : ∃ K : Int, K = ((pickR xk 4 : Nat) : Int) := ⟨_, rfl⟩
 have k4 : ¬ K4 = 0 := by simp only at hk4; omega
 have k4b : (K4 == 0) = false := by simpa using k4
 rw [← hK4] at HP4
 obtain ⟨J, hJ⟩ : ∃ J : Nat, J = pickR xb 2 := ⟨_, rfl⟩
 have hJ2 : J < 2 := by rw [hJ]; exact pickR_lt _ (by decide)
 have HPB : Hid (∀ W : World, Calls Tryz.prog 8 #[.int .i64 xb, .int .i64 2] W fun e w' => e = .returned (.int .i64 (J : Int)) ∧ w' = W) := fun W => by
  have h := picked_x xb 2 W HOK.out.2.2.1 (by decide) (by decide)
  rw [hJ]
  exact h
 obtain ⟨O, hO⟩ : ∃ O : List UInt8, O ∈ ([[32, 38, 38, 32], [32, 124, 124, 32]] : List (List UInt8)) ∧ ((#[.string ⟨#[32, 38, 38, 32]⟩, .string ⟨#[32, 124, 124, 32]⟩]) : Array Value)[J]? = some (.string (bs O)) := by
  have h : J = 0 ∨ J = 1 := by omega
  rcases h with rfl | rfl
  · exact ⟨[32, 38, 38, 32], by simp, rfl⟩
  · exact ⟨[32, 124, 124, 32], by simp, rfl⟩
 obtain ⟨OB, hOB⟩ : ∃ OB, OB = bs O := ⟨_, rfl⟩
 have o1 : OB.size ≤ 10 := by
  rw [hOB, bs_size]
  have h : ∀ v ∈ ([[32, 38, 38, 32], [32, 124, 124, 32]] : List (List UInt8)), v.length ≤ 10 := by decide
  exact h O hO.1
 have e0 := hO.2
 rw [← hOB] at e0
 have e1 : ∀ h : J < ([.string ⟨#[32, 38, 38, 32]⟩, .string ⟨#[32, 124, 124, 32]⟩] : List Value).length, ([.string ⟨#[32, 38, 38, 32]⟩, .string ⟨#[32, 124, 124, 32]⟩] : List Value)[J]'h = .string OB := fun h => by
  have h2 := e0
  rw [List.getElem?_toArray, List.getElem?_eq_getElem h] at h2
  exact Option.some.inj h2
 have HO : Hid (OB = bs O ∧ O ∈ ([[32, 38, 38, 32], [32, 124, 124, 32]] : List (List UInt8))) := ⟨hOB, hO.1⟩
 clear hJ hO hOB
 clear hk4 hk hx hi hc hW hM hD hK4
 go_enter Tryz.func15, Tryz.ntmps15
 go_wp2_with fail
 rw [← HWW.out]
 refine Calls.mono HDR.out ?_
 rintro e w1 ⟨rfl, hM1, hb1⟩
 obtain ⟨p, hp⟩ : ∃ p, p = w.heap.size := ⟨_, rfl⟩
 obtain ⟨q, hq⟩ : ∃ p, p = w.heap.size + 1 := ⟨_, rfl⟩
 obtain ⟨t, ht⟩ : ∃ p, p = w.heap.size + 1 + 1 := ⟨_, rfl⟩
 have HBO1 := HBO.out.but hb1
 rw [← ht, ← hq, ← hp] at HBO1 ⊢
 obtain ⟨b0, b1, b2, rp, rq, rt⟩ := HBO1
 obtain ⟨W2, hW2⟩ : ∃ W2, W2 = (w1.alloc (.cells #[.int .i64 xk, .int .i64 xa, .int .i64 xb, .int .i64 xc] 44)).alloc (.cells #[.string ⟨#[120]⟩, .string ⟨#[121]⟩, .string ⟨#[122]⟩, .string ⟨#[115, 101, 101, 100]⟩] 9) := ⟨_, rfl⟩
 have HM2 : Hid (Mk r W2 l (i + 1)) := by rw [hW2]; exact (hM1.alloc _).alloc _
 have HB2 : Hid (But r r w W2) := by rw [hW2]; exact ((HBW.out.trans hb1).alloc _).alloc _
 have HBO2 : Hid (Bo r p q t D b W2) := by rw [hW2]; exact (Bo.below ⟨b0, b1, b2, rp, rq, rt⟩ ((Below.refl _ _).alloc (Nat.le_refl _) _)).below ((Below.refl _ _).alloc (Nat.le_refl _) _)
 have HLO2 : Hid (Lo r w1.heap.size (w1.heap.size + 1) ⟨xk, xa, xb, xc⟩ W2) := by rw [hW2]; exact Lo.new ⟨xk, xa, xb, xc⟩ hM1.lt _ _
 obtain ⟨u, hu⟩ : ∃ p, p = w1.heap.size := ⟨_, rfl⟩
 obtain ⟨v, hv⟩ : ∃ p, p = w1.heap.size + 1 := ⟨_, rfl⟩
 have HUV : Hid (u = _ ∧ v = _) := ⟨hu, hv⟩
 have HWW2 : Hid (W2 = _) := hW2
 have l1 : q < w1.heap.size := World.block_lt_of_cell? w1 ⟨q, 0, none⟩ b1
 have n1 : ¬ q = w1.heap.size := by omega
 have m1 : ¬ q = w1.heap.size + 1 := by omega
 clear hM1 hb1 HDR HBO HBW HMW HWW hp hq ht hu hv hW2 b0 b2 rp rt
 unfold rwV
 go_wp2_with fail
 rw [← HWW2.out, ← HUV.out.2, ← HUV.out.1]
 rw [← HUV.out.2, ← HUV.out.1] at HLO2
 clear HWW2 HUV l1 n1 m1 b1 rq
 refine Calls.mono (HP4.out W2) ?_
 rintro e w2 ⟨rfl, hw2⟩
 rw [hw2]
 clear hw2 w2 HP4
 obtain ⟨x0, x1, x2, x3, v0, v1, v2, v3, ru, rv⟩ := HLO2.out
 obtain ⟨b0, b1, b2, rp, rq, rt⟩ := HBO2.out
 simp only at x0 x1 x2 x3
 go_wp2_with fail
 refine Calls.mono (HPK.out W2) ?_
 rintro e w2 ⟨rfl, hw2⟩
 rw [hw2]
 clear hw2 w2 HPK
 have j0 : (0 : Int) ≤ (J : Int) := by omega
 have j2 : (J : Int) < 2 := by omega
 have lu : u < W2.heap.size := World.block_lt_of_cell? W2 ⟨u, 2, none⟩ x2
 have nu : ¬ u = W2.heap.size := by omega
 have rW : ¬ r = W2.heap.size := by have := HM2.out.lt; omega
 have Wr : ¬ W2.heap.size = r := by have := HM2.out.lt; omega
 have ur : ¬ u = r := by omega
 have H2 : Hid (∀ Z : ByteArray, Z = bs [120] → StZ d c b r p q t D l i 0 w Z W2) := fun Z hZ => ⟨by rw [hZ, bs_size]; decide, ⟨_, hZ, GE.var (by decide)⟩, ⟨i + 1, HM2.out, by omega⟩, HB2.out, HBO2.out⟩
 obtain ⟨Wb, hWb⟩ : ∃ Wb, Wb = W2.alloc (.cells #[.string ⟨#[32, 38, 38, 32]⟩, .string ⟨#[32, 124, 124, 32]⟩] 9) := ⟨_, rfl⟩
 have sb : Wb.heap.size = W2.heap.size + 1 := by rw [hWb, alloc_size]
 have HCa : Hid (Calls Tryz.prog 34 #[.pointer (some ⟨p, 0, none⟩), .pointer (some ⟨q, 0, none⟩), .pointer (some ⟨t, 0, none⟩)] W2.drew fun e w3 => ∃ Z1, e = .returned (.string Z1) ∧ Hid (StZ d c b r p q t D l i 1 w Z1 w3) ∧ Z1.size ≤ 100000000 ∧ ¬ r = w3.heap.size ∧ ¬ w3.heap.size = r ∧ u < w3.heap.size ∧ ¬ u = w3.heap.size ∧ w3.cell? ⟨u, 2, none⟩ = some (.int .i64 xb)) := by
  refine (sub_k (n := 0) hX hd HDD.out HIC.out.1 HIC.out.2 (by decide) (bs [120]) W2.drew ((H2.out _ rfl).below (below_drew _))).mono ?_
  rintro e w3 ⟨Z1, rfl, H3, B3⟩
  have h1 : W2.heap.size ≤ w3.heap.size := B3.out.size
  have h2 := H3.out.lt
  exact ⟨Z1, rfl, H3, H3.out.small, by omega, by omega, by omega, by omega, (B3.out.cell (b := u) lu ur ur 2).trans x2⟩
 have HCb : Hid (Calls Tryz.prog 34 #[.pointer (some ⟨p, 0, none⟩), .pointer (some ⟨q, 0, none⟩), .pointer (some ⟨t, 0, none⟩)] Wb.drew fun e w3 => ∃ Z1, e = .returned (.string Z1) ∧ Hid (StZ d c b r p q t D l i 1 w Z1 w3) ∧ Z1.size ≤ 100000000 ∧ ¬ r = w3.heap.size ∧ ¬ w3.heap.size = r ∧ u < w3.heap.size ∧ ¬ u = w3.heap.size ∧ w3.cell? ⟨u, 2, none⟩ = some (.int .i64 xb) ∧ W2.heap.size < w3.heap.size ∧ w3.cell? ⟨W2.heap.size, J, none⟩ = some (.string OB)) := by
  refine (sub_k (n := 0) hX hd HDD.out HIC.out.1 HIC.out.2 (by decide) (bs [120]) Wb.drew (by rw [hWb]; exact ((H2.out _ rfl).alloc _).below (below_drew _))).mono ?_
  rintro e w3 ⟨Z1, rfl, H3, B3⟩
  have h1 : Wb.heap.size ≤ w3.heap.size := B3.out.size
  have h2 := H3.out.lt
  have h3 : Wb.cell? ⟨u, 2, none⟩ = some (.int .i64 xb) := by rw [hWb]; exact (cell_keep W2 _ u 2 lu).trans x2
  have h4 : Wb.cell? ⟨W2.heap.size, J, none⟩ = some (.string OB) := by rw [hWb]; exact (at_new W2 _ _ J).trans e0
  exact ⟨Z1, rfl, H3, H3.out.small, by omega, by omega, by omega, by omega, (B3.out.cell (b := u) (show u < Wb.heap.size by omega) ur ur 2).trans h3, by omega, (B3.out.cell (b := W2.heap.size) (show W2.heap.size < Wb.heap.size by omega) Wr Wr J).trans h4⟩
 rw [hWb] at HCb
 clear hWb sb Wb
 have HCn : Hid (∀ (Z : ByteArray) (W : World), StZ d c b r p q t D l i 1 w Z W → _) := fun Z W h => sub_k (n := 1) hX hd HDD.out HIC.out.1 HIC.out.2 (by decide) Z W h
 have HF : Hid (∀ Z1 w3 Z2 w4 w', StZ d c b r p q t D l i 1 w Z1 w3 → StZ d c b r p q t D l i 2 w Z2 w4 → Below w4.heap.size w4 w' → MkOut (GE (d + 1) b) (4 * c) r l i w (.returned (.string (⟨#[40]⟩ ++ Z1 ++ OB ++ Z2 ++ ⟨#[41]⟩))) w') := by
  intro Z1 w3 Z2 w4 w' h1 h2 hb
  obtain ⟨hO1, hO2⟩ := HO.out
  obtain ⟨s1, hz1, hg1⟩ := h1.text
  obtain ⟨s2, hz2, hg2⟩ := h2.text
  obtain ⟨j, hm, hj⟩ := (h2.below hb).maker
  refine ⟨[40] ++ s1 ++ O ++ s2 ++ [41], j, by rw [hO1, hz1, hz2]; simp only [← bs_app]; rfl, ?_, hm, by obtain ⟨h8, h9⟩ := HIC.out; omega, (h2.below hb).but⟩
  have h : ∀ v ∈ ([[32, 38, 38, 32], [32, 124, 124, 32]] : List (List UInt8)), v ∈ opsL := by decide
  have h' := GE.op (h O hO2) hg1 hg2
  simpa only [List.append_assoc] using h'
 clear HM2 HB2 HBO2 HLO2 b0 b1 b2 rp rq rt H2 v0 v1 v2 v3 rv hd hX HIC HOK HDD t1 t2 k4 x0 x1 x3
 go_wp2_with fail
 refine wp_region_held_drew (S := fun w9 => w9.cell? ⟨u, 2, none⟩ = some (.int .i64 xb)) (by kernel_rfl) x2 (fun hHeld => ?_)
 refine tk 0 hHeld rfl (v := ?_) ?_ ?_
 rotate_left
 · intro w9 h9; (try dsimp only at h9); go_simp <;> first | with_reducible rfl | rw [if_neg (by omega)]
 try simp only [Act.put, lay]
 refine tk 4 hHeld rfl (v := ?_) ?_ ?_
 rotate_left
 · intro w9 h9; (try dsimp only at h9); go_simp <;> first | with_reducible rfl | rw [if_neg (by omega)]
 try simp only [Act.put, lay]
 refine tk 5 hHeld rfl (v := ?_) ?_ ?_
 rotate_left
 · intro w9 h9; (try dsimp only at h9); go_simp <;> first | with_reducible rfl | rw [if_neg (by omega)]
 try simp only [Act.put, lay]
 refine tk 10 hHeld rfl (v := ?_) ?_ ?_
 rotate_left
 · intro w9 h9; (try dsimp only at h9); go_simp <;> first | with_reducible rfl | rw [if_neg (by omega)]
 try simp only [Act.put, lay]
 refine wpAnyH_ready (rs := [1, 3]) (by kernel_rfl) (by simp) ?_
 refine AllReadyH.cons rfl (fun K hK => ?_) ?_
 · go_simp
   refine Calls.mono HCa.out ?_
   rintro e w3 ⟨Z1, rfl, H3, z1, rw3, wr3, lu3, nu3, x23⟩
   go_wp2_with fail
   refine hK.out _ _ x23 (fun h8 => ?_)
   clear hK K
   replace hHeld := h8
   clear h8
   try simp only [Act.put, lay]
   refine tk 2 hHeld rfl (v := ?_) ?_ ?_
   rotate_left
   · intro w9 h9; (try dsimp only at h9); go_simp <;> first | with_reducible rfl | rw [if_neg (by omega)]
   try simp only [Act.put, lay]
   refine wpAnyH_ready (rs := [3, 6]) (by kernel_rfl) (by simp) ?_
   refine AllReadyH.cons rfl (fun K hK => ?_) ?_
   · go_simp
     refine hK.out _ _ ((cell_keep _ _ u 2 (World.block_lt_of_cell? _ ⟨u, 2, none⟩ hHeld)).trans hHeld) (fun h8 => ?_)
     clear hK K
     replace hHeld := h8
     clear h8
     try simp only [Act.put, lay]
     refine wpAnyH_ready (rs := [6]) (by kernel_rfl) (by simp) ?_
     refine AllReadyH.cons rfl (fun K hK => ?_) ?_
     · go_simp
       refine Calls.mono (HPB.out _) ?_
       rintro e w2 ⟨rfl, hw2⟩
       rw [hw2]
       clear hw2 w2
       go_wp2_with fail
       refine hK.out _ _ hHeld (fun h8 => ?_)
       clear hK K
       replace hHeld := h8
       clear h8
       try simp only [Act.put, lay]
       refine tk 7 hHeld rfl (v := ?_) ?_ ?_
       rotate_left
       · intro w9 h9; (try dsimp only at h9); go_simp <;> first | with_reducible rfl | rw [if_neg (by omega)]
       try simp only [Act.put, lay]
       refine wpAnyH_ready (rs := [8, 11]) (by kernel_rfl) (by simp) ?_
       refine AllReadyH.cons rfl (fun K hK => ?_) ?_
       · go_simp
         refine hK.out _ _ hHeld (fun h8 => ?_)
         clear hK K
         replace hHeld := h8
         clear h8
         try simp only [Act.put, lay]
         refine tk 9 hHeld rfl (v := ?_) ?_ ?_
         rotate_left
         · intro w9 h9; (try dsimp only at h9); go_simp <;> first | with_reducible rfl | rw [if_neg (by omega)]
         try simp only [Act.put, lay]
         refine wpAnyH_ready (rs := [11]) (by kernel_rfl) (by simp) ?_
         refine AllReadyH.cons rfl (fun K hK => ?_) ?_
         · go_simp
           refine Calls.mono (HCn.out Z1 (w3.alloc (.cells #[.string ⟨#[32, 38, 38, 32]⟩, .string ⟨#[32, 124, 124, 32]⟩] 9)) (H3.out.alloc _)) ?_
           rintro e w4 ⟨Z2, rfl, H4, B4⟩
           have z2 : Z2.size ≤ 100000000 := H4.out.small
           have e4 : w4.cell? ⟨w3.heap.size, J, none⟩ = some (.string OB) := ((B4.out.cell (b := w3.heap.size) (by rw [alloc_size]; omega) wr3 wr3 J).trans (at_new w3 _ _ J)).trans e0
           have x24 : w4.cell? ⟨u, 2, none⟩ = some (.int .i64 xb) := ((B4.out.cell (b := u) (by rw [alloc_size]; omega) ur ur 2).trans (cell_keep w3 _ u 2 lu3)).trans x23
           go_wp2_with fail
           refine hK.out _ _ x24 (fun h8 => ?_)
           clear hK K
           replace hHeld := h8
           clear h8
           try simp only [Act.put, lay]
           refine tk 12 hHeld rfl (v := ?_) ?_ ?_
           rotate_left
           · intro w9 h9; (try dsimp only at h9); go_simp <;> first | with_reducible rfl | rw [if_neg (by omega)]
           try simp only [Act.put, lay]
           refine tk 13 hHeld rfl (v := ?_) ?_ ?_
           rotate_left
           · intro w9 h9; (try dsimp only at h9); go_simp <;> first | with_reducible rfl | rw [if_neg (by omega)]
           try simp only [Act.put, lay]
           refine tk 14 hHeld rfl (v := ?_) ?_ ?_
           rotate_left
           · intro w9 h9; (try dsimp only at h9); go_simp <;> first | with_reducible rfl | rw [if_neg (by omega)]
           try simp only [Act.put, lay]
           refine wpAnyH_done (by kernel_rfl) ?_ _
           go_wp2_with fail
           go_ret
           first | exact HF.out _ _ _ _ _ H3.out H4.out (Below.refl _ _) | exact HF.out _ _ _ _ _ H3.out H4.out ((Below.refl _ _).alloc (Nat.le_refl _) _)
         exact AllReadyH.nil
       refine AllReadyH.cons rfl (fun K hK => ?_) ?_
       · go_simp
         refine Calls.mono (HCn.out Z1 (w3.alloc (.cells #[.string ⟨#[32, 38, 38, 32]⟩, .string ⟨#[32, 124, 124, 32]⟩] 9)) (H3.out.alloc _)) ?_
         rintro e w4 ⟨Z2, rfl, H4, B4⟩
         have z2 : Z2.size ≤ 100000000 := H4.out.small
         have e4 : w4.cell? ⟨w3.heap.size, J, none⟩ = some (.string OB) := ((B4.out.cell (b := w3.heap.size) (by rw [alloc_size]; omega) wr3 wr3 J).trans (at_new w3 _ _ J)).trans e0
         have x24 : w4.cell? ⟨u, 2, none⟩ = some (.int .i64 xb) := ((B4.out.cell (b := u) (by rw [alloc_size]; omega) ur ur 2).trans (cell_keep w3 _ u 2 lu3)).trans x23
         go_wp2_with fail
         refine hK.out _ _ x24 (fun h8 => ?_)
         clear hK K
         replace hHeld := h8
         clear h8
         try simp only [Act.put, lay]
         refine wpAnyH_ready (rs := [8]) (by kernel_rfl) (by simp) ?_
         refine AllReadyH.cons rfl (fun K hK => ?_) ?_
         · go_simp
           refine hK.out _ _ hHeld (fun h8 => ?_)
           clear hK K
           replace hHeld := h8
           clear h8
           try simp only [Act.put, lay]
           refine tk 9 hHeld rfl (v := ?_) ?_ ?_
           rotate_left
           · intro w9 h9; (try dsimp only at h9); go_simp <;> first | with_reducible rfl | rw [if_neg (by omega)]
           try simp only [Act.put, lay]
           refine tk 12 hHeld rfl (v := ?_) ?_ ?_
           rotate_left
           · intro w9 h9; (try dsimp only at h9); go_simp <;> first | with_reducible rfl | rw [if_neg (by omega)]
           try simp only [Act.put, lay]
           refine tk 13 hHeld rfl (v := ?_) ?_ ?_
           rotate_left
           · intro w9 h9; (try dsimp only at h9); go_simp <;> first | with_reducible rfl | rw [if_neg (by omega)]
           try simp only [Act.put, lay]
           refine tk 14 hHeld rfl (v := ?_) ?_ ?_
           rotate_left
           · intro w9 h9; (try dsimp only at h9); go_simp <;> first | with_reducible rfl | rw [if_neg (by omega)]
           try simp only [Act.put, lay]
           refine wpAnyH_done (by kernel_rfl) ?_ _
           go_wp2_with fail
           go_ret
           first | exact HF.out _ _ _ _ _ H3.out H4.out (Below.refl _ _) | exact HF.out _ _ _ _ _ H3.out H4.out ((Below.refl _ _).alloc (Nat.le_refl _) _)
         exact AllReadyH.nil
       exact AllReadyH.nil
     exact AllReadyH.nil
   refine AllReadyH.cons rfl (fun K hK => ?_) ?_
   · go_simp
     refine Calls.mono (HPB.out _) ?_
     rintro e w2 ⟨rfl, hw2⟩
     rw [hw2]
     clear hw2 w2
     go_wp2_with fail
     refine hK.out _ _ hHeld (fun h8 => ?_)
     clear hK K
     replace hHeld := h8
     clear h8
     try simp only [Act.put, lay]
     refine wpAnyH_ready (rs := [3, 11]) (by kernel_rfl) (by simp) ?_
     refine AllReadyH.cons rfl (fun K hK => ?_) ?_
     · go_simp
       refine hK.out _ _ ((cell_keep _ _ u 2 (World.block_lt_of_cell? _ ⟨u, 2, none⟩ hHeld)).trans hHeld) (fun h8 => ?_)
       clear hK K
       replace hHeld := h8
       clear h8
       try simp only [Act.put, lay]
       refine tk 7 hHeld rfl (v := ?_) ?_ ?_
       rotate_left
       · intro w9 h9; (try dsimp only at h9); go_simp <;> first | with_reducible rfl | rw [if_neg (by omega)]
       try simp only [Act.put, lay]
       refine wpAnyH_ready (rs := [8, 11]) (by kernel_rfl) (by simp) ?_
       refine AllReadyH.cons rfl (fun K hK => ?_) ?_
       · go_simp
         refine hK.out _ _ hHeld (fun h8 => ?_)
         clear hK K
         replace hHeld := h8
         clear h8
         try simp only [Act.put, lay]
         refine tk 9 hHeld rfl (v := ?_) ?_ ?_
         rotate_left
         · intro w9 h9; (try dsimp only at h9); go_simp <;> first | with_reducible rfl | rw [if_neg (by omega)]
         try simp only [Act.put, lay]
         refine wpAnyH_ready (rs := [11]) (by kernel_rfl) (by simp) ?_
         refine AllReadyH.cons rfl (fun K hK => ?_) ?_
         · go_simp
           refine Calls.mono (HCn.out Z1 (w3.alloc (.cells #[.string ⟨#[32, 38, 38, 32]⟩, .string ⟨#[32, 124, 124, 32]⟩] 9)) (H3.out.alloc _)) ?_
           rintro e w4 ⟨Z2, rfl, H4, B4⟩
           have z2 : Z2.size ≤ 100000000 := H4.out.small
           have e4 : w4.cell? ⟨w3.heap.size, J, none⟩ = some (.string OB) := ((B4.out.cell (b := w3.heap.size) (by rw [alloc_size]; omega) wr3 wr3 J).trans (at_new w3 _ _ J)).trans e0
           have x24 : w4.cell? ⟨u, 2, none⟩ = some (.int .i64 xb) := ((B4.out.cell (b := u) (by rw [alloc_size]; omega) ur ur 2).trans (cell_keep w3 _ u 2 lu3)).trans x23
           go_wp2_with fail
           refine hK.out _ _ x24 (fun h8 => ?_)
           clear hK K
           replace hHeld := h8
           clear h8
           try simp only [Act.put, lay]
           refine tk 12 hHeld rfl (v := ?_) ?_ ?_
           rotate_left
           · intro w9 h9; (try dsimp only at h9); go_simp <;> first | with_reducible rfl | rw [if_neg (by omega)]
           try simp only [Act.put, lay]
           refine tk 13 hHeld rfl (v := ?_) ?_ ?_
           rotate_left
           · intro w9 h9; (try dsimp only at h9); go_simp <;> first | with_reducible rfl | rw [if_neg (by omega)]
           try simp only [Act.put, lay]
           refine tk 14 hHeld rfl (v := ?_) ?_ ?_
           rotate_left
           · intro w9 h9; (try dsimp only at h9); go_simp <;> first | with_reducible rfl | rw [if_neg (by omega)]
           try simp only [Act.put, lay]
           refine wpAnyH_done (by kernel_rfl) ?_ _
           go_wp2_with fail
           go_ret
           first | exact HF.out _ _ _ _ _ H3.out H4.out (Below.refl _ _) | exact HF.out _ _ _ _ _ H3.out H4.out ((Below.refl _ _).alloc (Nat.le_refl _) _)
         exact AllReadyH.nil
       refine AllReadyH.cons rfl (fun K hK => ?_) ?_
       · go_simp
         refine Calls.mono (HCn.out Z1 (w3.alloc (.cells #[.string ⟨#[32, 38, 38, 32]⟩, .string ⟨#[32, 124, 124, 32]⟩] 9)) (H3.out.alloc _)) ?_
         rintro e w4 ⟨Z2, rfl, H4, B4⟩
         have z2 : Z2.size ≤ 100000000 := H4.out.small
         have e4 : w4.cell? ⟨w3.heap.size, J, none⟩ = some (.string OB) := ((B4.out.cell (b := w3.heap.size) (by rw [alloc_size]; omega) wr3 wr3 J).trans (at_new w3 _ _ J)).trans e0
         have x24 : w4.cell? ⟨u, 2, none⟩ = some (.int .i64 xb) := ((B4.out.cell (b := u) (by rw [alloc_size]; omega) ur ur 2).trans (cell_keep w3 _ u 2 lu3)).trans x23
         go_wp2_with fail
         refine hK.out _ _ x24 (fun h8 => ?_)
         clear hK K
         replace hHeld := h8
         clear h8
         try simp only [Act.put, lay]
         refine wpAnyH_ready (rs := [8]) (by kernel_rfl) (by simp) ?_
         refine AllReadyH.cons rfl (fun K hK => ?_) ?_
         · go_simp
           refine hK.out _ _ hHeld (fun h8 => ?_)
           clear hK K
           replace hHeld := h8
           clear h8
           try simp only [Act.put, lay]
           refine tk 9 hHeld rfl (v := ?_) ?_ ?_
           rotate_left
           · intro w9 h9; (try dsimp only at h9); go_simp <;> first | with_reducible rfl | rw [if_neg (by omega)]
           try simp only [Act.put, lay]
           refine tk 12 hHeld rfl (v := ?_) ?_ ?_
           rotate_left
           · intro w9 h9; (try dsimp only at h9); go_simp <;> first | with_reducible rfl | rw [if_neg (by omega)]
           try simp only [Act.put, lay]
           refine tk 13 hHeld rfl (v := ?_) ?_ ?_
           rotate_left
           · intro w9 h9; (try dsimp only at h9); go_simp <;> first | with_reducible rfl | rw [if_neg (by omega)]
           try simp only [Act.put, lay]
           refine tk 14 hHeld rfl (v := ?_) ?_ ?_
           rotate_left
           · intro w9 h9; (try dsimp only at h9); go_simp <;> first | with_reducible rfl | rw [if_neg (by omega)]
           try simp only [Act.put, lay]
           refine wpAnyH_done (by kernel_rfl) ?_ _
           go_wp2_with fail
           go_ret
           first | exact HF.out _ _ _ _ _ H3.out H4.out (Below.refl _ _) | exact HF.out _ _ _ _ _ H3.out H4.out ((Below.refl _ _).alloc (Nat.le_refl _) _)
         exact AllReadyH.nil
       exact AllReadyH.nil
     refine AllReadyH.cons rfl (fun K hK => ?_) ?_
     · go_simp
       refine Calls.mono (HCn.out Z1 w3 H3.out) ?_
       rintro e w4 ⟨Z2, rfl, H4, B4⟩
       have z2 : Z2.size ≤ 100000000 := H4.out.small
       have x24 : w4.cell? ⟨u, 2, none⟩ = some (.int .i64 xb) := (B4.out.cell (b := u) lu3 ur ur 2).trans x23
       go_wp2_with fail
       refine hK.out _ _ x24 (fun h8 => ?_)
       clear hK K
       replace hHeld := h8
       clear h8
       try simp only [Act.put, lay]
       refine wpAnyH_ready (rs := [3]) (by kernel_rfl) (by simp) ?_
       refine AllReadyH.cons rfl (fun K hK => ?_) ?_
       · go_simp
         refine hK.out _ _ ((cell_keep _ _ u 2 (World.block_lt_of_cell? _ ⟨u, 2, none⟩ hHeld)).trans hHeld) (fun h8 => ?_)
         clear hK K
         replace hHeld := h8
         clear h8
         try simp only [Act.put, lay]
         refine tk 7 hHeld rfl (v := ?_) ?_ ?_
         rotate_left
         · intro w9 h9; (try dsimp only at h9); go_simp <;> first | with_reducible rfl | rw [if_neg (by omega)]
         try simp only [Act.put, lay]
         refine wpAnyH_ready (rs := [8]) (by kernel_rfl) (by simp) ?_
         refine AllReadyH.cons rfl (fun K hK => ?_) ?_
         · go_simp
           refine hK.out _ _ hHeld (fun h8 => ?_)
           clear hK K
           replace hHeld := h8
           clear h8
           try simp only [Act.put, lay]
           refine tk 9 hHeld rfl (v := ?_) ?_ ?_
           rotate_left
           · intro w9 h9; (try dsimp only at h9); go_simp <;> first | with_reducible rfl | rw [if_neg (by omega)]
           try simp only [Act.put, lay]
           refine tk 12 hHeld rfl (v := ?_) ?_ ?_
           rotate_left
           · intro w9 h9; (try dsimp only at h9); go_simp <;> first | with_reducible rfl | rw [if_neg (by omega)]
           try simp only [Act.put, lay]
           refine tk 13 hHeld rfl (v := ?_) ?_ ?_
           rotate_left
           · intro w9 h9; (try dsimp only at h9); go_simp <;> first | with_reducible rfl | rw [if_neg (by omega)]
           try simp only [Act.put, lay]
           refine tk 14 hHeld rfl (v := ?_) ?_ ?_
           rotate_left
           · intro w9 h9; (try dsimp only at h9); go_simp <;> first | with_reducible rfl | rw [if_neg (by omega)]
           try simp only [Act.put, lay]
           refine wpAnyH_done (by kernel_rfl) ?_ _
           go_wp2_with fail
           go_ret
           first | exact HF.out _ _ _ _ _ H3.out H4.out (Below.refl _ _) | exact HF.out _ _ _ _ _ H3.out H4.out ((Below.refl _ _).alloc (Nat.le_refl _) _)
         exact AllReadyH.nil
       exact AllReadyH.nil
     exact AllReadyH.nil
   exact AllReadyH.nil
 refine AllReadyH.cons rfl (fun K hK => ?_) ?_
 · go_simp
   refine hK.out _ _ ((cell_keep _ _ u 2 (World.block_lt_of_cell? _ ⟨u, 2, none⟩ hHeld)).trans hHeld) (fun h8 => ?_)
   clear hK K
   replace hHeld := h8
   clear h8
   try simp only [Act.put, lay]
   refine wpAnyH_ready (rs := [1]) (by kernel_rfl) (by simp) ?_
   refine AllReadyH.cons rfl (fun K hK => ?_) ?_
   · go_simp
     refine Calls.mono HCb.out ?_
     rintro e w3 ⟨Z1, rfl, H3, z1, rw3, wr3, lu3, nu3, x23, g3, e3⟩
     go_wp2_with fail
     refine hK.out _ _ x23 (fun h8 => ?_)
     clear hK K
     replace hHeld := h8
     clear h8
     try simp only [Act.put, lay]
     refine tk 2 hHeld rfl (v := ?_) ?_ ?_
     rotate_left
     · intro w9 h9; (try dsimp only at h9); go_simp <;> first | with_reducible rfl | rw [if_neg (by omega)]
     try simp only [Act.put, lay]
     refine wpAnyH_ready (rs := [6]) (by kernel_rfl) (by simp) ?_
     refine AllReadyH.cons rfl (fun K hK => ?_) ?_
     · go_simp
       refine Calls.mono (HPB.out _) ?_
       rintro e w2 ⟨rfl, hw2⟩
       rw [hw2]
       clear hw2 w2
       go_wp2_with fail
       refine hK.out _ _ hHeld (fun h8 => ?_)
       clear hK K
       replace hHeld := h8
       clear h8
       try simp only [Act.put, lay]
       refine tk 7 hHeld rfl (v := ?_) ?_ ?_
       rotate_left
       · intro w9 h9; (try dsimp only at h9); go_simp <;> first | with_reducible rfl | rw [if_neg (by omega)]
       try simp only [Act.put, lay]
       refine wpAnyH_ready (rs := [8, 11]) (by kernel_rfl) (by simp) ?_
       refine AllReadyH.cons rfl (fun K hK => ?_) ?_
       · go_simp
         refine hK.out _ _ hHeld (fun h8 => ?_)
         clear hK K
         replace hHeld := h8
         clear h8
         try simp only [Act.put, lay]
         refine tk 9 hHeld rfl (v := ?_) ?_ ?_
         rotate_left
         · intro w9 h9; (try dsimp only at h9); go_simp <;> first | with_reducible rfl | rw [if_neg (by omega)]
         try simp only [Act.put, lay]
         refine wpAnyH_ready (rs := [11]) (by kernel_rfl) (by simp) ?_
         refine AllReadyH.cons rfl (fun K hK => ?_) ?_
         · go_simp
           refine Calls.mono (HCn.out Z1 w3 H3.out) ?_
           rintro e w4 ⟨Z2, rfl, H4, B4⟩
           have z2 : Z2.size ≤ 100000000 := H4.out.small
           have x24 : w4.cell? ⟨u, 2, none⟩ = some (.int .i64 xb) := (B4.out.cell (b := u) lu3 ur ur 2).trans x23
           have e4 : w4.cell? ⟨W2.heap.size, J, none⟩ = some (.string OB) := (B4.out.cell (b := W2.heap.size) g3 Wr Wr J).trans e3
           go_wp2_with fail
           refine hK.out _ _ x24 (fun h8 => ?_)
           clear hK K
           replace hHeld := h8
           clear h8
           try simp only [Act.put, lay]
           refine tk 12 hHeld rfl (v := ?_) ?_ ?_
           rotate_left
           · intro w9 h9; (try dsimp only at h9); go_simp <;> first | with_reducible rfl | rw [if_neg (by omega)]
           try simp only [Act.put, lay]
           refine tk 13 hHeld rfl (v := ?_) ?_ ?_
           rotate_left
           · intro w9 h9; (try dsimp only at h9); go_simp <;> first | with_reducible rfl | rw [if_neg (by omega)]
           try simp only [Act.put, lay]
           refine tk 14 hHeld rfl (v := ?_) ?_ ?_
           rotate_left
           · intro w9 h9; (try dsimp only at h9); go_simp <;> first | with_reducible rfl | rw [if_neg (by omega)]
           try simp only [Act.put, lay]
           refine wpAnyH_done (by kernel_rfl) ?_ _
           go_wp2_with fail
           go_ret
           first | exact HF.out _ _ _ _ _ H3.out H4.out (Below.refl _ _) | exact HF.out _ _ _ _ _ H3.out H4.out ((Below.refl _ _).alloc (Nat.le_refl _) _)
         exact AllReadyH.nil
       refine AllReadyH.cons rfl (fun K hK => ?_) ?_
       · go_simp
         refine Calls.mono (HCn.out Z1 w3 H3.out) ?_
         rintro e w4 ⟨Z2, rfl, H4, B4⟩
         have z2 : Z2.size ≤ 100000000 := H4.out.small
         have x24 : w4.cell? ⟨u, 2, none⟩ = some (.int .i64 xb) := (B4.out.cell (b := u) lu3 ur ur 2).trans x23
         have e4 : w4.cell? ⟨W2.heap.size, J, none⟩ = some (.string OB) := (B4.out.cell (b := W2.heap.size) g3 Wr Wr J).trans e3
         go_wp2_with fail
         refine hK.out _ _ x24 (fun h8 => ?_)
         clear hK K
         replace hHeld := h8
         clear h8
         try simp only [Act.put, lay]
         refine wpAnyH_ready (rs := [8]) (by kernel_rfl) (by simp) ?_
         refine AllReadyH.cons rfl (fun K hK => ?_) ?_
         · go_simp
           refine hK.out _ _ hHeld (fun h8 => ?_)
           clear hK K
           replace hHeld := h8
           clear h8
           try simp only [Act.put, lay]
           refine tk 9 hHeld rfl (v := ?_) ?_ ?_
           rotate_left
           · intro w9 h9; (try dsimp only at h9); go_simp <;> first | with_reducible rfl | rw [if_neg (by omega)]
           try simp only [Act.put, lay]
           refine tk 12 hHeld rfl (v := ?_) ?_ ?_
           rotate_left
           · intro w9 h9; (try dsimp only at h9); go_simp <;> first | with_reducible rfl | rw [if_neg (by omega)]
           try simp only [Act.put, lay]
           refine tk 13 hHeld rfl (v := ?_) ?_ ?_
           rotate_left
           · intro w9 h9; (try dsimp only at h9); go_simp <;> first | with_reducible rfl | rw [if_neg (by omega)]
           try simp only [Act.put, lay]
           refine tk 14 hHeld rfl (v := ?_) ?_ ?_
           rotate_left
           · intro w9 h9; (try dsimp only at h9); go_simp <;> first | with_reducible rfl | rw [if_neg (by omega)]
           try simp only [Act.put, lay]
           refine wpAnyH_done (by kernel_rfl) ?_ _
           go_wp2_with fail
           go_ret
           first | exact HF.out _ _ _ _ _ H3.out H4.out (Below.refl _ _) | exact HF.out _ _ _ _ _ H3.out H4.out ((Below.refl _ _).alloc (Nat.le_refl _) _)
         exact AllReadyH.nil
       exact AllReadyH.nil
     exact AllReadyH.nil
   exact AllReadyH.nil
 exact AllReadyH.nil
end Go.Proofs.YtfbpkbochhfnhaaGreatDoor
namespace Go.Proofs.YtfbpkbochhfnhaaGreatDoor
open Go.ChangeShapes Go.WideShapes Go.ChangeAt Go.RowKit Go.Joins
set_option linter.unusedVariables false
set_option maxRecDepth 100000
set_option maxHeartbeats 4000000 in
theorem exp_b1 {d c : Nat} (hX : MkE d c) (hc : 1 ≤ c) (r : Nat) (l : List Rw) (i : Nat) (b : Bool) (w : World) (hM : Mk r w l i) (hi : i + 4 * c ≤ 1000000) (hd : d ≤ 10)
 (hk4 : pickR (nextR l i).kind 4 = 0) (hk : True) :
 Calls Tryz.prog 15 #[.pointer (some ⟨r, 0, none⟩), .int .i64 ((d + 1 : Nat) : Int), .bool b] w (MkOut (GE (d + 1) b) (4 * c) r l i w) := by
 obtain ⟨D, hD⟩ : ∃ D : Int, D = ((d + 1 : Nat) : Int) := ⟨_, rfl⟩
 obtain ⟨x, hx⟩ : ∃ x, x = nextR l i := ⟨_, rfl⟩
 obtain ⟨W, hW⟩ : ∃ W, W = (((w.alloc (.cells #[.pointer (some ⟨r, 0, none⟩)] 40)).alloc (.cells #[.int .i64 D] 3)).alloc (.cells #[.bool b] 4)) := ⟨_, rfl⟩
 have HMW : Hid (Mk r W l i) := by rw [hW]; exact ((hM.alloc _).alloc _).alloc _
 have HBW : Hid (But r r w W) := by rw [hW]; exact (((But.refl _ _ _).alloc _).alloc _).alloc _
 have HBO : Hid (Bo r w.heap.size (w.heap.size + 1) (w.heap.size + 1 + 1) D b W) := by rw [hW]; exact Bo.new hM.lt _ _ _
 have HDR : Hid _ := draw_c r l i W HMW.out (by omega)
 have HOK : Hid (x.ok) := by rw [hx]; exact hM.ok i
 have d1 : ¬ D ≤ 0 := by omega
 have HWW : Hid (W = _) := hW
 rw [← hD]
 rw [← hx] at hk4 HDR
 have HIC : Hid (i + 4 * c ≤ 1000000 ∧ 1 ≤ c) := ⟨hi, hc⟩
 have HDD : Hid (D = _) := hD
 obtain ⟨xk, xa, xb, xc⟩ := x
 have HP4 : Hid (∀ W : World, _) := fun W => picked_x xk 4 W HOK.out.1 (by decide) (by decide)
 obtain ⟨t1, t2⟩ := wf_range (wf_tdiv HOK.out.1)
 obtain ⟨K4, hK4⟩ : ∃ K : Int, K = ((pickR xk 4 : Nat) : Int) := ⟨_, rfl⟩
 have k4 : K4 = 0 := by simp only at hk4; omega
 have k4b : (K4 == 0) = true := by simpa using k4
 rw [← hK4] at HP4
 clear hk4 hk hx hi hc hW hM hD hK4
 go_enter Tryz.func15, Tryz.ntmps15
 go_wp2_with fail
 rw [← HWW.out]
 refine Calls.mono HDR.out ?_
 rintro e w1 ⟨rfl, hM1, hb1⟩
 obtain ⟨p, hp⟩ : ∃ p, p = w.heap.size := ⟨_, rfl⟩
 obtain ⟨q, hq⟩ : ∃ p, p = w.heap.size + 1 := ⟨_, rfl⟩
 obtain ⟨t, ht⟩ : ∃ p, p = w.heap.size + 1 + 1 := ⟨_, rfl⟩
 have HBO1 := HBO.out.but hb1
 rw [← ht, ← hq, ← hp] at HBO1 ⊢
 obtain ⟨b0, b1, b2, rp, rq, rt⟩ := HBO1
 obtain ⟨W2, hW2⟩ : ∃ W2, W2 = (w1.alloc (.cells #[.int .i64 xk, .int .i64 xa, .int .i64 xb, .int .i64 xc] 44)).alloc (.cells #[.string ⟨#[120]⟩, .string ⟨#[121]⟩, .string ⟨#[122]⟩, .string ⟨#[115, 101, 101, 100]⟩] 9) := ⟨_, rfl⟩
 have HM2 : Hid (Mk r W2 l (i + 1)) := by rw [hW2]; exact (hM1.alloc _).alloc _
 have HB2 : Hid (But r r w W2) := by rw [hW2]; exact ((HBW.out.trans hb1).alloc _).alloc _
 have HBO2 : Hid (Bo r p q t D b W2) := by rw [hW2]; exact (Bo.below ⟨b0, b1, b2, rp, rq, rt⟩ ((Below.refl _ _).alloc (Nat.le_refl _) _)).below ((Below.refl _ _).alloc (Nat.le_refl _) _)
 have HLO2 : Hid (Lo r w1.heap.size (w1.heap.size + 1) ⟨xk, xa, xb, xc⟩ W2) := by rw [hW2]; exact Lo.new ⟨xk, xa, xb, xc⟩ hM1.lt _ _
 obtain ⟨u, hu⟩ : ∃ p, p = w1.heap.size := ⟨_, rfl⟩
 obtain ⟨v, hv⟩ : ∃ p, p = w1.heap.size + 1 := ⟨_, rfl⟩
 have HUV : Hid (u = _ ∧ v = _) := ⟨hu, hv⟩
 have HWW2 : Hid (W2 = _) := hW2
 have l1 : q < w1.heap.size := World.block_lt_of_cell? w1 ⟨q, 0, none⟩ b1
 have n1 : ¬ q = w1.heap.size := by omega
 have m1 : ¬ q = w1.heap.size + 1 := by omega
 clear hM1 hb1 HDR HBO HBW HMW HWW hp hq ht hu hv hW2 b0 b2 rp rt
 unfold rwV
 go_wp2_with fail
 rw [← HWW2.out, ← HUV.out.2, ← HUV.out.1]
 rw [← HUV.out.2, ← HUV.out.1] at HLO2
 clear HWW2 HUV l1 n1 m1 b1 rq
 refine Calls.mono (HP4.out W2) ?_
 rintro e w2 ⟨rfl, hw2⟩
 rw [hw2]
 clear hw2 w2 HP4
 obtain ⟨x0, x1, x2, x3, v0, v1, v2, v3, ru, rv⟩ := HLO2.out
 obtain ⟨b0, b1, b2, rp, rq, rt⟩ := HBO2.out
 simp only at x0 x1 x2 x3
 obtain ⟨JN, hJN⟩ : ∃ J : Nat, J = pickR xa 30 := ⟨_, rfl⟩
 have hJN2 : JN < 30 := by rw [hJN]; exact pickR_lt _ (by decide)
 have HPJN : Hid (∀ W : World, Calls Tryz.prog 8 #[.int .i64 xa, .int .i64 30] W fun e w' => e = .returned (.int .i64 (JN : Int)) ∧ w' = W) := fun W => by
  have h := picked_x xa 30 W HOK.out.2.1 (by decide) (by decide)
  rw [hJN]
  exact h
 obtain ⟨JA, hJA⟩ : ∃ J : Nat, J = pickR xa 4 := ⟨_, rfl⟩
 have hJA2 : JA < 4 := by rw [hJA]; exact pickR_lt _ (by decide)
 have HPJA : Hid (∀ W : World, Calls Tryz.prog 8 #[.int .i64 xa, .int .i64 4] W fun e w' => e = .returned (.int .i64 (JA : Int)) ∧ w' = W) := fun W => by
  have h := picked_x xa 4 W HOK.out.2.1 (by decide) (by decide)
  rw [hJA]
  exact h
 obtain ⟨JB, hJB⟩ : ∃ J : Nat, J = pickR xb 4 := ⟨_, rfl⟩
 have hJB2 : JB < 4 := by rw [hJB]; exact pickR_lt _ (by decide)
 have HPJB : Hid (∀ W : World, Calls Tryz.prog 8 #[.int .i64 xb, .int .i64 4] W fun e w' => e = .returned (.int .i64 (JB : Int)) ∧ w' = W) := fun W => by
  have h := picked_x xb 4 W HOK.out.2.2.1 (by decide) (by decide)
  rw [hJB]
  exact h
 obtain ⟨JC, hJC⟩ : ∃ J : Nat, J = pickR xc 6 := ⟨_, rfl⟩
 have hJC2 : JC < 6 := by rw [hJC]; exact pickR_lt _ (by decide)
 have HPJC : Hid (∀ W : World, Calls Tryz.prog 8 #[.int .i64 xc, .int .i64 6] W fun e w' => e = .returned (.int .i64 (JC : Int)) ∧ w' = W) := fun W => by
  have h := picked_x xc 6 W HOK.out.2.2.2 (by decide) (by decide)
  rw [hJC]
  exact h
 obtain ⟨VA, hVA⟩ : ∃ V : List UInt8, V ∈ varsL ∧ W2.cell? ⟨v, JA, none⟩ = some (.string (bs V)) := by
  have h : JA = 0 ∨ JA = 1 ∨ JA = 2 ∨ JA = 3 := by omega
  rcases h with h | h | h | h <;> rw [h]
  · exact ⟨[120], by decide, v0⟩
  · exact ⟨[121], by decide, v1⟩
  · exact ⟨[122], by decide, v2⟩
  · exact ⟨[115, 101, 101, 100], by decide, v3⟩
 obtain ⟨SA, hSA⟩ : ∃ S, S = bs VA := ⟨_, rfl⟩
 have yA := hVA.2
 rw [← hSA] at yA
 obtain ⟨VB, hVB⟩ : ∃ V : List UInt8, V ∈ varsL ∧ W2.cell? ⟨v, JB, none⟩ = some (.string (bs V)) := by
  have h : JB = 0 ∨ JB = 1 ∨ JB = 2 ∨ JB = 3 := by omega
  rcases h with h | h | h | h <;> rw [h]
  · exact ⟨[120], by decide, v0⟩
  · exact ⟨[121], by decide, v1⟩
  · exact ⟨[122], by decide, v2⟩
  · exact ⟨[115, 101, 101, 100], by decide, v3⟩
 obtain ⟨SB, hSB⟩ : ∃ S, S = bs VB := ⟨_, rfl⟩
 have yB := hVB.2
 rw [← hSB] at yB
 obtain ⟨TA, hTA⟩ : ∃ T, T = bs (digs JN) := ⟨_, rfl⟩
 obtain ⟨TB, hTB⟩ : ∃ T, T = bs (digs (JB + 1)) := ⟨_, rfl⟩
 have zb : TB.size ≤ 2 := by rw [hTB, bs_size]; exact digs_len (by omega)
 have lu : u < W2.heap.size := World.block_lt_of_cell? W2 ⟨u, 2, none⟩ x2
 have lv : v < W2.heap.size := World.block_lt_of_cell? W2 ⟨v, 0, none⟩ v0
 have ca0 : (0 : Int) ≤ (JA : Int) := by omega
 have ca1 : (JA : Int) < 4 := by omega
 have cb0 : (0 : Int) ≤ (JB : Int) := by omega
 have cb1 : (JB : Int) < 4 := by omega
 have cc0 : (0 : Int) ≤ (JC : Int) := by omega
 have cc1 : (JC : Int) < 6 := by omega
 have cd0 : (-9223372036854775808 : Int) ≤ 1 + (JB : Int) := by omega
 have cd1 : 1 + (JB : Int) ≤ 9223372036854775807 := by omega
 have HPW : Hid (Pow W2) := HM2.out.pw.elim fun _ h => h.2.2
 have HIA : Hid (Calls Tryz.prog 33 #[.int .i64 (JN : Int)] W2.drew fun e w3 => e = .returned (.string TA) ∧ Hid (Below W2.heap.size W2 w3) ∧ w3.cell? ⟨u, 1, none⟩ = some (.int .i64 xa) ∧ w3.cell? ⟨u, 2, none⟩ = some (.int .i64 xb) ∧ w3.cell? ⟨u, 3, none⟩ = some (.int .i64 xc) ∧ w3.cell? ⟨v, JA, none⟩ = some (.string SA) ∧ w3.cell? ⟨v, JB, none⟩ = some (.string SB)) := by
  refine (Tryz.strconv_Itoa (JN : Int) (by omega) (by omega) W2.drew (HPW.out.stays (below_drew _))).mono ?_
  rintro e w3 ⟨rfl, hg⟩
  have hb : Below W2.heap.size W2 w3 := bl_trans (below_drew W2) (below_grown_k hg)
  exact ⟨by rw [hTA]; rfl, hb, (hb.cell (p := ⟨u, 1, none⟩) lu).trans x1, (hb.cell (p := ⟨u, 2, none⟩) lu).trans x2, (hb.cell (p := ⟨u, 3, none⟩) lu).trans x3, (hb.cell (p := ⟨v, JA, none⟩) lv).trans yA, (hb.cell (p := ⟨v, JB, none⟩) lv).trans yB⟩
 have HIB : Hid (∀ w3, Below W2.heap.size W2 w3 → Calls Tryz.prog 33 #[.int .i64 (IntKind.i64.wrap (1 + (JB : Int)))] w3 fun e w4 => e = .returned (.string TB) ∧ Hid (Below W2.heap.size W2 w4) ∧ w4.cell? ⟨u, 1, none⟩ = some (.int .i64 xa) ∧ w4.cell? ⟨u, 2, none⟩ = some (.int .i64 xb) ∧ w4.cell? ⟨u, 3, none⟩ = some (.int .i64 xc) ∧ w4.cell? ⟨v, JA, none⟩ = some (.string SA) ∧ w4.cell? ⟨v, JB, none⟩ = some (.string SB) ∧ u < w4.heap.size ∧ ¬ u = w4.heap.size ∧ v < w4.heap.size ∧ ¬ v = w4.heap.size) := by
  intro w3 hb0
  rw [show IntKind.i64.wrap (1 + (JB : Int)) = ((JB + 1 : Nat) : Int) by rw [IntKind.wrap_i64]; omega]
  refine (Tryz.strconv_Itoa ((JB + 1 : Nat) : Int) (by omega) (by omega) w3 (HPW.out.stays hb0)).mono ?_
  rintro e w4 ⟨rfl, hg⟩
  have hb : Below W2.heap.size W2 w4 := bl_trans hb0 (below_grown_k hg)
  have hz := hb.size
  exact ⟨by rw [hTB]; rfl, hb, (hb.cell (p := ⟨u, 1, none⟩) lu).trans x1, (hb.cell (p := ⟨u, 2, none⟩) lu).trans x2, (hb.cell (p := ⟨u, 3, none⟩) lu).trans x3, (hb.cell (p := ⟨v, JA, none⟩) lv).trans yA, (hb.cell (p := ⟨v, JB, none⟩) lv).trans yB, by omega, by omega, by omega, by omega⟩
 obtain ⟨OB, hOB⟩ : ∃ OB : ByteArray, (∃ s, OB = bs s ∧ GE (d + 1) b s) ∧ ∀ h : JC < ([.string TA, .string SA, .string ⟨#[34, 116, 34]⟩, .string ⟨#[34, 49, 50, 32, 98, 34]⟩, .string (⟨#[97, 91]⟩ ++ TB ++ ⟨#[93]⟩), .string SB] : List Value).length, ([.string TA, .string SA, .string ⟨#[34, 116, 34]⟩, .string ⟨#[34, 49, 50, 32, 98, 34]⟩, .string (⟨#[97, 91]⟩ ++ TB ++ ⟨#[93]⟩), .string SB] : List Value)[JC]'h = .string OB := by
  have h : JC = 0 ∨ JC = 1 ∨ JC = 2 ∨ JC = 3 ∨ JC = 4 ∨ JC = 5 := by omega
  clear HPJC hJC hJC2 cc0 cc1
  rcases h with rfl | rfl | rfl | rfl | rfl | rfl
  · exact ⟨TA, ⟨_, hTA, GE.num hJN2⟩, fun _ => rfl⟩
  · exact ⟨SA, ⟨_, hSA, GE.var hVA.1⟩, fun _ => rfl⟩
  · exact ⟨_, ⟨[34, 116, 34], rfl, GE.st⟩, fun _ => rfl⟩
  · exact ⟨_, ⟨[34, 49, 50, 32, 98, 34], rfl, GE.st2⟩, fun _ => rfl⟩
  · exact ⟨_, ⟨[97, 91] ++ digs (JB + 1) ++ [93], by rw [hTB]; simp only [← bs_app]; rfl, GE.elem (by omega) (by omega)⟩, fun _ => rfl⟩
  · exact ⟨SB, ⟨_, hSB, GE.var hVB.1⟩, fun _ => rfl⟩
 have e1 := hOB.2
 have HF : Hid (∀ w', Below W2.heap.size W2 w' → MkOut (GE (d + 1) b) (4 * c) r l i w (.returned (.string OB)) w') := fun w' hb => by
  obtain ⟨s, hs, hg⟩ := hOB.1
  exact ⟨s, i + 1, by rw [hs], hg, HM2.out.below hb, by obtain ⟨h8, h9⟩ := HIC.out; omega, HB2.out.more hb⟩
 clear HM2 HB2 HBO2 HLO2 b0 b1 b2 rp rq rt v0 v1 v2 v3 HIC HOK HDD t1 t2 x0 hOB hVA hVB hSA hSB hTA hTB hJN hJA hJB hJC HPW
 have HIP : Hid (∀ w3, Below W2.heap.size W2 w3 → Calls Tryz.prog 33 #[.int .i64 (1 + (JB : Int))] w3 fun e w4 => e = .returned (.string TB) ∧ Hid (Below W2.heap.size W2 w4) ∧ w4.cell? ⟨u, 1, none⟩ = some (.int .i64 xa) ∧ w4.cell? ⟨u, 2, none⟩ = some (.int .i64 xb) ∧ w4.cell? ⟨u, 3, none⟩ = some (.int .i64 xc) ∧ w4.cell? ⟨v, JA, none⟩ = some (.string SA) ∧ w4.cell? ⟨v, JB, none⟩ = some (.string SB) ∧ u < w4.heap.size ∧ ¬ u = w4.heap.size ∧ v < w4.heap.size ∧ ¬ v = w4.heap.size) := by
  have h := HIB.out
  rw [show IntKind.i64.wrap (1 + (JB : Int)) = 1 + (JB : Int) by rw [IntKind.wrap_i64]; omega] at h
  exact h
 go_wp2_with fail
 refine wp_region_held_drew (S := fun w9 => w9.cell? ⟨u, 1, none⟩ = some (.int .i64 xa) ∧ w9.cell? ⟨u, 2, none⟩ = some (.int .i64 xb) ∧ w9.cell? ⟨u, 3, none⟩ = some (.int .i64 xc) ∧ w9.cell? ⟨v, JA, none⟩ = some (.string SA) ∧ w9.cell? ⟨v, JB, none⟩ = some (.string SB)) (by kernel_rfl) ⟨x1, x2, x3, yA, yB⟩ (fun hHeld => ?_)
 refine tk 0 hHeld rfl (v := ?_) ?_ ?_
 rotate_left
 · intro w9 h9; (try dsimp only at h9); go_simp <;> first | with_reducible rfl | rw [if_neg (by omega)]
 try simp only [Act.put, lay]
 refine tk 1 hHeld rfl (v := ?_) ?_ ?_
 rotate_left
 · intro w9 h9; (try dsimp only at h9); go_simp <;> first | with_reducible rfl | rw [if_neg (by omega)]
 try simp only [Act.put, lay]
 refine tk 4 hHeld rfl (v := ?_) ?_ ?_
 rotate_left
 · intro w9 h9; (try dsimp only at h9); go_simp <;> first | with_reducible rfl | rw [if_neg (by omega)]
 try simp only [Act.put, lay]
 refine tk 5 hHeld rfl (v := ?_) ?_ ?_
 rotate_left
 · intro w9 h9; (try dsimp only at h9); go_simp <;> first | with_reducible rfl | rw [if_neg (by omega)]
 try simp only [Act.put, lay]
 refine tk 6 hHeld rfl (v := ?_) ?_ ?_
 rotate_left
 · intro w9 h9; (try dsimp only at h9); go_simp <;> first | with_reducible rfl | rw [if_neg (by omega)]
 try simp only [Act.put, lay]
 refine tk 10 hHeld rfl (v := ?_) ?_ ?_
 rotate_left
 · intro w9 h9; (try dsimp only at h9); go_simp <;> first | with_reducible rfl | rw [if_neg (by omega)]
 try simp only [Act.put, lay]
 refine tk 11 hHeld rfl (v := ?_) ?_ ?_
 rotate_left
 · intro w9 h9; (try dsimp only at h9); go_simp <;> first | with_reducible rfl | rw [if_neg (by omega)]
 try simp only [Act.put, lay]
 refine tk 17 hHeld rfl (v := ?_) ?_ ?_
 rotate_left
 · intro w9 h9; (try dsimp only at h9); go_simp <;> first | with_reducible rfl | rw [if_neg (by omega)]
 try simp only [Act.put, lay]
 refine tk 18 hHeld rfl (v := ?_) ?_ ?_
 rotate_left
 · intro w9 h9; (try dsimp only at h9); go_simp <;> first | with_reducible rfl | rw [if_neg (by omega)]
 try simp only [Act.put, lay]
 refine tk 19 hHeld rfl (v := ?_) ?_ ?_
 rotate_left
 · intro w9 h9; (try dsimp only at h9); go_simp <;> first | with_reducible rfl | rw [if_neg (by omega)]
 try simp only [Act.put, lay]
 refine tk 24 hHeld rfl (v := ?_) ?_ ?_
 rotate_left
 · intro w9 h9; (try dsimp only at h9); go_simp <;> first | with_reducible rfl | rw [if_neg (by omega)]
 try simp only [Act.put, lay]
 refine tk 25 hHeld rfl (v := ?_) ?_ ?_
 rotate_left
 · intro w9 h9; (try dsimp only at h9); go_simp <;> first | with_reducible rfl | rw [if_neg (by omega)]
 try simp only [Act.put, lay]
 refine wpAnyH_ready (rs := [2]) (by kernel_rfl) (by simp) ?_
 refine AllReadyH.cons rfl (fun K hK => ?_) ?_
 · go_simp
   refine Calls.mono (HPJN.out _) ?_
   rintro e w2 ⟨rfl, hw2⟩
   rw [hw2]
   clear hw2 w2
   go_wp2_with fail
   refine hK.out _ _ hHeld (fun h8 => ?_)
   clear hK K
   replace hHeld := h8
   clear h8
   try simp only [Act.put, lay]
   refine wpAnyH_ready (rs := [3]) (by kernel_rfl) (by simp) ?_
   refine AllReadyH.cons rfl (fun K hK => ?_) ?_
   · go_simp
     refine Calls.mono HIA.out ?_
     rintro e w3 ⟨rfl, H3, f1, f2, f3, f4, f5⟩
     go_wp2_with fail
     refine hK.out _ _ ⟨f1, f2, f3, f4, f5⟩ (fun h8 => ?_)
     clear hK K
     replace hHeld := h8
     clear h8
     try simp only [Act.put, lay]
     refine wpAnyH_ready (rs := [7]) (by kernel_rfl) (by simp) ?_
     refine AllReadyH.cons rfl (fun K hK => ?_) ?_
     · go_simp
       refine Calls.mono (HPJA.out _) ?_
       rintro e w2 ⟨rfl, hw2⟩
       rw [hw2]
       clear hw2 w2
       go_wp2_with fail
       refine hK.out _ _ hHeld (fun h8 => ?_)
       clear hK K
       replace hHeld := h8
       clear h8
       try simp only [Act.put, lay]
       refine tk 8 hHeld rfl (v := ?_) ?_ ?_
       rotate_left
       · intro w9 h9; (try dsimp only at h9); go_simp <;> first | with_reducible rfl | rw [if_neg (by omega)]
       try simp only [Act.put, lay]
       refine tk 9 hHeld rfl (v := ?_) ?_ ?_
       rotate_left
       · intro w9 h9; (try dsimp only at h9); go_simp <;> first | with_reducible rfl | rw [if_neg (by omega)]
       try simp only [Act.put, lay]
       refine wpAnyH_ready (rs := [12]) (by kernel_rfl) (by simp) ?_
       refine AllReadyH.cons rfl (fun K hK => ?_) ?_
       · go_simp
         refine Calls.mono (HPJB.out _) ?_
         rintro e w2 ⟨rfl, hw2⟩
         rw [hw2]
         clear hw2 w2
         go_wp2_with fail
         refine hK.out _ _ hHeld (fun h8 => ?_)
         clear hK K
         replace hHeld := h8
         clear h8
         try simp only [Act.put, lay]
         refine tk 13 hHeld rfl (v := ?_) ?_ ?_
         rotate_left
         · intro w9 h9; (try dsimp only at h9); go_simp <;> first | with_reducible rfl | rw [if_neg (by omega)]
         try simp only [Act.put, lay]
         refine wpAnyH_ready (rs := [14]) (by kernel_rfl) (by simp) ?_
         refine AllReadyH.cons rfl (fun K hK => ?_) ?_
         · go_simp
           first | with_reducible refine Calls.mono (HIB.out w3 H3.out) ?_ | with_reducible refine Calls.mono (HIP.out w3 H3.out) ?_
           rintro e w4 ⟨rfl, H4, g1, g2, g3, g4, g5, lu4, nu4, lv4, nv4⟩
           go_wp2_with fail
           refine hK.out _ _ ⟨g1, g2, g3, g4, g5⟩ (fun h8 => ?_)
           clear hK K
           replace hHeld := h8
           clear h8
           try simp only [Act.put, lay]
           refine tk 15 hHeld rfl (v := ?_) ?_ ?_
           rotate_left
           · intro w9 h9; (try dsimp only at h9); go_simp <;> first | with_reducible rfl | rw [if_neg (by omega)]
           try simp only [Act.put, lay]
           refine tk 16 hHeld rfl (v := ?_) ?_ ?_
           rotate_left
           · intro w9 h9; (try dsimp only at h9); go_simp <;> first | with_reducible rfl | rw [if_neg (by omega)]
           try simp only [Act.put, lay]
           refine wpAnyH_ready (rs := [20]) (by kernel_rfl) (by simp) ?_
           refine AllReadyH.cons rfl (fun K hK => ?_) ?_
           · go_simp
             refine Calls.mono (HPJB.out _) ?_
             rintro e w2 ⟨rfl, hw2⟩
             rw [hw2]
             clear hw2 w2
             go_wp2_with fail
             refine hK.out _ _ hHeld (fun h8 => ?_)
             clear hK K
             replace hHeld := h8
             clear h8
             try simp only [Act.put, lay]
             refine tk 21 hHeld rfl (v := ?_) ?_ ?_
             rotate_left
             · intro w9 h9; (try dsimp only at h9); go_simp <;> first | with_reducible rfl | rw [if_neg (by omega)]
             try simp only [Act.put, lay]
             refine tk 22 hHeld rfl (v := ?_) ?_ ?_
             rotate_left
             · intro w9 h9; (try dsimp only at h9); go_simp <;> first | with_reducible rfl | rw [if_neg (by omega)]
             try simp only [Act.put, lay]
             refine wpAnyH_ready (rs := [23, 26]) (by kernel_rfl) (by simp) ?_
             refine AllReadyH.cons rfl (fun K hK => ?_) ?_
             · go_simp
               refine hK.out _ _ ⟨(cell_keep _ _ u 1 lu4).trans g1, (cell_keep _ _ u 2 lu4).trans g2, (cell_keep _ _ u 3 lu4).trans g3, (cell_keep _ _ v JA lv4).trans g4, (cell_keep _ _ v JB lv4).trans g5⟩ (fun h8 => ?_)
               clear hK K
               replace hHeld := h8
               clear h8
               try simp only [Act.put, lay]
               refine wpAnyH_ready (rs := [26]) (by kernel_rfl) (by simp) ?_
               refine AllReadyH.cons rfl (fun K hK => ?_) ?_
               · go_simp
                 refine Calls.mono (HPJC.out _) ?_
                 rintro e w2 ⟨rfl, hw2⟩
                 rw [hw2]
                 clear hw2 w2
                 go_wp2_with fail
                 refine hK.out _ _ hHeld (fun h8 => ?_)
                 clear hK K
                 replace hHeld := h8
                 clear h8
                 try simp only [Act.put, lay]
                 refine tk 27 hHeld rfl (v := ?_) ?_ ?_
                 rotate_left
                 · intro w9 h9; (try dsimp only at h9); go_simp <;> first | with_reducible rfl | rw [if_neg (by omega)]
                 try simp only [Act.put, lay]
                 refine wpAnyH_ready (rs := [28]) (by kernel_rfl) (by simp) ?_
                 refine AllReadyH.cons rfl (fun K hK => ?_) ?_
                 · go_simp
                   refine hK.out _ _ hHeld (fun h8 => ?_)
                   clear hK K
                   replace hHeld := h8
                   clear h8
                   try simp only [Act.put, lay]
                   refine tk 29 hHeld rfl (v := ?_) ?_ ?_
                   rotate_left
                   · intro w9 h9; (try dsimp only at h9); go_simp <;> first | with_reducible rfl | rw [if_neg (by omega)]
                   try simp only [Act.put, lay]
                   refine wpAnyH_done (by kernel_rfl) ?_ _
                   go_wp2_with fail
                   go_ret
                   first | exact HF.out _ H4.out | exact HF.out _ (bl_trans H4.out ((Below.refl _ _).alloc (Nat.le_refl _) _))
                 exact AllReadyH.nil
               exact AllReadyH.nil
             refine AllReadyH.cons rfl (fun K hK => ?_) ?_
             · go_simp
               refine Calls.mono (HPJC.out _) ?_
               rintro e w2 ⟨rfl, hw2⟩
               rw [hw2]
               clear hw2 w2
               go_wp2_with fail
               refine hK.out _ _ hHeld (fun h8 => ?_)
               clear hK K
               replace hHeld := h8
               clear h8
               try simp only [Act.put, lay]
               refine wpAnyH_ready (rs := [23]) (by kernel_rfl) (by simp) ?_
               refine AllReadyH.cons rfl (fun K hK => ?_) ?_
               · go_simp
                 refine hK.out _ _ ⟨(cell_keep _ _ u 1 lu4).trans g1, (cell_keep _ _ u 2 lu4).trans g2, (cell_keep _ _ u 3 lu4).trans g3, (cell_keep _ _ v JA lv4).trans g4, (cell_keep _ _ v JB lv4).trans g5⟩ (fun h8 => ?_)
                 clear hK K
                 replace hHeld := h8
                 clear h8
                 try simp only [Act.put, lay]
                 refine tk 27 hHeld rfl (v := ?_) ?_ ?_
                 rotate_left
                 · intro w9 h9; (try dsimp only at h9); go_simp <;> first | with_reducible rfl | rw [if_neg (by omega)]
                 try simp only [Act.put, lay]
                 refine wpAnyH_ready (rs := [28]) (by kernel_rfl) (by simp) ?_
                 refine AllReadyH.cons rfl (fun K hK => ?_) ?_
                 · go_simp
                   refine hK.out _ _ hHeld (fun h8 => ?_)
                   clear hK K
                   replace hHeld := h8
                   clear h8
                   try simp only [Act.put, lay]
                   refine tk 29 hHeld rfl (v := ?_) ?_ ?_
                   rotate_left
                   · intro w9 h9; (try dsimp only at h9); go_simp <;> first | with_reducible rfl | rw [if_neg (by omega)]
                   try simp only [Act.put, lay]
                   refine wpAnyH_done (by kernel_rfl) ?_ _
                   go_wp2_with fail
                   go_ret
                   first | exact HF.out _ H4.out | exact HF.out _ (bl_trans H4.out ((Below.refl _ _).alloc (Nat.le_refl _) _))
                 exact AllReadyH.nil
               exact AllReadyH.nil
             exact AllReadyH.nil
           exact AllReadyH.nil
         exact AllReadyH.nil
       exact AllReadyH.nil
     exact AllReadyH.nil
   exact AllReadyH.nil
 exact AllReadyH.nil
set_option maxHeartbeats 4000000 in
theorem exp_b0 {c : Nat} (hc : 1 ≤ c) (r : Nat) (l : List Rw) (i : Nat) (b : Bool) (w : World) (hM : Mk r w l i) (hi : i + 4 * c ≤ 1000000)
 :
 Calls Tryz.prog 15 #[.pointer (some ⟨r, 0, none⟩), .int .i64 ((0 : Nat) : Int), .bool b] w (MkOut (GE 0 b) (4 * c) r l i w) := by
 obtain ⟨D, hD⟩ : ∃ D : Int, D = ((0 : Nat) : Int) := ⟨_, rfl⟩
 obtain ⟨x, hx⟩ : ∃ x, x = nextR l i := ⟨_, rfl⟩
 obtain ⟨W, hW⟩ : ∃ W, W = (((w.alloc (.cells #[.pointer (some ⟨r, 0, none⟩)] 40)).alloc (.cells #[.int .i64 D] 3)).alloc (.cells #[.bool b] 4)) := ⟨_, rfl⟩
 have HMW : Hid (Mk r W l i) := by rw [hW]; exact ((hM.alloc _).alloc _).alloc _
 have HBW : Hid (But r r w W) := by rw [hW]; exact (((But.refl _ _ _).alloc _).alloc _).alloc _
 have HBO : Hid (Bo r w.heap.size (w.heap.size + 1) (w.heap.size + 1 + 1) D b W) := by rw [hW]; exact Bo.new hM.lt _ _ _
 have HDR : Hid _ := draw_c r l i W HMW.out (by omega)
 have HOK : Hid (x.ok) := by rw [hx]; exact hM.ok i
 have d1 : D ≤ 0 := by omega
 have HWW : Hid (W = _) := hW
 rw [← hD]
 rw [← hx] at HDR
 have HIC : Hid (i + 4 * c ≤ 1000000 ∧ 1 ≤ c) := ⟨hi, hc⟩
 have HDD : Hid (D = _) := hD
 obtain ⟨xk, xa, xb, xc⟩ := x
 obtain ⟨t1, t2⟩ := wf_range (wf_tdiv HOK.out.1)
 clear hx hi hc hW hM hD
 go_enter Tryz.func15, Tryz.ntmps15
 go_wp2_with fail
 rw [← HWW.out]
 refine Calls.mono HDR.out ?_
 rintro e w1 ⟨rfl, hM1, hb1⟩
 obtain ⟨p, hp⟩ : ∃ p, p = w.heap.size := ⟨_, rfl⟩
 obtain ⟨q, hq⟩ : ∃ p, p = w.heap.size + 1 := ⟨_, rfl⟩
 obtain ⟨t, ht⟩ : ∃ p, p = w.heap.size + 1 + 1 := ⟨_, rfl⟩
 have HBO1 := HBO.out.but hb1
 rw [← ht, ← hq, ← hp] at HBO1 ⊢
 obtain ⟨b0, b1, b2, rp, rq, rt⟩ := HBO1
 obtain ⟨W2, hW2⟩ : ∃ W2, W2 = (w1.alloc (.cells #[.int .i64 xk, .int .i64 xa, .int .i64 xb, .int .i64 xc] 44)).alloc (.cells #[.string ⟨#[120]⟩, .string ⟨#[121]⟩, .string ⟨#[122]⟩, .string ⟨#[115, 101, 101, 100]⟩] 9) := ⟨_, rfl⟩
 have HM2 : Hid (Mk r W2 l (i + 1)) := by rw [hW2]; exact (hM1.alloc _).alloc _
 have HB2 : Hid (But r r w W2) := by rw [hW2]; exact ((HBW.out.trans hb1).alloc _).alloc _
 have HBO2 : Hid (Bo r p q t D b W2) := by rw [hW2]; exact (Bo.below ⟨b0, b1, b2, rp, rq, rt⟩ ((Below.refl _ _).alloc (Nat.le_refl _) _)).below ((Below.refl _ _).alloc (Nat.le_refl _) _)
 have HLO2 : Hid (Lo r w1.heap.size (w1.heap.size + 1) ⟨xk, xa, xb, xc⟩ W2) := by rw [hW2]; exact Lo.new ⟨xk, xa, xb, xc⟩ hM1.lt _ _
 obtain ⟨u, hu⟩ : ∃ p, p = w1.heap.size := ⟨_, rfl⟩
 obtain ⟨v, hv⟩ : ∃ p, p = w1.heap.size + 1 := ⟨_, rfl⟩
 have HUV : Hid (u = _ ∧ v = _) := ⟨hu, hv⟩
 have HWW2 : Hid (W2 = _) := hW2
 have l1 : q < w1.heap.size := World.block_lt_of_cell? w1 ⟨q, 0, none⟩ b1
 have n1 : ¬ q = w1.heap.size := by omega
 have m1 : ¬ q = w1.heap.size + 1 := by omega
 clear hM1 hb1 HDR HBO HBW HMW HWW hp hq ht hu hv hW2 b0 b2 rp rt
 unfold rwV
 go_wp2_with fail
 rw [← HWW2.out, ← HUV.out.2, ← HUV.out.1]
 rw [← HUV.out.2, ← HUV.out.1] at HLO2
 clear HWW2 HUV l1 n1 m1 b1 rq
 obtain ⟨x0, x1, x2, x3, v0, v1, v2, v3, ru, rv⟩ := HLO2.out
 obtain ⟨b0, b1, b2, rp, rq, rt⟩ := HBO2.out
 simp only at x0 x1 x2 x3
 obtain ⟨JN, hJN⟩ : ∃ J : Nat, J = pickR xa 30 := ⟨_, rfl⟩
 have hJN2 : JN < 30 := by rw [hJN]; exact pickR_lt _ (by decide)
 have HPJN : Hid (∀ W : World, Calls Tryz.prog 8 #[.int .i64 xa, .int .i64 30] W fun e w' => e = .returned (.int .i64 (JN : Int)) ∧ w' = W) := fun W => by
  have h := picked_x xa 30 W HOK.out.2.1 (by decide) (by decide)
  rw [hJN]
  exact h
 obtain ⟨JA, hJA⟩ : ∃ J : Nat, J = pickR xa 4 := ⟨_, rfl⟩
 have hJA2 : JA < 4 := by rw [hJA]; exact pickR_lt _ (by decide)
 have HPJA : Hid (∀ W : World, Calls Tryz.prog 8 #[.int .i64 xa, .int .i64 4] W fun e w' => e = .returned (.int .i64 (JA : Int)) ∧ w' = W) := fun W => by
  have h := picked_x xa 4 W HOK.out.2.1 (by decide) (by decide)
  rw [hJA]
  exact h
 obtain ⟨JB, hJB⟩ : ∃ J : Nat, J = pickR xb 4 := ⟨_, rfl⟩
 have hJB2 : JB < 4 := by rw [hJB]; exact pickR_lt _ (by decide)
 have HPJB : Hid (∀ W : World, Calls Tryz.prog 8 #[.int .i64 xb, .int .i64 4] W fun e w' => e = .returned (.int .i64 (JB : Int)) ∧ w' = W) := fun W => by
  have h := picked_x xb 4 W HOK.out.2.2.1 (by decide) (by decide)
  rw [hJB]
  exact h
 obtain ⟨JC, hJC⟩ : ∃ J : Nat, J = pickR xc 6 := ⟨_, rfl⟩
 have hJC2 : JC < 6 := by rw [hJC]; exact pickR_lt _ (by decide)
 have HPJC : Hid (∀ W : World, Calls Tryz.prog 8 #[.int .i64 xc, .int .i64 6] W fun e w' => e = .returned (.int .i64 (JC : Int)) ∧ w' = W) := fun W => by
  have h := picked_x xc 6 W HOK.out.2.2.2 (by decide) (by decide)
  rw [hJC]
  exact h
 obtain ⟨VA, hVA⟩ : ∃ V : List UInt8, V ∈ varsL ∧ W2.cell? ⟨v, JA, none⟩ = some (.string (bs V)) := by
  have h : JA = 0 ∨ JA = 1 ∨ JA = 2 ∨ JA = 3 := by omega
  rcases h with h | h | h | h <;> rw [h]
  · exact ⟨[120], by decide, v0⟩
  · exact ⟨[121], by decide, v1⟩
  · exact ⟨[122], by decide, v2⟩
  · exact ⟨[115, 101, 101, 100], by decide, v3⟩
 obtain ⟨SA, hSA⟩ : ∃ S, S = bs VA := ⟨_, rfl⟩
 have yA := hVA.2
 rw [← hSA] at yA
 obtain ⟨VB, hVB⟩ : ∃ V : List UInt8, V ∈ varsL ∧ W2.cell? ⟨v, JB, none⟩ = some (.string (bs V)) := by
  have h : JB = 0 ∨ JB = 1 ∨ JB = 2 ∨ JB = 3 := by omega
  rcases h with h | h | h | h <;> rw [h]
  · exact ⟨[120], by decide, v0⟩
  · exact ⟨[121], by decide, v1⟩
  · exact ⟨[122], by decide, v2⟩
  · exact ⟨[115, 101, 101, 100], by decide, v3⟩
 obtain ⟨SB, hSB⟩ : ∃ S, S = bs VB := ⟨_, rfl⟩
 have yB := hVB.2
 rw [← hSB] at yB
 obtain ⟨TA, hTA⟩ : ∃ T, T = bs (digs JN) := ⟨_, rfl⟩
 obtain ⟨TB, hTB⟩ : ∃ T, T = bs (digs (JB + 1)) := ⟨_, rfl⟩
 have zb : TB.size ≤ 2 := by rw [hTB, bs_size]; exact digs_len (by omega)
 have lu : u < W2.heap.size := World.block_lt_of_cell? W2 ⟨u, 2, none⟩ x2
 have lv : v < W2.heap.size := World.block_lt_of_cell? W2 ⟨v, 0, none⟩ v0
 have ca0 : (0 : Int) ≤ (JA : Int) := by omega
 have ca1 : (JA : Int) < 4 := by omega
 have cb0 : (0 : Int) ≤ (JB : Int) := by omega
 have cb1 : (JB : Int) < 4 := by omega
 have cc0 : (0 : Int) ≤ (JC : Int) := by omega
 have cc1 : (JC : Int) < 6 := by omega
 have cd0 : (-9223372036854775808 : Int) ≤ 1 + (JB : Int) := by omega
 have cd1 : 1 + (JB : Int) ≤ 9223372036854775807 := by omega
 have HPW : Hid (Pow W2) := HM2.out.pw.elim fun _ h => h.2.2
 have HIA : Hid (Calls Tryz.prog 33 #[.int .i64 (JN : Int)] W2.drew fun e w3 => e = .returned (.string TA) ∧ Hid (Below W2.heap.size W2 w3) ∧ w3.cell? ⟨u, 1, none⟩ = some (.int .i64 xa) ∧ w3.cell? ⟨u, 2, none⟩ = some (.int .i64 xb) ∧ w3.cell? ⟨u, 3, none⟩ = some (.int .i64 xc) ∧ w3.cell? ⟨v, JA, none⟩ = some (.string SA) ∧ w3.cell? ⟨v, JB, none⟩ = some (.string SB)) := by
  refine (Tryz.strconv_Itoa (JN : Int) (by omega) (by omega) W2.drew (HPW.out.stays (below_drew _))).mono ?_
  rintro e w3 ⟨rfl, hg⟩
  have hb : Below W2.heap.size W2 w3 := bl_trans (below_drew W2) (below_grown_k hg)
  exact ⟨by rw [hTA]; rfl, hb, (hb.cell (p := ⟨u, 1, none⟩) lu).trans x1, (hb.cell (p := ⟨u, 2, none⟩) lu).trans x2, (hb.cell (p := ⟨u, 3, none⟩) lu).trans x3, (hb.cell (p := ⟨v, JA, none⟩) lv).trans yA, (hb.cell (p := ⟨v, JB, none⟩) lv).trans yB⟩
 have HIB : Hid (∀ w3, Below W2.heap.size W2 w3 → Calls Tryz.prog 33 #[.int .i64 (IntKind.i64.wrap (1 + (JB : Int)))] w3 fun e w4 => e = .returned (.string TB) ∧ Hid (Below W2.heap.size W2 w4) ∧ w4.cell? ⟨u, 1, none⟩ = some (.int .i64 xa) ∧ w4.cell? ⟨u, 2, none⟩ = some (.int .i64 xb) ∧ w4.cell? ⟨u, 3, none⟩ = some (.int .i64 xc) ∧ w4.cell? ⟨v, JA, none⟩ = some (.string SA) ∧ w4.cell? ⟨v, JB, none⟩ = some (.string SB) ∧ u < w4.heap.size ∧ ¬ u = w4.heap.size ∧ v < w4.heap.size ∧ ¬ v = w4.heap.size) := by
  intro w3 hb0
  rw [show IntKind.i64.wrap (1 + (JB : Int)) = ((JB + 1 : Nat) : Int) by rw [IntKind.wrap_i64]; omega]
  refine (Tryz.strconv_Itoa ((JB + 1 : Nat) : Int) (by omega) (by omega) w3 (HPW.out.stays hb0)).mono ?_
  rintro e w4 ⟨rfl, hg⟩
  have hb : Below W2.heap.size W2 w4 := bl_trans hb0 (below_grown_k hg)
  have hz := hb.size
  exact ⟨by rw [hTB]; rfl, hb, (hb.cell (p := ⟨u, 1, none⟩) lu).trans x1, (hb.cell (p := ⟨u, 2, none⟩) lu).trans x2, (hb.cell (p := ⟨u, 3, none⟩) lu).trans x3, (hb.cell (p := ⟨v, JA, none⟩) lv).trans yA, (hb.cell (p := ⟨v, JB, none⟩) lv).trans yB, by omega, by omega, by omega, by omega⟩
 obtain ⟨OB, hOB⟩ : ∃ OB : ByteArray, (∃ s, OB = bs s ∧ GE 0 b s) ∧ ∀ h : JC < ([.string TA, .string SA, .string ⟨#[34, 116, 34]⟩, .string ⟨#[34, 49, 50, 32, 98, 34]⟩, .string (⟨#[97, 91]⟩ ++ TB ++ ⟨#[93]⟩), .string SB] : List Value).length, ([.string TA, .string SA, .string ⟨#[34, 116, 34]⟩, .string ⟨#[34, 49, 50, 32, 98, 34]⟩, .string (⟨#[97, 91]⟩ ++ TB ++ ⟨#[93]⟩), .string SB] : List Value)[JC]'h = .string OB := by
  have h : JC = 0 ∨ JC = 1 ∨ JC = 2 ∨ JC = 3 ∨ JC = 4 ∨ JC = 5 := by omega
  clear HPJC hJC hJC2 cc0 cc1
  rcases h with rfl | rfl | rfl | rfl | rfl | rfl
  · exact ⟨TA, ⟨_, hTA, GE.num hJN2⟩, fun _ => rfl⟩
  · exact ⟨SA, ⟨_, hSA, GE.var hVA.1⟩, fun _ => rfl⟩
  · exact ⟨_, ⟨[34, 116, 34], rfl, GE.st⟩, fun _ => rfl⟩
  · exact ⟨_, ⟨[34, 49, 50, 32, 98, 34], rfl, GE.st2⟩, fun _ => rfl⟩
  · exact ⟨_, ⟨[97, 91] ++ digs (JB + 1) ++ [93], by rw [hTB]; simp only [← bs_app]; rfl, GE.elem (by omega) (by omega)⟩, fun _ => rfl⟩
  · exact ⟨SB, ⟨_, hSB, GE.var hVB.1⟩, fun _ => rfl⟩
 have e1 := hOB.2
 have HF : Hid (∀ w', Below W2.heap.size W2 w' → MkOut (GE 0 b) (4 * c) r l i w (.returned (.string OB)) w') := fun w' hb => by
  obtain ⟨s, hs, hg⟩ := hOB.1
  exact ⟨s, i + 1, by rw [hs], hg, HM2.out.below hb, by obtain ⟨h8, h9⟩ := HIC.out; omega, HB2.out.more hb⟩
 clear HM2 HB2 HBO2 HLO2 b0 b1 b2 rp rq rt v0 v1 v2 v3 HIC HOK HDD t1 t2 x0 hOB hVA hVB hSA hSB hTA hTB hJN hJA hJB hJC HPW
 have HIP : Hid (∀ w3, Below W2.heap.size W2 w3 → Calls Tryz.prog 33 #[.int .i64 (1 + (JB : Int))] w3 fun e w4 => e = .returned (.string TB) ∧ Hid (Below W2.heap.size W2 w4) ∧ w4.cell? ⟨u, 1, none⟩ = some (.int .i64 xa) ∧ w4.cell? ⟨u, 2, none⟩ = some (.int .i64 xb) ∧ w4.cell? ⟨u, 3, none⟩ = some (.int .i64 xc) ∧ w4.cell? ⟨v, JA, none⟩ = some (.string SA) ∧ w4.cell? ⟨v, JB, none⟩ = some (.string SB) ∧ u < w4.heap.size ∧ ¬ u = w4.heap.size ∧ v < w4.heap.size ∧ ¬ v = w4.heap.size) := by
  have h := HIB.out
  rw [show IntKind.i64.wrap (1 + (JB : Int)) = 1 + (JB : Int) by rw [IntKind.wrap_i64]; omega] at h
  exact h
 go_wp2_with fail
 refine wp_region_held_drew (S := fun w9 => w9.cell? ⟨u, 1, none⟩ = some (.int .i64 xa) ∧ w9.cell? ⟨u, 2, none⟩ = some (.int .i64 xb) ∧ w9.cell? ⟨u, 3, none⟩ = some (.int .i64 xc) ∧ w9.cell? ⟨v, JA, none⟩ = some (.string SA) ∧ w9.cell? ⟨v, JB, none⟩ = some (.string SB)) (by kernel_rfl) ⟨x1, x2, x3, yA, yB⟩ (fun hHeld => ?_)
 refine tk 0 hHeld rfl (v := ?_) ?_ ?_
 rotate_left
 · intro w9 h9; (try dsimp only at h9); go_simp <;> first | with_reducible rfl | rw [if_neg (by omega)]
 try simp only [Act.put, lay]
 refine tk 1 hHeld rfl (v := ?_) ?_ ?_
 rotate_left
 · intro w9 h9; (try dsimp only at h9); go_simp <;> first | with_reducible rfl | rw [if_neg (by omega)]
 try simp only [Act.put, lay]
 refine tk 4 hHeld rfl (v := ?_) ?_ ?_
 rotate_left
 · intro w9 h9; (try dsimp only at h9); go_simp <;> first | with_reducible rfl | rw [if_neg (by omega)]
 try simp only [Act.put, lay]
 refine tk 5 hHeld rfl (v := ?_) ?_ ?_
 rotate_left
 · intro w9 h9; (try dsimp only at h9); go_simp <;> first | with_reducible rfl | rw [if_neg (by omega)]
 try simp only [Act.put, lay]
 refine tk 6 hHeld rfl (v := ?_) ?_ ?_
 rotate_left
 · intro w9 h9; (try dsimp only at h9); go_simp <;> first | with_reducible rfl | rw [if_neg (by omega)]
 try simp only [Act.put, lay]
 refine tk 10 hHeld rfl (v := ?_) ?_ ?_
 rotate_left
 · intro w9 h9; (try dsimp only at h9); go_simp <;> first | with_reducible rfl | rw [if_neg (by omega)]
 try simp only [Act.put, lay]
 refine tk 11 hHeld rfl (v := ?_) ?_ ?_
 rotate_left
 · intro w9 h9; (try dsimp only at h9); go_simp <;> first | with_reducible rfl | rw [if_neg (by omega)]
 try simp only [Act.put, lay]
 refine tk 17 hHeld rfl (v := ?_) ?_ ?_
 rotate_left
 · intro w9 h9; (try dsimp only at h9); go_simp <;> first | with_reducible rfl | rw [if_neg (by omega)]
 try simp only [Act.put, lay]
 refine tk 18 hHeld rfl (v := ?_) ?_ ?_
 rotate_left
 · intro w9 h9; (try dsimp only at h9); go_simp <;> first | with_reducible rfl | rw [if_neg (by omega)]
 try simp only [Act.put, lay]
 refine tk 19 hHeld rfl (v := ?_) ?_ ?_
 rotate_left
 · intro w9 h9; (try dsimp only at h9); go_simp <;> first | with_reducible rfl | rw [if_neg (by omega)]
 try simp only [Act.put, lay]
 refine tk 24 hHeld rfl (v := ?_) ?_ ?_
 rotate_left
 · intro w9 h9; (try dsimp only at h9); go_simp <;> first | with_reducible rfl | rw [if_neg (by omega)]
 try simp only [Act.put, lay]
 refine tk 25 hHeld rfl (v := ?_) ?_ ?_
 rotate_left
 · intro w9 h9; (try dsimp only at h9); go_simp <;> first | with_reducible rfl | rw [if_neg (by omega)]
 try simp only [Act.put, lay]
 refine wpAnyH_ready (rs := [2]) (by kernel_rfl) (by simp) ?_
 refine AllReadyH.cons rfl (fun K hK => ?_) ?_
 · go_simp
   refine Calls.mono (HPJN.out _) ?_
   rintro e w2 ⟨rfl, hw2⟩
   rw [hw2]
   clear hw2 w2
   go_wp2_with fail
   refine hK.out _ _ hHeld (fun h8 => ?_)
   clear hK K
   replace hHeld := h8
   clear h8
   try simp only [Act.put, lay]
   refine wpAnyH_ready (rs := [3]) (by kernel_rfl) (by simp) ?_
   refine AllReadyH.cons rfl (fun K hK => ?_) ?_
   · go_simp
     refine Calls.mono HIA.out ?_
     rintro e w3 ⟨rfl, H3, f1, f2, f3, f4, f5⟩
     go_wp2_with fail
     refine hK.out _ _ ⟨f1, f2, f3, f4, f5⟩ (fun h8 => ?_)
     clear hK K
     replace hHeld := h8
     clear h8
     try simp only [Act.put, lay]
     refine wpAnyH_ready (rs := [7]) (by kernel_rfl) (by simp) ?_
     refine AllReadyH.cons rfl (fun K hK => ?_) ?_
     · go_simp
       refine Calls.mono (HPJA.out _) ?_
       rintro e w2 ⟨rfl, hw2⟩
       rw [hw2]
       clear hw2 w2
       go_wp2_with fail
       refine hK.out _ _ hHeld (fun h8 => ?_)
       clear hK K
       replace hHeld := h8
       clear h8
       try simp only [Act.put, lay]
       refine tk 8 hHeld rfl (v := ?_) ?_ ?_
       rotate_left
       · intro w9 h9; (try dsimp only at h9); go_simp <;> first | with_reducible rfl | rw [if_neg (by omega)]
       try simp only [Act.put, lay]
       refine tk 9 hHeld rfl (v := ?_) ?_ ?_
       rotate_left
       · intro w9 h9; (try dsimp only at h9); go_simp <;> first | with_reducible rfl | rw [if_neg (by omega)]
       try simp only [Act.put, lay]
       refine wpAnyH_ready (rs := [12]) (by kernel_rfl) (by simp) ?_
       refine AllReadyH.cons rfl (fun K hK => ?_) ?_
       · go_simp
         refine Calls.mono (HPJB.out _) ?_
         rintro e w2 ⟨rfl, hw2⟩
         rw [hw2]
         clear hw2 w2
         go_wp2_with fail
         refine hK.out _ _ hHeld (fun h8 => ?_)
         clear hK K
         replace hHeld := h8
         clear h8
         try simp only [Act.put, lay]
         refine tk 13 hHeld rfl (v := ?_) ?_ ?_
         rotate_left
         · intro w9 h9; (try dsimp only at h9); go_simp <;> first | with_reducible rfl | rw [if_neg (by omega)]
         try simp only [Act.put, lay]
         refine wpAnyH_ready (rs := [14]) (by kernel_rfl) (by simp) ?_
         refine AllReadyH.cons rfl (fun K hK => ?_) ?_
         · go_simp
           first | with_reducible refine Calls.mono (HIB.out w3 H3.out) ?_ | with_reducible refine Calls.mono (HIP.out w3 H3.out) ?_
           rintro e w4 ⟨rfl, H4, g1, g2, g3, g4, g5, lu4, nu4, lv4, nv4⟩
           go_wp2_with fail
           refine hK.out _ _ ⟨g1, g2, g3, g4, g5⟩ (fun h8 => ?_)
           clear hK K
           replace hHeld := h8
           clear h8
           try simp only [Act.put, lay]
           refine tk 15 hHeld rfl (v := ?_) ?_ ?_
           rotate_left
           · intro w9 h9; (try dsimp only at h9); go_simp <;> first | with_reducible rfl | rw [if_neg (by omega)]
           try simp only [Act.put, lay]
           refine tk 16 hHeld rfl (v := ?_) ?_ ?_
           rotate_left
           · intro w9 h9; (try dsimp only at h9); go_simp <;> first | with_reducible rfl | rw [if_neg (by omega)]
           try simp only [Act.put, lay]
           refine wpAnyH_ready (rs := [20]) (by kernel_rfl) (by simp) ?_
           refine AllReadyH.cons rfl (fun K hK => ?_) ?_
           · go_simp
             refine Calls.mono (HPJB.out _) ?_
             rintro e w2 ⟨rfl, hw2⟩
             rw [hw2]
             clear hw2 w2
             go_wp2_with fail
             refine hK.out _ _ hHeld (fun h8 => ?_)
             clear hK K
             replace hHeld := h8
             clear h8
             try simp only [Act.put, lay]
             refine tk 21 hHeld rfl (v := ?_) ?_ ?_
             rotate_left
             · intro w9 h9; (try dsimp only at h9); go_simp <;> first | with_reducible rfl | rw [if_neg (by omega)]
             try simp only [Act.put, lay]
             refine tk 22 hHeld rfl (v := ?_) ?_ ?_
             rotate_left
             · intro w9 h9; (try dsimp only at h9); go_simp <;> first | with_reducible rfl | rw [if_neg (by omega)]
             try simp only [Act.put, lay]
             refine wpAnyH_ready (rs := [23, 26]) (by kernel_rfl) (by simp) ?_
             refine AllReadyH.cons rfl (fun K hK => ?_) ?_
             · go_simp
               refine hK.out _ _ ⟨(cell_keep _ _ u 1 lu4).trans g1, (cell_keep _ _ u 2 lu4).trans g2, (cell_keep _ _ u 3 lu4).trans g3, (cell_keep _ _ v JA lv4).trans g4, (cell_keep _ _ v JB lv4).trans g5⟩ (fun h8 => ?_)
               clear hK K
               replace hHeld := h8
               clear h8
               try simp only [Act.put, lay]
               refine wpAnyH_ready (rs := [26]) (by kernel_rfl) (by simp) ?_
               refine AllReadyH.cons rfl (fun K hK => ?_) ?_
               · go_simp
                 refine Calls.mono (HPJC.out _) ?_
                 rintro e w2 ⟨rfl, hw2⟩
                 rw [hw2]
                 clear hw2 w2
                 go_wp2_with fail
                 refine hK.out _ _ hHeld (fun h8 => ?_)
                 clear hK K
                 replace hHeld := h8
                 clear h8
                 try simp only [Act.put, lay]
                 refine tk 27 hHeld rfl (v := ?_) ?_ ?_
                 rotate_left
                 · intro w9 h9; (try dsimp only at h9); go_simp <;> first | with_reducible rfl | rw [if_neg (by omega)]
                 try simp only [Act.put, lay]
                 refine wpAnyH_ready (rs := [28]) (by kernel_rfl) (by simp) ?_
                 refine AllReadyH.cons rfl (fun K hK => ?_) ?_
                 · go_simp
                   refine hK.out _ _ hHeld (fun h8 => ?_)
                   clear hK K
                   replace hHeld := h8
                   clear h8
                   try simp only [Act.put, lay]
                   refine tk 29 hHeld rfl (v := ?_) ?_ ?_
                   rotate_left
                   · intro w9 h9; (try dsimp only at h9); go_simp <;> first | with_reducible rfl | rw [if_neg (by omega)]
                   try simp only [Act.put, lay]
                   refine wpAnyH_done (by kernel_rfl) ?_ _
                   go_wp2_with fail
                   go_ret
                   first | exact HF.out _ H4.out | exact HF.out _ (bl_trans H4.out ((Below.refl _ _).alloc (Nat.le_refl _) _))
                 exact AllReadyH.nil
               exact AllReadyH.nil
             refine AllReadyH.cons rfl (fun K hK => ?_) ?_
             · go_simp
               refine Calls.mono (HPJC.out _) ?_
               rintro e w2 ⟨rfl, hw2⟩
               rw [hw2]
               clear hw2 w2
               go_wp2_with fail
               refine hK.out _ _ hHeld (fun h8 => ?_)
               clear hK K
               replace hHeld := h8
               clear h8
               try simp only [Act.put, lay]
               refine wpAnyH_ready (rs := [23]) (by kernel_rfl) (by simp) ?_
               refine AllReadyH.cons rfl (fun K hK => ?_) ?_
               · go_simp
                 refine hK.out _ _ ⟨(cell_keep _ _ u 1 lu4).trans g1, (cell_keep _ _ u 2 lu4).trans g2, (cell_keep _ _ u 3 lu4).trans g3, (cell_keep _ _ v JA lv4).trans g4, (cell_keep _ _ v JB lv4).trans g5⟩ (fun h8 => ?_)
                 clear hK K
                 replace hHeld := h8
                 clear h8
                 try simp only [Act.put, lay]
                 refine tk 27 hHeld rfl (v := ?_) ?_ ?_
                 rotate_left
                 · intro w9 h9; (try dsimp only at h9); go_simp <;> first | with_reducible rfl | rw [if_neg (by omega)]
                 try simp only [Act.put, lay]
                 refine wpAnyH_ready (rs := [28]) (by kernel_rfl) (by simp) ?_
                 refine AllReadyH.cons rfl (fun K hK => ?_) ?_
                 · go_simp
                   refine hK.out _ _ hHeld (fun h8 => ?_)
                   clear hK K
                   replace hHeld := h8
                   clear h8
                   try simp only [Act.put, lay]
                   refine tk 29 hHeld rfl (v := ?_) ?_ ?_
                   rotate_left
                   · intro w9 h9; (try dsimp only at h9); go_simp <;> first | with_reducible rfl | rw [if_neg (by omega)]
                   try simp only [Act.put, lay]
                   refine wpAnyH_done (by kernel_rfl) ?_ _
                   go_wp2_with fail
                   go_ret
                   first | exact HF.out _ H4.out | exact HF.out _ (bl_trans H4.out ((Below.refl _ _).alloc (Nat.le_refl _) _))
                 exact AllReadyH.nil
               exact AllReadyH.nil
             exact AllReadyH.nil
           exact AllReadyH.nil
         exact AllReadyH.nil
       exact AllReadyH.nil
     exact AllReadyH.nil
   exact AllReadyH.nil
 exact AllReadyH.nil
end Go.Proofs.YtfbpkbochhfnhaaGreatDoor
namespace Go.Proofs.YtfbpkbochhfnhaaGreatDoor
open Go.ChangeShapes Go.WideShapes Go.ChangeAt Go.RowKit Go.Joins
set_option linter.unusedVariables false
set_option maxRecDepth 100000
set_option maxHeartbeats 4000000 in
theorem exp_nr {d c : Nat} (hX : MkE d c) (hc : 1 ≤ c) (r : Nat) (l : List Rw) (i : Nat) (w : World) (hM : Mk r w l i) (hi : i + 4 * c ≤ 1000000) (hd : d ≤ 10)
 (hk4 : ¬ pickR (nextR l i).kind 4 = 0) (hk : pickR ((nextR l i).kind.tdiv 4) 16 = 13) :
 Calls Tryz.prog 15 #[.pointer (some ⟨r, 0, none⟩), .int .i64 ((d + 1 : Nat) : Int), .bool false] w (MkOut (GE (d + 1) false) (4 * c) r l i w) := by
 obtain ⟨D, hD⟩ : ∃ D : Int, D = ((d + 1 : Nat) : Int) := ⟨_, rfl⟩
 obtain ⟨x, hx⟩ : ∃ x, x = nextR l i := ⟨_, rfl⟩
 obtain ⟨W, hW⟩ : ∃ W, W = (((w.alloc (.cells #[.pointer (some ⟨r, 0, none⟩)] 40)).alloc (.cells #[.int .i64 D] 3)).alloc (.cells #[.bool false] 4)) := ⟨_, rfl⟩
 have HMW : Hid (Mk r W l i) := by rw [hW]; exact ((hM.alloc _).alloc _).alloc _
 have HBW : Hid (But r r w W) := by rw [hW]; exact (((But.refl _ _ _).alloc _).alloc _).alloc _
 have HBO : Hid (Bo r w.heap.size (w.heap.size + 1) (w.heap.size + 1 + 1) D false W) := by rw [hW]; exact Bo.new hM.lt _ _ _
 have HDR : Hid _ := draw_c r l i W HMW.out (by omega)
 have HOK : Hid (x.ok) := by rw [hx]; exact hM.ok i
 have d1 : ¬ D ≤ 0 := by omega
 have HWW : Hid (W = _) := hW
 rw [← hD]
 rw [← hx] at hk4 hk HDR
 have HIC : Hid (i + 4 * c ≤ 1000000 ∧ 1 ≤ c) := ⟨hi, hc⟩
 have HDD : Hid (D = _) := hD
 obtain ⟨xk, xa, xb, xc⟩ := x
 have HP4 : Hid (∀ W : World, _) := fun W => picked_x xk 4 W HOK.out.1 (by decide) (by decide)
 simp only at hk
 obtain ⟨t1, t2⟩ := wf_range (wf_tdiv HOK.out.1)
 have HPK : Hid (∀ W : World, Calls Tryz.prog 8 #[.int .i64 (xk.tdiv 4), .int .i64 16] W fun e w' => e = .returned (.int .i64 13) ∧ w' = W) := fun W => by
  have h := picked_x (xk.tdiv 4) 16 W (wf_tdiv HOK.out.1) (by decide) (by decide)
  rw [hk] at h
  exact h
 obtain ⟨K4, hK4⟩ : ∃ K : Int, K = ((pickR xk 4 : Nat) : Int) := ⟨_, rfl⟩
 have k4 : ¬ K4 = 0 := by simp only at hk4; omega
 have k4b : (K4 == 0) = false := by simpa using k4
 rw [← hK4] at HP4
 obtain ⟨J, hJ⟩ : ∃ J : Nat, J = pickR xb 2 := ⟨_, rfl⟩
 have hJ2 : J < 2 := by rw [hJ]; exact pickR_lt _ (by decide)
 have HPB : Hid (∀ W : World, Calls Tryz.prog 8 #[.int .i64 xb, .int .i64 2] W fun e w' => e = .returned (.int .i64 (J : Int)) ∧ w' = W) := fun W => by
  have h := picked_x xb 2 W HOK.out.2.2.1 (by decide) (by decide)
  rw [hJ]
  exact h
 clear hJ
 clear hk4 hk hx hi hc hW hM hD hK4
 go_enter Tryz.func15, Tryz.ntmps15
 go_wp2_with fail
 rw [← HWW.out]
 refine Calls.mono HDR.out ?_
 rintro e w1 ⟨rfl, hM1, hb1⟩
 obtain ⟨p, hp⟩ : ∃ p, p = w.heap.size := ⟨_, rfl⟩
 obtain ⟨q, hq⟩ : ∃ p, p = w.heap.size + 1 := ⟨_, rfl⟩
 obtain ⟨t, ht⟩ : ∃ p, p = w.heap.size + 1 + 1 := ⟨_, rfl⟩
 have HBO1 := HBO.out.but hb1
 rw [← ht, ← hq, ← hp] at HBO1 ⊢
 obtain ⟨b0, b1, b2, rp, rq, rt⟩ := HBO1
 obtain ⟨W2, hW2⟩ : ∃ W2, W2 = (w1.alloc (.cells #[.int .i64 xk, .int .i64 xa, .int .i64 xb, .int .i64 xc] 44)).alloc (.cells #[.string ⟨#[120]⟩, .string ⟨#[121]⟩, .string ⟨#[122]⟩, .string ⟨#[115, 101, 101, 100]⟩] 9) := ⟨_, rfl⟩
 have HM2 : Hid (Mk r W2 l (i + 1)) := by rw [hW2]; exact (hM1.alloc _).alloc _
 have HB2 : Hid (But r r w W2) := by rw [hW2]; exact ((HBW.out.trans hb1).alloc _).alloc _
 have HBO2 : Hid (Bo r p q t D false W2) := by rw [hW2]; exact (Bo.below ⟨b0, b1, b2, rp, rq, rt⟩ ((Below.refl _ _).alloc (Nat.le_refl _) _)).below ((Below.refl _ _).alloc (Nat.le_refl _) _)
 have HLO2 : Hid (Lo r w1.heap.size (w1.heap.size + 1) ⟨xk, xa, xb, xc⟩ W2) := by rw [hW2]; exact Lo.new ⟨xk, xa, xb, xc⟩ hM1.lt _ _
 obtain ⟨u, hu⟩ : ∃ p, p = w1.heap.size := ⟨_, rfl⟩
 obtain ⟨v, hv⟩ : ∃ p, p = w1.heap.size + 1 := ⟨_, rfl⟩
 have HUV : Hid (u = _ ∧ v = _) := ⟨hu, hv⟩
 have HWW2 : Hid (W2 = _) := hW2
 have l1 : q < w1.heap.size := World.block_lt_of_cell? w1 ⟨q, 0, none⟩ b1
 have n1 : ¬ q = w1.heap.size := by omega
 have m1 : ¬ q = w1.heap.size + 1 := by omega
 clear hM1 hb1 HDR HBO HBW HMW HWW hp hq ht hu hv hW2 b0 b2 rp rt
 unfold rwV
 go_wp2_with fail
 rw [← HWW2.out, ← HUV.out.2, ← HUV.out.1]
 rw [← HUV.out.2, ← HUV.out.1] at HLO2
 clear HWW2 HUV l1 n1 m1 b1 rq
 refine Calls.mono (HP4.out W2) ?_
 rintro e w2 ⟨rfl, hw2⟩
 rw [hw2]
 clear hw2 w2 HP4
 obtain ⟨x0, x1, x2, x3, v0, v1, v2, v3, ru, rv⟩ := HLO2.out
 obtain ⟨b0, b1, b2, rp, rq, rt⟩ := HBO2.out
 simp only at x0 x1 x2 x3
 go_wp2_with fail
 refine Calls.mono (HPK.out W2) ?_
 rintro e w2 ⟨rfl, hw2⟩
 rw [hw2]
 clear hw2 w2 HPK
 obtain ⟨OB, hOB⟩ : ∃ OB : ByteArray, (∃ s, OB = bs s ∧ GE (d + 1) false s) ∧ ∀ h : J < ([.string ⟨#[78, 82]⟩, .string ⟨#[78, 70]⟩] : List Value).length, ([.string ⟨#[78, 82]⟩, .string ⟨#[78, 70]⟩] : List Value)[J]'h = .string OB := by
  have h : J = 0 ∨ J = 1 := by omega
  clear HPB hJ2
  rcases h with rfl | rfl
  · exact ⟨_, ⟨[78, 82], rfl, GE.nr⟩, fun _ => rfl⟩
  · exact ⟨_, ⟨[78, 70], rfl, GE.nf⟩, fun _ => rfl⟩
 have e1 := hOB.2
 have j0 : (0 : Int) ≤ (J : Int) := by omega
 have j2 : (J : Int) < 2 := by omega
 have lu : u < W2.heap.size := World.block_lt_of_cell? W2 ⟨u, 2, none⟩ x2
 have nu : ¬ u = W2.heap.size := by omega
 have HF : Hid (∀ w', Below W2.heap.size W2 w' → MkOut (GE (d + 1) false) (4 * c) r l i w (.returned (.string OB)) w') := fun w' hb => by
  obtain ⟨s, hs, hg⟩ := hOB.1
  exact ⟨s, i + 1, by rw [hs], hg, HM2.out.below hb, by obtain ⟨h8, h9⟩ := HIC.out; omega, HB2.out.more hb⟩
 clear hOB
 go_wp2_with fail
 refine Calls.mono (HPB.out _) ?_
 rintro e w2 ⟨rfl, hw2⟩
 rw [hw2]
 clear hw2 w2
 go_wp2_with fail
 go_ret
 exact HF.out _ ((Below.refl _ _).alloc (Nat.le_refl _) _)
set_option maxHeartbeats 4000000 in
theorem exp_field {d c : Nat} (hX : MkE d c) (hc : 1 ≤ c) (r : Nat) (l : List Rw) (i : Nat) (w : World) (hM : Mk r w l i) (hi : i + 4 * c ≤ 1000000) (hd : d ≤ 10)
 (hk4 : ¬ pickR (nextR l i).kind 4 = 0) (hk : 13 < pickR ((nextR l i).kind.tdiv 4) 16) :
 Calls Tryz.prog 15 #[.pointer (some ⟨r, 0, none⟩), .int .i64 ((d + 1 : Nat) : Int), .bool false] w (MkOut (GE (d + 1) false) (4 * c) r l i w) := by
 obtain ⟨D, hD⟩ : ∃ D : Int, D = ((d + 1 : Nat) : Int) := ⟨_, rfl⟩
 obtain ⟨x, hx⟩ : ∃ x, x = nextR l i := ⟨_, rfl⟩
 obtain ⟨W, hW⟩ : ∃ W, W = (((w.alloc (.cells #[.pointer (some ⟨r, 0, none⟩)] 40)).alloc (.cells #[.int .i64 D] 3)).alloc (.cells #[.bool false] 4)) := ⟨_, rfl⟩
 have HMW : Hid (Mk r W l i) := by rw [hW]; exact ((hM.alloc _).alloc _).alloc _
 have HBW : Hid (But r r w W) := by rw [hW]; exact (((But.refl _ _ _).alloc _).alloc _).alloc _
 have HBO : Hid (Bo r w.heap.size (w.heap.size + 1) (w.heap.size + 1 + 1) D false W) := by rw [hW]; exact Bo.new hM.lt _ _ _
 have HDR : Hid _ := draw_c r l i W HMW.out (by omega)
 have HOK : Hid (x.ok) := by rw [hx]; exact hM.ok i
 have d1 : ¬ D ≤ 0 := by omega
 have HWW : Hid (W = _) := hW
 rw [← hD]
 rw [← hx] at hk4 hk HDR
 have HIC : Hid (i + 4 * c ≤ 1000000 ∧ 1 ≤ c) := ⟨hi, hc⟩
 have HDD : Hid (D = _) := hD
 obtain ⟨xk, xa, xb, xc⟩ := x
 have HP4 : Hid (∀ W : World, _) := fun W => picked_x xk 4 W HOK.out.1 (by decide) (by decide)
 simp only at hk
 obtain ⟨t1, t2⟩ := wf_range (wf_tdiv HOK.out.1)
 obtain ⟨K, hK⟩ : ∃ K : Int, K = ((pickR (xk.tdiv 4) 16 : Nat) : Int) := ⟨_, rfl⟩
 have HPK : Hid (∀ W : World, Calls Tryz.prog 8 #[.int .i64 (xk.tdiv 4), .int .i64 16] W fun e w' => e = .returned (.int .i64 K) ∧ w' = W) := fun W => by
  have h := picked_x (xk.tdiv 4) 16 W (wf_tdiv HOK.out.1) (by decide) (by decide)
  rw [hK]
  exact h
 have kf0 : ¬ K < 4 := by first | omega | (simp only [beq_eq_false_iff_ne, ne_eq]; omega)
 have kf1 : ¬ K < 6 := by first | omega | (simp only [beq_eq_false_iff_ne, ne_eq]; omega)
 have kf2 : (K == 6) = false := by first | omega | (simp only [beq_eq_false_iff_ne, ne_eq]; omega)
 have kf3 : (K == 7) = false := by first | omega | (simp only [beq_eq_false_iff_ne, ne_eq]; omega)
 have kf4 : (K == 8) = false := by first | omega | (simp only [beq_eq_false_iff_ne, ne_eq]; omega)
 have kf5 : (K == 9) = false := by first | omega | (simp only [beq_eq_false_iff_ne, ne_eq]; omega)
 have kf6 : (K == 10) = false := by first | omega | (simp only [beq_eq_false_iff_ne, ne_eq]; omega)
 have kf7 : (K == 11) = false := by first | omega | (simp only [beq_eq_false_iff_ne, ne_eq]; omega)
 have kf8 : (K == 12) = false := by first | omega | (simp only [beq_eq_false_iff_ne, ne_eq]; omega)
 have kf9 : (K == 13) = false := by first | omega | (simp only [beq_eq_false_iff_ne, ne_eq]; omega)
 clear hK
 obtain ⟨K4, hK4⟩ : ∃ K : Int, K = ((pickR xk 4 : Nat) : Int) := ⟨_, rfl⟩
 have k4 : ¬ K4 = 0 := by simp only at hk4; omega
 have k4b : (K4 == 0) = false := by simpa using k4
 rw [← hK4] at HP4
 obtain ⟨J, hJ⟩ : ∃ J : Nat, J = pickR xb 4 := ⟨_, rfl⟩
 have hJ2 : J < 4 := by rw [hJ]; exact pickR_lt _ (by decide)
 have HPB : Hid (∀ W : World, Calls Tryz.prog 8 #[.int .i64 xb, .int .i64 4] W fun e w' => e = .returned (.int .i64 (J : Int)) ∧ w' = W) := fun W => by
  have h := picked_x xb 4 W HOK.out.2.2.1 (by decide) (by decide)
  rw [hJ]
  exact h
 clear hJ
 clear hk4 hk hx hi hc hW hM hD hK4
 go_enter Tryz.func15, Tryz.ntmps15
 go_wp2_with fail
 rw [← HWW.out]
 refine Calls.mono HDR.out ?_
 rintro e w1 ⟨rfl, hM1, hb1⟩
 obtain ⟨p, hp⟩ : ∃ p, p = w.heap.size := ⟨_, rfl⟩
 obtain ⟨q, hq⟩ : ∃ p, p = w.heap.size + 1 := ⟨_, rfl⟩
 obtain ⟨t, ht⟩ : ∃ p, p = w.heap.size + 1 + 1 := ⟨_, rfl⟩
 have HBO1 := HBO.out.but hb1
 rw [← ht, ← hq, ← hp] at HBO1 ⊢
 obtain ⟨b0, b1, b2, rp, rq, rt⟩ := HBO1
 obtain ⟨W2, hW2⟩ : ∃ W2, W2 = (w1.alloc (.cells #[.int .i64 xk, .int .i64 xa, .int .i64 xb, .int .i64 xc] 44)).alloc (.cells #[.string ⟨#[120]⟩, .string ⟨#[121]⟩, .string ⟨#[122]⟩, .string ⟨#[115, 101, 101, 100]⟩] 9) := ⟨_, rfl⟩
 have HM2 : Hid (Mk r W2 l (i + 1)) := by rw [hW2]; exact (hM1.alloc _).alloc _
 have HB2 : Hid (But r r w W2) := by rw [hW2]; exact ((HBW.out.trans hb1).alloc _).alloc _
 have HBO2 : Hid (Bo r p q t D false W2) := by rw [hW2]; exact (Bo.below ⟨b0, b1, b2, rp, rq, rt⟩ ((Below.refl _ _).alloc (Nat.le_refl _) _)).below ((Below.refl _ _).alloc (Nat.le_refl _) _)
 have HLO2 : Hid (Lo r w1.heap.size (w1.heap.size + 1) ⟨xk, xa, xb, xc⟩ W2) := by rw [hW2]; exact Lo.new ⟨xk, xa, xb, xc⟩ hM1.lt _ _
 obtain ⟨u, hu⟩ : ∃ p, p = w1.heap.size := ⟨_, rfl⟩
 obtain ⟨v, hv⟩ : ∃ p, p = w1.heap.size + 1 := ⟨_, rfl⟩
 have HUV : Hid (u = _ ∧ v = _) := ⟨hu, hv⟩
 have HWW2 : Hid (W2 = _) := hW2
 have l1 : q < w1.heap.size := World.block_lt_of_cell? w1 ⟨q, 0, none⟩ b1
 have n1 : ¬ q = w1.heap.size := by omega
 have m1 : ¬ q = w1.heap.size + 1 := by omega
 clear hM1 hb1 HDR HBO HBW HMW HWW hp hq ht hu hv hW2 b0 b2 rp rt
 unfold rwV
 go_wp2_with fail
 rw [← HWW2.out, ← HUV.out.2, ← HUV.out.1]
 rw [← HUV.out.2, ← HUV.out.1] at HLO2
 clear HWW2 HUV l1 n1 m1 b1 rq
 refine Calls.mono (HP4.out W2) ?_
 rintro e w2 ⟨rfl, hw2⟩
 rw [hw2]
 clear hw2 w2 HP4
 obtain ⟨x0, x1, x2, x3, v0, v1, v2, v3, ru, rv⟩ := HLO2.out
 obtain ⟨b0, b1, b2, rp, rq, rt⟩ := HBO2.out
 simp only at x0 x1 x2 x3
 go_wp2_with fail
 refine Calls.mono (HPK.out W2) ?_
 rintro e w2 ⟨rfl, hw2⟩
 rw [hw2]
 clear hw2 w2 HPK
 obtain ⟨TB, hTB⟩ : ∃ T, T = bs (digs J) := ⟨_, rfl⟩
 have zb : TB.size ≤ 2 := by rw [hTB, bs_size]; exact digs_len (by omega)
 have HPW : Hid (Pow W2) := HM2.out.pw.elim fun _ h => h.2.2
 have HIA : Hid (Calls Tryz.prog 33 #[.int .i64 (J : Int)] W2 fun e w3 => e = .returned (.string TB) ∧ Below W2.heap.size W2 w3) := by
  refine (Tryz.strconv_Itoa (J : Int) (by omega) (by omega) W2 HPW.out).mono ?_
  rintro e w3 ⟨rfl, hg⟩
  exact ⟨by rw [hTB]; rfl, below_grown_k hg⟩
 have HF : Hid (∀ w', Below W2.heap.size W2 w' → MkOut (GE (d + 1) false) (4 * c) r l i w (.returned (.string (⟨#[40, 36]⟩ ++ TB ++ ⟨#[41]⟩))) w') := fun w' hb =>
  ⟨[40, 36] ++ digs J ++ [41], i + 1, by rw [hTB]; simp only [← bs_app]; rfl, GE.field hJ2, HM2.out.below hb, by obtain ⟨h8, h9⟩ := HIC.out; omega, HB2.out.more hb⟩
 clear hTB
 go_wp2_with fail
 refine Calls.mono (HPB.out _) ?_
 rintro e w2 ⟨rfl, hw2⟩
 rw [hw2]
 clear hw2 w2
 go_wp2_with fail
 refine Calls.mono HIA.out ?_
 rintro e w3 ⟨rfl, hb3⟩
 have HF3 : Hid _ := HF.out w3 hb3
 clear hb3 HF HIA
 go_wp2_with fail
 go_ret
 exact HF3.out
theorem mkE_zero : MkE 0 4 := fun r l i b w hM hi => exp_b0 (c := 1) (by decide) r l i b w hM hi
theorem mkE_succ {d c : Nat} (hX : MkE d c) (hc : 1 ≤ c) (hd : d ≤ 10) : MkE (d + 1) (4 * c) := by
 intro r l i b w hM hi
 by_cases h4 : pickR (nextR l i).kind 4 = 0
 · exact exp_b1 hX hc r l i b w hM hi hd h4 trivial
 have hlt := pickR_lt ((nextR l i).kind.tdiv 4) (m := 16) (by decide)
 by_cases k0 : pickR ((nextR l i).kind.tdiv 4) 16 < 4
 · exact exp_op hX hc r l i b w hM hi hd h4 k0
 by_cases k1 : pickR ((nextR l i).kind.tdiv 4) 16 < 6
 · exact exp_cmp hX hc r l i b w hM hi hd h4 ⟨by omega, k1⟩
 by_cases k2 : pickR ((nextR l i).kind.tdiv 4) 16 = 6
 · exact exp_log hX hc r l i b w hM hi hd h4 k2
 by_cases k3 : pickR ((nextR l i).kind.tdiv 4) 16 = 7
 · exact exp_cond hX hc r l i b w hM hi hd h4 k3
 by_cases k4 : pickR ((nextR l i).kind.tdiv 4) 16 = 8
 · exact exp_at hX hc r l i b w hM hi hd h4 k4
 by_cases k5 : pickR ((nextR l i).kind.tdiv 4) 16 = 9
 · exact exp_in hX hc r l i b w hM hi hd h4 k5
 by_cases k6 : pickR ((nextR l i).kind.tdiv 4) 16 = 10
 · exact exp_len hX hc r l i b w hM hi hd h4 k6
 by_cases k7 : pickR ((nextR l i).kind.tdiv 4) 16 = 11
 · exact exp_sub hX hc r l i b w hM hi hd h4 k7
 by_cases k8 : pickR ((nextR l i).kind.tdiv 4) 16 = 12
 · exact exp_pre hX hc r l i b w hM hi hd h4 k8
 cases b
 · by_cases k9 : pickR ((nextR l i).kind.tdiv 4) 16 = 13
   · exact exp_nr hX hc r l i w hM hi hd h4 k9
   · exact exp_field hX hc r l i w hM hi hd h4 (by omega)
 · exact exp_index hX hc r l i w hM hi hd h4 (by omega)
/-- The maker's expressions, up to two deep. -/
theorem mkE_one : MkE 1 16 := mkE_succ mkE_zero (by decide) (by decide)
theorem mkE_two : MkE 2 64 := mkE_succ mkE_one (by decide) (by decide)
end Go.Proofs.YtfbpkbochhfnhaaGreatDoor
