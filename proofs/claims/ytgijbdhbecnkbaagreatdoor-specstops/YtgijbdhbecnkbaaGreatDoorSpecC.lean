/-
  Contract of spec.Spec (P4.1) where what is asked may not be, where the rules of Begin do not come to their end, and on a program without rules.
-/
import Derived.Test.YtgijbdhbecnkbaaGreatDoorRunC
import Derived.Test.YtgijbdhbecnkbaaGreatDoorSettleNil
namespace Go.Proofs.YtgijbdhbecnkbaaGreatDoor
open Go.ChangeShapes Go.WideShapes Go.ChangeAt Go.RowKit Go.Joins Go.Maps
set_option maxHeartbeats 4000000
set_option linter.unusedVariables false
set_option linter.unusedSimpArgs false
set_option maxRecDepth 100000
def specR (m : Nat) (l : List Ru) (F : List Fl) (fuel : Int) : Int :=
  if ckP m l ≠ 0 then ckP m l
  else if worldR F [] ≠ 0 then worldR F []
  else if fuel < 0 \/ 200000 < fuel then 2
  else if (endOf (rulesM F m l 0 (startM fuel.toNat))).1 ≠ 0 then 8 else 0
def Pb (g : Nat) (w : World) : Prop := w.heap[g]? = some (.cells #[.slice none 0 0] 25 (0, 0))
theorem Pb.below {g : Nat} {w w' : World} (h : Pb g w) (hb : Below w.heap.size w w') : Pb g w' := (hb.block g (Array.getElem?_eq_some_iff.1 h).1).trans h
theorem pb1 {g : Nat} {w : World} (h : Pb g w) : w.cell? ⟨g, 0, none⟩ = some (.slice none 0 0) /\ w.frozen? ⟨g, 0, none⟩ = false := by
  unfold Pb at h
  exact ⟨by simp [World.cell?, h], Lib.frozen_of_heap h 0⟩
theorem spec_c (m B : Nat) (l : List Ru) (F : List Fl) (rv fv : Value) (fuel : Int) (w : World) (hv : Sl w B 7 rv l.length (fun i c => ∃ x, l[i]? = some x /\ RuA B w m c x)) (hF : FlL w B fv F) (hT : Tb B w) (hP : PowB B w) (hX : MxB B w) (hB : B <= w.heap.size) (hf1 : -9223372036854775808 <= fuel) (hf2 : fuel <= 9223372036854775807) (hN : l = [] \/ specR m l F fuel ≠ 0) :
    Calls Tryz.prog 6 #[.agg #[rv], fv, .int .i64 fuel] w fun e w' => e = .returned (.tuple #[.agg #[.slice none 0 0], .int .i64 (specR m l F fuel)]) /\ Below w.heap.size w w' := by
  have hv2 := hv
  obtain ⟨a1, cap1, rfl, -, -⟩ := hv2
  have hF2 := hF
  obtain ⟨⟨a2, len2, cap2, rfl, -⟩, -⟩ := hF2
  obtain ⟨R, hR⟩ : ∃ R, R = specR m l F fuel := ⟨_, rfl⟩
  rw [<- hR] at hN ⊢
  have HR : Hid (R = specR m l F fuel) := hR
  have HN : Hid (l = [] \/ R ≠ 0) := hN
  obtain ⟨W, hW⟩ : ∃ W, W = (w.alloc (.cells #[.slice a1 l.length cap1] 25)).alloc (.cells #[.slice none 0 0] 25) := ⟨_, rfl⟩
  have hA : Below w.heap.size w W := by rw [hW]; exact ((Below.refl _ _).alloc (Nat.le_refl _) _).alloc (by simp) _
  have HA := hid hA
  have HWS : Hid (W.heap.size = w.heap.size + 2) := by rw [hW]; simp [Hid]
  have hAB : Below B w W := hA.mono hB
  have HV : Hid (Sl W B 7 (.slice a1 l.length cap1) l.length (fun i c => ∃ x, l[i]? = some x /\ RuA B W m c x)) := hv.below hAB fun _ _ ⟨x, hx, he⟩ => ⟨x, hx, he.below hAB⟩
  have HF : Hid (FlL W B (.slice a2 len2 cap2) F) := hF.below hAB
  have HT : Hid (Tb B W /\ PowB B W /\ MxB B W /\ B <= W.heap.size) := ⟨hT.below hAB, hP.low hAB.block, hX.below hAB, Nat.le_trans hB hA.size⟩
  have HCK := hid (check_c m B l (.slice a1 l.length cap1) W HV.out HT.out.1 HT.out.2.2.2)
  have HWW : Hid (W = _) := hW
  have c0 : W.cell? ⟨w.heap.size, 0, none⟩ = some (.slice a1 l.length cap1) := by rw [hW]; simp [go_sem]
  have HBX : Hid (Pb (w.heap.size + 1) W) := by
    have hz : (w.alloc (.cells #[.slice a1 l.length cap1] 25)).heap.size = w.heap.size + 1 := by simp
    rw [hW, <- hz]
    unfold Pb
    show (Array.push (w.alloc (.cells #[.slice a1 l.length cap1] 25)).heap _)[_]? = _
    rw [Array.getElem?_push_size]
  have HC0 : Hid (W.cell? ⟨w.heap.size, 0, none⟩ = some (.slice a1 l.length cap1)) := c0
  obtain ⟨ck, hck⟩ : ∃ ck, ck = ckP m l := ⟨_, rfl⟩
  rw [<- hck] at HCK
  have HCKE : Hid (ck = ckP m l) := hck
  clear hv hF hT hP hX hR hW hA hAB hck hN
  go_enter Tryz.func6, Tryz.ntmps6
  go_wp2_with fail
  rw [<- HWW.out]
  clear HWW c0
  refine Calls.mono HCK.out ?_
  rintro e w1 ⟨rfl, hb1⟩
  have HB1 : Hid (Below W.heap.size W w1) := hb1
  clear hb1 HCK
  obtain ⟨b, hb⟩ : ∃ b, b = w.heap.size + 1 := ⟨_, rfl⟩
  have HBB : Hid (b = w.heap.size + 1) := hb
  rw [<- hb] at HBX ⊢
  clear hb
  by_cases hk : ck = 0
  case neg =>
    have HE : Hid (R = ck) := by unfold Hid; rw [HR.out]; unfold specR; rw [<- HCKE.out, if_pos hk]
    obtain ⟨e0, z0⟩ := pb1 (HBX.out.below HB1.out)
    have hk2 : (ck != 0) = true := by simpa using hk
    have HLW : Hid (Below w.heap.size w w1) := bl_trans HA.out HB1.out
    clear HB1 HV HF HT HCKE HR HC0
    go_wp2_with fail
    simp [bodyPost, results, Tryz.results6, go_sem, e0]
    exact ⟨HE.out.symm, HLW.out.setCell (p := ⟨b, 0, none⟩) (by have := HBB.out; show w.heap.size <= b; omega) _⟩
  have hk2 : (ck != 0) = false := by simp [hk]
  have HLW : Hid (Below w.heap.size w w1) := bl_trans HA.out HB1.out
  have h1B : Below B W w1 := HB1.out.mono HT.out.2.2.2
  have HCW := hid (checkWorld_c B F [] (.slice a2 len2 cap2) (.slice none 0 0) w1 (HF.out.below h1B) ⟨none, 0, rfl, Nat.zero_le _, fun h => absurd h (by simp)⟩ (Nat.le_trans HT.out.2.2.2 HB1.out.size))
  obtain ⟨wd, hwd⟩ : ∃ wd, wd = worldR F [] := ⟨_, rfl⟩
  rw [<- hwd] at HCW
  have HWD : Hid (wd = worldR F []) := hwd
  have HCK0 : Hid (ckP m l = 0) := HCKE.out.symm.trans hk
  clear hwd h1B hk HCKE
  go_wp2_with fail
  refine Calls.mono HCW.out ?_
  rintro e w2 ⟨rfl, hb2⟩
  have HB2 : Hid (Below W.heap.size W w2) := bl_trans HB1.out hb2
  have HLW2 : Hid (Below w.heap.size w w2) := bl_trans HLW.out hb2
  clear hb2 HCW HB1 HLW hk2
  by_cases hk : wd = 0
  case neg =>
    have HE : Hid (R = wd) := by unfold Hid; rw [HR.out]; unfold specR; rw [HCK0.out, if_neg (by simp), <- HWD.out, if_pos hk]
    obtain ⟨e0, z0⟩ := pb1 (HBX.out.below HB2.out)
    have hk2 : (wd != 0) = true := by simpa using hk
    clear HB2 HV HF HT HR HC0 HWD
    go_wp2_with fail
    simp [bodyPost, results, Tryz.results6, go_sem, e0]
    exact ⟨HE.out.symm, HLW2.out.setCell (p := ⟨b, 0, none⟩) (by have := HBB.out; show w.heap.size <= b; omega) _⟩
  have hk2 : (wd != 0) = false := by simp [hk]
  have HWD0 : Hid (worldR F [] = 0) := HWD.out.symm.trans hk
  clear hk HWD
  by_cases hfu : fuel < 0 \/ 200000 < fuel
  case pos =>
    have HE : Hid (R = 2) := by unfold Hid; rw [HR.out]; unfold specR; rw [HCK0.out, if_neg (by simp), HWD0.out, if_neg (by simp), if_pos hfu]
    obtain ⟨e0, z0⟩ := pb1 (HBX.out.below HB2.out)
    clear HB2 HV HF HT HR HC0
    rcases hfu with hfu | hfu
    . go_wp2_with fail
      simp [bodyPost, results, Tryz.results6, go_sem, e0]
      exact ⟨HE.out.symm, HLW2.out.setCell (p := ⟨b, 0, none⟩) (by have := HBB.out; show w.heap.size <= b; omega) _⟩
    . have hfu2 : ¬ fuel < 0 := by omega
      go_wp2_with fail
      simp [bodyPost, results, Tryz.results6, go_sem, e0]
      exact ⟨HE.out.symm, HLW2.out.setCell (p := ⟨b, 0, none⟩) (by have := HBB.out; show w.heap.size <= b; omega) _⟩
  have hfa : ¬ fuel < 0 := by omega
  have hfb : ¬ 200000 < fuel := by omega
  have HRR : Hid (R = if (endOf (rulesM F m l 0 (startM fuel.toNat))).1 ≠ 0 then 8 else 0) := by unfold Hid; rw [HR.out]; unfold specR; rw [HCK0.out, if_neg (by simp), HWD0.out, if_neg (by simp), if_neg hfu]
  clear hfu HR
  have HNW := hid (new_c w2 fuel a1 l.length cap1 a2 len2 cap2)
  have c2 : w2.cell? ⟨w.heap.size, 0, none⟩ = some (.slice a1 l.length cap1) := (HB2.out.cell (p := ⟨w.heap.size, 0, none⟩) (by have := HWS.out; show w.heap.size < _; omega)).trans HC0.out
  go_wp2_with fail
  refine Calls.mono HNW.out ?_
  rintro e w3 ⟨rfl, hw3⟩
  obtain ⟨w2a, hw2a⟩ : ∃ w2a, w2a = w2.alloc (.cells #[.slice a1 l.length cap1] 25) := ⟨_, rfl⟩
  rw [<- hw2a] at hw3
  have hz2 : w2a.heap.size = w2.heap.size + 1 := by rw [hw2a]; simp
  have hb2a : Below w2.heap.size w2 w2a := by rw [hw2a]; exact (Below.refl _ _).alloc (Nat.le_refl _) _
  have hW2 : Below W.heap.size W w2a := bl_trans HB2.out hb2a
  have hBW := HT.out.2.2.2
  have hBB : Below B W w2a := hW2.mono hBW
  obtain ⟨c, hc⟩ : ∃ c : Cx, c = ⟨w2.heap.size + 3, B, fuel.toNat, m, F, l, .slice a1 l.length cap1, .slice a2 len2 cap2⟩ := ⟨_, rfl⟩
  have hfit := worldR_fit HWD0.out
  have hvv := HV.out.below hBB (F := fun i c => ∃ x, l[i]? = some x /\ RuA B w2a m c x) fun _ _ ⟨x, hx, he⟩ => ⟨x, hx, he.below hBB⟩
  have hlo : Lo c w2a := by
    rw [hc]
    exact ⟨HT.out.2.1.low hBB.block, HT.out.2.2.1.below hBB, hvv, (ckP_fit hvv HCK0.out).1, HF.out.below hBB, hfit.2.2, by show fuel.toNat <= 200000; omega, Nat.le_trans hBW hW2.size⟩
  have hMc := newMc c w2a 0 hlo (by rw [hc, hz2]) (by rw [hc]; exact Nat.le_trans hBW hW2.size) (by rw [hc]; show 0 + fuel.toNat <= 400000; omega)
  have hfc : (c.fuel : Int) = fuel := by rw [hc]; show (fuel.toNat : Int) = fuel; omega
  have hw3b : w3 = newW w2a (c.fuel : Int) c.rv c.fv := by rw [hw3, hfc, hc]
  rw [<- hw3b] at hMc
  have hfew := ckP_few hvv HCK0.out
  have hRu : RulesC c := fun O w s j when hM => rulesOf_c c O w s j when hM (by rw [hc]; exact hfew)
  have h23 : Below w2a.heap.size w2a w3 := by rw [hw3]; exact newW_below _ _ _ _
  have hst := start_c c (newO w2a.heap.size) w3 (startM c.fuel) 0 hRu hMc
  have HST : Hid (Calls Tryz.prog 15 #[.pointer (some ⟨w2.heap.size + 3, 0, none⟩)] w3 fun e w4 => ∃ oa olen ocap E U, e = .returned (.agg #[.slice oa olen ocap, .int .i64 E, .int .i64 U]) /\ Hid (R = (if E ≠ 0 then 8 else 0) /\ (l = [] -> olen = 0) /\ Below W.heap.size W w4)) := by
    have hcr : c.r = w2.heap.size + 3 := by rw [hc]
    rw [hcr] at hst
    refine hst.mono fun e w4 hd => ?_
    obtain ⟨ol, rfl, hbt, O', hg, hrow, -, h2000, h200⟩ := hd
    obtain ⟨oa, olen, ocap, rfl⟩ := row_shape hrow.1
    have hlow : ∀ k, k < w2a.heap.size -> newO w2a.heap.size k = none := fun k hk => by unfold newO; rw [if_neg (by omega), if_neg (by omega), if_neg (by omega)]
    have h34 : Below w2a.heap.size w3 w4 := hbt.below h23.size hlow
    have h24 : Below w2a.heap.size w2a w4 := h23.trans h34
    have hW4 : Below W.heap.size W w4 := hW2.trans (h24.mono hW2.size)
    have hcF : c.F = F /\ c.m = m /\ c.R = l /\ c.fuel = fuel.toNat := by rw [hc]; exact ⟨rfl, rfl, rfl, rfl⟩
    rw [hcF.1, hcF.2.1, hcF.2.2.1, hcF.2.2.2] at hrow ⊢
    refine ⟨oa, olen, ocap, _, _, rfl, HRR.out, fun hl => ?_, hW4⟩
    subst hl
    have he : (endOf (rulesM F m [] 0 (startM fuel.toNat))).2.1 = [] := rfl
    rw [he] at hrow
    rcases hrow.1.2 with ⟨h0, -⟩ | ⟨g, cap, cur, h0, -⟩
    . cases h0; rfl
    . cases h0; rfl
  clear hw3 hw2a hz2 hb2a hW2 hBW hBB hc hfit hvv hlo hMc hfc hw3b hfew hRu h23 hst c2 HNW HRR HV HF HB2 HLW2 hk2 HCK0 HWD0
  go_wp2_with fail
  refine Calls.mono HST.out ?_
  rintro e w4 ⟨oa, olen, ocap, E, U, rfl, HZ⟩
  clear HST
  have HFB : Hid (Below w.heap.size w (w4.alloc (.cells #[.slice oa olen ocap, .int .i64 E, .int .i64 U] 52)) /\ Below W.heap.size W (w4.alloc (.cells #[.slice oa olen ocap, .int .i64 E, .int .i64 U] 52))) := ⟨(bl_trans HA.out HZ.out.2.2).alloc (bl_trans HA.out HZ.out.2.2).size _, HZ.out.2.2.alloc HZ.out.2.2.size _⟩
  obtain ⟨e0, z0⟩ := pb1 (HBX.out.below HFB.out.2)
  have hbn : ¬ w4.heap.size = b := by have := HZ.out.2.2.size; have := HWS.out; have := HBB.out; omega
  have hbn2 : ¬ b = w4.heap.size := by omega
  by_cases hE : E = 0
  case neg =>
    have hE2 : (E != 0) = true := by simpa using hE
    have HRE : Hid (R = 8) := by unfold Hid; rw [HZ.out.1, if_pos hE]
    clear HBX HT HZ HN
    go_wp2_with fail
    simp [bodyPost, results, Tryz.results6, go_sem, e0]
    exact ⟨HRE.out.symm, HFB.out.1.setCell (p := ⟨b, 0, none⟩) (by have := HBB.out; show w.heap.size <= b; omega) _⟩
  have hE2 : (E != 0) = false := by simp [hE]
  have HRE : Hid (R = 0) := by unfold Hid; rw [HZ.out.1, hE]; simp
  have hl : l = [] := HN.out.resolve_right (by rw [HRE.out]; simp)
  obtain rfl : olen = 0 := HZ.out.2.1 hl
  subst hl
  subst hE
  have c3 : (w4.alloc (.cells #[.slice oa 0 ocap, .int .i64 0, .int .i64 U] 52)).cell? ⟨w.heap.size, 0, none⟩ = some (.slice a1 ([] : List Ru).length cap1) := (HFB.out.2.cell (p := ⟨w.heap.size, 0, none⟩) (by have := HWS.out; show w.heap.size < _; omega)).trans HC0.out
  have HSE := hid (settle_nil B (some ⟨w2.heap.size + 3, 0, none⟩) oa ocap a1 cap1 (w4.alloc (.cells #[.slice oa 0 ocap, .int .i64 0, .int .i64 U] 52)) (HT.out.1.below (HFB.out.2.mono HT.out.2.2.2)) (Nat.le_trans HT.out.2.2.2 HFB.out.2.size))
  have HBX2 : Hid (∀ w5, Below (w4.alloc (.cells #[.slice oa 0 ocap, .int .i64 0, .int .i64 U] 52)).heap.size (w4.alloc (.cells #[.slice oa 0 ocap, .int .i64 0, .int .i64 U] 52)) w5 -> Pb b w5 /\ Below w.heap.size w w5) := fun w5 hb => ⟨(HBX.out.below HFB.out.2).below hb, bl_trans HFB.out.1 hb⟩
  clear HBX HT HZ HN HFB e0 z0 hE2
  go_wp2_with fail
  refine Calls.mono HSE.out ?_
  rintro e w5 ⟨rfl, hb5⟩
  have HF := hid (HBX2.out w5 hb5)
  obtain ⟨e0, z0⟩ := pb1 HF.out.1
  clear HSE HBX2 hb5
  go_wp2_with fail
  simp [bodyPost, results, Tryz.results6, go_sem, e0]
  exact ⟨HRE.out.symm, HF.out.2.setCell (p := ⟨b, 0, none⟩) (by have := HBB.out; show w.heap.size <= b; omega) _⟩
end Go.Proofs.YtgijbdhbecnkbaaGreatDoor
