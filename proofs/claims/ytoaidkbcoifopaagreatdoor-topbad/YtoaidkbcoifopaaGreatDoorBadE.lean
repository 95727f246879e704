/-
  Run, Spec and Print where what is asked may not be: they say so at once.
-/
import Derived.Test.YtoaidkbcoifopaaGreatDoorKrB
import Derived.Test.YtoaidkbcoifopaaGreatDoorWdMem
namespace Go.Proofs.YtoaidkbcoifopaaGreatDoor
open Go.ChangeShapes Go.WideShapes Go.ChangeAt Go.RowKit Go.Joins Go.Maps
set_option maxHeartbeats 4000000
set_option linter.unusedVariables false
set_option linter.unusedSimpArgs false
set_option maxRecDepth 100000
def earlyR (m : Nat) (l : List Ru) (F : List Fl) (ls : List ByteArray) (fuel : Int) : Int :=
  if ckP m l ≠ 0 then ckP m l
  else if worldR F ls ≠ 0 then worldR F ls
  else if fuel < 0 \/ 200000 < fuel then 2 else 0
def Oe (g : Nat) (w : World) : Prop := w.heap[g]? = some (.cells #[.slice none 0 0, .int .i64 0, .int .i64 0] 38 (0, 0))
theorem Oe.below {g : Nat} {w w' : World} (h : Oe g w) (hb : Below w.heap.size w w') : Oe g w' := (hb.block g (Array.getElem?_eq_some_iff.1 h).1).trans h
theorem oe3 {g : Nat} {w : World} (h : Oe g w) : w.cell? ⟨g, 0, none⟩ = some (.slice none 0 0) /\ w.cell? ⟨g, 1, none⟩ = some (.int .i64 0) /\ w.cell? ⟨g, 2, none⟩ = some (.int .i64 0) /\ w.frozen? ⟨g, 0, none⟩ = false /\ w.frozen? ⟨g, 1, none⟩ = false /\ w.frozen? ⟨g, 2, none⟩ = false := by
  unfold Oe at h
  have hz : ∀ o, w.frozen? ⟨g, o, none⟩ = false := fun o => Lib.frozen_of_heap h o
  exact ⟨by simp [World.cell?, h], by simp [World.cell?, h], by simp [World.cell?, h], hz 0, hz 1, hz 2⟩
theorem oeOver {B b : Nat} {w w' : World} {x y z : Value} (h : Below B w w') (hb : B <= b) : Below B w (((w'.setCell ⟨b, 0, none⟩ x).setCell ⟨b, 1, none⟩ y).setCell ⟨b, 2, none⟩ z) := ((h.setCell (p := ⟨b, 0, none⟩) hb _).setCell (p := ⟨b, 1, none⟩) hb _).setCell (p := ⟨b, 2, none⟩) hb _
def Pe (g : Nat) (w : World) : Prop := w.heap[g]? = some (.cells #[.slice none 0 0] 25 (0, 0))
theorem Pe.below {g : Nat} {w w' : World} (h : Pe g w) (hb : Below w.heap.size w w') : Pe g w' := (hb.block g (Array.getElem?_eq_some_iff.1 h).1).trans h
theorem pe1 {g : Nat} {w : World} (h : Pe g w) : w.cell? ⟨g, 0, none⟩ = some (.slice none 0 0) /\ w.frozen? ⟨g, 0, none⟩ = false := by
  unfold Pe at h
  exact ⟨by simp [World.cell?, h], Lib.frozen_of_heap h 0⟩
theorem runE_c (m B : Nat) (l : List Ru) (F : List Fl) (ls : List ByteArray) (rv fv lv : Value) (fuel : Int) (w : World) (hv : Sl w B 7 rv l.length (fun i c => ∃ x, l[i]? = some x /\ RuA B w m c x)) (hF : FlL w B fv F) (hL : TxL w B lv ls) (hT : Tb B w) (hB : B <= w.heap.size) (hf1 : -9223372036854775808 <= fuel) (hf2 : fuel <= 9223372036854775807) (hN : earlyR m l F ls fuel ≠ 0) :
    Calls Tryz.prog 7 #[.agg #[rv], fv, lv, .int .i64 fuel] w fun e w' => e = .returned (.tuple #[.agg #[.slice none 0 0, .int .i64 0, .int .i64 0], .int .i64 (earlyR m l F ls fuel)]) /\ Below w.heap.size w w' := by
  have hv2 := hv
  obtain ⟨a1, cap1, rfl, -, -⟩ := hv2
  have hF2 := hF
  obtain ⟨⟨a2, len2, cap2, rfl, -⟩, -⟩ := hF2
  have hL2 := hL
  obtain ⟨a3, cap3, rfl, -, -⟩ := hL2
  obtain ⟨R, hR⟩ : ∃ R, R = earlyR m l F ls fuel := ⟨_, rfl⟩
  rw [<- hR] at hN ⊢
  have HN : Hid (R ≠ 0) := hN
  have HR : Hid (R = earlyR m l F ls fuel) := hR
  obtain ⟨W, hW⟩ : ∃ W, W = (w.alloc (.cells #[.slice a1 l.length cap1] 25)).alloc (.cells #[.slice none 0 0, .int .i64 0, .int .i64 0] 38) := ⟨_, rfl⟩
  have hA : Below w.heap.size w W := by rw [hW]; exact ((Below.refl _ _).alloc (Nat.le_refl _) _).alloc (by simp) _
  have HA := hid hA
  have HWS : Hid (W.heap.size = w.heap.size + 2) := by rw [hW]; simp [Hid]
  have hAB : Below B w W := hA.mono hB
  have HV : Hid (Sl W B 7 (.slice a1 l.length cap1) l.length (fun i c => ∃ x, l[i]? = some x /\ RuA B W m c x)) := hv.below hAB fun _ _ ⟨x, hx, he⟩ => ⟨x, hx, he.below hAB⟩
  have HF : Hid (FlL W B (.slice a2 len2 cap2) F) := hF.below hAB
  have HL : Hid (TxL W B (.slice a3 ls.length cap3) ls) := hL.below hAB
  have HT : Hid (Tb B W /\ B <= W.heap.size) := ⟨hT.below hAB, Nat.le_trans hB hA.size⟩
  have HCK := hid (check_c m B l (.slice a1 l.length cap1) W HV.out HT.out.1 HT.out.2)
  have HWW : Hid (W = _) := hW
  have c0 : W.cell? ⟨w.heap.size, 0, none⟩ = some (.slice a1 l.length cap1) := by rw [hW]; simp [go_sem]
  have HBX : Hid (Oe (w.heap.size + 1) W) := by
    have hz : (w.alloc (.cells #[.slice a1 l.length cap1] 25)).heap.size = w.heap.size + 1 := by simp
    rw [hW, <- hz]
    unfold Oe
    show (Array.push (w.alloc (.cells #[.slice a1 l.length cap1] 25)).heap _)[_]? = _
    rw [Array.getElem?_push_size]
  have HC0 : Hid (W.cell? ⟨w.heap.size, 0, none⟩ = some (.slice a1 l.length cap1)) := c0
  obtain ⟨ck, hck⟩ : ∃ ck, ck = ckP m l := ⟨_, rfl⟩
  rw [<- hck] at HCK
  have HCKE : Hid (ck = ckP m l) := hck
  clear hv hF hL hT hR hW hA hAB hck hN
  go_enter Tryz.func7, Tryz.ntmps7
  go_wp2_with fail
  rw [<- HWW.out]
  clear HWW c0
  refine Calls.mono HCK.out ?_
  rintro e w1 ⟨rfl, hb1⟩
  have HB1 : Hid (Below W.heap.size W w1) := hb1
  clear hb1 HCK
  obtain ⟨b, hb⟩ : ∃ b, b = w.heap.size + 1 := ⟨_, rfl⟩
  have HBB : Hid (b = w.heap.size + 1) := hb
  rw [<- hb] at HBX ⊢
  clear hb
  by_cases hk : ck = 0
  case neg =>
    have HE : Hid (R = ck) := by unfold Hid; rw [HR.out]; unfold earlyR; rw [<- HCKE.out, if_pos hk]
    obtain ⟨e0, e1, e2, z0, z1, z2⟩ := oe3 (HBX.out.below HB1.out)
    have hk2 : (ck != 0) = true := by simpa using hk
    have HLW : Hid (Below w.heap.size w w1) := bl_trans HA.out HB1.out
    clear HB1 HV HF HL HT HCKE HR HC0
    go_wp2_with fail
    simp [bodyPost, results, Tryz.results7, go_sem, e0, e1, e2]
    exact ⟨HE.out.symm, oeOver HLW.out (by have := HBB.out; omega)⟩
  have hk2 : (ck != 0) = false := by simp [hk]
  have HLW : Hid (Below w.heap.size w w1) := bl_trans HA.out HB1.out
  have h1B : Below B W w1 := HB1.out.mono HT.out.2
  have HCW := hid (checkWorld_c B F ls (.slice a2 len2 cap2) (.slice a3 ls.length cap3) w1 (HF.out.below h1B) (HL.out.below h1B) (Nat.le_trans HT.out.2 HB1.out.size))
  obtain ⟨wd, hwd⟩ : ∃ wd, wd = worldR F ls := ⟨_, rfl⟩
  rw [<- hwd] at HCW
  have HWD : Hid (wd = worldR F ls) := hwd
  have HCK0 : Hid (ckP m l = 0) := HCKE.out.symm.trans hk
  clear hwd h1B hk HCKE
  go_wp2_with fail
  refine Calls.mono HCW.out ?_
  rintro e w2 ⟨rfl, hb2⟩
  have HB2 : Hid (Below W.heap.size W w2) := bl_trans HB1.out hb2
  have HLW2 : Hid (Below w.heap.size w w2) := bl_trans HLW.out hb2
  clear hb2 HCW HB1 HLW hk2
  by_cases hk : wd = 0
  case neg =>
    have HE : Hid (R = wd) := by unfold Hid; rw [HR.out]; unfold earlyR; rw [HCK0.out, if_neg (by simp), <- HWD.out, if_pos hk]
    obtain ⟨e0, e1, e2, z0, z1, z2⟩ := oe3 (HBX.out.below HB2.out)
    have hk2 : (wd != 0) = true := by simpa using hk
    clear HB2 HV HF HL HT HR HC0 HWD
    go_wp2_with fail
    simp [bodyPost, results, Tryz.results7, go_sem, e0, e1, e2]
    exact ⟨HE.out.symm, oeOver HLW2.out (by have := HBB.out; omega)⟩
  have hk2 : (wd != 0) = false := by simp [hk]
  have HWD0 : Hid (worldR F ls = 0) := HWD.out.symm.trans hk
  clear hk HWD
  by_cases hfu : fuel < 0 \/ 200000 < fuel
  case pos =>
    have HE : Hid (R = 2) := by unfold Hid; rw [HR.out]; unfold earlyR; rw [HCK0.out, if_neg (by simp), HWD0.out, if_neg (by simp), if_pos hfu]
    obtain ⟨e0, e1, e2, z0, z1, z2⟩ := oe3 (HBX.out.below HB2.out)
    clear HB2 HV HF HL HT HR HC0
    rcases hfu with hfu | hfu
    . go_wp2_with fail
      simp [bodyPost, results, Tryz.results7, go_sem, e0, e1, e2]
      exact ⟨HE.out.symm, oeOver HLW2.out (by have := HBB.out; omega)⟩
    . have hfu2 : ¬ fuel < 0 := by omega
      go_wp2_with fail
      simp [bodyPost, results, Tryz.results7, go_sem, e0, e1, e2]
      exact ⟨HE.out.symm, oeOver HLW2.out (by have := HBB.out; omega)⟩
  exact absurd (by rw [HR.out]; unfold earlyR; rw [HCK0.out, if_neg (by simp), HWD0.out, if_neg (by simp), if_neg hfu]) HN.out
theorem specE_c (m B : Nat) (l : List Ru) (F : List Fl) (rv fv : Value) (fuel : Int) (w : World) (hv : Sl w B 7 rv l.length (fun i c => ∃ x, l[i]? = some x /\ RuA B w m c x)) (hF : FlL w B fv F) (hT : Tb B w) (hB : B <= w.heap.size) (hf1 : -9223372036854775808 <= fuel) (hf2 : fuel <= 9223372036854775807) (hN : earlyR m l F [] fuel ≠ 0) :
    Calls Tryz.prog 8 #[.agg #[rv], fv, .int .i64 fuel] w fun e w' => e = .returned (.tuple #[.agg #[.slice none 0 0], .int .i64 (earlyR m l F [] fuel)]) /\ Below w.heap.size w w' := by
  have hv2 := hv
  obtain ⟨a1, cap1, rfl, -, -⟩ := hv2
  have hF2 := hF
  obtain ⟨⟨a2, len2, cap2, rfl, -⟩, -⟩ := hF2
  obtain ⟨R, hR⟩ : ∃ R, R = earlyR m l F [] fuel := ⟨_, rfl⟩
  rw [<- hR] at hN ⊢
  have HR : Hid (R = earlyR m l F [] fuel) := hR
  have HN : Hid (R ≠ 0) := hN
  obtain ⟨W, hW⟩ : ∃ W, W = (w.alloc (.cells #[.slice a1 l.length cap1] 25)).alloc (.cells #[.slice none 0 0] 25) := ⟨_, rfl⟩
  have hA : Below w.heap.size w W := by rw [hW]; exact ((Below.refl _ _).alloc (Nat.le_refl _) _).alloc (by simp) _
  have HA := hid hA
  have HWS : Hid (W.heap.size = w.heap.size + 2) := by rw [hW]; simp [Hid]
  have hAB : Below B w W := hA.mono hB
  have HV : Hid (Sl W B 7 (.slice a1 l.length cap1) l.length (fun i c => ∃ x, l[i]? = some x /\ RuA B W m c x)) := hv.below hAB fun _ _ ⟨x, hx, he⟩ => ⟨x, hx, he.below hAB⟩
  have HF : Hid (FlL W B (.slice a2 len2 cap2) F) := hF.below hAB
  have HT : Hid (Tb B W /\ B <= W.heap.size) := ⟨hT.below hAB, Nat.le_trans hB hA.size⟩
  have HCK := hid (check_c m B l (.slice a1 l.length cap1) W HV.out HT.out.1 HT.out.2)
  have HWW : Hid (W = _) := hW
  have c0 : W.cell? ⟨w.heap.size, 0, none⟩ = some (.slice a1 l.length cap1) := by rw [hW]; simp [go_sem]
  have HBX : Hid (Pe (w.heap.size + 1) W) := by
    have hz : (w.alloc (.cells #[.slice a1 l.length cap1] 25)).heap.size = w.heap.size + 1 := by simp
    rw [hW, <- hz]
    unfold Pe
    show (Array.push (w.alloc (.cells #[.slice a1 l.length cap1] 25)).heap _)[_]? = _
    rw [Array.getElem?_push_size]
  have HC0 : Hid (W.cell? ⟨w.heap.size, 0, none⟩ = some (.slice a1 l.length cap1)) := c0
  obtain ⟨ck, hck⟩ : ∃ ck, ck = ckP m l := ⟨_, rfl⟩
  rw [<- hck] at HCK
  have HCKE : Hid (ck = ckP m l) := hck
  clear hv hF hT hR hW hA hAB hck hN
  go_enter Tryz.func8, Tryz.ntmps8
  go_wp2_with fail
  rw [<- HWW.out]
  clear HWW c0
  refine Calls.mono HCK.out ?_
  rintro e w1 ⟨rfl, hb1⟩
  have HB1 : Hid (Below W.heap.size W w1) := hb1
  clear hb1 HCK
  obtain ⟨b, hb⟩ : ∃ b, b = w.heap.size + 1 := ⟨_, rfl⟩
  have HBB : Hid (b = w.heap.size + 1) := hb
  rw [<- hb] at HBX ⊢
  clear hb
  by_cases hk : ck = 0
  case neg =>
    have HE : Hid (R = ck) := by unfold Hid; rw [HR.out]; unfold earlyR; rw [<- HCKE.out, if_pos hk]
    obtain ⟨e0, z0⟩ := pe1 (HBX.out.below HB1.out)
    have hk2 : (ck != 0) = true := by simpa using hk
    have HLW : Hid (Below w.heap.size w w1) := bl_trans HA.out HB1.out
    clear HB1 HV HF HT HCKE HR HC0
    go_wp2_with fail
    simp [bodyPost, results, Tryz.results8, go_sem, e0]
    exact ⟨HE.out.symm, HLW.out.setCell (p := ⟨b, 0, none⟩) (by have := HBB.out; show w.heap.size <= b; omega) _⟩
  have hk2 : (ck != 0) = false := by simp [hk]
  have HLW : Hid (Below w.heap.size w w1) := bl_trans HA.out HB1.out
  have h1B : Below B W w1 := HB1.out.mono HT.out.2
  have HCW := hid (checkWorld_c B F [] (.slice a2 len2 cap2) (.slice none 0 0) w1 (HF.out.below h1B) ⟨none, 0, rfl, Nat.zero_le _, fun h => absurd h (by simp)⟩ (Nat.le_trans HT.out.2 HB1.out.size))
  obtain ⟨wd, hwd⟩ : ∃ wd, wd = worldR F [] := ⟨_, rfl⟩
  rw [<- hwd] at HCW
  have HWD : Hid (wd = worldR F []) := hwd
  have HCK0 : Hid (ckP m l = 0) := HCKE.out.symm.trans hk
  clear hwd h1B hk HCKE
  go_wp2_with fail
  refine Calls.mono HCW.out ?_
  rintro e w2 ⟨rfl, hb2⟩
  have HB2 : Hid (Below W.heap.size W w2) := bl_trans HB1.out hb2
  have HLW2 : Hid (Below w.heap.size w w2) := bl_trans HLW.out hb2
  clear hb2 HCW HB1 HLW hk2
  by_cases hk : wd = 0
  case neg =>
    have HE : Hid (R = wd) := by unfold Hid; rw [HR.out]; unfold earlyR; rw [HCK0.out, if_neg (by simp), <- HWD.out, if_pos hk]
    obtain ⟨e0, z0⟩ := pe1 (HBX.out.below HB2.out)
    have hk2 : (wd != 0) = true := by simpa using hk
    clear HB2 HV HF HT HR HC0 HWD
    go_wp2_with fail
    simp [bodyPost, results, Tryz.results8, go_sem, e0]
    exact ⟨HE.out.symm, HLW2.out.setCell (p := ⟨b, 0, none⟩) (by have := HBB.out; show w.heap.size <= b; omega) _⟩
  have hk2 : (wd != 0) = false := by simp [hk]
  have HWD0 : Hid (worldR F [] = 0) := HWD.out.symm.trans hk
  clear hk HWD
  by_cases hfu : fuel < 0 \/ 200000 < fuel
  case pos =>
    have HE : Hid (R = 2) := by unfold Hid; rw [HR.out]; unfold earlyR; rw [HCK0.out, if_neg (by simp), HWD0.out, if_neg (by simp), if_pos hfu]
    obtain ⟨e0, z0⟩ := pe1 (HBX.out.below HB2.out)
    clear HB2 HV HF HT HR HC0
    rcases hfu with hfu | hfu
    . go_wp2_with fail
      simp [bodyPost, results, Tryz.results8, go_sem, e0]
      exact ⟨HE.out.symm, HLW2.out.setCell (p := ⟨b, 0, none⟩) (by have := HBB.out; show w.heap.size <= b; omega) _⟩
    . have hfu2 : ¬ fuel < 0 := by omega
      go_wp2_with fail
      simp [bodyPost, results, Tryz.results8, go_sem, e0]
      exact ⟨HE.out.symm, HLW2.out.setCell (p := ⟨b, 0, none⟩) (by have := HBB.out; show w.heap.size <= b; omega) _⟩
  exact absurd (by rw [HR.out]; unfold earlyR; rw [HCK0.out, if_neg (by simp), HWD0.out, if_neg (by simp), if_neg hfu]) HN.out
theorem printE_c (m B : Nat) (l : List Ru) (rv : Value) (w : World) (hv : Sl w B 7 rv l.length (fun i c => ∃ x, l[i]? = some x /\ RuA B w m c x)) (hT : Tb B w) (hB : B <= w.heap.size) (hN : ckP m l ≠ 0) :
    Calls Tryz.prog 9 #[.agg #[rv]] w fun e w' => e = .returned (.tuple #[.string ⟨#[]⟩, .int .i64 (ckP m l)]) /\ Below w.heap.size w w' := by
  have hv2 := hv
  obtain ⟨a1, cap1, rfl, -, -⟩ := hv2
  obtain ⟨W, hW⟩ : ∃ W, W = w.alloc (.cells #[.slice a1 l.length cap1] 25) := ⟨_, rfl⟩
  have hA : Below w.heap.size w W := by rw [hW]; exact (Below.refl _ _).alloc (Nat.le_refl _) _
  have HA := hid hA
  have hAB : Below B w W := hA.mono hB
  have HCK := hid (check_c m B l (.slice a1 l.length cap1) W (hv.below hAB fun _ _ ⟨x, hx, he⟩ => ⟨x, hx, he.below hAB⟩) (hT.below hAB) (Nat.le_trans hB hA.size))
  have HWW : Hid (W = _) := hW
  obtain ⟨ck, hck⟩ : ∃ ck, ck = ckP m l := ⟨_, rfl⟩
  rw [<- hck] at HCK hN ⊢
  clear hv hT hW hA hAB hck
  go_enter Tryz.func9, Tryz.ntmps9
  go_wp2_with fail
  rw [<- HWW.out]
  clear HWW
  refine Calls.mono HCK.out ?_
  rintro e w1 ⟨rfl, hb1⟩
  have HLW : Hid (Below w.heap.size w w1) := bl_trans HA.out hb1
  clear hb1 HCK
  have hk2 : (ck != 0) = true := by simpa using hN
  go_wp2_with fail
  go_ret2
  exact ⟨rfl, HLW.out⟩
end Go.Proofs.YtoaidkbcoifopaaGreatDoor
