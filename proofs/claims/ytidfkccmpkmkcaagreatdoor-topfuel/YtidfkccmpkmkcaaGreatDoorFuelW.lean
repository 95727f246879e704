/-
  TopFuel: its walk.
-/
import Derived.Test.YtidfkccmpkmkcaaGreatDoorFuelL
namespace Go.Proofs.YtidfkccmpkmkcaaGreatDoor.topFuel
open Go.ChangeShapes Go.WideShapes Go.ChangeAt Go.RowKit Go.Joins
set_option maxHeartbeats 4000000
set_option linter.unusedVariables false
set_option linter.unusedSimpArgs false
set_option maxRecDepth 100000
theorem Picked_c (n : Int) (m : Nat) (w : World) (hn : (Lit.int .i64 n).wf = true) (hm : 0 < m) (hm2 : m <= 1000000) :
    Calls Tryz.prog 6 #[.int .i64 n, .int .i64 m] w fun e w' => ∃ k : Nat, k < m /\ e = .returned (.int .i64 k) /\ w' = w := by
  have HC := hid (picked_c n m w hn hm hm2)
  clear hn hm hm2
  go_enter Tryz.func6, Tryz.ntmps6
  go_wp2_with fail
  refine Calls.mono HC.out ?_
  rintro e w1 ⟨k, hk, rfl, hw1⟩
  rw [hw1]
  clear hw1 w1 HC
  go_wp2_with fail
  go_ret
  exact ⟨k, hk, rfl, rfl⟩
theorem walk (l : List Rw) (v : Value) (lf : List Rw) (vf : Value) (ln : List Rw) (vn : Value) (fu : Int) (hfu : (Lit.int .i64 fu).wf = true) (mo : Int) (hmo : (Lit.int .i64 mo).wf = true) (w : World) (hK : Kr w) (hv : RwA w w.heap.size v l) (hvf : RwA w w.heap.size vf lf) (hvn : RwA w w.heap.size vn ln) :
    Calls Tryz.prog 3 #[v, vf, vn, .int .i64 fu, .int .i64 mo] w fun e w' => e = .returned (.bool true) /\ Below w.heap.size w w' := by
  have HK : Hid (Kr w) := hK
  have HT := hid (tells_c w hK)
  have HV : Hid (RwA w w.heap.size v l) := hv
  have HVF : Hid (RwA w w.heap.size vf lf) := hvf
  have HVN : Hid (RwA w w.heap.size vn ln) := hvn
  have HP1 : Hid (∀ w, Calls Tryz.prog 6 #[.int .i64 fu, .int .i64 400] w _) := fun w => Picked_c fu 400 w hfu (by decide) (by decide)
  have HP2 : Hid (∀ w, Calls Tryz.prog 6 #[.int .i64 mo, .int .i64 400] w _) := fun w => Picked_c mo 400 w hmo (by decide) (by decide)
  obtain ⟨a0, cap0, rfl, -, -, -⟩ := hv
  obtain ⟨a1, cap1, rfl, -, -, -⟩ := hvf
  obtain ⟨a2, cap2, rfl, -, -, -⟩ := hvn
  clear hK hfu hmo
  go_enter Tryz.func3, Tryz.ntmps3
  go_wp2_with fail
  refine Calls.mono HT.out ?_
  rintro e w0 ⟨rfl, hb0⟩
  have HB0 : Hid (Below w.heap.size w w0) := hb0
  have HRD := hid (topread_c l _ w0 (HV.out.stays hb0) (HK.out.stays hb0))
  clear HT hb0 HV
  go_wp2_with fail
  refine Calls.mono HRD.out ?_
  rintro e w1 ⟨hb1, h⟩
  rcases h with ⟨p, a, cap, hck, rfl, hp⟩ | rfl
  case inr =>
    have HB : Hid (Below w.heap.size w w1) := bl_trans HB0.out hb1
    clear hb1 HK HVF HVN HP1 HP2 HRD HB0
    go_wp2_with fail
    go_ret
    exact ⟨rfl, HB.out.alloc HB.out.size _⟩
  obtain ⟨N, hN⟩ : ∃ N, N = p.length := ⟨_, rfl⟩
  obtain ⟨b, hb⟩ : ∃ b, b = w1.heap.size := ⟨_, rfl⟩
  obtain ⟨V, hV⟩ : ∃ V, V = w1.alloc (.cells #[.slice a N cap] 26) := ⟨_, rfl⟩
  have c0 : V.cell? ⟨b, 0, none⟩ = some (.slice a N cap) := by rw [hV, hb]; simp [go_sem]
  have hb2 : Below w1.heap.size w1 V := by rw [hV]; exact (Below.refl _ _).alloc (Nat.le_refl _) _
  have HBV : Hid (Below w.heap.size w V /\ b < V.heap.size) := ⟨bl_trans (bl_trans HB0.out hb1) hb2, by rw [hV, hb]; simp⟩
  have HPV : Hid (PrgA V (.slice a p.length cap) p /\ ckP 6000 p = 0) := ⟨hp.stays hb2, hck⟩
  have HKV : Hid (Kr V) := HK.out.stays HBV.out.1
  have HVF2 : Hid (RwA V V.heap.size (.slice a1 lf.length cap1) lf) := HVF.out.stays HBV.out.1
  have HVN2 : Hid (RwA V V.heap.size (.slice a2 ln.length cap2) ln) := HVN.out.stays HBV.out.1
  rw [<- hN] at HPV ⊢
  have HVV := hid hV
  have HBQ := hid hb
  clear hb1 hp hck hN hV hb hb2 HK HVF HVN HB0 HRD
  go_wp2_with fail
  rw [<- HVV.out, <- HBQ.out]
  clear HVV HBQ
  refine Calls.mono (HP1.out _) ?_
  rintro e w2 ⟨k, hk, rfl, hw2⟩
  rw [hw2]
  clear hw2 w2 HP1
  go_wp2_with fail
  refine Calls.mono (HP2.out _) ?_
  rintro e w2 ⟨d, hd, rfl, hw2⟩
  rw [hw2]
  clear hw2 w2 HP2
  obtain ⟨F, hF⟩ : ∃ F, F = filesF lf := ⟨_, rfl⟩
  obtain ⟨ls, hls⟩ : ∃ ls, ls = linesD ln := ⟨_, rfl⟩
  have HW : Hid (worldR F ls = 0) := by
    unfold Hid
    rw [hF, hls]
    exact filesF_world lf (by have := linesD_len ln; omega) fun x hx => (linesD_ok x hx).2
  obtain ⟨hA, hB, hC, hD⟩ := fuel_ab F p ls k d
  have hrA := fun w' fv lv (hb : Below V.heap.size V w') (h1 : FlsA w' fv F) (h2 : TxsA w' lv ls) => run_f (k := k) (z := (k : Int)) rfl (HPV.out.1.stays hb) (HKV.out.stays hb) h1 h2 HPV.out.2 HW.out (by omega)
  have hrB := fun w' fv lv (hb : Below V.heap.size V w') (h1 : FlsA w' fv F) (h2 : TxsA w' lv ls) => run_f (k := k + d) (z := (k : Int) + (d : Int)) (by omega) (HPV.out.1.stays hb) (HKV.out.stays hb) h1 h2 HPV.out.2 HW.out (by omega)
  obtain ⟨EA, hEA⟩ : ∃ E, E = (outF F p ls k).1 := ⟨_, rfl⟩
  obtain ⟨OA, hOA⟩ : ∃ O, O = (outF F p ls k).2.1 := ⟨_, rfl⟩
  obtain ⟨UA, hUA⟩ : ∃ U : Int, U = (k : Int) - ((outF F p ls k).2.2 : Int) := ⟨_, rfl⟩
  obtain ⟨EB, hEB⟩ : ∃ E, E = (outF F p ls (k + d)).1 := ⟨_, rfl⟩
  obtain ⟨OB, hOB⟩ : ∃ O, O = (outF F p ls (k + d)).2.1 := ⟨_, rfl⟩
  obtain ⟨UB, hUB⟩ : ∃ U : Int, U = (k : Int) + (d : Int) - ((outF F p ls (k + d)).2.2 : Int) := ⟨_, rfl⟩
  obtain ⟨LA, hLA⟩ : ∃ n, n = OA.length := ⟨_, rfl⟩
  obtain ⟨LB, hLB⟩ : ∃ n, n = OB.length := ⟨_, rfl⟩
  have e1 : ((k + d : Nat) : Int) = (k : Int) + (d : Int) := by omega
  rw [e1] at hB hD
  rw [<- hEA, <- hEB, <- hUA, <- hUB, <- hOA, <- hOB] at hD
  rw [<- hUA, <- hUB] at hB
  rw [<- hOA, <- hOB] at hA
  rw [<- hEA] at hC
  simp only [<- hEA, <- hUA, <- hOA, <- hLA] at hrA
  simp only [<- hEB, <- hUB, <- hOB, <- hLB] at hrB
  have HAB : Hid (OA <+: OB /\ UA <= UB /\ (EA = 1 -> UA = (k : Int)) /\ (EA ≠ 1 -> EA = EB /\ UA = UB /\ LA = LB) /\ LA = OA.length /\ LB = OB.length /\ LA <= LB) := ⟨hA, hB, fun h => by rw [hUA, hC h]; simp, fun h => ⟨(hD h).1, (hD h).2.1, by rw [hLA, hLB, (hD h).2.2]⟩, hLA, hLB, by rw [hLA, hLB]; exact hA.length_le⟩
  have HFI : Hid (∀ w', Below V.heap.size V w' -> Calls Tryz.prog 8 #[.slice a1 lf.length cap1] w' fun e w'' => ∃ x cp, e = .returned (.slice x 1 cp) /\ Below w'.heap.size w' w'' /\ FlsA w'' (.slice x 1 cp) F) := fun w' hb => by
    rw [hF]
    exact files_c lf _ w' (HVF2.out.stays hb)
  have HLI : Hid (∀ w', Below V.heap.size V w' -> Calls Tryz.prog 9 #[.slice a2 ln.length cap2] w' fun e w'' => ∃ x n cp, e = .returned (.slice x n cp) /\ Below w'.heap.size w' w'' /\ TxsA w'' (.slice x n cp) ls) := fun w' hb => by
    rw [hls]
    exact lines_c ln _ w' (HVN2.out.stays hb)
  have HRA := hid hrA
  have HRB := hid hrB
  have k1 : (-9223372036854775808 : Int) <= (k : Int) + (d : Int) := by omega
  have k2 : (k : Int) + (d : Int) <= 9223372036854775807 := by omega
  have k3 : IntKind.i64.wrap ((k : Int) + (d : Int)) = (k : Int) + (d : Int) := by rw [IntKind.wrap_i64]; omega
  have d0 : V.drew.cell? ⟨b, 0, none⟩ = some (.slice a N cap) := c0
  clear hF hls hA hB hC hD hrA hrB hEA hOA hUA hEB hOB hUB hLA hLB e1 hk hd HPV HKV HVF2 HVN2 HW
  go_wp2_with fail
  go_cut [15, 16] (fun v15 v16 wx => ∃ g x cp, v15 = .pointer (some ⟨g, 0, none⟩) /\ v16 = .int .i64 0 /\ LA <= cp /\ Hid (OutA V wx g x LA cp EA UA OA))
  case first =>
    have n1 : ¬ b = V.heap.size := by have := HBV.out.2; omega
    have n1' : ¬ V.heap.size = b := by omega
    go_region_held3 (fun w' => w'.cell? ⟨b, 0, none⟩ = some (.slice a N cap)) (go_keep) (first
      | (with_reducible refine Calls.mono (HFI.out _ (by go_grown)) ?_
         rintro e w6 ⟨x6, cp6, rfl, hb6, hf6⟩
         have HB6 : Hid (Below V.heap.size V w6) := bl_trans (by go_grown) hb6
         have HF6 := hid hf6
         have hs6 := hb6.size
         have r6 : w6.cell? ⟨b, 0, none⟩ = some (.slice a N cap) := (HB6.out.cell (p := ⟨b, 0, none⟩) HBV.out.2).trans c0
         obtain ⟨hc6, hz6⟩ := bcell hb6
         have m6 : ¬ b = w6.heap.size := by have := HBV.out.2; have := HB6.out.size; omega
         have m6' : ¬ w6.heap.size = b := by omega
         clear hf6)
      | (with_reducible refine Calls.mono (HLI.out _ (bl_trans HB6.out (by go_grown))) ?_
         rintro e w7 ⟨x7, l7, cp7, rfl, hb7, ht7⟩
         have HB67 : Hid (Below w6.heap.size w6 w7) := bl_trans (by go_grown) hb7
         have HB7 : Hid (Below V.heap.size V w7) := bl_trans HB6.out HB67.out
         have HF7 := hid (HF6.out.stays HB67.out)
         have HT7 := hid ht7
         have g2 : V.heap.size < _ -> V.heap.size < w7.heap.size := fun h => Nat.lt_of_lt_of_le (Nat.lt_of_lt_of_le h hs6) HB67.out.size
         have g1 : V.heap.size < _ -> V.heap.size < w6.heap.size := fun h => Nat.lt_of_lt_of_le h hs6
         have g3 : w6.heap.size < _ -> w6.heap.size < w7.heap.size := fun h => Nat.lt_of_lt_of_le h hb7.size
         have r7 : w7.cell? ⟨b, 0, none⟩ = some (.slice a N cap) := (HB7.out.cell (p := ⟨b, 0, none⟩) HBV.out.2).trans c0
         obtain ⟨hc7, hz7⟩ := bcell hb7
         have m7 : ¬ b = w7.heap.size := by have := HBV.out.2; have := HB7.out.size; omega
         have m7' : ¬ w7.heap.size = b := by omega
         clear ht7)
      | (with_reducible refine Calls.mono (HRA.out _ _ _ (bl_trans HB7.out (by go_grown)) (HF7.out.stays (by go_grown)) (HT7.out.stays (by go_grown))) ?_
         rintro e w8 ⟨x8, cp8, rfl, hb8, hk8, hcp8⟩
         have HB8 : Hid (Below V.heap.size V w8) := bl_trans (bl_trans HB7.out (by go_grown)) hb8
         have HK8 := hid hk8
         have r8 : w8.cell? ⟨b, 0, none⟩ = some (.slice a N cap) := (HB8.out.cell (p := ⟨b, 0, none⟩) HBV.out.2).trans c0
         obtain ⟨hc8, hz8⟩ := bcell hb8
         have m8 : ¬ b = w8.heap.size := by have := HBV.out.2; have := HB8.out.size; omega
         have m8' : ¬ w8.heap.size = b := by omega
         clear hk8))
    all_goals go_wp2_with fail
    all_goals go_meet
    . exact ⟨_, _, _, rfl, rfl, hcp8, out_new HB8.out HK8.out⟩
    . exact ⟨_, _, _, rfl, rfl, hcp8, out_set HB8.out hb8 HK8.out HB7.out.size (by simp [go_sem]) (by simp [go_sem]) (by simp [go_sem])⟩
    . exact ⟨_, _, _, rfl, rfl, hcp8, out_set HB8.out hb8 HK8.out HB6.out.size ((hc7 w6.heap.size 0 (by simp)).trans (by simp [go_sem])) ((hc7 w6.heap.size 1 (by simp)).trans (by simp [go_sem])) ((hc7 w6.heap.size 2 (by simp)).trans (by simp [go_sem]))⟩
    . have l6 : V.heap.size < w6.heap.size := g1 (by simp)
      exact ⟨_, _, _, rfl, rfl, hcp8, out_set HB8.out hb8 HK8.out (Nat.le_refl _) ((hc7 V.heap.size 0 l6).trans ((hc6 V.heap.size 0 (by simp)).trans (by simp [go_sem]))) ((hc7 V.heap.size 1 l6).trans ((hc6 V.heap.size 1 (by simp)).trans (by simp [go_sem]))) ((hc7 V.heap.size 2 l6).trans ((hc6 V.heap.size 2 (by simp)).trans (by simp [go_sem])))⟩
  obtain ⟨ga, xa, cpa, rfl, rfl, hcpa, HXA⟩ := hcut
  obtain ⟨X, hX⟩ : ∃ X, X = wc := ⟨_, rfl⟩
  rw [<- hX] at HXA ⊢
  clear hX wc d0
  have HBX : Hid (b < X.heap.size) := Nat.lt_of_lt_of_le HBV.out.2 HXA.out.low.size
  have c1 : X.cell? ⟨b, 0, none⟩ = some (.slice a N cap) := (HXA.out.low.cell (p := ⟨b, 0, none⟩) HBV.out.2).trans c0
  have d1 : X.drew.cell? ⟨b, 0, none⟩ = some (.slice a N cap) := c1
  clear k1 k2 HRA
  go_wp2_with fail
  go_cut [17, 18] (fun v17 v18 wx => ∃ g x cp, v17 = .pointer (some ⟨g, 0, none⟩) /\ v18 = .int .i64 0 /\ LB <= cp /\ Hid (OutA X wx g x LB cp EB UB OB))
  case first =>
    have n1 : ¬ b = X.heap.size := by have := HBX.out; omega
    have n1' : ¬ X.heap.size = b := by omega
    go_region_held3 (fun w' => w'.cell? ⟨b, 0, none⟩ = some (.slice a N cap)) (go_keep) (first
      | (with_reducible refine Calls.mono (HFI.out _ (bl_trans HXA.out.low (by go_grown))) ?_
         rintro e w6 ⟨x6, cp6, rfl, hb6, hf6⟩
         have HB6 : Hid (Below X.heap.size X w6) := bl_trans (by go_grown) hb6
         have HF6 := hid hf6
         have hs6 := hb6.size
         have r6 : w6.cell? ⟨b, 0, none⟩ = some (.slice a N cap) := (HB6.out.cell (p := ⟨b, 0, none⟩) HBX.out).trans c1
         obtain ⟨hc6, hz6⟩ := bcell hb6
         have m6 : ¬ b = w6.heap.size := by have := HBX.out; have := HB6.out.size; omega
         have m6' : ¬ w6.heap.size = b := by omega
         clear hf6)
      | (with_reducible refine Calls.mono (HLI.out _ (bl_trans HXA.out.low (bl_trans HB6.out (by go_grown)))) ?_
         rintro e w7 ⟨x7, l7, cp7, rfl, hb7, ht7⟩
         have HB67 : Hid (Below w6.heap.size w6 w7) := bl_trans (by go_grown) hb7
         have HB7 : Hid (Below X.heap.size X w7) := bl_trans HB6.out HB67.out
         have HF7 := hid (HF6.out.stays HB67.out)
         have HT7 := hid ht7
         have g2 : X.heap.size < _ -> X.heap.size < w7.heap.size := fun h => Nat.lt_of_lt_of_le (Nat.lt_of_lt_of_le h hs6) HB67.out.size
         have g1 : X.heap.size < _ -> X.heap.size < w6.heap.size := fun h => Nat.lt_of_lt_of_le h hs6
         have g3 : w6.heap.size < _ -> w6.heap.size < w7.heap.size := fun h => Nat.lt_of_lt_of_le h hb7.size
         have r7 : w7.cell? ⟨b, 0, none⟩ = some (.slice a N cap) := (HB7.out.cell (p := ⟨b, 0, none⟩) HBX.out).trans c1
         obtain ⟨hc7, hz7⟩ := bcell hb7
         have m7 : ¬ b = w7.heap.size := by have := HBX.out; have := HB7.out.size; omega
         have m7' : ¬ w7.heap.size = b := by omega
         clear ht7)
      | (with_reducible refine Calls.mono (HRB.out _ _ _ (bl_trans HXA.out.low (bl_trans HB7.out (by go_grown))) (HF7.out.stays (by go_grown)) (HT7.out.stays (by go_grown))) ?_
         rintro e w8 ⟨x8, cp8, rfl, hb8, hk8, hcp8⟩
         have HB8 : Hid (Below X.heap.size X w8) := bl_trans (bl_trans HB7.out (by go_grown)) hb8
         have HK8 := hid hk8
         have r8 : w8.cell? ⟨b, 0, none⟩ = some (.slice a N cap) := (HB8.out.cell (p := ⟨b, 0, none⟩) HBX.out).trans c1
         obtain ⟨hc8, hz8⟩ := bcell hb8
         have m8 : ¬ b = w8.heap.size := by have := HBX.out; have := HB8.out.size; omega
         have m8' : ¬ w8.heap.size = b := by omega
         clear hk8))
    all_goals go_wp2_with fail
    all_goals go_meet
    . exact ⟨_, _, _, rfl, rfl, hcp8, out_new HB8.out HK8.out⟩
    . exact ⟨_, _, _, rfl, rfl, hcp8, out_set HB8.out hb8 HK8.out HB7.out.size (by simp [go_sem]) (by simp [go_sem]) (by simp [go_sem])⟩
    . exact ⟨_, _, _, rfl, rfl, hcp8, out_set HB8.out hb8 HK8.out HB6.out.size ((hc7 w6.heap.size 0 (by simp)).trans (by simp [go_sem])) ((hc7 w6.heap.size 1 (by simp)).trans (by simp [go_sem])) ((hc7 w6.heap.size 2 (by simp)).trans (by simp [go_sem]))⟩
    . have l6 : X.heap.size < w6.heap.size := g1 (by simp)
      exact ⟨_, _, _, rfl, rfl, hcp8, out_set HB8.out hb8 HK8.out (Nat.le_refl _) ((hc7 X.heap.size 0 l6).trans ((hc6 X.heap.size 0 (by simp)).trans (by simp [go_sem]))) ((hc7 X.heap.size 1 l6).trans ((hc6 X.heap.size 1 (by simp)).trans (by simp [go_sem]))) ((hc7 X.heap.size 2 l6).trans ((hc6 X.heap.size 2 (by simp)).trans (by simp [go_sem])))⟩
  obtain ⟨gb, xb, cpb, rfl, rfl, hcpb, HXB⟩ := hcut
  obtain ⟨Y, hY⟩ : ∃ Y, Y = wc := ⟨_, rfl⟩
  rw [<- hY] at HXB ⊢
  clear hY wc d1 c1 c0
  have HYA : Hid (OutA V Y ga xa LA cpa EA UA OA) := HXA.out.stays HXB.out.low
  have HBY : Hid (Below w.heap.size w Y) := bl_trans HBV.out.1 HYA.out.low
  have qa0 := HYA.out.c0
  have qa1 := HYA.out.c1
  have qa2 := HYA.out.c2
  have qb0 := HXB.out.c0
  have qb1 := HXB.out.c1
  have qb2 := HXB.out.c2
  have HEQ : Hid (∀ w', Below Y.heap.size Y w' -> Calls Tryz.prog 10 #[.slice xa LA cpa, .slice xb LA cpb] w' fun e w'' => e = .returned (.bool true) /\ Below w'.heap.size w' w'') := fun w' hb => by
    have h1 := HYA.out.txs.stays hb
    have h2 := TxsA.take (HXB.out.txs.stays hb) LA (by rw [<- HAB.out.2.2.2.2.2.1]; exact HAB.out.2.2.2.2.2.2)
    have e : OB.take LA = OA := by
      rw [HAB.out.2.2.2.2.1]
      exact (List.prefix_iff_eq_take.1 HAB.out.1).symm
    rw [e] at h2
    have h := equal_c w'.heap.size w'.heap.size _ _ _ _ w' h1 h2 (Nat.le_refl _) (Nat.le_refl _)
    rw [decide_eq_true rfl] at h
    exact h
  have HCB : Hid (LB <= cpb) := hcpb
  clear HXA HXB HFI HLI HRB HBV HBX hcpa hcpb k3
  go_wp2_with fail
  have p0 : Y.drew.cell? ⟨ga, 0, none⟩ = some (.slice xa LA cpa) := qa0
  have p1 : Y.drew.cell? ⟨ga, 1, none⟩ = some (.int .i64 EA) := qa1
  have p2 : Y.drew.cell? ⟨ga, 2, none⟩ = some (.int .i64 UA) := qa2
  have p3 : Y.drew.cell? ⟨gb, 0, none⟩ = some (.slice xb LB cpb) := qb0
  have p4 : Y.drew.cell? ⟨gb, 1, none⟩ = some (.int .i64 EB) := qb1
  have p5 : Y.drew.cell? ⟨gb, 2, none⟩ = some (.int .i64 UB) := qb2
  have i1 : ¬ (LB : Int) < (LA : Int) := by have := HAB.out.2.2.2.2.2.2; omega
  have i2 : (LA : Int) <= (cpb : Int) := by have := HAB.out.2.2.2.2.2.2; have := HCB.out; omega
  have i3 : (0 : Int) <= (LA : Int) := by omega
  have i4 : ¬ UB < UA := by have := HAB.out.2.1; omega
  go_region_held3 (fun w' => w'.cell? ⟨ga, 0, none⟩ = some (.slice xa LA cpa) /\ w'.cell? ⟨ga, 1, none⟩ = some (.int .i64 EA) /\ w'.cell? ⟨ga, 2, none⟩ = some (.int .i64 UA) /\ w'.cell? ⟨gb, 0, none⟩ = some (.slice xb LB cpb) /\ w'.cell? ⟨gb, 1, none⟩ = some (.int .i64 EB) /\ w'.cell? ⟨gb, 2, none⟩ = some (.int .i64 UB)) (go_keep) (first
    | (with_reducible refine Calls.mono (HEQ.out _ (below_drew _)) ?_
       rintro e w6 ⟨rfl, hb6⟩
       have HB6 : Hid (Below w.heap.size w w6) := bl_trans HBY.out (bl_trans (below_drew _) hb6)
       have r0 : w6.cell? ⟨ga, 0, none⟩ = some (.slice xa LA cpa) := (hb6.cell (p := ⟨ga, 0, none⟩) (World.block_lt_of_cell? _ ⟨ga, 0, none⟩ p0)).trans p0
       have r1 : w6.cell? ⟨ga, 1, none⟩ = some (.int .i64 EA) := (hb6.cell (p := ⟨ga, 1, none⟩) (World.block_lt_of_cell? _ ⟨ga, 1, none⟩ p1)).trans p1
       have r2 : w6.cell? ⟨ga, 2, none⟩ = some (.int .i64 UA) := (hb6.cell (p := ⟨ga, 2, none⟩) (World.block_lt_of_cell? _ ⟨ga, 2, none⟩ p2)).trans p2
       have r3 : w6.cell? ⟨gb, 0, none⟩ = some (.slice xb LB cpb) := (hb6.cell (p := ⟨gb, 0, none⟩) (World.block_lt_of_cell? _ ⟨gb, 0, none⟩ p3)).trans p3
       have r4 : w6.cell? ⟨gb, 1, none⟩ = some (.int .i64 EB) := (hb6.cell (p := ⟨gb, 1, none⟩) (World.block_lt_of_cell? _ ⟨gb, 1, none⟩ p4)).trans p4
       have r5 : w6.cell? ⟨gb, 2, none⟩ = some (.int .i64 UB) := (hb6.cell (p := ⟨gb, 2, none⟩) (World.block_lt_of_cell? _ ⟨gb, 2, none⟩ p5)).trans p5
       clear hb6))
  rename_i hheld
  clear hheld p0 p1 p2 p3 p4 p5 qa0 qa1 qa2 qb0 qb1 qb2
  by_cases hE : EA = 1
  . have hU : UA = (k : Int) := HAB.out.2.2.1 hE
    have hE2 : (EA == 1) = true := by simpa using hE
    have hU2 : (UA == (k : Int)) = true := by simpa using hU
    clear HAB hE hU
    go_wp2_with fail
    go_ret
    exact ⟨rfl, HB6.out⟩
  . obtain ⟨h1, h2, h3⟩ := HAB.out.2.2.2.1 hE
    have hE2 : (EA == 1) = false := by simpa using hE
    have e1 : (EA == EB) = true := by simpa using h1
    have e2 : (UA == UB) = true := by simpa using h2
    have e3 : ((LA : Int) == (LB : Int)) = true := by rw [h3]; simp
    clear HAB h1 h2 h3 hE
    go_wp2_with fail
    go_ret
    exact ⟨rfl, HB6.out⟩
end Go.Proofs.YtidfkccmpkmkcaaGreatDoor.topFuel
