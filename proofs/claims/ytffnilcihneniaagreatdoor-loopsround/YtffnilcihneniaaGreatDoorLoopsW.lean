/-
  LoopsRound: its walk.
-/
import Derived.Test.YtffnilcihneniaaGreatDoorKeepOut
import Derived.Test.YtffnilcihneniaaGreatDoorLoopSpec
namespace Go.Proofs.YtffnilcihneniaaGreatDoor.loopsRound
open Go.ChangeShapes Go.WideShapes Go.ChangeAt Go.RowKit Go.Joins
set_option linter.unusedVariables false
set_option maxRecDepth 100000

/-- Both runs. -/
theorem runs {k : Nat} {v : Value} {w : World} (hk : k < 50) (hp : PrgA w v (loopP k)) (hK : Kr w) (z : Int) (hz : z = 2 + 3 * (k : Int)) :
    Calls Tryz.prog 19 #[.agg #[v], .slice none 0 0, .slice none 0 0, .int .i64 z] w fun e w' => ∃ a cap, e = .returned (.tuple #[.agg #[.slice a k cap, .int .i64 0, .int .i64 z], .int .i64 0]) ∧ Below w.heap.size w w' ∧ TxsA w' (.slice a k cap) (outsL k) ∧ k ≤ cap := by
  obtain ⟨d1, -⟩ := loop_run (F := []) (k := k) (m := 5996) (fuel := z.toNat) (by omega)
  obtain ⟨s, h1, h2, h3⟩ := d1 (by omega)
  have h := runOk (fuel := z) hp (nilTx w) hK (loop_ck k hk).1 (by kernel_rfl) (by omega) (by omega)
  rw [h1] at h
  refine h.mono fun e w' ⟨a, len, cap, he, hl, hb, ht, hcp⟩ => ?_
  have h4 : (endOf (.go s true)).2.1 = outsL k := h2
  have h5 : ((endOf (.go s true)).2.2 : Int) = 0 := by show ((s.left : Nat) : Int) = 0; omega
  rw [h4] at hl ht
  rw [outsL_len] at hl
  rw [hl] at he ht hcp
  refine ⟨a, cap, ?_, hb, ht, hcp⟩
  rw [he, h5, Int.sub_zero]
  rfl
theorem run2 {k : Nat} {v : Value} {w : World} (hk : k < 50) (hp : PrgA w v (loopP k)) (hK : Kr w) (g : Nat) (hg : g < 2 + 3 * k) :
    Calls Tryz.prog 19 #[.agg #[v], .slice none 0 0, .slice none 0 0, .int .i64 g] w fun e w' => ∃ a cap j, j ≤ k ∧ e = .returned (.tuple #[.agg #[.slice a j cap, .int .i64 1, .int .i64 g], .int .i64 0]) ∧ Below w.heap.size w w' ∧ TxsA w' (.slice a j cap) (outsL j) := by
  obtain ⟨-, d2⟩ := loop_run (F := []) (k := k) (m := 5996) (fuel := (g : Int).toNat) (by omega)
  obtain ⟨s, j, h1, h2, h3, h4⟩ := d2 (by omega)
  have h := runOk (fuel := (g : Int)) hp (nilTx w) hK (loop_ck k hk).1 (by kernel_rfl) (by omega) (by omega)
  rw [h1] at h
  refine h.mono fun e w' ⟨a, len, cap, he, hl, hb, ht, hcp⟩ => ?_
  have h5 : (endOf (.stop s 1)).2.1 = outsL j := h4
  have h6 : ((endOf (.stop s 1)).2.2 : Int) = 0 := by show ((s.left : Nat) : Int) = 0; omega
  rw [h5] at hl ht
  rw [outsL_len] at hl
  rw [hl] at he ht
  refine ⟨a, cap, j, h3, ?_, hb, ht⟩
  rw [he, h6, Int.sub_zero]
  rfl

set_option maxHeartbeats 4000000 in
theorem walk (n : Int) (hn : (Lit.int .i64 n).wf = true) (fu : Int) (hfu : (Lit.int .i64 fu).wf = true) (w : World) (hK : Kr w) :
    Calls Tryz.prog 8 #[.int .i64 n, .int .i64 fu] w fun e w' => e = .returned (.bool true) ∧ Below w.heap.size w w' := by
  have HK : Hid (Kr w) := hK
  have HC : Hid _ := picked_c n 50 w hn (by decide) (by decide)
  have HFU : Hid _ := hfu
  clear hK hn hfu
  go_enter Tryz.func8, Tryz.ntmps8
  go_wp2_with fail
  refine Calls.mono HC.out ?_
  rintro e w1 ⟨k, hk, rfl, hw1⟩
  rw [hw1]
  clear hw1 w1 HC
  have HI : Hid _ := Tryz.strconv_Itoa (k : Int) (by omega) (by omega) w HK.out.pw
  go_wp2_with fail
  refine Calls.mono HI.out ?_
  rintro e w1 ⟨rfl, hg1⟩
  have HB1 : Hid (Below w.heap.size w w1) := below_grown_k hg1
  clear hg1 HI
  obtain ⟨Z, hZ⟩ : ∃ Z : ByteArray, Z = ⟨(Lib.itoa (k : Int)).toArray⟩ := ⟨_, rfl⟩
  rw [← hZ]
  have z1 : Z.size ≤ 200 := by rw [hZ]; simpa [ByteArray.size] using itoa_short k (by omega)
  have HZ : Hid _ := hZ
  clear hZ
  have hlk := (loop_ck k hk).2
  go_wp2_with fail
  refine Calls.mono (read_s (L := loopL k) (by rw [HZ.out]; simp only [loopL, ← bs_app]; rfl) (loop_read k hk) (by omega) (HK.out.stays HB1.out)) ?_
  rintro e w2 ⟨a, cap, rfl, hb2, hp2⟩
  have HB2 : Hid (Below w.heap.size w w2) := bl_trans HB1.out hb2
  obtain ⟨len, hlen⟩ : ∃ len, len = (loopP k).length := ⟨_, rfl⟩
  rw [← hlen] at hp2 ⊢
  have HP2 : Hid (PrgA w2 (.slice a len cap) (loopP k)) := hp2
  clear hb2 hp2 HZ z1 HB1 hlk hlen
  have i1 : -9223372036854775808 ≤ 3 * (k : Int) := by omega
  have i2 : 3 * (k : Int) ≤ 9223372036854775807 := by omega
  have i3 : -9223372036854775808 ≤ 2 + 3 * (k : Int) := by omega
  have i4 : 2 + 3 * (k : Int) ≤ 9223372036854775807 := by omega
  go_wp2_with fail
  obtain ⟨b, hb⟩ : ∃ b, b = w2.heap.size := ⟨_, rfl⟩
  obtain ⟨W, hW⟩ : ∃ W, W = w2.alloc (.cells #[.slice a len cap] 27) := ⟨_, rfl⟩
  have c0 : W.cell? ⟨b, 0, none⟩ = some (.slice a len cap) := by rw [hW, hb]; simp [go_sem]
  have HBW : Hid (Below w.heap.size w W ∧ Below w2.heap.size w2 W) := by rw [hW]; exact ⟨HB2.out.alloc HB2.out.size _, (Below.refl _ _).alloc (Nat.le_refl _) _⟩
  have HBS : Hid (b < W.heap.size) := by unfold Hid; rw [hW, hb]; simp
  have HPW : Hid (PrgA W (.slice a len cap) (loopP k)) := PrgA.stays HP2.out HBW.out.2
  have HKW : Hid (Kr W) := HK.out.stays HBW.out.1
  rw [← hW, ← hb]
  clear hW hb HB2 HP2 HK
  refine Calls.mono (runs hk HPW.out HKW.out _ rfl) ?_
  rintro e w3 ⟨a3, cap3, rfl, hb3, hl3, hcp3⟩
  have HCP3 : Hid (k ≤ cap3) := hcp3
  have HB3 : Hid (Below W.heap.size W w3) := hb3
  have HL3 : Hid (TxsA w3 (.slice a3 k cap3) (outsL k)) := hl3
  have HC2 : Hid (∀ w, Calls Tryz.prog 10 #[.int .i64 fu, .int .i64 (2 + 3 * (k : Int))] w _) := fun w => by
    have h := picked_c fu (2 + 3 * k) w HFU.out (by omega) (by omega)
    rw [show ((2 + 3 * k : Nat) : Int) = 2 + 3 * (k : Int) by omega] at h
    exact h
  clear hb3 hl3 hcp3 HFU
  go_wp2_with fail
  refine Calls.mono (HC2.out _) ?_
  rintro e w4 ⟨g, hg, rfl, hw4⟩
  rw [hw4]
  clear hw4 w4 HC2
  obtain ⟨b3, hb3⟩ : ∃ b, b = w3.heap.size := ⟨_, rfl⟩
  obtain ⟨W3, hW3⟩ : ∃ W, W = w3.alloc (.cells #[.slice a3 k cap3, .int .i64 0, .int .i64 (2 + 3 * (k : Int))] 47) := ⟨_, rfl⟩
  have HD3 : Hid (W3.cell? ⟨b3, 0, none⟩ = some (.slice a3 k cap3) ∧ W3.cell? ⟨b3, 1, none⟩ = some (.int .i64 0) ∧ W3.cell? ⟨b3, 2, none⟩ = some (.int .i64 (2 + 3 * (k : Int)))) := by rw [hW3, hb3]; simp [go_sem, Hid]
  have HBW3 : Hid (Below W.heap.size W W3 ∧ Below w3.heap.size w3 W3) := by rw [hW3]; exact ⟨HB3.out.alloc HB3.out.size _, (Below.refl _ _).alloc (Nat.le_refl _) _⟩
  have HS3 : Hid (b3 < W3.heap.size ∧ w3.heap.size ≤ W3.heap.size) := by unfold Hid; rw [hW3, hb3]; simp
  have c1 : W3.cell? ⟨b, 0, none⟩ = some (.slice a len cap) := (HBW3.out.1.cell (p := ⟨b, 0, none⟩) HBS.out).trans c0
  rw [← hW3, ← hb3]
  clear hW3 hb3 c0
  have HR2 : Hid _ := run2 hk (PrgA.stays HPW.out HBW3.out.1) (HKW.out.stays HBW3.out.1) g hg
  clear hg i1 i2 i3 i4
  go_wp2_with fail
  refine Calls.mono HR2.out ?_
  rintro e w5 ⟨a5, cap5, j, hj, rfl, hb5, hl5⟩
  have HB5 : Hid (Below W3.heap.size W3 w5) := hb5
  have HL5 : Hid (TxsA w5 (.slice a5 j cap5) (outsL j)) := hl5
  clear hb5 hl5 HR2
  go_wp2_with fail
  obtain ⟨b5, hb5⟩ : ∃ b, b = w5.heap.size := ⟨_, rfl⟩
  obtain ⟨W5, hW5⟩ : ∃ W, W = w5.alloc (.cells #[.slice a5 j cap5, .int .i64 1, .int .i64 g] 47) := ⟨_, rfl⟩
  have HD5 : Hid (W5.cell? ⟨b5, 0, none⟩ = some (.slice a5 j cap5) ∧ W5.cell? ⟨b5, 1, none⟩ = some (.int .i64 1) ∧ W5.cell? ⟨b5, 2, none⟩ = some (.int .i64 g)) := by rw [hW5, hb5]; simp [go_sem, Hid]
  have HBW5 : Hid (Below W3.heap.size W3 W5 ∧ Below w5.heap.size w5 W5) := by rw [hW5]; exact ⟨HB5.out.alloc HB5.out.size _, (Below.refl _ _).alloc (Nat.le_refl _) _⟩
  obtain ⟨f0, f1, f2⟩ := HD3.out
  have e0 : W5.cell? ⟨b3, 0, none⟩ = some (.slice a3 k cap3) := (HBW5.out.1.cell (p := ⟨b3, 0, none⟩) HS3.out.1).trans f0
  have e1 : W5.cell? ⟨b3, 1, none⟩ = some (.int .i64 0) := (HBW5.out.1.cell (p := ⟨b3, 1, none⟩) HS3.out.1).trans f1
  have e2 : W5.cell? ⟨b3, 2, none⟩ = some (.int .i64 (2 + 3 * (k : Int))) := (HBW5.out.1.cell (p := ⟨b3, 2, none⟩) HS3.out.1).trans f2
  obtain ⟨g0, g1, g2⟩ := HD5.out
  have HX1 : Hid (TxsA W5 (.slice a5 j cap5) (outsL j)) := TxsA.stays HL5.out HBW5.out.2
  have HX2 : Hid (TxsA W5 (.slice a3 j cap3) ((outsL k).take j)) := TxsA.take (TxsA.stays (TxsA.stays HL3.out HBW3.out.2) HBW5.out.1) j (by rw [outsL_len]; exact hj)
  have HEQ0 : Hid (outsL j = (outsL k).take j) := by
    unfold outsL Hid
    rw [← List.map_take, List.take_range, Nat.min_eq_left hj]
  have HBF : Hid (Below w.heap.size w W5) := bl_trans (bl_trans HBW.out.1 HBW3.out.1) HBW5.out.1
  have HJ : Hid (j ≤ cap3) := Nat.le_trans hj HCP3.out
  rw [← hW5, ← hb5]
  clear hW5 hb5 HB5 HL5 HL3 HB3 HBW5 HBW3 HBW HD3 HD5 HS3 f0 f1 f2 c1 HPW HKW HBS
  have HEQ : Hid (∀ w', Below W5.heap.size W5 w' → Calls Tryz.prog 16 #[.slice a5 j cap5, .slice a3 j cap3] w' fun e w'' => e = .returned (.bool true) ∧ Below w'.heap.size w' w'') := fun w' hb => by
    have h := equal_c w'.heap.size w'.heap.size _ _ _ _ w' (TxsA.stays HX1.out hb) (TxsA.stays HX2.out hb) (Nat.le_refl _) (Nat.le_refl _)
    rw [decide_eq_true HEQ0.out] at h
    exact h
  have p0 : W5.drew.cell? ⟨b3, 0, none⟩ = some (.slice a3 k cap3) := e0
  have p1 : W5.drew.cell? ⟨b3, 1, none⟩ = some (.int .i64 0) := e1
  have p2 : W5.drew.cell? ⟨b3, 2, none⟩ = some (.int .i64 (2 + 3 * (k : Int))) := e2
  have p3 : W5.drew.cell? ⟨b5, 0, none⟩ = some (.slice a5 j cap5) := g0
  have p4 : W5.drew.cell? ⟨b5, 1, none⟩ = some (.int .i64 1) := g1
  have p5 : W5.drew.cell? ⟨b5, 2, none⟩ = some (.int .i64 g) := g2
  have i5 : (j : Int) ≤ (cap3 : Int) := by have := HJ.out; omega
  have i1 : -9223372036854775808 ≤ 3 * (k : Int) := by omega
  have i2 : 3 * (k : Int) ≤ 9223372036854775807 := by omega
  have i3 : -9223372036854775808 ≤ 2 + 3 * (k : Int) := by omega
  have i4 : 2 + 3 * (k : Int) ≤ 9223372036854775807 := by omega
  have hw1 : IntKind.i64.wrap (3 * (k : Int)) = 3 * (k : Int) := wrap_id (by omega) (by omega)
  have hw2 : IntKind.i64.wrap (2 + 3 * (k : Int)) = 2 + 3 * (k : Int) := wrap_id (by omega) (by omega)
  clear HX1 HX2 HEQ0 i1 i2 i3 i4 hj hk
  go_region_held3 (fun w' => w'.cell? ⟨b3, 0, none⟩ = some (.slice a3 k cap3) ∧ w'.cell? ⟨b3, 1, none⟩ = some (.int .i64 0) ∧ w'.cell? ⟨b3, 2, none⟩ = some (.int .i64 (2 + 3 * (k : Int))) ∧ w'.cell? ⟨b5, 0, none⟩ = some (.slice a5 j cap5) ∧ w'.cell? ⟨b5, 1, none⟩ = some (.int .i64 1) ∧ w'.cell? ⟨b5, 2, none⟩ = some (.int .i64 g)) (go_keep) (first
    | (with_reducible refine Calls.mono (HEQ.out _ (below_drew _)) ?_
       rintro e w6 ⟨rfl, hb6⟩
       have HB6 : Hid (Below w.heap.size w w6) := bl_trans HBF.out (bl_trans (below_drew _) hb6)
       have r0 : w6.cell? ⟨b3, 0, none⟩ = some (.slice a3 k cap3) := (hb6.cell (p := ⟨b3, 0, none⟩) (World.block_lt_of_cell? _ ⟨b3, 0, none⟩ p0)).trans p0
       have r1 : w6.cell? ⟨b3, 1, none⟩ = some (.int .i64 0) := (hb6.cell (p := ⟨b3, 1, none⟩) (World.block_lt_of_cell? _ ⟨b3, 1, none⟩ p1)).trans p1
       have r2 : w6.cell? ⟨b3, 2, none⟩ = some (.int .i64 (2 + 3 * (k : Int))) := (hb6.cell (p := ⟨b3, 2, none⟩) (World.block_lt_of_cell? _ ⟨b3, 2, none⟩ p2)).trans p2
       have r3 : w6.cell? ⟨b5, 0, none⟩ = some (.slice a5 j cap5) := (hb6.cell (p := ⟨b5, 0, none⟩) (World.block_lt_of_cell? _ ⟨b5, 0, none⟩ p3)).trans p3
       have r4 : w6.cell? ⟨b5, 1, none⟩ = some (.int .i64 1) := (hb6.cell (p := ⟨b5, 1, none⟩) (World.block_lt_of_cell? _ ⟨b5, 1, none⟩ p4)).trans p4
       have r5 : w6.cell? ⟨b5, 2, none⟩ = some (.int .i64 g) := (hb6.cell (p := ⟨b5, 2, none⟩) (World.block_lt_of_cell? _ ⟨b5, 2, none⟩ p5)).trans p5
       clear hb6))
  rename_i hheld
  clear hheld
  go_wp2_with fail
  go_ret
  exact ⟨rfl, HB6.out⟩
end Go.Proofs.YtffnilcihneniaaGreatDoor.loopsRound
