/-
  SpecStops: its walk.
-/
import Derived.Test.YtgijbdhbecnkbaaGreatDoorSpecC
import Derived.Test.YtgijbdhbecnkbaaGreatDoorStopSpec
import Derived.Test.YtgijbdhbecnkbaaGreatDoorKrB
namespace Go.Proofs.YtgijbdhbecnkbaaGreatDoor.specStops
open Go.ChangeShapes Go.WideShapes Go.ChangeAt Go.RowKit Go.Joins
set_option maxHeartbeats 4000000
set_option linter.unusedVariables false
set_option linter.unusedSimpArgs false
set_option maxRecDepth 100000
theorem spec_k {l : List Ru} {v : Value} {fuel : Int} {w : World} (hp : PrgA w v l) (hK : Kr w) (hf1 : -9223372036854775808 <= fuel) (hf2 : fuel <= 9223372036854775807) (hN : l = [] \/ specR 6000 l [] fuel ≠ 0) :
    Calls Tryz.prog 6 #[.agg #[v], .slice none 0 0, .int .i64 fuel] w fun e w' => e = .returned (.tuple #[.agg #[.slice none 0 0], .int .i64 (specR 6000 l [] fuel)]) /\ Below w.heap.size w w' :=
  spec_c 6000 w.heap.size l [] v (.slice none 0 0) fuel w hp ⟨⟨none, 0, 0, rfl, Nat.le_refl _⟩, none, 0, rfl, Nat.zero_le _, fun h => absurd h (by simp)⟩ hK.tr.tb (PowB.of hK.pw) hK.mx (Nat.le_refl _) hf1 hf2 hN
theorem spec_8 {x : Sm} (hx : x ∈ stopS) (hck : ckP 6000 (stopPr x) = 0) {fuel : Int} (h0 : 0 <= fuel) (h1 : fuel <= 200000) : specR 6000 (stopPr x) [] fuel = 8 := by
  obtain ⟨s', e, h, he⟩ := stop_rules hx (startM fuel.toNat)
  unfold specR
  rw [hck, if_neg (by simp), if_neg (by decide), if_neg (by omega), h, if_pos (by exact he)]
theorem spec_2 {l : List Ru} (hck : ckP 6000 l = 0) {fuel : Int} (h0 : fuel < 0) : specR 6000 l [] fuel = 2 := by
  unfold specR
  rw [hck, if_neg (by simp), if_neg (by decide), if_pos (.inl h0)]
theorem spec_0 : specR 6000 [] [] 0 = 0 := by kernel_rfl
theorem walk (n : Int) (hn : (Lit.int .i64 n).wf = true) (fu : Int) (hfu : (Lit.int .i64 fu).wf = true) (w : World) (hK : Kr w) :
    Calls Tryz.prog 3 #[.int .i64 n, .int .i64 fu] w fun e w' => e = .returned (.bool true) /\ Below w.heap.size w w' := by
  have HK : Hid (Kr w) := hK
  have HC : Hid (∀ w, Calls Tryz.prog 5 #[.int .i64 n, .int .i64 4] w _) := fun w => picked_c n 4 w hn (by decide) (by decide)
  have HFU : Hid _ := hfu
  clear hK hn hfu
  go_enter Tryz.func3, Tryz.ntmps3
  go_wp2_with fail
  refine Calls.mono (HC.out _) ?_
  rintro e w2 ⟨i, hi, rfl, hw2⟩
  rw [hw2]
  clear hw2 w2 HC
  obtain ⟨o, x, ho, hx, hrd, hck⟩ := stop_nth hi
  obtain ⟨b0, hb0⟩ : ∃ b, b = w.heap.size := ⟨_, rfl⟩
  obtain ⟨W, hW⟩ : ∃ W, W = w.alloc (.cells #[.string ⟨#[120, 32, 61, 32, 49, 32, 47, 32, 48, 59]⟩, .string ⟨#[119, 104, 105, 108, 101, 32, 40, 49, 41, 32, 123, 32, 125]⟩, .string ⟨#[108, 111, 97, 100, 32, 34, 103, 111, 110, 101, 34, 32, 97, 59]⟩, .string ⟨#[36, 48, 32, 61, 32, 49, 59]⟩] 9) := ⟨_, rfl⟩
  have c1 : W.cell? ⟨b0, i, none⟩ = some (.string (bs o)) := by
    rw [hW, hb0]
    have e : (#[.string ⟨#[120, 32, 61, 32, 49, 32, 47, 32, 48, 59]⟩, .string ⟨#[119, 104, 105, 108, 101, 32, 40, 49, 41, 32, 123, 32, 125]⟩, .string ⟨#[108, 111, 97, 100, 32, 34, 103, 111, 110, 101, 34, 32, 97, 59]⟩, .string ⟨#[36, 48, 32, 61, 32, 49, 59]⟩] : Array Value)[i]? = some (.string (bs o)) := by
      have e2 : (#[.string ⟨#[120, 32, 61, 32, 49, 32, 47, 32, 48, 59]⟩, .string ⟨#[119, 104, 105, 108, 101, 32, 40, 49, 41, 32, 123, 32, 125]⟩, .string ⟨#[108, 111, 97, 100, 32, 34, 103, 111, 110, 101, 34, 32, 97, 59]⟩, .string ⟨#[36, 48, 32, 61, 32, 49, 59]⟩] : Array Value) = (stopL.map fun l => Value.string (bs l)).toArray := by kernel_rfl
      rw [e2]
      simp [ho]
    exact ((RowAt.new w _ _).cell i).trans e
  have zo : (bs o).size <= 14 := by
    have : ∀ y ∈ stopL, y.length <= 14 := by decide
    rw [bs_size]
    exact this o (List.mem_of_getElem? ho)
  have HBW : Hid (Below w.heap.size w W /\ b0 < W.heap.size) := by rw [hW, hb0]; exact ⟨(Below.refl _ _).alloc (Nat.le_refl _) _, by simp⟩
  have HKW : Hid (Kr W) := HK.out.stays HBW.out.1
  rw [<- hW, <- hb0]
  clear hW hb0 HK
  have HX := hid (And.intro hx hck)
  obtain ⟨O, hO⟩ : ∃ O, O = bs o := ⟨_, rfl⟩
  have HRA : Hid (∀ w', Below W.heap.size W w' -> Calls Tryz.prog 4 #[.string (⟨#[66, 69, 71, 73, 78, 32, 123, 32]⟩ ++ O ++ ⟨#[32, 125]⟩)] w' fun e w6 => ∃ a cap, e = .returned (.tuple #[.agg #[.slice a 1 cap], .int .i64 0]) /\ Below w'.heap.size w' w6 /\ PrgA w6 (.slice a 1 cap) (stopPr x)) := fun w' hb => by
    have e : (⟨#[66, 69, 71, 73, 78, 32, 123, 32]⟩ ++ O ++ ⟨#[32, 125]⟩ : ByteArray) = bs (stopA ++ o ++ stopZ) := by rw [hO, <- bs_app, <- bs_app]; rfl
    refine readOk (l := stopPr x) (by rw [e, bs_list]; exact hrd) ?_ (HKW.out.stays hb)
    rw [e, bs_size]
    have := zo
    rw [bs_size] at this
    simp [stopA, stopZ]
    omega
  rw [<- hO] at c1 zo
  clear ho hx hrd hck hO
  have i1 : (0 : Int) <= (i : Int) := by omega
  have i2 : (i : Int) < 4 := by omega
  go_wp2_with fail
  refine Calls.mono (HRA.out W (Below.refl _ _)) ?_
  rintro e w3 ⟨a, cap, rfl, hb3, hp3⟩
  obtain ⟨b, hb⟩ : ∃ b, b = w3.heap.size := ⟨_, rfl⟩
  obtain ⟨V, hV⟩ : ∃ V, V = w3.alloc (.cells #[.slice a 1 cap] 25) := ⟨_, rfl⟩
  have c0 : V.cell? ⟨b, 0, none⟩ = some (.slice a 1 cap) := by rw [hV, hb]; simp [go_sem]
  have d0 : V.drew.cell? ⟨b, 0, none⟩ = some (.slice a 1 cap) := c0
  have HBV : Hid (Below w.heap.size w V /\ b < V.heap.size) := by
    rw [hV, hb]
    exact ⟨bl_trans (bl_trans HBW.out.1 hb3) ((Below.refl _ _).alloc (Nat.le_refl _) _), by simp⟩
  have hb3V : Below w3.heap.size w3 V := by rw [hV]; exact (Below.refl _ _).alloc (Nat.le_refl _) _
  have HKV : Hid (Kr V) := HKW.out.stays (bl_trans hb3 hb3V)
  have HPV : Hid (PrgA V (.slice a 1 cap) (stopPr x)) := PrgA.stays hp3 hb3V
  have HSP : Hid (∀ (z : Int) (r : Int) (w' : World), -10 <= z -> z <= 3000 -> specR 6000 (stopPr x) [] z = r -> r ≠ 0 -> Below V.heap.size V w' -> Calls Tryz.prog 6 #[.agg #[.slice a 1 cap], .slice none 0 0, .int .i64 z] w' fun e w6 => e = .returned (.tuple #[.agg #[.slice none 0 0], .int .i64 r]) /\ Below w'.heap.size w' w6) := fun z r w' h1 h2 h3 h4 hb => by
    have h := spec_k (fuel := z) (PrgA.stays HPV.out hb) (HKV.out.stays hb) (by omega) (by omega) (.inr (by rw [h3]; exact h4))
    rw [h3] at h
    exact h
  have HP1 : Hid (∀ w', Calls Tryz.prog 5 #[.int .i64 fu, .int .i64 3000] w' fun e w6 => ∃ z : Int, (0 <= z /\ z <= 3000 /\ specR 6000 (stopPr x) [] z = 8) /\ e = .returned (.int .i64 z) /\ w6 = w') := fun w' => by
    refine (picked_c fu 3000 w' HFU.out (by decide) (by decide)).mono fun e w6 ⟨k, hk, he, hw⟩ => ⟨(k : Int), ⟨by omega, by omega, spec_8 HX.out.1 HX.out.2 (by omega) (by omega)⟩, he, hw⟩
  have HP2 : Hid (∀ w', Calls Tryz.prog 5 #[.int .i64 fu, .int .i64 9] w' fun e w6 => ∃ z : Int, (0 <= z /\ z <= 9) /\ e = .returned (.int .i64 z) /\ w6 = w') := fun w' => by
    refine (picked_c fu 9 w' HFU.out (by decide) (by decide)).mono fun e w6 ⟨k, hk, he, hw⟩ => ⟨(k : Int), ⟨by omega, by omega⟩, he, hw⟩
  have HVV := hid hV
  have HBQ := hid hb
  clear hV hb hb3 hp3 hb3V HRA HKW HBW c1 zo i1 i2 HFU HPV hi
  go_wp2_with fail
  rw [<- HVV.out, <- HBQ.out]
  clear HVV HBQ
  go_cut [8, 9] (fun v8 v9 wx => ∃ bx : Nat, v8 = .pointer (some ⟨bx, 0, none⟩) /\ v9 = .int .i64 8 /\ Hid (Below V.heap.size V wx /\ wx.cell? ⟨bx, 0, none⟩ = some (.slice none 0 0) /\ bx < wx.heap.size))
  case first =>
    have hne : ¬ b = V.heap.size := by have := HBV.out.2; omega
    have hne' : ¬ V.heap.size = b := by omega
    go_region_held3 (fun w' => w'.cell? ⟨b, 0, none⟩ = some (.slice a 1 cap)) (go_keep) (first
      | (with_reducible refine Calls.mono (HP1.out _) ?_
         rintro e w6 ⟨z, hz, rfl, hw6⟩
         rw [hw6]
         have HZ := hid hz
         clear hw6 w6 hz)
      | (with_reducible refine Calls.mono (HSP.out _ _ _ (by have := HZ.out; omega) (by have := HZ.out; omega) HZ.out.2.2 (by decide) (by go_grown)) ?_
         rintro e w6 ⟨rfl, hb6⟩
         have HB6 : Hid (Below V.heap.size V w6) := bl_trans (by go_grown) hb6
         have r1 : w6.cell? ⟨b, 0, none⟩ = some (.slice a 1 cap) := (HB6.out.cell (p := ⟨b, 0, none⟩) HBV.out.2).trans d0
         obtain ⟨hc6, hf6⟩ := bcell hb6
         have hn6 : ¬ b = w6.heap.size := by have := HBV.out.2; have := HB6.out.size; omega
         have hn6' : ¬ w6.heap.size = b := by omega))
    all_goals go_wp2_with fail
    all_goals go_meet
    . exact ⟨_, rfl, rfl, HB6.out.alloc HB6.out.size _, by simp [go_sem], by simp⟩
    all_goals
      refine ⟨_, rfl, rfl, HB6.out.setCell (p := ⟨V.heap.size, 0, none⟩) (Nat.le_refl _) _, World.cell?_setCell_same _ _ _ (show w6.cell? ⟨V.heap.size, 0, none⟩ = some (.slice none 0 0) from (hc6 V.heap.size 0 (by simp)).trans (by simp [go_sem])), ?_⟩
      have := hb6.size
      simp at this ⊢
      omega
  obtain ⟨bx, rfl, rfl, HX1⟩ := hcut
  obtain ⟨Y, hY⟩ : ∃ Y, Y = wc := ⟨_, rfl⟩
  rw [<- hY] at HX1 ⊢
  clear hY wc
  have c1 : Y.cell? ⟨b, 0, none⟩ = some (.slice a 1 cap) := (HX1.out.1.cell (p := ⟨b, 0, none⟩) HBV.out.2).trans c0
  have d1 : Y.drew.cell? ⟨b, 0, none⟩ = some (.slice a 1 cap) := c1
  have HBY : Hid (Below w.heap.size w Y /\ b < Y.heap.size) := ⟨bl_trans HBV.out.1 HX1.out.1, by have := HBV.out.2; have := HX1.out.1.size; omega⟩
  have HSY : Hid (∀ (z : Int) (w' : World), 0 <= z /\ z <= 9 -> Below Y.heap.size Y w' -> Calls Tryz.prog 6 #[.agg #[.slice a 1 cap], .slice none 0 0, .int .i64 (-1 - z)] w' fun e w6 => e = .returned (.tuple #[.agg #[.slice none 0 0], .int .i64 2]) /\ Below w'.heap.size w' w6) := fun z w' h1 hb => HSP.out (-1 - z) 2 w' (by omega) (by omega) (spec_2 HX.out.2 (by omega)) (by decide) (bl_trans HX1.out.1 hb)
  clear c0 d0 HSP HP1
  go_wp2_with fail
  go_cut [10, 11] (fun v10 v11 wx => ∃ by2 : Nat, v10 = .pointer (some ⟨by2, 0, none⟩) /\ v11 = .int .i64 2 /\ Hid (Below Y.heap.size Y wx))
  case first =>
    have hne : ¬ b = Y.heap.size := by have := HBY.out.2; omega
    have hne' : ¬ Y.heap.size = b := by omega
    go_region_held3 (fun w' => w'.cell? ⟨b, 0, none⟩ = some (.slice a 1 cap)) (go_keep) (first
      | (with_reducible refine Calls.mono (HP2.out _) ?_
         rintro e w6 ⟨z, hz, rfl, hw6⟩
         rw [hw6]
         have HZ := hid hz
         have i1 : (-9223372036854775808 : Int) <= -1 - z := by omega
         have i2 : -1 - z <= 9223372036854775807 := by omega
         have hw1 : IntKind.i64.wrap (-1 - z) = -1 - z := wrap_id (by omega) (by omega)
         clear hw6 w6 hz)
      | (with_reducible refine Calls.mono (HSY.out _ _ HZ.out (by go_grown)) ?_
         rintro e w6 ⟨rfl, hb6⟩
         have HB6 : Hid (Below Y.heap.size Y w6) := bl_trans (by go_grown) hb6
         have r1 : w6.cell? ⟨b, 0, none⟩ = some (.slice a 1 cap) := (HB6.out.cell (p := ⟨b, 0, none⟩) HBY.out.2).trans d1
         obtain ⟨hc6, hf6⟩ := bcell hb6
         have hn6 : ¬ b = w6.heap.size := by have := HBY.out.2; have := HB6.out.size; omega
         have hn6' : ¬ w6.heap.size = b := by omega))
    all_goals go_wp2_with fail
    all_goals go_meet
    . exact ⟨_, rfl, rfl, HB6.out.alloc HB6.out.size _⟩
    all_goals exact ⟨_, rfl, rfl, HB6.out.setCell (p := ⟨Y.heap.size, 0, none⟩) (Nat.le_refl _) _⟩
  obtain ⟨b2, rfl, rfl, HX2⟩ := hcut
  obtain ⟨Z, hZ⟩ : ∃ Z, Z = wc := ⟨_, rfl⟩
  rw [<- hZ] at HX2 ⊢
  clear hZ wc
  have HBZ : Hid (Below w.heap.size w Z /\ Below V.heap.size V Z /\ Z.cell? ⟨bx, 0, none⟩ = some (.slice none 0 0) /\ bx < Z.heap.size) := ⟨bl_trans HBY.out.1 HX2.out, bl_trans HX1.out.1 HX2.out, (HX2.out.cell (p := ⟨bx, 0, none⟩) HX1.out.2.2).trans HX1.out.2.1, by have := HX1.out.2.2; have := HX2.out.size; omega⟩
  have HS0 : Hid (Calls Tryz.prog 6 #[.agg #[.slice none 0 0], .slice none 0 0, .int .i64 0] Z fun e w6 => e = .returned (.tuple #[.agg #[.slice none 0 0], .int .i64 0]) /\ Below Z.heap.size Z w6) := by
    have h := spec_k (l := []) (v := .slice none 0 0) (fuel := 0) (w := Z) ⟨none, 0, rfl, Nat.zero_le _, fun h => absurd h (by simp)⟩ (HKV.out.stays HBZ.out.2.1) (by decide) (by decide) (.inl rfl)
    rw [spec_0] at h
    exact h
  clear HX1 HX2 HBY HSY c1 d1 HP2 HKV HBV HX
  go_wp2_with fail
  refine Calls.mono HS0.out ?_
  rintro e w8 ⟨rfl, hb8⟩
  have c8 : (w8.alloc (.cells #[.slice none 0 0] 25)).cell? ⟨bx, 0, none⟩ = some (.slice none 0 0) := (((Below.refl _ _).alloc (Nat.le_refl _) _).cell (p := ⟨bx, 0, none⟩) (by have := HBZ.out.2.2.2; have := hb8.size; show bx < _; omega)).trans ((hb8.cell (p := ⟨bx, 0, none⟩) HBZ.out.2.2.2).trans HBZ.out.2.2.1)
  have HB8 : Hid (Below w.heap.size w (w8.alloc (.cells #[.slice none 0 0] 25))) := bl_trans (bl_trans HBZ.out.1 hb8) ((Below.refl _ _).alloc (Nat.le_refl _) _)
  clear HS0 HBZ hb8
  go_wp2_with fail
  go_ret
  exact ⟨rfl, HB8.out⟩
end Go.Proofs.YtgijbdhbecnkbaaGreatDoor.specStops
