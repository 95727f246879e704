/-
  TopBad: its walk.
-/
import Derived.Test.YtoaidkbcoifopaaGreatDoorTopRq
import Derived.Test.YtoaidkbcoifopaaGreatDoorBadE
import Derived.Test.YtoaidkbcoifopaaGreatDoorBadM
import Derived.Lib.Repeat
import Derived.Deep.DeepCutAuto
import Derived.Deep.RegionHeld3
namespace Go.Proofs.YtoaidkbcoifopaaGreatDoor.topBad
open Go.ChangeShapes Go.WideShapes Go.ChangeAt Go.RowKit Go.Joins
set_option maxHeartbeats 4000000
set_option linter.unusedVariables false
set_option linter.unusedSimpArgs false
set_option maxRecDepth 100000
theorem Picked_c (n : Int) (m : Nat) (w : World) (hn : (Lit.int .i64 n).wf = true) (hm : 0 < m) (hm2 : m <= 1000000) :
    Calls Tryz.prog 5 #[.int .i64 n, .int .i64 m] w fun e w' => ∃ k : Nat, k < m /\ e = .returned (.int .i64 k) /\ w' = w := by
  have HC := hid (picked_c n m w hn hm hm2)
  clear hn hm hm2
  go_enter Tryz.func5, Tryz.ntmps5
  go_wp2_with fail
  refine Calls.mono HC.out ?_
  rintro e w1 ⟨k, hk, rfl, hw1⟩
  rw [hw1]
  clear hw1 w1 HC
  go_wp2_with fail
  go_ret
  exact ⟨k, hk, rfl, rfl⟩
theorem rep_c (K : Nat) (z : Int) (hz : z = 200 + (K : Int)) (hK : K <= 50) (w : World) :
    Calls Tryz.prog 6 #[.string ⟨#[120]⟩, .int .i64 z] w fun e w' => ∃ L : ByteArray, L.size = 200 + K /\ e = .returned (.string L) /\ Below w.heap.size w w' := by
  obtain rfl : z = ((200 + K : Nat) : Int) := by omega
  have e1 : (⟨#[120]⟩ : ByteArray).size = 1 := rfl
  refine (Tryz.strings_Repeat ⟨#[120]⟩ (200 + K) w (by omega) (by rw [e1]; omega)).mono fun e w' h => ⟨_, ?_, h.1, h.2⟩
  show (bs (Lib.repeatL [120] (200 + K))).size = _
  rw [bs_size, Lib.repeatL_length]
  simp
theorem early_f {m : Nat} {p : List Ru} {F : List Fl} {ls : List ByteArray} {z er : Int} (hck : ckP m p = 0) (hw : worldR F ls = er) (h0 : er ≠ 0) : earlyR m p F ls z = er := by
  unfold earlyR
  rw [hck, if_neg (by simp), hw, if_pos h0]
theorem early_z {m : Nat} {p : List Ru} {z : Int} (hck : ckP m p = 0) (hz : 200000 < z) : earlyR m p [] [] z = 2 := by
  unfold earlyR
  rw [hck, if_neg (by simp), if_neg (by decide), if_pos (.inr hz)]
theorem early_p {m : Nat} {p : List Ru} {z er : Int} (hck : ckP m p = er) (h0 : er ≠ 0) : earlyR m p [] [] z = er := by
  unfold earlyR
  rw [if_pos (by rw [hck]; exact h0), hck]
theorem run_k {p : List Ru} {v fv lv : Value} {F : List Fl} {ls : List ByteArray} {z er : Int} {w : World} (hp : PrgA w v p) (hK : Kr w) (hF : FlsA w fv F) (hL : TxsA w lv ls) (he : earlyR 6000 p F ls z = er) (h0 : er ≠ 0) (h1 : -9223372036854775808 <= z) (h2 : z <= 9223372036854775807) :
    Calls Tryz.prog 7 #[.agg #[v], fv, lv, .int .i64 z] w fun e w' => e = .returned (.tuple #[.agg #[.slice none 0 0, .int .i64 0, .int .i64 0], .int .i64 er]) /\ Below w.heap.size w w' := by
  have h := runE_c 6000 w.heap.size p F ls v fv lv z w hp hF hL hK.tr.tb (Nat.le_refl _) h1 h2 (by rw [he]; exact h0)
  rw [he] at h
  exact h
theorem spec_k {p : List Ru} {v fv : Value} {F : List Fl} {z er : Int} {w : World} (hp : PrgA w v p) (hK : Kr w) (hF : FlsA w fv F) (he : earlyR 6000 p F [] z = er) (h0 : er ≠ 0) (h1 : -9223372036854775808 <= z) (h2 : z <= 9223372036854775807) :
    Calls Tryz.prog 8 #[.agg #[v], fv, .int .i64 z] w fun e w' => e = .returned (.tuple #[.agg #[.slice none 0 0], .int .i64 er]) /\ Below w.heap.size w w' := by
  have h := specE_c 6000 w.heap.size p F v fv z w hp hF hK.tr.tb (Nat.le_refl _) h1 h2 (by rw [he]; exact h0)
  rw [he] at h
  exact h
theorem noFls (w : World) : FlsA w (.slice none 0 0) [] := ⟨⟨none, 0, 0, rfl, Nat.le_refl _⟩, none, 0, rfl, Nat.zero_le _, fun h => absurd h (by simp)⟩
theorem noTxs (w : World) : TxsA w (.slice none 0 0) [] := txNil _ _
attribute [local irreducible] Oyields
theorem walk (l : List Rw) (v : Value) (n : Int) (hn : (Lit.int .i64 n).wf = true) (wh : Int) (hwh : (Lit.int .i64 wh).wf = true) (w : World) (hK : Kr w) (hv : RwA w w.heap.size v l) :
    Calls Tryz.prog 3 #[v, .int .i64 n, .int .i64 wh] w fun e w' => e = .returned (.bool true) /\ Below w.heap.size w w' := by
  have HK : Hid (Kr w) := hK
  have HV : Hid (RwA w w.heap.size v l) := hv
  have HP1 : Hid (∀ w, Calls Tryz.prog 5 #[.int .i64 n, .int .i64 50] w _) := fun w => Picked_c n 50 w hn (by decide) (by decide)
  have HP2 : Hid (∀ w, Calls Tryz.prog 5 #[.int .i64 wh, .int .i64 5] w _) := fun w => Picked_c wh 5 w hwh (by decide) (by decide)
  obtain ⟨a0, cap0, rfl, -, -, -⟩ := hv
  clear hK hn hwh
  go_enter Tryz.func3, Tryz.ntmps3
  go_wp2_with fail
  refine Calls.mono (topread_c l _ w HV.out HK.out) ?_
  rintro e w1 ⟨hb1, h⟩
  rcases h with ⟨p, a, cap, hck, rfl, hp⟩ | rfl
  case inr =>
    have HB : Hid (Below w.heap.size w w1) := hb1
    clear hb1 HK HV HP1 HP2
    go_wp2_with fail
    go_ret
    exact ⟨rfl, HB.out.alloc HB.out.size _⟩
  obtain ⟨N, hN⟩ : ∃ N, N = p.length := ⟨_, rfl⟩
  obtain ⟨b, hb⟩ : ∃ b, b = w1.heap.size := ⟨_, rfl⟩
  obtain ⟨V, hV⟩ : ∃ V, V = w1.alloc (.cells #[.slice a N cap] 25) := ⟨_, rfl⟩
  have c0 : V.cell? ⟨b, 0, none⟩ = some (.slice a N cap) := by rw [hV, hb]; simp [go_sem]
  have hb2 : Below w1.heap.size w1 V := by rw [hV]; exact (Below.refl _ _).alloc (Nat.le_refl _) _
  have HBV : Hid (Below w.heap.size w V /\ b < V.heap.size) := ⟨bl_trans hb1 hb2, by rw [hV, hb]; simp⟩
  have HPV : Hid (PrgA V (.slice a p.length cap) p /\ ckP 6000 p = 0) := ⟨hp.stays hb2, hck⟩
  have HKV : Hid (Kr V) := HK.out.stays HBV.out.1
  rw [<- hN] at HPV ⊢
  have HNN := hid hN
  have HVV := hid hV
  have HBQ := hid hb
  clear hb1 hp hck hN hV hb hb2 HK HV
  go_wp2_with fail
  rw [<- HVV.out, <- HBQ.out]
  clear HVV HBQ
  refine Calls.mono (HP1.out _) ?_
  rintro e w2 ⟨k, hk, rfl, hw2⟩
  rw [hw2]
  clear hw2 w2 HP1
  have i1 : (-9223372036854775808 : Int) <= 1 + (k : Int) := by omega
  have i2 : 1 + (k : Int) <= 9223372036854775807 := by omega
  have i3 : (-9223372036854775808 : Int) <= 200 + (1 + (k : Int)) := by omega
  have i4 : 200 + (1 + (k : Int)) <= 9223372036854775807 := by omega
  obtain ⟨K, hK⟩ : ∃ K : Nat, (K : Int) = 1 + (k : Int) := ⟨1 + k, by omega⟩
  have HKK : Hid (1 <= K /\ K <= 50) := by constructor <;> omega
  have HRP := hid (rep_c K (200 + (1 + (k : Int))) (by omega) HKK.out.2)
  have HKE := hid hK
  clear hK
  go_wp2_with fail
  refine Calls.mono (HRP.out _) ?_
  rintro e w2 ⟨L, hL, rfl, hb2⟩
  rw [<- HKE.out]
  have zL : L.size <= 250 := by have := HKK.out; omega
  have HLL := hid hL
  have HB2 : Hid (Below V.heap.size V w2) := hb2
  clear hL hb2 HRP i1 i2 i3 i4
  go_wp2_with fail
  go_cut [11] (fun v11 wx => ∃ g : Nat, v11 = .slice (some ⟨g, 0, none⟩) 5 5 /\ Hid (Below V.heap.size V wx /\ OddA K L wx g))
  case first =>
    have hdr : Below w2.heap.size w2 { w2 with drawn := w2.drawn + 1 } := ⟨rfl, rfl, rfl, Nat.le_refl _, fun _ _ => rfl⟩
    have HKN : Hid (K <= 50) := HKK.out.2
    have HZL : Hid (L.size <= maxLen) := Nat.le_trans zL (by decide)
    refine wp_region_loose (BadT K L) (fun w1 w2 => Below w1.heap.size w1 w2) (fun _ w' => Below V.heap.size V w') (fun _ => 0) 0 (by kernel_rfl) (by kernel_rfl) (by kernel_rfl) ?_ (bl_trans HB2.out hdr) ⟨?_, ?_, ?_, ?_, ?_, ?_, ?_, ?_, ?_, ?_, ?_, ?_, ?_, ?_, ?_, ?_, ?_, ?_, ?_, ?_, trivial⟩ ?_
    case refine_1 => exact fun j v wa wb h hR => h.stays hR
    case refine_22 =>
      intro vs w1 hS hH
      have t19 : BadT K L 19 (vs 19) w1 := Haves_iff.1 hH 19 (by simp)
      clear hH
      rename_i a1 a0
      refine a0 _ _ ?_
      obtain ⟨g, g1, g2⟩ := t19
      have HT := hid (And.intro hS g2)
      clear hS g2
      refine Met.intro ?_
      simp [loadedA, dstOf, Act.put, List.range, List.range.loop]
      refine a1 _ _ ?_
      (repeat apply Exists.intro)
      refine ⟨?rel, rfl⟩
      exact ⟨g, g1, HT⟩
    all_goals intro vs n w1 hS hn hH
    all_goals have HS : Hid (Below V.heap.size V w1) := hS
    all_goals have hst : ∀ o : Obj, Below w1.heap.size w1 (w1.alloc o) /\ Below V.heap.size V (w1.alloc o) := fun o => ⟨up_alloc _ _, bl_trans HS.out (up_alloc _ _)⟩
    . exact oy_val (xmove rfl (by kernel_rfl)) ⟨rfl, Below.refl _ _, HS.out⟩
    . have e0 : vs 0 = .int .i64 (K : Int) := hH.1
      exact oy_val (xbin (v1 := .int .i64 8) (v2 := .int .i64 (K : Int)) rfl (by kernel_rfl) (Eq.trans (b := vs 0) (by kernel_rfl) e0) rfl (run_plus w1 8 K (by decide) (by decide) (by have := HKN.out; omega))) ⟨rfl, Below.refl _ _, HS.out⟩
    . have e0 : vs 1 = .int .i64 (8 + (K : Int)) := hH.1
      have e1 : vs 1 = .int .i64 ((8 + K : Nat) : Int) := e0.trans (by rw [show 8 + (K : Int) = ((8 + K : Nat) : Int) by omega])
      exact oy_val (xmake rfl (Eq.trans (b := vs 1) (by kernel_rfl) e1) (Eq.trans (b := vs 1) (by kernel_rfl) e1) (run_files w1 (8 + K) (by have := HKN.out; omega))) ⟨new_files (by have := HKN.out; omega), (hst _).1, (hst _).2⟩
    . exact oy_val (xbld rfl (by kernel_rfl) (run_agg1 w1 ⟨#[97]⟩)) ⟨rfl, Below.refl _ _, HS.out⟩
    . exact oy_val (xbld rfl (by kernel_rfl) (run_agg1 w1 ⟨#[97]⟩)) ⟨rfl, Below.refl _ _, HS.out⟩
    . have e3 : vs 3 = .agg #[.string ⟨#[97]⟩, .slice none 0 0] := hH.1
      have e4 : vs 4 = .agg #[.string ⟨#[97]⟩, .slice none 0 0] := hH.2.1
      exact oy_val (xrow rfl (Eq.trans (b := #[(0, vs 3), (1, vs 4)]) (by kernel_rfl) (by rw [e3, e4])) (run_two w1 ⟨#[97]⟩)) ⟨new_two (by decide), (hst _).1, (hst _).2⟩
    . exact oy_val (xmove rfl (by kernel_rfl)) ⟨rfl, Below.refl _ _, HS.out⟩
    . have e6 : vs 6 = .string L := hH.1
      exact oy_val (xrow rfl (Eq.trans (b := #[(0, vs 6)]) (by kernel_rfl) (by rw [e6])) (run_text w1 L)) ⟨new_text HZL.out, (hst _).1, (hst _).2⟩
    . exact oy_val (xbld (qs := #[(1, vs 7)]) rfl (by kernel_rfl) (run_agg2 w1 hH.1)) ⟨⟨vs 7, rfl, hH.1⟩, Below.refl _ _, HS.out⟩
    . have h : ∃ u, vs 8 = .agg #[.string txN, u] /\ TxsA w1 u [L] := hH.1
      exact h.elim fun u hu => oy_val (xrow rfl (Eq.trans (b := #[(0, vs 8)]) (by kernel_rfl) (by rw [hu.1])) (run_file w1 u)) ⟨new_file hu.2, (hst _).1, (hst _).2⟩
    . exact oy_val (xrow rfl (by kernel_rfl) (run_text w1 ⟨#[97, 10, 98]⟩)) ⟨new_text (by decide), (hst _).1, (hst _).2⟩
    . exact oy_val (xbld (qs := #[(1, vs 10)]) rfl (by kernel_rfl) (run_agg2 w1 hH.1)) ⟨⟨vs 10, rfl, hH.1⟩, Below.refl _ _, HS.out⟩
    . have h : ∃ u, vs 11 = .agg #[.string txN, u] /\ TxsA w1 u [⟨#[97, 10, 98]⟩] := hH.1
      exact h.elim fun u hu => oy_val (xrow rfl (Eq.trans (b := #[(0, vs 11)]) (by kernel_rfl) (by rw [hu.1])) (run_file w1 u)) ⟨new_file hu.2, (hst _).1, (hst _).2⟩
    . exact oy_val (xmove rfl (by kernel_rfl)) ⟨rfl, Below.refl _ _, HS.out⟩
    . have e0 : vs 13 = .int .i64 (K : Int) := hH.1
      exact oy_val (xbin (v1 := .int .i64 100) (v2 := .int .i64 (K : Int)) rfl (by kernel_rfl) (Eq.trans (b := vs 13) (by kernel_rfl) e0) rfl (run_plus w1 100 K (by decide) (by decide) (by have := HKN.out; omega))) ⟨rfl, Below.refl _ _, HS.out⟩
    . have e0 : vs 14 = .int .i64 (100 + (K : Int)) := hH.1
      have e1 : vs 14 = .int .i64 ((100 + K : Nat) : Int) := e0.trans (by rw [show 100 + (K : Int) = ((100 + K : Nat) : Int) by omega])
      exact oy_val (xmake rfl (Eq.trans (b := vs 14) (by kernel_rfl) e1) (Eq.trans (b := vs 14) (by kernel_rfl) e1) (run_texts w1 (100 + K) (by have := HKN.out; omega))) ⟨new_texts (by have := HKN.out; omega), (hst _).1, (hst _).2⟩
    . exact oy_val (xbld (qs := #[(1, vs 15)]) rfl (by kernel_rfl) (run_agg2 w1 hH.1)) ⟨⟨vs 15, rfl, hH.1⟩, Below.refl _ _, HS.out⟩
    . have h : ∃ u, vs 16 = .agg #[.string txN, u] /\ TxsA w1 u (List.replicate (100 + K) txN) := hH.1
      exact h.elim fun u hu => oy_val (xrow rfl (Eq.trans (b := #[(0, vs 16)]) (by kernel_rfl) (by rw [hu.1])) (run_file w1 u)) ⟨new_file hu.2, (hst _).1, (hst _).2⟩
    . have h2 : FlsA w1 (vs 2) (List.replicate (8 + K) ⟨txN, []⟩) := hH.1
      have h5 : FlsA w1 (vs 5) [⟨⟨#[97]⟩, []⟩, ⟨⟨#[97]⟩, []⟩] := hH.2.1
      have h9 : FlsA w1 (vs 9) [⟨txN, [L]⟩] := hH.2.2.1
      have h12 : FlsA w1 (vs 12) [⟨txN, [⟨#[97, 10, 98]⟩]⟩] := hH.2.2.2.1
      have h17 : FlsA w1 (vs 17) [⟨txN, List.replicate (100 + K) txN⟩] := hH.2.2.2.2.1
      exact oy_val (xrow (qs := #[(0, vs 2), (1, vs 5), (2, vs 9), (3, vs 12), (4, vs 17)]) rfl (by kernel_rfl) (run_odd w1 h2.sl h5.sl h9.sl h12.sl h17.sl)) ⟨⟨_, rfl, odd_new h2 h5 h9 h12 h17⟩, (hst _).1, (hst _).2⟩
    . exact oy_val (xassign (v := vs 18) rfl (by kernel_rfl)) ⟨hH.1, Below.refl _ _, HS.out⟩
  obtain ⟨g, rfl, HX1⟩ := hcut
  obtain ⟨X, hX⟩ : ∃ X, X = wc := ⟨_, rfl⟩
  rw [<- hX] at HX1 ⊢
  clear hX wc HB2
  go_wp2_with fail
  refine Calls.mono (HP2.out _) ?_
  rintro e w3 ⟨i, hi, rfl, hw3⟩
  rw [hw3]
  clear hw3 w3 HP2
  have hFe : ∃ F, (oddF K L)[i]? = some F := ⟨(oddF K L)[i]'hi, List.getElem?_eq_getElem _⟩
  obtain ⟨F, hF⟩ := hFe
  obtain ⟨er, her, he0, hwd⟩ := odd_world HKK.out.1 HLL.out hF
  obtain ⟨fa, fl, fc, hcF, hfF⟩ := HX1.out.2.2 i F hF
  obtain ⟨eb, heb⟩ : ∃ eb, eb = X.heap.size := ⟨_, rfl⟩
  obtain ⟨Y, hY⟩ : ∃ Y, Y = X.alloc (.cells #[.int .i64 1, .int .i64 9, .int .i64 4, .int .i64 4, .int .i64 1] 35) := ⟨_, rfl⟩
  have hXY : Below X.heap.size X Y := by rw [hY]; exact up_alloc _ _
  have ce : Y.cell? ⟨eb, i, none⟩ = some (.int .i64 er) := by
    rw [hY, heb]
    have e2 : (#[.int .i64 1, .int .i64 9, .int .i64 4, .int .i64 4, .int .i64 1] : Array Value) = (oddE.map fun e => Value.int .i64 e).toArray := rfl
    exact ((RowAt.new X _ _).cell i).trans (by rw [e2]; simp [her])
  have co : Y.cell? ⟨g, i, none⟩ = some (.slice fa fl fc) := (hXY.cell (p := ⟨g, i, none⟩) HX1.out.2.1).trans hcF
  have cp : Y.cell? ⟨b, 0, none⟩ = some (.slice a N cap) := (hXY.cell (p := ⟨b, 0, none⟩) (Nat.lt_of_lt_of_le HBV.out.2 HX1.out.1.size)).trans ((HX1.out.1.cell (p := ⟨b, 0, none⟩) HBV.out.2).trans c0)
  have HY : Hid (Below w.heap.size w Y /\ b < Y.heap.size /\ g < Y.heap.size /\ eb < Y.heap.size) := ⟨bl_trans (bl_trans HBV.out.1 HX1.out.1) hXY, Nat.lt_of_lt_of_le (Nat.lt_of_lt_of_le HBV.out.2 HX1.out.1.size) hXY.size, Nat.lt_of_lt_of_le HX1.out.2.1 hXY.size, by rw [hY, heb]; simp⟩
  have HPY : Hid (PrgA Y (.slice a N cap) p /\ ckP 6000 p = 0 /\ Kr Y) := ⟨(HPV.out.1.stays HX1.out.1).stays hXY, HPV.out.2, (HKV.out.stays HX1.out.1).stays hXY⟩
  have HFY : Hid (FlsA Y (.slice fa fl fc) F /\ worldR F [] = er /\ er ≠ 0) := ⟨hfF.stays hXY, hwd, he0⟩
  have i1 : (0 : Int) <= (i : Int) := by omega
  have i2 : (i : Int) < 5 := by omega
  have HYY := hid hY
  have HEB := hid heb
  clear hF her he0 hwd hcF hfF hY heb hXY HPV HKV HBV HX1 c0 hi
  go_wp2_with fail
  rw [<- HYY.out, <- HEB.out]
  clear HYY HEB
  have dp : Y.drew.cell? ⟨b, 0, none⟩ = some (.slice a N cap) := cp
  have dO : Y.drew.cell? ⟨g, i, none⟩ = some (.slice fa fl fc) := co
  go_cut [15] (fun v15 wx => v15 = .int .i64 er /\ Hid (Below Y.heap.size Y wx))
  case first =>
    have n1 : ¬ b = Y.heap.size := by have := HY.out.2.1; omega
    have n1' : ¬ Y.heap.size = b := by omega
    have n2 : ¬ g = Y.heap.size := by have := HY.out.2.2.1; omega
    have n2' : ¬ Y.heap.size = g := by omega
    have HRN : Hid (∀ w', Below Y.heap.size Y w' -> Calls Tryz.prog 7 #[.agg #[.slice a N cap], .slice fa fl fc, .slice none 0 0, .int .i64 10] w' fun e w'' => e = .returned (.tuple #[.agg #[.slice none 0 0, .int .i64 0, .int .i64 0], .int .i64 er]) /\ Below w'.heap.size w' w'') := fun w' hb => run_k (HPY.out.1.stays hb) (HPY.out.2.2.stays hb) (HFY.out.1.stays hb) (noTxs _) (early_f HPY.out.2.1 HFY.out.2.1 HFY.out.2.2) HFY.out.2.2 (by decide) (by decide)
    go_region_held3 (fun w' => w'.cell? ⟨b, 0, none⟩ = some (.slice a N cap) /\ w'.cell? ⟨g, i, none⟩ = some (.slice fa fl fc)) (go_keep) (first
      | (with_reducible refine Calls.mono (HRN.out _ (by go_grown)) ?_
         rintro e w6 ⟨rfl, hb6⟩
         have HB6 : Hid (Below Y.heap.size Y w6) := bl_trans (by go_grown) hb6
         have r1 : w6.cell? ⟨b, 0, none⟩ = some (.slice a N cap) := (HB6.out.cell (p := ⟨b, 0, none⟩) HY.out.2.1).trans cp
         have r2 : w6.cell? ⟨g, i, none⟩ = some (.slice fa fl fc) := (HB6.out.cell (p := ⟨g, i, none⟩) HY.out.2.2.1).trans co
         obtain ⟨hc6, hf6⟩ := bcell hb6
         have m1 : ¬ b = w6.heap.size := by have := HY.out.2.1; have := HB6.out.size; omega
         have m1' : ¬ w6.heap.size = b := by omega
         have m2 : ¬ g = w6.heap.size := by have := HY.out.2.2.1; have := HB6.out.size; omega
         have m2' : ¬ w6.heap.size = g := by omega))
    all_goals go_wp2_with fail
    all_goals go_meet
    all_goals first
      | exact ⟨rfl, HB6.out.alloc HB6.out.size _⟩
      | exact ⟨rfl, oeOver HB6.out (Nat.le_refl _)⟩
  obtain ⟨rfl, HX1⟩ := hcut
  obtain ⟨Z1, hZ1⟩ : ∃ Z, Z = wc := ⟨_, rfl⟩
  rw [<- hZ1] at HX1 ⊢
  clear hZ1 wc dp dO
  have HZ1 : Hid (b < Z1.heap.size /\ g < Z1.heap.size) := ⟨Nat.lt_of_lt_of_le HY.out.2.1 HX1.out.size, Nat.lt_of_lt_of_le HY.out.2.2.1 HX1.out.size⟩
  have cp1 : Z1.cell? ⟨b, 0, none⟩ = some (.slice a N cap) := (HX1.out.cell (p := ⟨b, 0, none⟩) HY.out.2.1).trans cp
  have co1 : Z1.cell? ⟨g, i, none⟩ = some (.slice fa fl fc) := (HX1.out.cell (p := ⟨g, i, none⟩) HY.out.2.2.1).trans co
  have dp1 : Z1.drew.cell? ⟨b, 0, none⟩ = some (.slice a N cap) := cp1
  have do1 : Z1.drew.cell? ⟨g, i, none⟩ = some (.slice fa fl fc) := co1
  go_wp2_with fail
  go_cut [17] (fun v17 wx => v17 = .int .i64 er /\ Hid (Below Z1.heap.size Z1 wx))
  case first =>
    have n1 : ¬ b = Z1.heap.size := by have := HZ1.out.1; omega
    have n1' : ¬ Z1.heap.size = b := by omega
    have n2 : ¬ g = Z1.heap.size := by have := HZ1.out.2; omega
    have n2' : ¬ Z1.heap.size = g := by omega
    have HRN : Hid (∀ w', Below Z1.heap.size Z1 w' -> Calls Tryz.prog 8 #[.agg #[.slice a N cap], .slice fa fl fc, .int .i64 10] w' fun e w'' => e = .returned (.tuple #[.agg #[.slice none 0 0], .int .i64 er]) /\ Below w'.heap.size w' w'') := fun w' hb => spec_k (HPY.out.1.stays (bl_trans HX1.out hb)) (HPY.out.2.2.stays (bl_trans HX1.out hb)) (HFY.out.1.stays (bl_trans HX1.out hb)) (early_f HPY.out.2.1 HFY.out.2.1 HFY.out.2.2) HFY.out.2.2 (by decide) (by decide)
    go_region_held3 (fun w' => w'.cell? ⟨b, 0, none⟩ = some (.slice a N cap) /\ w'.cell? ⟨g, i, none⟩ = some (.slice fa fl fc)) (go_keep) (first
      | (with_reducible refine Calls.mono (HRN.out _ (by go_grown)) ?_
         rintro e w6 ⟨rfl, hb6⟩
         have HB6 : Hid (Below Z1.heap.size Z1 w6) := bl_trans (by go_grown) hb6
         have r1 : w6.cell? ⟨b, 0, none⟩ = some (.slice a N cap) := (HB6.out.cell (p := ⟨b, 0, none⟩) HZ1.out.1).trans cp1
         have r2 : w6.cell? ⟨g, i, none⟩ = some (.slice fa fl fc) := (HB6.out.cell (p := ⟨g, i, none⟩) HZ1.out.2).trans co1
         obtain ⟨hc6, hf6⟩ := bcell hb6
         have m1 : ¬ b = w6.heap.size := by have := HZ1.out.1; have := HB6.out.size; omega
         have m1' : ¬ w6.heap.size = b := by omega
         have m2 : ¬ g = w6.heap.size := by have := HZ1.out.2; have := HB6.out.size; omega
         have m2' : ¬ w6.heap.size = g := by omega))
    all_goals go_wp2_with fail
    all_goals go_meet
    all_goals first
      | exact ⟨rfl, HB6.out.alloc HB6.out.size _⟩
      | exact ⟨rfl, HB6.out.setCell (p := ⟨Z1.heap.size, 0, none⟩) (Nat.le_refl _) _⟩
  obtain ⟨rfl, HX2⟩ := hcut
  obtain ⟨Z2, hZ2⟩ : ∃ Z, Z = wc := ⟨_, rfl⟩
  rw [<- hZ2] at HX2 ⊢
  clear hZ2 wc dp1 do1 co1 co
  have HZ2 : Hid (Below Y.heap.size Y Z2 /\ b < Z2.heap.size) := ⟨bl_trans HX1.out HX2.out, Nat.lt_of_lt_of_le HZ1.out.1 HX2.out.size⟩
  have cp2 : Z2.cell? ⟨b, 0, none⟩ = some (.slice a N cap) := (HX2.out.cell (p := ⟨b, 0, none⟩) HZ1.out.1).trans cp1
  have HRN : Hid (∀ (lv : Value) (ls : List ByteArray) (z er' : Int) w', Below Y.heap.size Y w' -> TxsA w' lv ls -> earlyR 6000 p [] ls z = er' -> er' ≠ 0 -> -9223372036854775808 <= z -> z <= 9223372036854775807 -> Calls Tryz.prog 7 #[.agg #[.slice a N cap], .slice none 0 0, lv, .int .i64 z] w' fun e w'' => e = .returned (.tuple #[.agg #[.slice none 0 0, .int .i64 0, .int .i64 0], .int .i64 er']) /\ Below w'.heap.size w' w'') := fun lv ls z er' w' hb hl he h0 h1 h2 => run_k (HPY.out.1.stays hb) (HPY.out.2.2.stays hb) (noFls _) hl he h0 h1 h2
  have hbr : Below Z2.heap.size Z2 (Z2.alloc (.cells #[.string L] 9)) := up_alloc _ _
  have HR4 := hid (HRN.out _ [L] 10 4 (Z2.alloc (.cells #[.string L] 9)) (bl_trans HZ2.out.1 hbr) (new_text (Nat.le_trans zL (by decide))) (early_f HPY.out.2.1 (world_long HKK.out.1 HLL.out) (by decide)) (by decide) (by decide) (by decide))
  have cp3 : (Z2.alloc (.cells #[.string L] 9)).cell? ⟨b, 0, none⟩ = some (.slice a N cap) := (hbr.cell (p := ⟨b, 0, none⟩) HZ2.out.2).trans cp2
  have HBR := hid hbr
  clear HX1 HX2 HZ1 cp1 hbr
  go_wp2_with fail
  refine Calls.mono HR4.out ?_
  rintro e w4 ⟨rfl, hb4⟩
  clear HR4 cp3
  obtain ⟨Z3, hZ3⟩ : ∃ Z, Z = w4.alloc (.cells #[.slice none 0 0, .int .i64 0, .int .i64 0] 38) := ⟨_, rfl⟩
  have HX3 : Hid (Below Z2.heap.size Z2 Z3) := by unfold Hid; rw [hZ3]; exact bl_trans (bl_trans HBR.out hb4) (up_alloc _ _)
  have HZ3 : Hid (Below Y.heap.size Y Z3 /\ b < Z3.heap.size) := ⟨bl_trans HZ2.out.1 HX3.out, Nat.lt_of_lt_of_le HZ2.out.2 HX3.out.size⟩
  have cp4 : Z3.cell? ⟨b, 0, none⟩ = some (.slice a N cap) := (HX3.out.cell (p := ⟨b, 0, none⟩) HZ2.out.2).trans cp2
  have dp4 : Z3.drew.cell? ⟨b, 0, none⟩ = some (.slice a N cap) := cp4
  have HZZ := hid hZ3
  have k1 : IntKind.i64.wrap (200 + (K : Int)) = 200 + (K : Int) := by have := HKK.out; rw [IntKind.wrap_i64]; omega
  have HKN : Hid (K <= 50) := HKK.out.2
  have k2 : (-9223372036854775808 : Int) <= 200 + (K : Int) := by omega
  have k3 : 200 + (K : Int) <= 9223372036854775807 := by have := HKK.out; omega
  have km : ∀ w : World, (Instr.makeSlice 31 (.int .i64 (200 + (K : Int))) (.int .i64 (200 + (K : Int)))).run Tryz.prog w = .ok (.slice (some ⟨w.heap.size, 0, none⟩) (200 + K) (200 + K)) (w.alloc (.cells (madeCells #[.string ⟨#[]⟩] ((200 + K) * 1)) 9)) := fun w => by
    have h := run_texts w (200 + K) (by have := HKK.out; omega)
    rw [show ((200 + K : Nat) : Int) = 200 + (K : Int) by omega] at h
    exact h
  clear hb4 hZ3 HBR HZ2 HX3 cp2 cp
  go_wp2_with fail
  rw [<- HZZ.out]
  clear HZZ
  go_cut [21] (fun v21 wx => v21 = .int .i64 1 /\ Hid (Below Z3.heap.size Z3 wx))
  case first =>
    have n1 : ¬ b = Z3.heap.size := by have := HZ3.out.2; omega
    have n1' : ¬ Z3.heap.size = b := by omega
    have n2 : ¬ b = Z3.heap.size + 1 := by have := HZ3.out.2; omega
    have n2' : ¬ Z3.heap.size + 1 = b := by omega
    have HTX : Hid (∀ w : World, TxsA (w.alloc (.cells (madeCells #[.string ⟨#[]⟩] (200 + K)) 9)) (.slice (some ⟨w.heap.size, 0, none⟩) (200 + K) (200 + K)) (List.replicate (200 + K) txN)) := fun w => by
      have h := new_texts (w := w) (n := 200 + K) (t := 9) (by have := HKN.out; omega)
      rw [Nat.mul_one] at h
      exact h
    go_region_held3 (fun w' => w'.cell? ⟨b, 0, none⟩ = some (.slice a N cap)) (go_keep) (first
      | (with_reducible refine Calls.mono (HRN.out _ (List.replicate (200 + K) txN) 10 1 _ (bl_trans HZ3.out.1 (by go_grown)) (by first
          | exact TxsA.stays (w := Z3.alloc (.cells (madeCells #[.string ⟨#[]⟩] (200 + K)) 9)) (HTX.out Z3) (by go_grown)
          | exact TxsA.stays (w := (Z3.alloc (.cells #[.slice none 0 0, .int .i64 0, .int .i64 0] 38)).alloc (.cells (madeCells #[.string ⟨#[]⟩] (200 + K)) 9)) (by simpa using HTX.out (Z3.alloc (.cells #[.slice none 0 0, .int .i64 0, .int .i64 0] 38))) (by go_grown)) (early_f HPY.out.2.1 (world_many HKK.out.1) (by decide)) (by decide) (by decide) (by decide)) ?_
         rintro e w6 ⟨rfl, hb6⟩
         have HB6 : Hid (Below Z3.heap.size Z3 w6) := bl_trans (by go_grown) hb6
         have r1 : w6.cell? ⟨b, 0, none⟩ = some (.slice a N cap) := (HB6.out.cell (p := ⟨b, 0, none⟩) HZ3.out.2).trans cp4
         obtain ⟨hc6, hf6⟩ := bcell hb6
         have m1 : ¬ b = w6.heap.size := by have := HZ3.out.2; have := HB6.out.size; omega
         have m1' : ¬ w6.heap.size = b := by omega))
    all_goals go_wp2_with fail
    all_goals go_meet
    all_goals first
      | exact ⟨rfl, HB6.out.alloc HB6.out.size _⟩
      | exact ⟨rfl, oeOver HB6.out (Nat.le_refl _)⟩
      | exact ⟨rfl, oeOver HB6.out (Nat.le_succ _)⟩
  obtain ⟨rfl, HX4⟩ := hcut
  obtain ⟨Z4, hZ4⟩ : ∃ Z, Z = wc := ⟨_, rfl⟩
  rw [<- hZ4] at HX4 ⊢
  clear hZ4 wc dp4 k1 k2 k3 km
  have HZ4 : Hid (Below Y.heap.size Y Z4) := bl_trans HZ3.out.1 HX4.out
  have cp5 : Z4.cell? ⟨b, 0, none⟩ = some (.slice a N cap) := (HX4.out.cell (p := ⟨b, 0, none⟩) HZ3.out.2).trans cp4
  have k4 : (-9223372036854775808 : Int) <= 200000 + (K : Int) := by omega
  have k5 : 200000 + (K : Int) <= 9223372036854775807 := by have := HKK.out; omega
  have k6 : (-9223372036854775808 : Int) <= 2 + (K : Int) := by omega
  have k7 : 2 + (K : Int) <= 9223372036854775807 := by have := HKK.out; omega
  have HR5 := hid (HRN.out _ [] (200000 + (K : Int)) 2 Z4 HZ4.out (noTxs _) (early_z HPY.out.2.1 (by have := HKK.out; omega)) (by decide) k4 k5)
  clear HX4 HZ3 cp4 HRN
  go_wp2_with fail
  refine Calls.mono HR5.out ?_
  rintro e w5 ⟨rfl, hb5⟩
  have HB5 : Hid (Below Y.heap.size Y w5) := bl_trans HZ4.out hb5
  clear HR5 hb5 HZ4 cp5
  go_wp2_with fail
  obtain ⟨q, hq⟩ : ∃ q, q = w5.heap.size + 1 := ⟨_, rfl⟩
  obtain ⟨bp, hbp⟩ : ∃ bp, bp = w5.heap.size + 1 + 1 := ⟨_, rfl⟩
  obtain ⟨R0, hR0⟩ : ∃ R0, R0 = (w5.alloc (.cells #[.slice none 0 0, .int .i64 0, .int .i64 0] 38)).alloc (.cells #[.int .i64 (2 + (K : Int)), .bool false, .int .i64 0, .int .i64 0, .string ⟨#[]⟩, .slice none 0 0, .slice none 0 0] 48) := ⟨_, rfl⟩
  have hs0 : R0.heap.size = bp := by rw [hR0, hbp]; simp
  have hbd : PrgA R0 (.slice (some ⟨q, 0, none⟩) 1 1) (badP K) := by
    have h := new_bad (w := w5.alloc (.cells #[.slice none 0 0, .int .i64 0, .int .i64 0] 38)) (K := K) (t := 48) HKK.out.2
    rw [hR0, hq]
    simpa using h
  rw [<- hR0, <- hbp, <- hq]
  have hbR : Below w5.heap.size w5 R0 := by rw [hR0]; exact bl_trans (up_alloc _ _) (up_alloc _ _)
  obtain ⟨Z6, hZ6⟩ : ∃ Z, Z = R0.alloc (.cells #[.slice (some ⟨q, 0, none⟩) 1 1] 25) := ⟨_, rfl⟩
  have cb : Z6.cell? ⟨bp, 0, none⟩ = some (.slice (some ⟨q, 0, none⟩) 1 1) := by rw [hZ6, <- hs0]; simp [go_sem]
  have HB6 : Hid (Below Y.heap.size Y Z6 /\ bp < Z6.heap.size) := by rw [hZ6]; exact ⟨bl_trans (bl_trans HB5.out hbR) (up_alloc _ _), by rw [<- hs0]; simp⟩
  have HPB : Hid (PrgA Z6 (.slice (some ⟨q, 0, none⟩) 1 1) (badP K) /\ Kr Z6 /\ ckP 6000 (badP K) = 3) := ⟨hbd.stays (by rw [hZ6]; exact up_alloc _ _), HPY.out.2.2.stays HB6.out.1, bad_ck HKK.out.1⟩
  rw [<- hZ6]
  clear hZ6 hbR hbd hs0 hR0 HB5 hq hbp
  refine Calls.mono (run_k HPB.out.1 HPB.out.2.1 (noFls _) (noTxs _) (early_p HPB.out.2.2 (by decide)) (by decide) (by decide) (by decide)) ?_
  rintro e w6 ⟨rfl, hb6⟩
  obtain ⟨Z7, hZ7⟩ : ∃ Z, Z = w6.alloc (.cells #[.slice none 0 0, .int .i64 0, .int .i64 0] 38) := ⟨_, rfl⟩
  have HB7 : Hid (Below Z6.heap.size Z6 Z7) := by unfold Hid; rw [hZ7]; exact bl_trans hb6 (up_alloc _ _)
  have cb7 : Z7.cell? ⟨bp, 0, none⟩ = some (.slice (some ⟨q, 0, none⟩) 1 1) := (HB7.out.cell (p := ⟨bp, 0, none⟩) HB6.out.2).trans cb
  have cb7' : (w6.alloc (.cells #[.slice none 0 0, .int .i64 0, .int .i64 0] 38)).cell? ⟨bp, 0, none⟩ = some (.slice (some ⟨q, 0, none⟩) 1 1) := by rw [<- hZ7]; exact cb7
  have HZ7 := hid hZ7
  clear hZ7 hb6
  go_wp2_with fail
  rw [<- HZ7.out]
  clear HZ7 cb7'
  refine Calls.mono (spec_k (HPB.out.1.stays HB7.out) (HPB.out.2.1.stays HB7.out) (noFls _) (early_p HPB.out.2.2 (by decide)) (by decide) (by decide) (by decide)) ?_
  rintro e w7 ⟨rfl, hb7⟩
  obtain ⟨Z8, hZ8⟩ : ∃ Z, Z = w7.alloc (.cells #[.slice none 0 0] 25) := ⟨_, rfl⟩
  have HB8 : Hid (Below Z6.heap.size Z6 Z8) := by unfold Hid; rw [hZ8]; exact bl_trans (bl_trans HB7.out hb7) (up_alloc _ _)
  have cb8 : Z8.cell? ⟨bp, 0, none⟩ = some (.slice (some ⟨q, 0, none⟩) 1 1) := (HB8.out.cell (p := ⟨bp, 0, none⟩) HB6.out.2).trans cb
  have cb8' : (w7.alloc (.cells #[.slice none 0 0] 25)).cell? ⟨bp, 0, none⟩ = some (.slice (some ⟨q, 0, none⟩) 1 1) := by rw [<- hZ8]; exact cb8
  have HZ8 := hid hZ8
  clear hZ8 hb7 cb7
  go_wp2_with fail
  rw [<- HZ8.out]
  clear HZ8 cb8'
  have HPE := hid (printE_c 6000 Z8.heap.size (badP K) _ Z8 (HPB.out.1.stays HB8.out) (HPB.out.2.1.stays HB8.out).tr.tb (Nat.le_refl _) (by rw [HPB.out.2.2]; decide))
  rw [HPB.out.2.2] at HPE
  refine Calls.mono HPE.out ?_
  rintro e w8 ⟨rfl, hb8⟩
  have HBF : Hid (Below w.heap.size w w8) := bl_trans HY.out.1 (bl_trans (bl_trans HB6.out.1 HB8.out) hb8)
  have ce8 : w8.cell? ⟨eb, i, none⟩ = some (.int .i64 er) := ((bl_trans (bl_trans HB6.out.1 HB8.out) hb8).cell (p := ⟨eb, i, none⟩) HY.out.2.2.2).trans ce
  clear HPE HPB HB6 HB7 HB8 hb8 cb cb8 HPY HFY HY ce
  go_wp2_with fail
  go_ret
  exact ⟨rfl, HBF.out⟩
end Go.Proofs.YtoaidkbcoifopaaGreatDoor.topBad
