/-
  LinesCounted: its walk.
-/
import Derived.Test.YtffnilcihneniaaGreatDoorKeepRows
import Derived.Test.YtffnilcihneniaaGreatDoorCountSpec
namespace Go.Proofs.YtffnilcihneniaaGreatDoor.linesCounted
open Go.ChangeShapes Go.WideShapes Go.ChangeAt Go.RowKit Go.Joins
set_option linter.unusedVariables false
set_option maxRecDepth 100000
def lnB (n : Nat) : ByteArray := ⟨(lineN n).toArray⟩
theorem line_txt (k : Nat) (hk : k < 5) : bs (Lib.repeatL [32, 119] k) ++ ⟨#[32]⟩ = lnB k := by
  have e : Lib.repeatL [32, 119] k ++ [32] = lineN k := by
    match k, hk with
    | 0, _ | 1, _ | 2, _ | 3, _ | 4, _ => rfl
  show bs _ ++ bs [32] = bs _
  rw [bs_app, e]
theorem told_txt (j k : Nat) : (⟨(Lib.itoa (j : Int)).toArray⟩ : ByteArray) ++ ⟨#[32]⟩ ++ ⟨(Lib.itoa (k : Int)).toArray⟩ ++ ⟨#[32]⟩ ++ bs (Lib.repeatL [119] (min k 1)) = toldN j k := by
  have e : Lib.repeatL [119] (min k 1) = List.replicate (min k 1) 119 := by
    match k with
    | 0 => rfl
    | k + 1 => rw [show min (k + 1) 1 = 1 by omega]; rfl
  rw [e]
  show bs _ ++ bs [32] ++ bs _ ++ bs [32] ++ bs _ = bs _
  simp only [bs_app]
theorem told_end (j : Nat) : (⟨(Lib.itoa (j : Int)).toArray⟩ : ByteArray) ++ ⟨#[32, 48, 32]⟩ = toldN j 0 := by
  show bs _ ++ bs [32, 48, 32] = bs _
  rw [bs_app]
  have e : Lib.itoa ((0 : Nat) : Int) = [48] := by kernel_rfl
  rw [e]
  simp
theorem told_size (j k : Nat) (hj : j ≤ 1000) (hk : k ≤ 1000) : (toldN j k).size ≤ 100 := by
  have h1 := itoa_le j (by omega)
  have h2 := itoa_le k (by omega)
  unfold toldN
  show (_ : List UInt8).toArray.size ≤ 100
  simp only [List.size_toArray, List.length_append, List.length_cons, List.length_nil, List.length_replicate]
  omega
theorem lnB_size (k : Nat) (hk : k < 5) : (lnB k).size ≤ 100 := by
  match k, hk with
  | 0, _ | 1, _ | 2, _ | 3, _ | 4, _ => decide
theorem lnB_ok (k : Nat) (hk : k < 5) : Go.Proofs.YtffnilcihneniaaGreatDoor.lineB (lnB k) = true := by
  match k, hk with
  | 0, _ | 1, _ | 2, _ | 3, _ | 4, _ => decide
theorem lines_txs {w wr : World} {v : Value} {ks : List Nat} (h : Own1 w wr v (ks.map lnB)) (hk : ∀ k ∈ ks, k < 5) (hl : ks.length ≤ 10) : TxsA wr v (ks.map lnB) :=
  h.texts (fun x hx => by
    obtain ⟨k, hk2, rfl⟩ := List.mem_map.1 hx
    have := lnB_size k (hk k hk2)
    unfold maxLen
    omega) (by rw [List.length_map]; unfold maxLen; omega)
theorem told_txs {w wr : World} {v : Value} {ks : List Nat} (h : Own1 w wr v ((ks.mapIdx fun i n => toldN (i + 1) n) ++ [toldN ks.length 0])) (hk : ∀ k ∈ ks, k < 5) (hl : ks.length ≤ 10) : TxsA wr v ((ks.mapIdx fun i n => toldN (i + 1) n) ++ [toldN ks.length 0]) :=
  h.texts (fun x hx => by
    have : x.size ≤ 100 := by
      rcases List.mem_append.1 hx with hx | hx
      · obtain ⟨i, hi, rfl⟩ := List.mem_mapIdx.1 hx
        exact told_size _ _ (by omega) (by have := hk _ (List.getElem_mem hi); omega)
      · simp at hx
        rw [hx]
        exact told_size _ _ (by omega) (by omega)
    unfold maxLen
    omega) (by rw [List.length_append, List.length_mapIdx]; simp only [List.length_cons, List.length_nil]; unfold maxLen; omega)
theorem out_cnt {ks : List Nat} {lv : Value} {w : World} (hk : ∀ k ∈ ks, k < 5) (hl : ks.length ≤ 10) (hL : TxsA w lv (ks.map lnB)) (hK : Kr w) :
    Calls Tryz.prog 15 #[.string ⟨#[123, 32, 112, 114, 105, 110, 116, 32, 78, 82, 44, 32, 78, 70, 44, 32, 36, 49, 59, 32, 125, 32, 69, 78, 68, 32, 123, 32, 112, 114, 105, 110, 116, 32, 78, 82, 44, 32, 78, 70, 44, 32, 36, 49, 59, 32, 125]⟩, lv] w fun e w' => ∃ a len cap, e = .returned (.tuple #[.slice a len cap, .int .i64 0]) ∧ Below w.heap.size w w' ∧ TxsA w' (.slice a len cap) ((ks.mapIdx fun i n => toldN (i + 1) n) ++ [toldN ks.length 0]) := by
  obtain ⟨s, h1, h2⟩ := cnt_run (F := []) (m := 5997) ks hk hl
  have h := outs_c (s := bs cntL) (by rw [bs_list]; exact cnt_read) (by rw [bs_size]; decide) cnt_ck (worldR_nil (by rw [List.length_map]; omega) fun x hx => by
    obtain ⟨k, hk2, rfl⟩ := List.mem_map.1 hx
    exact lnB_ok k (hk k hk2)) hL hK
  have e : ks.map lnB = ks.map fun n => (⟨(lineN n).toArray⟩ : ByteArray) := rfl
  rw [e, h1] at h
  refine h.mono fun e w' ⟨a, len, cap, he, hl, hb, ht⟩ => ⟨a, len, cap, he, hb, ?_⟩
  have h3 : (endOf (.go s true)).2.1 = _ := h2
  rw [h3] at ht
  exact ht
structure Inv (w wr : World) (v1 v2 : Value) (i : Nat) (ks : List Nat) : Prop where
  len : ks.length = i
  small : ∀ k ∈ ks, k < 5
  rows : Rows2 w wr v1 (ks.map lnB) v2 (ks.mapIdx fun i n => toldN (i + 1) n)
set_option maxHeartbeats 4000000 in
theorem walk (v : Value) (n : Nat) (w : World) (hK : Kr w) (hv : IntsA w v n) :
    Calls Tryz.prog 4 #[v] w fun e w' => e = .returned (.bool true) ∧ Below w.heap.size w w' := by
  obtain ⟨a, cap, rfl, hmax, hs⟩ := hv
  have HK : Hid (Kr w) := hK
  have HS : Hid _ := hs
  have HM : Hid (n ≤ maxLen) := hmax
  obtain ⟨i0, hi, hz0, hz1, hz2⟩ := info_parts infoTx
  have HI : Hid (Tryz.prog.info? 9 = some i0 ∧ i0.zero = some (.string ⟨#[]⟩) ∧ i0.size = 1 ∧ i0.bytes = 16) := ⟨hi, hz0, hz1, hz2⟩
  clear hK hs hi hz0 hz1 hz2 hmax
  go_enter Tryz.func4, Tryz.ntmps4
  go_wp2_with fail
  go_loopw [3, 4, 5] (fun v3 v4 v5 wr => ∃ (i : Nat) (ks : List Nat) (a1 : Option Addr) (len1 cap1 : Nat) (a2 : Option Addr) (len2 cap2 : Nat), i ≤ n ∧ i ≤ 10 ∧ v3 = .slice a1 len1 cap1 ∧ v4 = .slice a2 len2 cap2 ∧ v5 = .int .i64 i ∧ Hid (Inv w wr v3 v4 i ks)) (fun _ _ v5 _ => n - (intOf v5).toNat)
  case atStart => exact ⟨0, [], none, 0, 0, none, 0, 0, Nat.zero_le _, Nat.zero_le _, rfl, rfl, rfl, rfl, fun _ h => (by cases h), Rows2.nil w⟩
  case round =>
    obtain ⟨i, ks, a1, len1, cap1, a2, len2, cap2, hin, hi10, rfl, rfl, rfl, HV⟩ := hrel
    by_cases hlt : i < n
    · have i1 : (i : Int) < (n : Int) := by omega
      have i2 : (0 : Int) ≤ (i : Int) := by omega
      by_cases h10 : i < 10
      · have i3 : (i : Int) < 10 := by omega
        obtain ⟨b, off, rfl, hb, hc⟩ := HS.out (by omega)
        obtain ⟨z, hz, hzw⟩ := hc i hlt
        have q0 : wr.cell? ⟨b, off + i, none⟩ = some (.int .i64 z) := (HV.out.rows.low.cell (p := ⟨b, off + i, none⟩) hb).trans hz
        have HP : Hid (∀ w, Calls Tryz.prog 10 #[.int .i64 z, .int .i64 5] w _) := fun w => picked_c z 5 w hzw (by decide) (by decide)
        have HKR : Hid (Kr wr) := HK.out.stays HV.out.rows.low
        clear hz hzw hc
        go_wp2_with fail
        refine Calls.mono (HP.out _) ?_
        rintro e w1 ⟨k, hk, rfl, hw1⟩
        rw [hw1]
        clear hw1 w1 HP q0
        have HR1 := hid (rep_s ⟨#[32, 119]⟩ k (k : Int) rfl wr (by decide) (by omega))
        go_wp2_with fail
        refine Calls.mono HR1.out ?_
        rintro e w2 ⟨rfl, hb2⟩
        have HV2 : Hid (Rows2 w w2 (.slice a1 len1 cap1) (ks.map lnB) (.slice a2 len2 cap2) (ks.mapIdx fun i n => toldN (i + 1) n)) := HV.out.rows.stays hb2
        have HKS : Hid (ks.length = i ∧ ∀ k ∈ ks, k < 5) := ⟨HV.out.len, HV.out.small⟩
        have HK2 : Hid (Kr w2) := HKR.out.stays hb2
        obtain ⟨Z, hZ⟩ : ∃ Z : ByteArray, Z = bs (Lib.repeatL [32, 119] k) := ⟨_, rfl⟩
        rw [show bs (Lib.repeatL (⟨#[32, 119]⟩ : ByteArray).data.toList k) = Z from hZ.symm]
        have z1 : Z.size ≤ 100 := by rw [hZ, bs_size, Lib.repeatL_length]; simp; omega
        have HZ : Hid (Z ++ ⟨#[32]⟩ = lnB k) := by unfold Hid; rw [hZ]; exact line_txt k hk
        clear hb2 HR1 HV hZ
        go_wp2_with (first
          | (at_builtin; refine wpList_append_own_at _ rfl _ _ 23 rfl w.heap.size 9 i0 (.string ⟨#[]⟩) 1 16 Tryz.underlying23 HI.out.1 HI.out.2.1 HI.out.2.2.1 HI.out.2.2.2 rfl (by decide) (.slice a1 len1 cap1) (ks.map lnB).length ((ks.map lnB).map Value.string) rfl (HV2.out.one.alloc _) ⟨w2.heap.size, 0, none⟩ 1 1 [.string (Z ++ ⟨#[32]⟩)] rfl rfl (cells_at _ _ _) (by intro u hu; simp at hu; rcases hu with rfl; rfl) (by have := HKS.out.1; rw [List.length_map]; unfold maxLen; omega) (by have := HKS.out.1; rw [List.length_map]; omega) (by simp; exact Nat.le_succ_of_le HV2.out.low.size) ?_; intro v' w5 hown hgrow hnil hloc; have HV3 := hid (HV2.out.push hown hgrow hloc); obtain ⟨va, vl, vc, rfl⟩ : ∃ a len cap, v' = .slice a len cap := (by rcases hown.2 with ⟨rfl, _⟩ | ⟨g, cap, cur, rfl, _⟩ <;> exact ⟨_, _, _, rfl⟩); clear hown hgrow hnil hloc))
        have i4 : -9223372036854775808 ≤ (i : Int) + 1 := by omega
        have i5 : (i : Int) + 1 ≤ 9223372036854775807 := by omega
        clear z1 HK2
        have HI1 := hid (Tryz.strconv_Itoa ((i : Int) + 1) i4 i5 w5 (HK.out.stays HV3.out.low).pw)
        go_wp2_with fail
        refine Calls.mono HI1.out ?_
        rintro e w6 ⟨rfl, hg6⟩
        have HB6 := hid (below_grown_k hg6)
        have HV6 := hid (HV3.out.stays HB6.out)
        obtain ⟨Y1, hY1⟩ : ∃ Y : ByteArray, Y = ⟨(Lib.itoa ((i : Int) + 1)).toArray⟩ := ⟨_, rfl⟩
        have y1 : Y1.size ≤ 100 := by have := Lib.itoa_length_le ((i : Int) + 1) (by omega) (by omega); rw [hY1]; simpa [ByteArray.size] using (by omega : (Lib.itoa ((i : Int) + 1)).length ≤ 100)
        have HY1 : Hid _ := hY1
        rw [← hY1]
        clear hg6 hY1 HI1 HB6 HV3 HV2
        have HI2 := hid (Tryz.strconv_Itoa (k : Int) (by omega) (by omega) w6 (HK.out.stays HV6.out.low).pw)
        go_wp2_with fail
        refine Calls.mono HI2.out ?_
        rintro e w7 ⟨rfl, hg7⟩
        have HV7 := hid (HV6.out.stays (below_grown_k hg7))
        obtain ⟨Y2, hY2⟩ : ∃ Y : ByteArray, Y = ⟨(Lib.itoa (k : Int)).toArray⟩ := ⟨_, rfl⟩
        have y2 : Y2.size ≤ 100 := by have := itoa_le k (by omega); rw [hY2]; simpa [ByteArray.size] using (by omega : (Lib.itoa (k : Int)).length ≤ 100)
        have HY2 : Hid _ := hY2
        rw [← hY2]
        clear hg7 hY2 HI2 HV6
        go_wp2_with fail
        have HR2 := hid (rep_s ⟨#[119]⟩ (min k 1) (min (k : Int) 1) (by omega) w7 (by decide) (by omega))
        refine Calls.mono HR2.out ?_
        rintro e w8 ⟨rfl, hb8⟩
        have HV8 := hid (HV7.out.stays hb8)
        obtain ⟨Y3, hY3⟩ : ∃ Y : ByteArray, Y = bs (Lib.repeatL [119] (min k 1)) := ⟨_, rfl⟩
        rw [show bs (Lib.repeatL (⟨#[119]⟩ : ByteArray).data.toList (min k 1)) = Y3 from hY3.symm]
        have y3 : Y3.size ≤ 100 := by rw [hY3, bs_size, Lib.repeatL_length]; simp; omega
        have HT : Hid (Y1 ++ ⟨#[32]⟩ ++ Y2 ++ ⟨#[32]⟩ ++ Y3 = toldN (i + 1) k) := by unfold Hid; rw [HY1.out, HY2.out, hY3, ← told_txt]; rfl
        have HF : Hid (i < n ∧ i < 10 ∧ k < 5) := ⟨hlt, h10, hk⟩
        obtain ⟨P, hP⟩ : ∃ P : ByteArray, P = Y1 ++ ⟨#[32]⟩ ++ Y2 ++ ⟨#[32]⟩ := ⟨_, rfl⟩
        have yp : P.size ≤ 400 := by rw [hP]; simp only [ByteArray.size_append]; show _ + 1 + _ + 1 ≤ 400; omega
        have HT2 : Hid (P ++ Y3 = toldN (i + 1) k) := by rw [hP]; exact HT
        rw [← hP]
        clear hb8 HR2 HV7 hY3 HY1 HY2 y1 y2 hin hi10 h10 hlt i1 i2 i3 i4 i5 hb hk HT hP
        go_wp2_with (first
          | (at_builtin; refine wpList_append_own_at _ rfl _ _ 23 rfl w.heap.size 9 i0 (.string ⟨#[]⟩) 1 16 Tryz.underlying23 HI.out.1 HI.out.2.1 HI.out.2.2.1 HI.out.2.2.2 rfl (by decide) (.slice a2 len2 cap2) (ks.mapIdx fun i n => toldN (i + 1) n).length ((ks.mapIdx fun i n => toldN (i + 1) n).map Value.string) rfl (HV8.out.two.alloc _) ⟨w8.heap.size, 0, none⟩ 1 1 [.string (P ++ Y3)] rfl rfl (cells_at _ _ _) (by intro u hu; simp at hu; rcases hu with rfl; rfl) (by have := HKS.out.1; have := HF.out.2.1; rw [List.length_mapIdx]; unfold maxLen; omega) (by have := HKS.out.1; have := HF.out.2.1; rw [List.length_mapIdx]; omega) (by simp; exact Nat.le_succ_of_le HV8.out.low.size) ?_; intro v' w9 hown hgrow hnil hloc; have HV9 := hid (HV8.out.swap.push hown hgrow hloc); obtain ⟨ua, ul, uc, rfl⟩ : ∃ a len cap, v' = .slice a len cap := (by rcases hown.2 with ⟨rfl, _⟩ | ⟨g, cap, cur, rfl, _⟩ <;> exact ⟨_, _, _, rfl⟩); clear hown hgrow hnil hloc; have i4 : -9223372036854775808 ≤ (i : Int) + 1 := (by have := HF.out.2.1; omega); have i5 : (i : Int) + 1 ≤ 9223372036854775807 := (by have := HF.out.2.1; omega)))
        refine ⟨⟨i + 1, ks ++ [k], va, vl, vc, ua, ul, uc, HF.out.1, HF.out.2.1, rfl, rfl, by simp, ?_, ?_, ?_⟩, by have := HF.out.1; simp [intOf]; omega⟩
        · rw [List.length_append, HKS.out.1]; rfl
        · intro x hx
          rcases List.mem_append.1 hx with hx | hx
          · exact HKS.out.2 x hx
          · simp at hx; rw [hx]; exact HF.out.2.2
        · have h := HV9.out.swap
          rw [HZ.out, HT2.out] at h
          rw [List.map_append, List.mapIdx_append]
          show Rows2 w w9 _ (_ ++ [lnB k]) _ (_ ++ [toldN (0 + ks.length + 1) k])
          rw [HKS.out.1, Nat.zero_add]
          exact h
      · have i3 : ¬ (i : Int) < 10 := by omega
        have HQ : Hid (Rows2 w wr (.slice a1 len1 cap1) (ks.map lnB) (.slice a2 len2 cap2) (ks.mapIdx fun i n => toldN (i + 1) n) ∧ ks.length = i ∧ (∀ k ∈ ks, k < 5) ∧ i ≤ 10) := ⟨HV.out.rows, HV.out.len, HV.out.small, hi10⟩
        obtain ⟨a1', cap1', he1, -⟩ := HQ.out.1.one.shape
        rw [List.length_map, HQ.out.2.1] at he1
        cases he1
        have HI1 := hid (Tryz.strconv_Itoa (i : Int) (by omega) (by omega) wr (HK.out.stays HQ.out.1.low).pw)
        clear HV HS
        go_wp2_with fail
        refine Calls.mono HI1.out ?_
        rintro e w6 ⟨rfl, hg6⟩
        have HV6 := hid (HQ.out.1.stays (below_grown_k hg6))
        obtain ⟨Y, hY⟩ : ∃ Y : ByteArray, Y = ⟨(Lib.itoa (i : Int)).toArray⟩ := ⟨_, rfl⟩
        have y1 : Y.size ≤ 100 := by have := itoa_le i (by omega); rw [hY]; simpa [ByteArray.size] using (by omega : (Lib.itoa (i : Int)).length ≤ 100)
        have HT : Hid (Y ++ ⟨#[32, 48, 32]⟩ = toldN i 0) := by unfold Hid; rw [hY]; exact told_end i
        rw [← hY]
        clear hg6 hY HI1 hin hi10 h10 i3
        go_wp2_with (first
          | (at_builtin; refine wpList_append_own_at _ rfl _ _ 23 rfl w.heap.size 9 i0 (.string ⟨#[]⟩) 1 16 Tryz.underlying23 HI.out.1 HI.out.2.1 HI.out.2.2.1 HI.out.2.2.2 rfl (by decide) (.slice a2 len2 cap2) (ks.mapIdx fun i n => toldN (i + 1) n).length ((ks.mapIdx fun i n => toldN (i + 1) n).map Value.string) rfl (HV6.out.two.alloc _) ⟨w6.heap.size, 0, none⟩ 1 1 [.string (Y ++ ⟨#[32, 48, 32]⟩)] rfl rfl (cells_at _ _ _) (by intro u hu; simp at hu; rcases hu with rfl; rfl) (by have := HQ.out.2.1; have := HQ.out.2.2.2; rw [List.length_mapIdx]; unfold maxLen; omega) (by have := HQ.out.2.1; have := HQ.out.2.2.2; rw [List.length_mapIdx]; omega) (by simp; exact Nat.le_succ_of_le HV6.out.low.size) ?_; intro v' w9 hown hgrow hnil hloc; have HV9 := hid (HV6.out.swap.push hown hgrow hloc); obtain ⟨ua, ul, uc, rfl⟩ : ∃ a len cap, v' = .slice a len cap := (by rcases hown.2 with ⟨rfl, _⟩ | ⟨g, cap, cur, rfl, _⟩ <;> exact ⟨_, _, _, rfl⟩); clear hown hgrow hnil hloc))
        have HO := hid (out_cnt HQ.out.2.2.1 (by rw [HQ.out.2.1]; exact HQ.out.2.2.2) (lines_txs HV9.out.two HQ.out.2.2.1 (by rw [HQ.out.2.1]; exact HQ.out.2.2.2)) (HK.out.stays HV9.out.low))
        refine Calls.mono HO.out ?_
        rintro e w10 ⟨a8, n8, cap8, rfl, hb10, hx10⟩
        have HB10 : Hid (Below w.heap.size w w10) := bl_trans HV9.out.low hb10
        have h9 := HV9.out.one.stays hb10
        rw [HT.out, ← HQ.out.2.1] at h9
        have h11 := told_txs h9 HQ.out.2.2.1 (by rw [HQ.out.2.1]; exact HQ.out.2.2.2)
        have HEQ := hid (equal_c w10.heap.size w10.heap.size _ _ _ _ w10 hx10 h11 (Nat.le_refl _) (Nat.le_refl _))
        rw [decide_eq_true rfl] at HEQ
        clear hb10 hx10 h9 h11 HO HT HV9 HV6 HQ y1
        go_wp2_with fail
        refine Calls.mono HEQ.out ?_
        rintro e w11 ⟨rfl, hb11⟩
        have HB11 : Hid (Below w.heap.size w w11) := bl_trans HB10.out hb11
        clear hb11 HEQ
        go_wp2_with fail
        go_ret
        exact ⟨rfl, HB11.out⟩
    · have i1 : ¬ (i : Int) < (n : Int) := by omega
      have HQ : Hid (Rows2 w wr (.slice a1 len1 cap1) (ks.map lnB) (.slice a2 len2 cap2) (ks.mapIdx fun i n => toldN (i + 1) n) ∧ ks.length = i ∧ (∀ k ∈ ks, k < 5) ∧ i ≤ 10) := ⟨HV.out.rows, HV.out.len, HV.out.small, hi10⟩
      obtain ⟨a1', cap1', he1, -⟩ := HQ.out.1.one.shape
      rw [List.length_map, HQ.out.2.1] at he1
      cases he1
      have HI1 := hid (Tryz.strconv_Itoa (i : Int) (by omega) (by omega) wr (HK.out.stays HQ.out.1.low).pw)
      clear HV HS
      go_wp2_with fail
      refine Calls.mono HI1.out ?_
      rintro e w6 ⟨rfl, hg6⟩
      have HV6 := hid (HQ.out.1.stays (below_grown_k hg6))
      obtain ⟨Y, hY⟩ : ∃ Y : ByteArray, Y = ⟨(Lib.itoa (i : Int)).toArray⟩ := ⟨_, rfl⟩
      have y1 : Y.size ≤ 100 := by have := itoa_le i (by omega); rw [hY]; simpa [ByteArray.size] using (by omega : (Lib.itoa (i : Int)).length ≤ 100)
      have HT : Hid (Y ++ ⟨#[32, 48, 32]⟩ = toldN i 0) := by unfold Hid; rw [hY]; exact told_end i
      rw [← hY]
      clear hg6 hY HI1 hin hi10 i1
      go_wp2_with (first
        | (at_builtin; refine wpList_append_own_at _ rfl _ _ 23 rfl w.heap.size 9 i0 (.string ⟨#[]⟩) 1 16 Tryz.underlying23 HI.out.1 HI.out.2.1 HI.out.2.2.1 HI.out.2.2.2 rfl (by decide) (.slice a2 len2 cap2) (ks.mapIdx fun i n => toldN (i + 1) n).length ((ks.mapIdx fun i n => toldN (i + 1) n).map Value.string) rfl (HV6.out.two.alloc _) ⟨w6.heap.size, 0, none⟩ 1 1 [.string (Y ++ ⟨#[32, 48, 32]⟩)] rfl rfl (cells_at _ _ _) (by intro u hu; simp at hu; rcases hu with rfl; rfl) (by have := HQ.out.2.1; have := HQ.out.2.2.2; rw [List.length_mapIdx]; unfold maxLen; omega) (by have := HQ.out.2.1; have := HQ.out.2.2.2; rw [List.length_mapIdx]; omega) (by simp; exact Nat.le_succ_of_le HV6.out.low.size) ?_; intro v' w9 hown hgrow hnil hloc; have HV9 := hid (HV6.out.swap.push hown hgrow hloc); obtain ⟨ua, ul, uc, rfl⟩ : ∃ a len cap, v' = .slice a len cap := (by rcases hown.2 with ⟨rfl, _⟩ | ⟨g, cap, cur, rfl, _⟩ <;> exact ⟨_, _, _, rfl⟩); clear hown hgrow hnil hloc))
      have HO := hid (out_cnt HQ.out.2.2.1 (by rw [HQ.out.2.1]; exact HQ.out.2.2.2) (lines_txs HV9.out.two HQ.out.2.2.1 (by rw [HQ.out.2.1]; exact HQ.out.2.2.2)) (HK.out.stays HV9.out.low))
      refine Calls.mono HO.out ?_
      rintro e w10 ⟨a8, n8, cap8, rfl, hb10, hx10⟩
      have HB10 : Hid (Below w.heap.size w w10) := bl_trans HV9.out.low hb10
      have h9 := HV9.out.one.stays hb10
      rw [HT.out, ← HQ.out.2.1] at h9
      have h11 := told_txs h9 HQ.out.2.2.1 (by rw [HQ.out.2.1]; exact HQ.out.2.2.2)
      have HEQ := hid (equal_c w10.heap.size w10.heap.size _ _ _ _ w10 hx10 h11 (Nat.le_refl _) (Nat.le_refl _))
      rw [decide_eq_true rfl] at HEQ
      clear hb10 hx10 h9 h11 HO HT HV9 HV6 HQ y1
      go_wp2_with fail
      refine Calls.mono HEQ.out ?_
      rintro e w11 ⟨rfl, hb11⟩
      have HB11 : Hid (Below w.heap.size w w11) := bl_trans HB10.out hb11
      clear hb11 HEQ
      go_wp2_with fail
      go_ret
      exact ⟨rfl, HB11.out⟩
end Go.Proofs.YtffnilcihneniaaGreatDoor.linesCounted
