/-
  NextLeaves: its walk.
-/
import Derived.Test.YtffnilcihneniaaGreatDoorKeepRows
import Derived.Test.YtffnilcihneniaaGreatDoorNextSpec
namespace Go.Proofs.YtffnilcihneniaaGreatDoor.nextLeaves
open Go.ChangeShapes Go.WideShapes Go.ChangeAt Go.RowKit Go.Joins
set_option linter.unusedVariables false
set_option maxRecDepth 100000
theorem txN_size (d : Nat) (hd : d < 100) : (txN d).size ≤ 100 := by
  have h := itoa_le d (by omega)
  have e : (txN d).size = (Lib.itoa (d : Int)).length := by unfold txN; simp [ByteArray.size]
  omega
theorem nums_small {ks : List Nat} (hk : ∀ k ∈ ks, k < 100) : ∀ x ∈ ks.map txN, x.size ≤ maxLen := fun x hx => by
  obtain ⟨d, hd, rfl⟩ := List.mem_map.1 hx
  have := txN_size d (hk d hd)
  unfold maxLen
  omega
theorem wants_small {k : Nat} : ∀ {ks : List Nat} {i : Nat}, (∀ k ∈ ks, k < 100) → ∀ x ∈ nxtW k i ks, x.size ≤ maxLen
  | [], _, _, x, hx => by cases hx
  | d :: ks, i, hk, x, hx => by
    rw [nxtW] at hx
    rcases List.mem_append.1 hx with hx | hx
    · split at hx
      · cases hx
      · simp at hx
        rw [hx]
        have := txN_size d (hk d (List.mem_cons_self ..))
        unfold maxLen
        omega
    · exact wants_small (fun y hy => hk y (List.mem_cons_of_mem _ hy)) x hx
theorem num_lines : (List.range 100).all (fun n => lineB (txN n)) = true := by kernel_rfl
theorem out_nxt {k : Nat} (Y : ByteArray) {ks : List Nat} {lv : Value} {w : World} (hk8 : k < 8) (hY : Y = ⟨(Lib.itoa ((k : Int) + 1)).toArray⟩) (hk : ∀ k ∈ ks, k < 100) (hl : ks.length ≤ 8) (hL : TxsA w lv (ks.map txN)) (hK : Kr w) :
    Calls Tryz.prog 15 #[.string (⟨#[78, 82, 32, 61, 61, 32]⟩ ++ Y ++ ⟨#[32, 123, 32, 110, 101, 120, 116, 59, 32, 112, 114, 105, 110, 116, 32, 49, 59, 32, 125, 32, 123, 32, 112, 114, 105, 110, 116, 32, 36, 49, 59, 32, 125]⟩), lv] w fun e w' => ∃ a len cap, e = .returned (.tuple #[.slice a len cap, .int .i64 0]) ∧ Below w.heap.size w w' ∧ TxsA w' (.slice a len cap) (nxtW k 0 ks) := by
  obtain ⟨s, h1, h2⟩ := nxt_run (F := []) (k := k) (m := 5997) ks hk (by omega)
  have es : (⟨#[78, 82, 32, 61, 61, 32]⟩ ++ Y ++ ⟨#[32, 123, 32, 110, 101, 120, 116, 59, 32, 112, 114, 105, 110, 116, 32, 49, 59, 32, 125, 32, 123, 32, 112, 114, 105, 110, 116, 32, 36, 49, 59, 32, 125]⟩ : ByteArray) = bs (nxtL k) := by
    rw [hY]
    simp only [nxtL, ← bs_app]
    rw [Int.natCast_add]
    rfl
  rw [es]
  have h := outs_c (s := bs (nxtL k)) (by rw [bs_list]; exact nxt_read k hk8) (by rw [bs_size]; have := (nxt_ck k hk8).2; omega) (nxt_ck k hk8).1 (worldR_nil (by rw [List.length_map]; omega) fun x hx => by
    obtain ⟨d, hd, rfl⟩ := List.mem_map.1 hx
    exact List.all_eq_true.1 num_lines d (List.mem_range.2 (hk d hd))) hL hK
  rw [h1] at h
  refine h.mono fun e w' ⟨a, len, cap, he, hl, hb, ht⟩ => ⟨a, len, cap, he, hb, ?_⟩
  have h3 : (endOf (.go s true)).2.1 = _ := h2
  rw [h3] at ht
  exact ht
structure Inv (w wr : World) (v1 v2 : Value) (k i : Nat) (ks : List Nat) : Prop where
  len : ks.length = i
  small : ∀ k ∈ ks, k < 100
  rows : Rows2 w wr v1 (ks.map txN) v2 (nxtW k 0 ks)
set_option maxHeartbeats 4000000 in
theorem walk (v : Value) (n : Nat) (at' : Int) (hat : (Lit.int .i64 at').wf = true) (w : World) (hK : Kr w) (hv : IntsA w v n) :
    Calls Tryz.prog 6 #[v, .int .i64 at'] w fun e w' => e = .returned (.bool true) ∧ Below w.heap.size w w' := by
  obtain ⟨a, cap, rfl, hmax, hs⟩ := hv
  have HK : Hid (Kr w) := hK
  have HS : Hid _ := hs
  have HM : Hid (n ≤ maxLen) := hmax
  have HP0 := hid (picked_c at' 8 w hat (by decide) (by decide))
  obtain ⟨i0, hi, hz0, hz1, hz2⟩ := info_parts infoTx
  have HI : Hid (Tryz.prog.info? 9 = some i0 ∧ i0.zero = some (.string ⟨#[]⟩) ∧ i0.size = 1 ∧ i0.bytes = 16) := ⟨hi, hz0, hz1, hz2⟩
  clear hK hs hi hz0 hz1 hz2 hmax hat
  go_enter Tryz.func6, Tryz.ntmps6
  go_wp2_with fail
  refine Calls.mono HP0.out ?_
  rintro e w1 ⟨k, hk, rfl, hw1⟩
  rw [hw1]
  clear hw1 w1 HP0
  go_wp2_with fail
  go_loopw [6, 7, 8] (fun v3 v4 v5 wr => ∃ (i : Nat) (ks : List Nat) (a1 : Option Addr) (len1 cap1 : Nat) (a2 : Option Addr) (len2 cap2 : Nat), i ≤ n ∧ i ≤ 8 ∧ v3 = .slice a1 len1 cap1 ∧ v4 = .slice a2 len2 cap2 ∧ v5 = .int .i64 i ∧ Hid (Inv w wr v3 v4 k i ks)) (fun _ _ v5 _ => n - (intOf v5).toNat)
  case atStart => exact ⟨0, [], none, 0, 0, none, 0, 0, Nat.zero_le _, Nat.zero_le _, rfl, rfl, rfl, rfl, fun _ h => (by cases h), Rows2.nil w⟩
  case round =>
    obtain ⟨i, ks, a1, len1, cap1, a2, len2, cap2, hin, hi10, rfl, rfl, rfl, HV⟩ := hrel
    by_cases hlt : i < n
    · have i1 : (i : Int) < (n : Int) := by omega
      have i2 : (0 : Int) ≤ (i : Int) := by omega
      by_cases h10 : i < 8
      · have i3 : (i : Int) < 8 := by omega
        obtain ⟨b, off, rfl, hb, hc⟩ := HS.out (by omega)
        obtain ⟨z, hz, hzw⟩ := hc i hlt
        have q0 : wr.cell? ⟨b, off + i, none⟩ = some (.int .i64 z) := (HV.out.rows.low.cell (p := ⟨b, off + i, none⟩) hb).trans hz
        have HP := hid (picked_c z 100 wr hzw (by decide) (by decide))
        have HKR : Hid (Kr wr) := HK.out.stays HV.out.rows.low
        clear hz hzw hc
        go_wp2_with fail
        refine Calls.mono HP.out ?_
        rintro e w1 ⟨d, hd, rfl, hw1⟩
        rw [hw1]
        clear hw1 w1 HP q0
        have HI1 := hid (Tryz.strconv_Itoa (d : Int) (by omega) (by omega) wr HKR.out.pw)
        go_wp2_with fail
        refine Calls.mono HI1.out ?_
        rintro e w2 ⟨rfl, hg2⟩
        have HV2 := hid (HV.out.rows.stays (below_grown_k hg2))
        have HKS : Hid (ks.length = i ∧ ∀ k ∈ ks, k < 100) := ⟨HV.out.len, HV.out.small⟩
        obtain ⟨X, hX⟩ : ∃ X : ByteArray, X = ⟨(Lib.itoa (d : Int)).toArray⟩ := ⟨_, rfl⟩
        have HX : Hid (X = txN d) := hX
        have HF : Hid (i < n ∧ i < 8 ∧ d < 100) := ⟨hlt, h10, hd⟩
        have HLN : Hid ((ks.map txN).length ≤ 8 ∧ (nxtW k 0 ks).length ≤ 8) := ⟨by rw [List.length_map, HKS.out.1]; omega, by have := nxtW_len k ks 0; rw [HKS.out.1] at this; omega⟩
        rw [← hX]
        clear hg2 hX HI1 HV HKR
        by_cases hik : i = k
        · have h5 : ((i : Int) != (k : Int)) = false := by simp [hik]
          have HIK : Hid (i = k) := hik
          have i4 : -9223372036854775808 ≤ (i : Int) + 1 := by omega
          have i5 : (i : Int) + 1 ≤ 9223372036854775807 := by omega
          clear hin hi10 h10 hlt i1 i2 i3 hb hk hik hd
          go_wp2_with (first
            | (at_builtin; refine wpList_append_own_at _ rfl _ _ 23 rfl w.heap.size 9 i0 (.string ⟨#[]⟩) 1 16 Tryz.underlying23 HI.out.1 HI.out.2.1 HI.out.2.2.1 HI.out.2.2.2 rfl (by decide) (.slice a1 len1 cap1) (ks.map txN).length ((ks.map txN).map Value.string) rfl (HV2.out.one.alloc _) ⟨w2.heap.size, 0, none⟩ 1 1 [.string X] rfl rfl (cells_at _ _ _) (by intro u hu; simp at hu; rcases hu with rfl; rfl) (by have := HLN.out.1; unfold maxLen; omega) (by have := HLN.out.1; omega) (Nat.le_trans HV2.out.low.size (by simp)) ?_; intro v' w5 hown hgrow hnil hloc; have HV3 := hid (HV2.out.push hown hgrow hloc); obtain ⟨g, vc, rfl, hc5, hg5⟩ := Own1.last (i := i) HV3.out.one (by rw [List.length_map]; exact HKS.out.1); have hc6 := hc5; clear hown hgrow hnil hloc; have j1 : (i : Int) < ((i + 1 : Nat) : Int) := (by omega); have j2 : (0 : Int) ≤ (i : Int) := (by omega)))
          have HV3 := HV3
          refine ⟨⟨i + 1, ks ++ [d], _, _, _, a2, len2, cap2, HF.out.1, HF.out.2.1, rfl, rfl, by simp, ?_, ?_, ?_⟩, by have := HF.out.1; simp [intOf]; omega⟩
          · rw [List.length_append, HKS.out.1]; rfl
          · intro x hx
            rcases List.mem_append.1 hx with hx | hx
            · exact HKS.out.2 x hx
            · simp at hx; rw [hx]; exact HF.out.2.2
          · have h := HV3.out
            rw [HX.out] at h
            rw [List.map_append, nxtW_snoc, HKS.out.1, if_pos (by rw [Nat.zero_add]; exact HIK.out), List.append_nil]
            exact h
        · have h5 : ((i : Int) != (k : Int)) = true := by simp; omega
          have HIK : Hid (¬ i = k) := hik
          clear hin hi10 h10 hlt i1 i2 i3 hb hk hik hd
          go_wp2_with (first
            | (at_builtin; refine wpList_append_own_at _ rfl _ _ 23 rfl w.heap.size 9 i0 (.string ⟨#[]⟩) 1 16 Tryz.underlying23 HI.out.1 HI.out.2.1 HI.out.2.2.1 HI.out.2.2.2 rfl (by decide) (.slice a1 len1 cap1) (ks.map txN).length ((ks.map txN).map Value.string) rfl (HV2.out.one.alloc _) ⟨w2.heap.size, 0, none⟩ 1 1 [.string X] rfl rfl (cells_at _ _ _) (by intro u hu; simp at hu; rcases hu with rfl; rfl) (by have := HLN.out.1; unfold maxLen; omega) (by have := HLN.out.1; omega) (Nat.le_trans HV2.out.low.size (by simp)) ?_; intro v' w5 hown hgrow hnil hloc; have HV3 := hid (HV2.out.push hown hgrow hloc); obtain ⟨g, vc, rfl, hc5, hg5⟩ := Own1.last (i := i) HV3.out.one (by rw [List.length_map]; exact HKS.out.1); have hc6 := hc5; clear hown hgrow hnil hloc; have j1 : (i : Int) < ((i + 1 : Nat) : Int) := (by omega); have j2 : (0 : Int) ≤ (i : Int) := (by omega))
            | (at_builtin; refine wpList_append_own_at _ rfl _ _ 23 rfl w.heap.size 9 i0 (.string ⟨#[]⟩) 1 16 Tryz.underlying23 HI.out.1 HI.out.2.1 HI.out.2.2.1 HI.out.2.2.2 rfl (by decide) (.slice a2 len2 cap2) (nxtW k 0 ks).length ((nxtW k 0 ks).map Value.string) rfl (HV3.out.two.alloc _) ⟨w5.heap.size, 0, none⟩ 1 1 [.string X] rfl rfl (cells_at _ _ _) (by intro u hu; simp at hu; rcases hu with rfl; rfl) (by have := HLN.out.2; unfold maxLen; omega) (by have := HLN.out.2; omega) (Nat.le_trans HV3.out.low.size (by simp)) ?_; intro v' w9 hown hgrow hnil hloc; have HV9 := hid (HV3.out.swap.push hown hgrow hloc); obtain ⟨ua, ul, uc, rfl⟩ : ∃ a len cap, v' = .slice a len cap := (by rcases hown.2 with ⟨rfl, _⟩ | ⟨g, cap, cur, rfl, _⟩ <;> exact ⟨_, _, _, rfl⟩); clear hown hgrow hnil hloc; have i4 : -9223372036854775808 ≤ (i : Int) + 1 := (by have := HF.out.2.1; omega); have i5 : (i : Int) + 1 ≤ 9223372036854775807 := (by have := HF.out.2.1; omega)))
          refine ⟨⟨i + 1, ks ++ [d], _, _, _, ua, ul, uc, HF.out.1, HF.out.2.1, rfl, rfl, by simp, ?_, ?_, ?_⟩, by have := HF.out.1; simp [intOf]; omega⟩
          · rw [List.length_append, HKS.out.1]; rfl
          · intro x hx
            rcases List.mem_append.1 hx with hx | hx
            · exact HKS.out.2 x hx
            · simp at hx; rw [hx]; exact HF.out.2.2
          · have h := HV9.out.swap
            rw [HX.out] at h
            rw [List.map_append, nxtW_snoc, HKS.out.1, if_neg (by rw [Nat.zero_add]; exact HIK.out)]
            exact h
      · have i3 : ¬ (i : Int) < 8 := by omega
        have HQ : Hid (Rows2 w wr (.slice a1 len1 cap1) (ks.map txN) (.slice a2 len2 cap2) (nxtW k 0 ks) ∧ ks.length = i ∧ (∀ k ∈ ks, k < 100) ∧ i ≤ 8 ∧ k < 8) := ⟨HV.out.rows, HV.out.len, HV.out.small, hi10, hk⟩
        have k4 : -9223372036854775808 ≤ (k : Int) + 1 := by omega
        have k5 : (k : Int) + 1 ≤ 9223372036854775807 := by omega
        have HI1 := hid (Tryz.strconv_Itoa ((k : Int) + 1) k4 k5 wr (HK.out.stays HQ.out.1.low).pw)
        clear HV HS
        go_wp2_with fail
        refine Calls.mono HI1.out ?_
        rintro e w6 ⟨rfl, hg6⟩
        have HV6 := hid (HQ.out.1.stays (below_grown_k hg6))
        obtain ⟨Y, hY⟩ : ∃ Y : ByteArray, Y = ⟨(Lib.itoa ((k : Int) + 1)).toArray⟩ := ⟨_, rfl⟩
        have y1 : Y.size ≤ 100 := by have := Lib.itoa_length_le ((k : Int) + 1) (by omega) (by omega); rw [hY]; simpa [ByteArray.size] using (by omega : (Lib.itoa ((k : Int) + 1)).length ≤ 100)
        have HO := hid (out_nxt Y HQ.out.2.2.2.2 hY HQ.out.2.2.1 (by rw [HQ.out.2.1]; exact HQ.out.2.2.2.1) (HV6.out.one.texts (fun x hx => nums_small HQ.out.2.2.1 x hx) (by rw [List.length_map, HQ.out.2.1]; have := HQ.out.2.2.2.1; unfold maxLen; omega)) (HK.out.stays HV6.out.low))
        rw [← hY]
        clear hg6 hY HI1 hin hi10 h10 i3 k4 k5 hk
        go_wp2_with fail
        refine Calls.mono HO.out ?_
        rintro e w10 ⟨a8, n8, cap8, rfl, hb10, hx10⟩
        have HB10 : Hid (Below w.heap.size w w10) := bl_trans HV6.out.low hb10
        have h9 := HV6.out.two.stays hb10
        have h11 := h9.texts (fun x hx => wants_small HQ.out.2.2.1 x hx) (by have := nxtW_len k ks 0; rw [HQ.out.2.1] at this; have := HQ.out.2.2.2.1; unfold maxLen; omega)
        have HEQ := hid (equal_c w10.heap.size w10.heap.size _ _ _ _ w10 hx10 h11 (Nat.le_refl _) (Nat.le_refl _))
        rw [decide_eq_true rfl] at HEQ
        obtain ⟨a2', cap2', he2, -⟩ := h9.shape
        clear hb10 hx10 h9 h11 HO HV6 HQ y1
        go_wp2_with fail
        refine Calls.mono HEQ.out ?_
        rintro e w11 ⟨rfl, hb11⟩
        have HB11 : Hid (Below w.heap.size w w11) := bl_trans HB10.out hb11
        clear hb11 HEQ
        go_wp2_with fail
        go_ret
        exact ⟨rfl, HB11.out⟩
    · have i1 : ¬ (i : Int) < (n : Int) := by omega
      have HQ : Hid (Rows2 w wr (.slice a1 len1 cap1) (ks.map txN) (.slice a2 len2 cap2) (nxtW k 0 ks) ∧ ks.length = i ∧ (∀ k ∈ ks, k < 100) ∧ i ≤ 8 ∧ k < 8) := ⟨HV.out.rows, HV.out.len, HV.out.small, hi10, hk⟩
      have k4 : -9223372036854775808 ≤ (k : Int) + 1 := by omega
      have k5 : (k : Int) + 1 ≤ 9223372036854775807 := by omega
      have HI1 := hid (Tryz.strconv_Itoa ((k : Int) + 1) k4 k5 wr (HK.out.stays HQ.out.1.low).pw)
      clear HV HS
      go_wp2_with fail
      refine Calls.mono HI1.out ?_
      rintro e w6 ⟨rfl, hg6⟩
      have HV6 := hid (HQ.out.1.stays (below_grown_k hg6))
      obtain ⟨Y, hY⟩ : ∃ Y : ByteArray, Y = ⟨(Lib.itoa ((k : Int) + 1)).toArray⟩ := ⟨_, rfl⟩
      have y1 : Y.size ≤ 100 := by have := Lib.itoa_length_le ((k : Int) + 1) (by omega) (by omega); rw [hY]; simpa [ByteArray.size] using (by omega : (Lib.itoa ((k : Int) + 1)).length ≤ 100)
      have HO := hid (out_nxt Y HQ.out.2.2.2.2 hY HQ.out.2.2.1 (by rw [HQ.out.2.1]; exact HQ.out.2.2.2.1) (HV6.out.one.texts (fun x hx => nums_small HQ.out.2.2.1 x hx) (by rw [List.length_map, HQ.out.2.1]; have := HQ.out.2.2.2.1; unfold maxLen; omega)) (HK.out.stays HV6.out.low))
      rw [← hY]
      clear hg6 hY HI1 hin hi10 i1 k4 k5 hk
      go_wp2_with fail
      refine Calls.mono HO.out ?_
      rintro e w10 ⟨a8, n8, cap8, rfl, hb10, hx10⟩
      have HB10 : Hid (Below w.heap.size w w10) := bl_trans HV6.out.low hb10
      have h9 := HV6.out.two.stays hb10
      have h11 := h9.texts (fun x hx => wants_small HQ.out.2.2.1 x hx) (by have := nxtW_len k ks 0; rw [HQ.out.2.1] at this; have := HQ.out.2.2.2.1; unfold maxLen; omega)
      have HEQ := hid (equal_c w10.heap.size w10.heap.size _ _ _ _ w10 hx10 h11 (Nat.le_refl _) (Nat.le_refl _))
      rw [decide_eq_true rfl] at HEQ
      obtain ⟨a2', cap2', he2, -⟩ := h9.shape
      clear hb10 hx10 h9 h11 HO HV6 HQ y1
      go_wp2_with fail
      refine Calls.mono HEQ.out ?_
      rintro e w11 ⟨rfl, hb11⟩
      have HB11 : Hid (Below w.heap.size w w11) := bl_trans HB10.out hb11
      clear hb11 HEQ
      go_wp2_with fail
      go_ret
      exact ⟨rfl, HB11.out⟩
end Go.Proofs.YtffnilcihneniaaGreatDoor.nextLeaves
