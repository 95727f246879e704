/-
  FieldsWritten: its walk.
-/
import Derived.Test.YtffnilcihneniaaGreatDoorKeepRows
import Derived.Test.YtffnilcihneniaaGreatDoorFieldSpec
namespace Go.Proofs.YtffnilcihneniaaGreatDoor.fieldsWritten
open Go.ChangeShapes Go.WideShapes Go.ChangeAt Go.RowKit Go.Joins
set_option linter.unusedVariables false
set_option maxRecDepth 100000
def L3 : List ByteArray := [⟨#[97]⟩, ⟨#[98]⟩, ⟨#[99]⟩]
def lenV : Value → Nat
  | .slice _ n _ => n
  | _ => 0
theorem wide_next (j : Nat) (hj : 3 ≤ j) : wideM L3 (j + 1) = wideM L3 j ++ [⟨#[]⟩] := by
  have e : j + 1 - L3.length = (j - L3.length) + 1 := by show j + 1 - 3 = j - 3 + 1; omega
  unfold wideM
  rw [e, List.replicate_succ', List.append_assoc]
theorem wide_l (j : Nat) (hj : 3 ≤ j) : (wideM L3 j).length = j := by unfold wideM; simp [L3]; omega
theorem wide_max (K : Nat) : wideM L3 (max 3 K) = wideM L3 K := by
  unfold wideM
  rw [show max 3 K - L3.length = K - L3.length by show max 3 K - 3 = K - 3; omega]
theorem out_fld {K v : Nat} {Y V : ByteArray} {lv : Value} {w : World} (hK1 : 1 ≤ K) (hK9 : K < 9) (hv : v < 1000) (hY : Y = ⟨(Lib.itoa (K : Int)).toArray⟩) (hV : V = ⟨(Lib.itoa (v : Int)).toArray⟩) (hL : TxsA w lv [⟨#[97, 32, 32, 98, 9, 99]⟩]) (hK : Kr w) :
    Calls Tryz.prog 15 #[.string (⟨#[123, 32, 36]⟩ ++ Y ++ ⟨#[32, 61, 32]⟩ ++ V ++ ⟨#[59, 32, 112, 114, 105, 110, 116, 32, 78, 70, 44, 32, 36]⟩ ++ Y ++ ⟨#[59, 32, 112, 114, 105, 110, 116, 32, 36, 48, 59, 32, 125]⟩), lv] w fun e w' => ∃ a len cap, e = .returned (.tuple #[.slice a len cap, .int .i64 0]) ∧ Below w.heap.size w w' ∧ TxsA w' (.slice a len cap) (fldO K (txN v)) := by
  obtain ⟨s, h1, h2⟩ := fld_run (F := []) (k := K) (v := v) (m := 5997) hK1 hK9 hv
  have es : (⟨#[123, 32, 36]⟩ ++ Y ++ ⟨#[32, 61, 32]⟩ ++ V ++ ⟨#[59, 32, 112, 114, 105, 110, 116, 32, 78, 70, 44, 32, 36]⟩ ++ Y ++ ⟨#[59, 32, 112, 114, 105, 110, 116, 32, 36, 48, 59, 32, 125]⟩ : ByteArray) = bs (fldL K v) := by
    rw [hY, hV]
    simp only [fldL, ← bs_app]
    rfl
  rw [es]
  have b1 := itoa_le K (by omega)
  have b2 := itoa_le v (by omega)
  have h := outs_c (s := bs (fldL K v)) (by rw [bs_list]; exact fld_read hK9 hv) (by rw [bs_size]; simp only [fldL, List.length_append, List.length_cons, List.length_nil]; omega) (fld_ck 5995 K v hK9 hv) (by kernel_rfl) hL hK
  rw [h1] at h
  refine h.mono fun e w' ⟨a, len, cap, he, hl, hb, ht⟩ => ⟨a, len, cap, he, hb, ?_⟩
  have h3 : (endOf (.go s true)).2.1 = _ := h2
  rw [h3] at ht
  exact ht
set_option maxHeartbeats 4000000 in
theorem walk (n : Int) (hn : (Lit.int .i64 n).wf = true) (m : Int) (hm : (Lit.int .i64 m).wf = true) (w : World) (hK : Kr w) :
    Calls Tryz.prog 5 #[.int .i64 n, .int .i64 m] w fun e w' => e = .returned (.bool true) ∧ Below w.heap.size w w' := by
  have HK : Hid (Kr w) := hK
  have HP0 := hid (picked_c n 8 w hn (by decide) (by decide))
  have HP1 : Hid (∀ w, Calls Tryz.prog 10 #[.int .i64 m, .int .i64 1000] w _) := fun w => picked_c m 1000 w hm (by decide) (by decide)
  obtain ⟨i0, hi, hz0, hz1, hz2⟩ := info_parts infoTx
  have HI : Hid (Tryz.prog.info? 9 = some i0 ∧ i0.zero = some (.string ⟨#[]⟩) ∧ i0.size = 1 ∧ i0.bytes = 16) := ⟨hi, hz0, hz1, hz2⟩
  clear hK hi hz0 hz1 hz2 hn hm
  go_enter Tryz.func5, Tryz.ntmps5
  go_wp2_with fail
  refine Calls.mono HP0.out ?_
  rintro e w1 ⟨k, hk, rfl, hw1⟩
  rw [hw1]
  clear hw1 w1 HP0
  have k4 : -9223372036854775808 ≤ 1 + (k : Int) := by omega
  have k5 : 1 + (k : Int) ≤ 9223372036854775807 := by omega
  obtain ⟨K, hKK⟩ : ∃ K : Nat, (K : Int) = 1 + (k : Int) := ⟨1 + k, by omega⟩
  have HKK : Hid (1 ≤ K ∧ K < 9) := ⟨by omega, by omega⟩
  have HI1 := hid (Tryz.strconv_Itoa (K : Int) (by omega) (by omega) w HK.out.pw)
  have HKI : Hid _ := hKK
  clear hKK
  go_wp2_with fail
  rw [← HKI.out]
  clear k4 k5
  refine Calls.mono HI1.out ?_
  rintro e w2 ⟨rfl, hg2⟩
  have HB2 := hid (below_grown_k hg2)
  obtain ⟨Y, hY⟩ : ∃ Y : ByteArray, Y = ⟨(Lib.itoa (K : Int)).toArray⟩ := ⟨_, rfl⟩
  have HY : Hid _ := hY
  rw [← hY]
  clear hg2 hY HI1
  go_wp2_with fail
  refine Calls.mono (HP1.out _) ?_
  rintro e w3 ⟨v, hv, rfl, hw3⟩
  have HVL : Hid (v < 1000) := hv
  rw [hw3]
  clear hw3 w3 HP1
  have HI2 := hid (Tryz.strconv_Itoa (v : Int) (by omega) (by omega) w2 (HK.out.stays HB2.out).pw)
  go_wp2_with fail
  refine Calls.mono HI2.out ?_
  rintro e w4 ⟨rfl, hg4⟩
  have HB4 := hid (bl_trans HB2.out (below_grown_k hg4))
  obtain ⟨V, hV⟩ : ∃ V : ByteArray, V = ⟨(Lib.itoa (v : Int)).toArray⟩ := ⟨_, rfl⟩
  have HVV : Hid _ := hV
  rw [← hV]
  clear hg4 hV HI2 HB2
  go_wp2_with fail
  go_loopw [8] (fun v8 wr => ∃ (j : Nat) (a1 : Option Addr) (cap1 : Nat), 3 ≤ j ∧ j ≤ 9 ∧ (j = 3 ∨ j ≤ K) ∧ v8 = .slice a1 j cap1 ∧ Hid (Rows2 w wr v8 (wideM L3 j) (.slice none 0 0) [])) (fun v8 _ => 20 - lenV v8)
  case atStart => exact ⟨3, _, 3, Nat.le_refl _, by decide, .inl rfl, rfl, ⟨World.ownsRow_lit w4 #[.string ⟨#[97]⟩, .string ⟨#[98]⟩, .string ⟨#[99]⟩] 3 HB4.out.size (by unfold maxLen; omega) rfl, Own1.nil _ _, fun g _ h => (by cases h), HB4.out.alloc HB4.out.size _⟩⟩
  case round =>
    obtain ⟨j, a1, cap1, hj3, hj9, hjK, rfl, HV⟩ := hrel
    have HJ : Hid (3 ≤ j ∧ j ≤ 9 ∧ (j = 3 ∨ j ≤ K)) := ⟨hj3, hj9, hjK⟩
    by_cases hlt : j < K
    · have i1 : (j : Int) < (K : Int) := by omega
      have HLT : Hid (j < K) := hlt
      clear hj3 hj9 hjK hlt hk hv
      go_wp2_with (first
        | (at_builtin; refine wpList_append_own_at _ rfl _ _ 23 rfl w.heap.size 9 i0 (.string ⟨#[]⟩) 1 16 Tryz.underlying23 HI.out.1 HI.out.2.1 HI.out.2.2.1 HI.out.2.2.2 rfl (by decide) (.slice a1 j cap1) (wideM L3 j).length ((wideM L3 j).map Value.string) (by show Value.slice a1 j cap1 = _; rfl) (HV.out.one.alloc _) ⟨wr.heap.size, 0, none⟩ 1 1 [.string ⟨#[]⟩] rfl rfl (cells_at _ _ _) (by intro u hu; simp at hu; rcases hu with rfl; rfl) (by have := HJ.out; rw [wide_l j (by omega)]; unfold maxLen; omega) (by have := HJ.out; rw [wide_l j (by omega)]; omega) (Nat.le_trans HV.out.low.size (by simp)) ?_; intro v' w9 hown hgrow hnil hloc; have HV9 := hid (HV.out.push hown hgrow hloc); obtain ⟨ua, uc, rfl, -⟩ := HV9.out.one.shape; clear hown hgrow hnil hloc))
      have h9 : Rows2 w w9 (.slice ua (j + 1) uc) (wideM L3 (j + 1)) (.slice none 0 0) [] := by
        have h := HV9.out
        rw [List.length_append, wide_l j HJ.out.1, ← wide_next j HJ.out.1] at h
        exact h
      rw [wide_l j HJ.out.1]
      have h1 := HJ.out
      have h2 := HLT.out
      have h3 := HKK.out
      exact ⟨⟨j + 1, ua, uc, by omega, by omega, by omega, rfl, h9⟩, by show 20 - (j + 1) < 20 - j; omega⟩
    · have i1 : ¬ (j : Int) < (K : Int) := by omega
      have h3 := HKK.out
      have HLT : Hid (j = max 3 K) := by unfold Hid; omega
      obtain ⟨g, rfl⟩ : ∃ g, a1 = some ⟨g, 0, none⟩ := by
        rcases HV.out.one.2 with ⟨h9, _⟩ | ⟨g, cap, cur, he, _⟩
        · simp only [Value.slice.injEq] at h9
          omega
        · simp only [Value.slice.injEq] at he
          exact ⟨g, he.1⟩
      have hr := HV.out.one
      unfold Own1 at hr
      rw [wide_l j hj3] at hr
      have HOW : Hid (wr.ownsRow w.heap.size 9 1 (.slice (some ⟨g, 0, none⟩) j cap1) j ((wideM L3 j).map Value.string) ∧ Below w.heap.size w wr ∧ w.heap.size ≤ g) := ⟨hr, HV.out.low, (hr.lt g rfl).1⟩
      have hfz : wr.frozen? ⟨g, K - 1, none⟩ = false := hr.frozenAt _
      obtain ⟨x0, hx0⟩ : ∃ x0, wr.cell? ⟨g, K - 1, none⟩ = some x0 := by
        have h5 := hr.cellAt (K - 1) (by omega)
        rw [List.getElem?_map, List.getElem?_eq_getElem (by rw [wide_l j hj3]; omega)] at h5
        exact ⟨_, h5⟩
      have i2 : (0 : Int) ≤ (K : Int) - 1 := by omega
      have i3 : (K : Int) - 1 < (j : Int) := by omega
      have i4 : -9223372036854775808 ≤ (K : Int) - 1 := by omega
      have i5 : (K : Int) - 1 ≤ 9223372036854775807 := by omega
      have y1 : Y.size ≤ 100 := by have := itoa_le K (by omega); rw [HY.out]; simpa [ByteArray.size] using (by omega : (Lib.itoa (K : Int)).length ≤ 100)
      have v1 : V.size ≤ 100 := by have := itoa_le v (by omega); rw [HVV.out]; simpa [ByteArray.size] using (by omega : (Lib.itoa (v : Int)).length ≤ 100)
      clear HV hr hj3 hj9 hjK hlt h3 hk hv
      go_wp2_with fail
      obtain ⟨W1, hW1⟩ : ∃ W, W = wr.setCell ⟨g, K - 1, none⟩ (.string V) := ⟨_, rfl⟩
      obtain ⟨W2, hW2⟩ : ∃ W, W = W1.alloc (.cells #[.string ⟨#[97, 32, 32, 98, 9, 99]⟩] 9) := ⟨_, rfl⟩
      have HR1 : Hid (Own1 w W1 (.slice (some ⟨g, 0, none⟩) j cap1) (fldF K V)) := by
        have h := (HOW.out.1.stored (K - 1) (.string V)).1
        rw [← hW1, ← List.map_set, HLT.out, wide_max] at h
        unfold Hid Own1
        rw [show (fldF K V).length = max 3 K from fldF_len K V, HLT.out]
        exact h
      have HB1 : Hid (Below w.heap.size w W1) := by rw [hW1]; exact HOW.out.2.1.setCell HOW.out.2.2 _
      have HB2 : Hid (Below W1.heap.size W1 W2 ∧ TxsA W2 (.slice (some ⟨wr.heap.size, 0, none⟩) 1 1) [⟨#[97, 32, 32, 98, 9, 99]⟩]) := by
        have hz : wr.heap.size = W1.heap.size := by rw [hW1]; simp
        have h := Own1.texts (w := W1) (wr := W2) (v := .slice (some ⟨W1.heap.size, 0, none⟩) 1 1) (l := [⟨#[97, 32, 32, 98, 9, 99]⟩]) (by rw [hW2]; exact World.ownsRow_lit W1 #[.string ⟨#[97, 32, 32, 98, 9, 99]⟩] 1 (Nat.le_refl _) (by unfold maxLen; omega) rfl) (fun x hx => by simp at hx; rw [hx]; decide) (by unfold maxLen; simp)
        rw [hz]
        exact ⟨by rw [hW2]; exact (Below.refl _ _).alloc (Nat.le_refl _) _, h⟩
      rw [← hW1, ← hW2]
      clear hW1 hW2 hfz hx0 i1 i2 i3 i4 i5
      refine Calls.mono (out_fld HKK.out.1 HKK.out.2 HVL.out HY.out HVV.out HB2.out.2 (HK.out.stays (bl_trans HB1.out HB2.out.1))) ?_
      rintro e w5 ⟨a8, n8, cap8, rfl, hb5, hx5⟩
      have HR5 := hid ((HR1.out.stays HB2.out.1).stays hb5)
      have HB5 := hid (bl_trans (bl_trans HB1.out HB2.out.1) hb5)
      have HX5 : Hid (TxsA w5 (.slice a8 n8 cap8) (fldO K (txN v))) := hx5
      clear hb5 hx5 HR1 HB1 HB2 HOW y1
      go_wp2_with fail
      have HI5 := hid (Tryz.strconv_Itoa (j : Int) (by have := HJ.out; omega) (by have := HJ.out; omega) w5 (HK.out.stays HB5.out).pw)
      refine Calls.mono HI5.out ?_
      rintro e w6 ⟨rfl, hg6⟩
      have HB56 := hid (below_grown_k hg6)
      have HR6 := hid (HR5.out.stays HB56.out)
      have HB6 := hid (bl_trans HB5.out HB56.out)
      have HX6 : Hid (TxsA w6 (.slice a8 n8 cap8) (fldO K (txN v))) := TxsA.stays HX5.out HB56.out
      obtain ⟨Z, hZ⟩ : ∃ Z : ByteArray, Z = ⟨(Lib.itoa (j : Int)).toArray⟩ := ⟨_, rfl⟩
      have HZ : Hid _ := hZ
      have z1 : Z.size ≤ 100 := by have := itoa_le j (by have := HJ.out; omega); rw [hZ]; simpa [ByteArray.size] using (by omega : (Lib.itoa (j : Int)).length ≤ 100)
      rw [← hZ]
      clear hg6 hZ HI5 HB56 HR5 HB5 HX5
      obtain ⟨LB, hLB⟩ : ∃ LB : ByteArray, LB = ⟨(blanksM (fldF K V)).toArray⟩ := ⟨_, rfl⟩
      have HLB : Hid _ := hLB
      have hVt : V = txN v := HVV.out
      have lb1 : LB.size ≤ 200 := by rw [hLB, hVt]; simpa [ByteArray.size] using fldF_blanks K v HKK.out.2 HVL.out
      have HJN : Hid (Calls Tryz.prog 17 #[.slice (some ⟨g, 0, none⟩) j cap1, .string ⟨#[32]⟩] w6 fun e w' => e = .returned (.string LB) ∧ Below w6.heap.size w6 w') := by
        have hr := HR6.out
        have hc := hr.cells (g := g) rfl
        have hfl : (fldF K V).length = j := (fldF_len K V).trans HLT.out.symm
        have h := Tryz.strings_Join g 0 cap1 (fldF K V) ⟨#[32]⟩ w6 (fun jj x hx => by
          have h1 := hc jj (.string x) (by rw [List.getElem?_map, hx]; rfl)
          rwa [Addr.add_lit] at h1) (hr.lt g rfl).2 (by have := HJ.out; omega) (by
            obtain ⟨a9, c9, h9, hcap⟩ := hr.shape
            cases h9
            exact hcap) (by show (blanksM (fldF K V)).length ≤ _; have := fldF_blanks K v HKK.out.2 HVL.out; rw [← hVt] at this; omega)
        rw [hfl] at h
        rw [hLB]
        exact h
      clear hLB hVt HR6
      go_wp2_with fail
      refine Calls.mono HJN.out ?_
      rintro e w7 ⟨rfl, hb7⟩
      have HB7 := hid (bl_trans HB6.out hb7)
      have HX7 : Hid (TxsA w7 (.slice a8 n8 cap8) (fldO K (txN v))) := TxsA.stays HX6.out hb7
      clear hb7 HJN HB6 HX6
      go_wp2_with fail
      obtain ⟨W8, hW8⟩ : ∃ W, W = w7.alloc (.cells #[.string (Z ++ ⟨#[32]⟩ ++ V), .string LB] 9) := ⟨_, rfl⟩
      have HTX : Hid ([Z ++ ⟨#[32]⟩ ++ V, LB] = fldO K (txN v)) := by
        unfold Hid fldO
        rw [HLB.out, HZ.out, show V = txN v from HVV.out, fldF_len, ← HLT.out]
        congr 1
      have HB8 : Hid (Below w7.heap.size w7 W8 ∧ TxsA W8 (.slice (some ⟨w7.heap.size, 0, none⟩) 2 2) (fldO K (txN v))) := by
        have h := Own1.texts (w := w7) (wr := W8) (v := .slice (some ⟨w7.heap.size, 0, none⟩) 2 2) (l := [Z ++ ⟨#[32]⟩ ++ V, LB]) (by rw [hW8]; exact World.ownsRow_lit (size := 1) w7 #[.string (Z ++ ⟨#[32]⟩ ++ V), .string LB] 2 (Nat.le_refl _) (by unfold maxLen; omega) rfl) (fun x hx => by
          simp only [List.mem_cons, List.not_mem_nil, or_false] at hx
          unfold maxLen
          rcases hx with rfl | rfl
          · simp only [ByteArray.size_append]
            show _ + 1 + _ ≤ _
            omega
          · omega) (by unfold maxLen; simp)
        rw [HTX.out] at h
        exact ⟨by rw [hW8]; exact (Below.refl _ _).alloc (Nat.le_refl _) _, h⟩
      rw [← hW8]
      clear hW8
      have HEQ := hid (equal_c W8.heap.size W8.heap.size _ _ _ _ W8 (TxsA.stays HX7.out HB8.out.1) HB8.out.2 (Nat.le_refl _) (Nat.le_refl _))
      rw [decide_eq_true rfl] at HEQ
      refine Calls.mono HEQ.out ?_
      rintro e w9 ⟨rfl, hb9⟩
      have HB9 : Hid (Below w.heap.size w w9) := bl_trans (bl_trans HB7.out HB8.out.1) hb9
      clear hb9 HEQ HB8 HTX HX7 z1 v1 lb1
      go_wp2_with fail
      go_ret
      exact ⟨rfl, HB9.out⟩
end Go.Proofs.YtffnilcihneniaaGreatDoor.fieldsWritten
