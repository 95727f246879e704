/-
  EndsTold: its walk.
-/
import Derived.Test.YtffnilcihneniabGreatDoorKeepOut
import Derived.Test.YtffnilcihneniabGreatDoorEndsSpec
namespace Go.Proofs.YtffnilcihneniabGreatDoor.endsTold
open Go.ChangeShapes Go.WideShapes Go.ChangeAt Go.RowKit Go.Joins
set_option linter.unusedVariables false
set_option maxRecDepth 100000
def oddV : Array Value := (oddL.map fun t => Value.string (bs t)).toArray
def endV : Array Value := (oddE.map fun t => Value.int .i64 t).toArray
theorem odd_len : ∀ k, k < 10 → ∀ o, oddL[k]? = some o → o.length ≤ 100 := by
  intro k hk o ho
  have h : oddL.all (fun o => decide (o.length ≤ 100)) = true := by decide
  simpa using List.all_eq_true.1 h o (List.mem_of_getElem? ho)
theorem out_end {k : Nat} (hk : k < 10) {S : ByteArray} {lv : Value} {w : World} {e : Int} (hS : ∀ o, oddL[k]? = some o → S = bs o) (he : oddE[k]? = some e) (hL : TxsA w lv [⟨#[108, 105, 110, 101]⟩]) (hK : Kr w) :
    Calls Tryz.prog 5 #[.string (⟨#[66, 69, 71, 73, 78, 32, 123, 32, 112, 114, 105, 110, 116, 32, 34, 115, 111, 34, 59, 32]⟩ ++ S ++ ⟨#[32, 112, 114, 105, 110, 116, 32, 34, 102, 97, 114, 34, 59, 32, 125, 32, 69, 78, 68, 32, 123, 32, 112, 114, 105, 110, 116, 32, 34, 101, 110, 100, 34, 59, 32, 125]⟩), lv] w fun e' w' => ∃ a len cap, e' = .returned (.tuple #[.slice a len cap, .int .i64 e]) ∧ Below w.heap.size w w' ∧ TxsA w' (.slice a len cap) [⟨#[115, 111]⟩] := by
  obtain ⟨x, o, h1, h2, h3, h4⟩ := end_read hk
  obtain ⟨x', e', r, g1, g2, g3, g4⟩ := end_run hk
  rw [h1] at g1
  cases g1
  rw [he] at g2
  cases g2
  have hl := odd_len k hk o h2
  have hz : endA.length + endZ.length ≤ 200 := by decide
  have es : (⟨#[66, 69, 71, 73, 78, 32, 123, 32, 112, 114, 105, 110, 116, 32, 34, 115, 111, 34, 59, 32]⟩ ++ S ++ ⟨#[32, 112, 114, 105, 110, 116, 32, 34, 102, 97, 114, 34, 59, 32, 125, 32, 69, 78, 68, 32, 123, 32, 112, 114, 105, 110, 116, 32, 34, 101, 110, 100, 34, 59, 32, 125]⟩ : ByteArray) = bs (endA ++ o ++ endZ) := by
    rw [hS o h2]
    show bs endA ++ bs o ++ bs endZ = bs _
    rw [bs_app, bs_app]
  rw [es]
  have h := outs_c (s := bs (endA ++ o ++ endZ)) (by rw [bs_list]; exact h3) (by rw [bs_size, List.length_append, List.length_append]; omega) h4 (by kernel_rfl) hL hK
  rw [g3] at h
  refine h.mono fun e' w' ⟨a, len, cap, he', hl, hb, ht⟩ => ?_
  have q1 : (endOf r).1 = e := by cases r <;> exact congrArg Prod.fst g4
  have q2 : (endOf r).2.1 = [⟨#[115, 111]⟩] := by cases r <;> exact congrArg Prod.snd g4
  rw [q1] at he'
  rw [q2] at ht
  exact ⟨a, len, cap, he', hb, ht⟩
set_option maxHeartbeats 4000000 in
theorem walk (n : Int) (hn : (Lit.int .i64 n).wf = true) (w : World) (hK : Kr w) :
    Calls Tryz.prog 3 #[.int .i64 n] w fun e w' => e = .returned (.bool true) ∧ Below w.heap.size w w' := by
  obtain ⟨A, hA⟩ : ∃ A : Array Value, A = #[.string ⟨#[120, 32, 61, 32, 49, 32, 47, 32, 48, 59]⟩, .string ⟨#[120, 32, 61, 32, 49, 32, 37, 32, 121, 59]⟩, .string ⟨#[120, 32, 61, 32, 49, 48, 57, 57, 53, 49, 49, 54, 50, 55, 55, 55, 54, 32, 43, 32, 49, 59]⟩, .string ⟨#[120, 32, 61, 32, 36, 40, 48, 32, 45, 32, 49, 41, 59]⟩, .string ⟨#[36, 48, 32, 61, 32, 49, 59]⟩, .string ⟨#[36, 49, 48, 49, 32, 61, 32, 49, 59]⟩, .string ⟨#[120, 32, 61, 32, 34, 57, 57, 57, 57, 57, 57, 57, 57, 57, 57, 57, 57, 57, 57, 34, 32, 43, 32, 49, 59]⟩, .string ⟨#[119, 104, 105, 108, 101, 32, 40, 49, 41, 32, 123, 32, 115, 32, 61, 32, 115, 32, 46, 46, 32, 34, 48, 49, 50, 51, 52, 53, 54, 55, 56, 57, 34, 59, 32, 125]⟩, .string ⟨#[119, 104, 105, 108, 101, 32, 40, 49, 41, 32, 123, 32, 110, 32, 61, 32, 110, 32, 43, 32, 49, 59, 32, 97, 91, 110, 93, 32, 61, 32, 49, 59, 32, 125]⟩, .string ⟨#[119, 104, 105, 108, 101, 32, 40, 49, 41, 32, 123, 32, 125]⟩] := ⟨_, rfl⟩
  obtain ⟨B, hB⟩ : ∃ B : Array Value, B = #[.int .i64 2, .int .i64 2, .int .i64 3, .int .i64 4, .int .i64 4, .int .i64 4, .int .i64 3, .int .i64 3, .int .i64 3, .int .i64 1] := ⟨_, rfl⟩
  obtain ⟨W, hW⟩ : ∃ W, W = (w.alloc (.cells A 9)).alloc (.cells B 3) := ⟨_, rfl⟩
  have hz : (w.alloc (.cells A 9)).heap.size = w.heap.size + 1 := by simp
  have HA : Hid (Below w.heap.size w W) := by rw [hW]; exact ((Below.refl _ _).alloc (Nat.le_refl _) _).alloc (by rw [hz]; omega) _
  have HO : Hid (RowAt W w.heap.size A) := by rw [hW]; exact (RowAt.new w A _).below ((Below.refl _ _).alloc (Nat.le_refl _) _)
  have HB : Hid (RowAt W (w.heap.size + 1) B) := by
    have h2 := RowAt.new (w.alloc (.cells A 9)) B 3
    rw [hz] at h2
    rw [hW]; exact h2
  have HSW : Hid (w.heap.size + 1 < W.heap.size) := by rw [hW]; simp [Hid]
  have HWW : Hid (W = _) := hW
  have HAV : Hid (A = oddV) := by rw [hA]; rfl
  have HBV : Hid (B = endV) := by rw [hB]; rfl
  have HAE : Hid (A = _) := hA
  have HBE : Hid (B = _) := hB
  have HK : Hid (Kr w) := hK
  have HC := hid (picked_c n 10 W hn (by decide) (by decide))
  clear hW hz hK hn hA hB
  go_enter Tryz.func3, Tryz.ntmps3
  go_wp2_with fail
  rw [← HAE.out, ← HBE.out, ← HWW.out]
  clear HWW HAE HBE
  refine Calls.mono HC.out ?_
  rintro e w1 ⟨k, hk, rfl, hw1⟩
  rw [hw1]
  clear hw1 w1 HC
  obtain ⟨o, ho⟩ : ∃ o, oddL[k]? = some o := ⟨oddL[k]'(by show k < 10; exact hk), List.getElem?_eq_getElem _⟩
  obtain ⟨E, hE⟩ : ∃ E, oddE[k]? = some E := ⟨oddE[k]'(by show k < 10; exact hk), List.getElem?_eq_getElem _⟩
  obtain ⟨S, hS⟩ : ∃ S, S = bs o := ⟨_, rfl⟩
  have q0 : W.cell? ⟨w.heap.size, k, none⟩ = some (.string S) := by
    rw [HO.out.cell k, HAV.out, oddV, List.getElem?_toArray, List.getElem?_map, ho, hS]
    rfl
  have q1 : W.cell? ⟨w.heap.size + 1, k, none⟩ = some (.int .i64 E) := by
    rw [HB.out.cell k, HBV.out, endV, List.getElem?_toArray, List.getElem?_map, hE]
    rfl
  have HQ1 : Hid (W.cell? ⟨w.heap.size + 1, k, none⟩ = some (.int .i64 E)) := q1
  have HSO : Hid (∀ o, oddL[k]? = some o → S = bs o) := fun o' h => by rw [ho] at h; cases h; exact hS
  have HE : Hid (oddE[k]? = some E ∧ k < 10) := ⟨hE, hk⟩
  have s1 : S.size ≤ 200 := by rw [hS, bs_size]; have := odd_len k hk o ho; omega
  have i1 : (k : Int) < 10 := by omega
  have i2 : (0 : Int) ≤ (k : Int) := by omega
  clear ho hE hS q1 HO HB HAV HBV hk
  go_wp2_with fail
  obtain ⟨W1, hW1⟩ : ∃ W1, W1 = W.alloc (.cells #[.string ⟨#[108, 105, 110, 101]⟩] 9) := ⟨_, rfl⟩
  have HB1 : Hid (Below W.heap.size W W1 ∧ TxsA W1 (.slice (some ⟨W.heap.size, 0, none⟩) 1 1) [⟨#[108, 105, 110, 101]⟩]) := by
    refine ⟨by rw [hW1]; exact (Below.refl _ _).alloc (Nat.le_refl _) _, some ⟨W.heap.size, 0, none⟩, 1, rfl, by unfold maxLen; simp, fun _ => ⟨W.heap.size, 0, rfl, by rw [hW1]; simp, fun i hi => ?_⟩⟩
    obtain rfl : i = 0 := by simp at hi; omega
    refine ⟨[.string ⟨#[108, 105, 110, 101]⟩], rfl, fun j hj => ?_, _, rfl, rfl, by decide⟩
    obtain rfl : j = 0 := by omega
    rw [hW1]
    simp [go_sem]
  rw [← hW1]
  clear hW1 q0 i1 i2 s1
  have HLW1 : Hid (Below w.heap.size w W1) := bl_trans HA.out HB1.out.1
  refine Calls.mono (out_end HE.out.2 HSO.out HE.out.1 HB1.out.2 (HK.out.stays HLW1.out)) ?_
  rintro e w2 ⟨a8, n8, cap8, rfl, hb2, hx2⟩
  have HB2 : Hid (Below w.heap.size w w2 ∧ Below W.heap.size W w2) := ⟨bl_trans HLW1.out hb2, bl_trans HB1.out.1 hb2⟩
  have HX2 : Hid (TxsA w2 (.slice a8 n8 cap8) [⟨#[115, 111]⟩]) := hx2
  have HRD := hid (readOk (s := bs goneL) (l := goneP) (w := w2) (by rw [bs_list]; exact gone_read) (by rw [bs_size]; decide) (HK.out.stays HB2.out.1))
  clear hb2 hx2 HB1 HLW1 HSO
  go_wp2_with fail
  refine Calls.mono HRD.out ?_
  rintro e w3 ⟨a, cap, rfl, hb3, hp3⟩
  obtain ⟨len, hlen⟩ : ∃ len, len = goneP.length := ⟨_, rfl⟩
  rw [← hlen] at hp3 ⊢
  have HP3 : Hid (PrgA w3 (.slice a len cap) goneP) := hp3
  have HB3 : Hid (Below w.heap.size w w3 ∧ Below W.heap.size W w3 ∧ Below w2.heap.size w2 w3) := ⟨bl_trans HB2.out.1 hb3, bl_trans HB2.out.2 hb3, hb3⟩
  clear hb3 hp3 hlen HRD
  have HRN : Hid (∀ W', Below w3.heap.size w3 W' → _) := fun W' hW => runOk (fuel := 10) (PrgA.stays HP3.out hW) (nilTx W') ((HK.out.stays HB3.out.1).stays hW) gone_ck (by kernel_rfl) (by decide) (by decide)
  go_wp2_with fail
  have HA3 : Hid (Below w3.heap.size w3 (w3.alloc (.cells #[.slice a len cap] 29))) := (Below.refl _ _).alloc (Nat.le_refl _) _
  refine Calls.mono (HRN.out _ HA3.out) ?_
  rintro e w4 ⟨a4, n4, cap4, rfl, hn4, hb4, hl4, -⟩
  obtain ⟨en, hen⟩ : ∃ en, en = (endOf (finishM [] 6000 goneP [] (startM (Int.toNat 10)))).1 := ⟨_, rfl⟩
  have hen5 : en = 5 := by rw [hen]; exact (by kernel_rfl : (endOf (finishM [] 6000 goneP [] (startM 10))).1 = 5)
  obtain ⟨us, hus⟩ : ∃ us : Int, us = 10 - ↑(endOf (finishM [] 6000 goneP [] (startM (Int.toNat 10)))).2.2 := ⟨_, rfl⟩
  rw [← hen, ← hus, hen5]
  have HB4 : Hid (Below w.heap.size w w4 ∧ Below W.heap.size W w4 ∧ Below w2.heap.size w2 w4) := ⟨bl_trans (bl_trans HB3.out.1 HA3.out) hb4, bl_trans (bl_trans HB3.out.2.1 HA3.out) hb4, bl_trans (bl_trans HB3.out.2.2 HA3.out) hb4⟩
  clear hn4 hb4 hl4 HRN HP3 HB3 HA3 hen hus hen5 HB2
  have i1 : (k : Int) < 10 := by have := HE.out.2; omega
  have i2 : (0 : Int) ≤ (k : Int) := by omega
  have q1 : w4.cell? ⟨w.heap.size + 1, k, none⟩ = some (.int .i64 E) := (HB4.out.2.1.cell (p := ⟨w.heap.size + 1, k, none⟩) HSW.out).trans HQ1.out
  have hlt : w.heap.size + 1 < w4.heap.size := Nat.lt_of_lt_of_le HSW.out HB4.out.2.1.size
  have hne : ¬ w.heap.size + 1 = w4.heap.size := by omega
  go_wp2_with fail
  obtain ⟨W5, hW5⟩ : ∃ W5, W5 = (w4.alloc (.cells #[.slice a4 n4 cap4, .int .i64 5, .int .i64 us] 34)).alloc (.cells #[.string ⟨#[115, 111]⟩] 9) := ⟨_, rfl⟩
  have HW5 : Hid (Below w4.heap.size w4 W5 ∧ TxsA W5 (.slice (some ⟨w4.heap.size + 1, 0, none⟩) 1 1) [⟨#[115, 111]⟩] ∧ W5.cell? ⟨w4.heap.size, 1, none⟩ = some (.int .i64 5) ∧ w4.heap.size < W5.heap.size) := by
    refine ⟨by rw [hW5]; exact ((Below.refl _ _).alloc (Nat.le_refl _) _).alloc (by simp) _, ⟨some ⟨w4.heap.size + 1, 0, none⟩, 1, rfl, by unfold maxLen; simp, fun _ => ⟨w4.heap.size + 1, 0, rfl, by rw [hW5]; simp, fun i hi => ?_⟩⟩, by rw [hW5]; simp [go_sem], by rw [hW5]; simp; omega⟩
    obtain rfl : i = 0 := by simp at hi; omega
    refine ⟨[.string ⟨#[115, 111]⟩], rfl, fun j hj => ?_, _, rfl, rfl, by decide⟩
    obtain rfl : j = 0 := by omega
    rw [hW5]
    simp [go_sem]
  rw [← hW5]
  clear hW5 q1 hlt hne
  have HEQ := hid (equal_c W5.heap.size W5.heap.size _ _ _ _ W5 (TxsA.stays (TxsA.stays HX2.out HB4.out.2.2) HW5.out.1) HW5.out.2.1 (Nat.le_refl _) (Nat.le_refl _))
  rw [decide_eq_true rfl] at HEQ
  refine Calls.mono HEQ.out ?_
  rintro e w6 ⟨rfl, hb6⟩
  have HB6 : Hid (Below w.heap.size w w6) := bl_trans (bl_trans HB4.out.1 HW5.out.1) hb6
  have c1 : w6.cell? ⟨w4.heap.size, 1, none⟩ = some (.int .i64 5) := (hb6.cell (p := ⟨w4.heap.size, 1, none⟩) HW5.out.2.2.2).trans HW5.out.2.2.1
  clear hb6 HEQ HW5 HX2 HB4
  go_wp2_with fail
  go_ret
  exact ⟨rfl, HB6.out⟩
end Go.Proofs.YtffnilcihneniabGreatDoor.endsTold
