/-
  Contract of firstPiece: what a source begins with.
-/
import Derived.Test.YtcmipgonogbolaaGreatDoorCutC
import Derived.Test.YtcmipgonogbolaaGreatDoorWordsP
import Derived.Shelf.Abstract
namespace Go.Proofs.YtcmipgonogbolaaGreatDoor
open Go.ChangeShapes Go.WideShapes Go.ChangeAt Go.RowKit Go.Joins Go.Maps
set_option linter.unusedVariables false

def signsA : Array Value := (signsL.map fun t => Value.string ⟨t.toArray⟩).toArray
def SignsAt (w : World) : Prop := RowAt w 1 signsA

def pieceV (p : Pc × Nat) : Value := .tuple #[.agg #[.int .i64 p.1.k, .string (bs p.1.s), .int .i64 p.1.n], .int .i64 p.2]

theorem cut_head (s : ByteArray) (p : UInt8 → Bool) : s.extract 0 (s.toList.takeWhile p).length = bs (s.toList.takeWhile p) := by
  apply ByteArray.ext
  apply Array.ext'
  have h1 : (s.extract 0 (s.toList.takeWhile p).length).data.toList = s.toList.take (s.toList.takeWhile p).length := by
    rw [ByteArray.toList_eq]
    simp [ByteArray.data_extract]
  rw [h1]
  have h2 : s.toList.take (s.toList.takeWhile p).length = s.toList.takeWhile p := (List.prefix_iff_eq_take.1 (List.takeWhile_prefix p)).symm
  rw [h2]
  simp [bs]

theorem take_short (s : ByteArray) (p : UInt8 → Bool) : (s.toList.takeWhile p).length ≤ s.size := by
  rw [← bytes_len]; exact (List.takeWhile_prefix p).length_le
theorem enterL : ∀ args w, (callFunc 56 args).run Tryz.prog w = .ok (.enter 56 args) w := Go.Proofs.enters_of Tryz.func56 (by kernel_rfl) rfl
theorem enterD : ∀ args w, (callFunc 58 args).run Tryz.prog w = .ok (.enter 58 args) w := Go.Proofs.enters_of Tryz.func58 (by kernel_rfl) rfl

theorem sign_none {l : List UInt8} (h : ∀ q, q < signsL.length → (signsL.getD q []).isPrefixOf l = false) : signsL.find? (fun t => t.isPrefixOf l) = none := by
  rw [List.find?_eq_none]
  intro t ht
  obtain ⟨q, hq, e⟩ := List.getElem_of_mem ht
  have := h q hq
  rw [List.getD_eq_getElem?_getD, List.getElem?_eq_getElem hq, Option.getD_some, e] at this
  simp [this]
theorem sign_some {l : List UInt8} {k : Nat} (hk : k < signsL.length) (h : ∀ q, q < k → (signsL.getD q []).isPrefixOf l = false) (h2 : (signsL.getD k []).isPrefixOf l = true) : signsL.find? (fun t => t.isPrefixOf l) = some (signsL.getD k []) := by
  rw [List.find?_eq_some_iff_getElem]
  refine ⟨h2, k, hk, ?_, fun j hj => ?_⟩
  · rw [List.getD_eq_getElem?_getD, List.getElem?_eq_getElem hk, Option.getD_some]
  · have := h j hj
    rw [List.getD_eq_getElem?_getD, List.getElem?_eq_getElem (by omega), Option.getD_some] at this
    simp [this]

set_option maxHeartbeats 4000000 in
set_option maxRecDepth 100000 in
theorem firstPiece_c (s : ByteArray) (w : World) (h0 : 0 < s.size) (h1 : s.size ≤ 6000) (hS : SignsAt w) (hE : ErrA w) :
    Calls Tryz.prog 37 #[.string s] w fun e w' => EndN (pieceR s.toList) pieceV e ∧ Below w.heap.size w w' := by
  obtain ⟨PR, hPR⟩ : ∃ PR, PR = pieceR s.toList := ⟨_, rfl⟩
  rw [← hPR]
  have HPR : Hid (PR = pieceR s.toList) := hPR
  obtain ⟨W, hW⟩ : ∃ W, W = w.alloc (.cells #[.int .i64 0, .string ⟨#[]⟩, .int .i64 0] 84) := ⟨_, rfl⟩
  have HA : Hid (Below w.heap.size w W) := by rw [hW]; exact (Below.refl _ _).alloc (Nat.le_refl _) _
  have HX : Hid (Bx w.heap.size [.int .i64 0, .string ⟨#[]⟩, .int .i64 0] 84 W) := by rw [hW]; exact Bx.new w _ _
  have HE : Hid (ErrA W) := hE.stays HA.out
  have HS : Hid (SignsAt W) := hS.stays (HA.out.block _ hS.lt)
  have HWW : Hid (W = _) := hW
  have HL : Hid _ := leading_c 56 letterB s W h1 isLetter_c enterL
  have HD : Hid _ := leading_c 58 digitB s W h1 isDigit_c enterD
  have hkl := take_short s letterB
  have hkd := take_short s digitB
  have hcl := cut_head s letterB
  have hcd := cut_head s digitB
  clear hPR hW hS hE
  obtain ⟨kl, hl⟩ : ∃ k, k = (s.toList.takeWhile letterB).length := ⟨_, rfl⟩
  obtain ⟨kd, hd⟩ : ∃ k, k = (s.toList.takeWhile digitB).length := ⟨_, rfl⟩
  rw [← hl] at HL hkl hcl
  rw [← hd] at HD hkd hcd
  by_cases c1 : 0 < kl
  · have HP : Hid (PR = .ok (⟨1, s.toList.takeWhile letterB, 0⟩, kl)) := by unfold Hid; rw [HPR.out, pieceR, if_pos (by rw [← hl]; exact c1), ← hl]
    have i1 : (0 : Int) < (kl : Int) := by omega
    have i2 : (0 : Int) ≤ (kl : Int) := by omega
    have i3 : (kl : Int) ≤ (s.size : Int) := by omega
    have HCL : Hid (s.extract 0 kl = bs (s.toList.takeWhile letterB)) := hcl
    obtain ⟨x, hx⟩ : ∃ x, x = s.extract 0 kl := ⟨_, rfl⟩
    have HXX : Hid (x = s.extract 0 kl) := hx
    have HC : Hid _ := clone_c x W (by rw [hx, hcl, bs_size, ← hl]; omega)
    clear hl hd HD hkd hcd hcl hx
    go_enter Tryz.func37, Tryz.ntmps37
    go_wp2_with fail
    rw [← HWW.out]
    clear HWW
    refine Calls.mono HL.out ?_
    rintro e w1 ⟨rfl, hw1⟩
    rw [hw1]
    clear hw1 w1
    go_wp2_with fail
    rw [← HXX.out]
    refine Calls.mono HC.out ?_
    rintro e w2 ⟨rfl, hb⟩
    have HBX : Hid (Bx w.heap.size [.int .i64 0, .string ⟨#[]⟩, .int .i64 0] 84 w2 ∧ Below w.heap.size w w2) := ⟨HX.out.below hb, bl_trans HA.out hb⟩
    have g0 := HBX.out.1.cell 0
    have g1 := HBX.out.1.cell 1
    have g2 := HBX.out.1.cell 2
    have z0 := HBX.out.1.thaw 0
    have z1 := HBX.out.1.thaw 1
    have z2 := HBX.out.1.thaw 2
    simp only [List.getElem?_cons_zero, List.getElem?_cons_succ] at g0 g1 g2
    clear hb HC
    go_wp2_with fail
    refine bodyPost_ret (v := .tuple #[.agg #[.int .i64 1, .string x, .int .i64 0], .int .i64 kl]) (by simp [results, Tryz.results37, go_sem, g0, g1, g2]) rfl ?_
    exact ⟨EndN.ok HP.out (by rw [HXX.out, HCL.out]; rfl), ((HBX.out.2.setCell (p := ⟨w.heap.size, 0, none⟩) (Nat.le_refl _) _).setCell (p := ⟨w.heap.size, 1, none⟩) (Nat.le_refl _) _).setCell (p := ⟨w.heap.size, 2, none⟩) (Nat.le_refl _) _⟩
  have j1 : ¬ (0 : Int) < (kl : Int) := by omega
  have HNL : Hid (¬ 0 < (s.toList.takeWhile letterB).length) := by rw [← hl]; exact c1
  by_cases c2 : 0 < kd
  · have hds : ∀ c ∈ (s.extract 0 kd).toList, digitB c = true := by
      rw [hcd, bs_list]
      intro c hc
      exact List.all_eq_true.1 List.all_takeWhile c hc
    have hxt : (s.extract 0 kd).toList = s.toList.takeWhile digitB := by rw [hcd, bs_list]
    have hxs : (s.extract 0 kd).size = kd := by rw [hcd, bs_size, ← hd]
    have HNR : Hid (PR = match numR (s.toList.takeWhile digitB) with
        | .error e => .error e
        | .ok n => .ok (⟨2, [], n⟩, kd)) := by unfold Hid; rw [HPR.out, pieceR, if_neg HNL.out, if_pos (by rw [← hd]; exact c2), ← hd]; rfl
    have i1 : (0 : Int) < (kd : Int) := by omega
    have i2 : (0 : Int) ≤ (kd : Int) := by omega
    have i3 : (kd : Int) ≤ (s.size : Int) := by omega
    have hnc := numberOf_c (s.extract 0 kd) W (by rw [hxs]; exact c2) (by rw [hxs]; omega) hds HE.out
    rw [hxt] at hnc
    have HC : Hid _ := hnc
    clear hl hd hkl hcl hds hxt hxs hnc hcd c1
    cases hN : numR (s.toList.takeWhile digitB) with
    | error er =>
      rw [hN] at HC HNR
      have HP : Hid (PR = .error er) := HNR.out
      clear hN
      go_enter Tryz.func37, Tryz.ntmps37
      go_wp2_with fail
      rw [← HWW.out]
      clear HWW
      refine Calls.mono HL.out ?_
      rintro e w1 ⟨rfl, hw1⟩
      rw [hw1]
      clear hw1 w1
      go_wp2_with fail
      refine Calls.mono HD.out ?_
      rintro e w1 ⟨rfl, hw1⟩
      rw [hw1]
      clear hw1 w1
      go_wp2_with fail
      refine Calls.mono HC.out ?_
      rintro e w2 ⟨hr, hb⟩
      obtain rfl : e = .panicked [errP er] := hr
      have HB : Hid (Below w.heap.size w w2) := bl_trans HA.out hb
      clear hb HC
      go_wp2_with fail
      exact ⟨rfl, EndN.err HP.out, HB.out⟩
    | ok n =>
      rw [hN] at HC HNR
      have HP : Hid (PR = .ok (⟨2, [], n⟩, kd)) := HNR.out
      clear hN
      go_enter Tryz.func37, Tryz.ntmps37
      go_wp2_with fail
      rw [← HWW.out]
      clear HWW
      refine Calls.mono HL.out ?_
      rintro e w1 ⟨rfl, hw1⟩
      rw [hw1]
      clear hw1 w1
      go_wp2_with fail
      refine Calls.mono HD.out ?_
      rintro e w1 ⟨rfl, hw1⟩
      rw [hw1]
      clear hw1 w1
      go_wp2_with fail
      refine Calls.mono HC.out ?_
      rintro e w2 ⟨hr, hb⟩
      obtain rfl : e = .returned (.int .i64 n) := hr
      have HBX : Hid (Bx w.heap.size [.int .i64 0, .string ⟨#[]⟩, .int .i64 0] 84 w2 ∧ Below w.heap.size w w2) := ⟨HX.out.below hb, bl_trans HA.out hb⟩
      have g0 := HBX.out.1.cell 0
      have g1 := HBX.out.1.cell 1
      have g2 := HBX.out.1.cell 2
      have z0 := HBX.out.1.thaw 0
      have z1 := HBX.out.1.thaw 1
      have z2 := HBX.out.1.thaw 2
      simp only [List.getElem?_cons_zero, List.getElem?_cons_succ] at g0 g1 g2
      clear hb HC
      go_wp2_with fail
      refine bodyPost_ret (v := .tuple #[.agg #[.int .i64 2, .string ⟨#[]⟩, .int .i64 n], .int .i64 kd]) (by simp [results, Tryz.results37, go_sem, g0, g1, g2]) rfl ?_
      exact ⟨EndN.ok HP.out (rfl), ((HBX.out.2.setCell (p := ⟨w.heap.size, 0, none⟩) (Nat.le_refl _) _).setCell (p := ⟨w.heap.size, 1, none⟩) (Nat.le_refl _) _).setCell (p := ⟨w.heap.size, 2, none⟩) (Nat.le_refl _) _⟩
  have j2 : ¬ (0 : Int) < (kd : Int) := by omega
  have HND : Hid (¬ 0 < (s.toList.takeWhile digitB).length) := by rw [← hd]; exact c2
  have hs0 : s.toList.head? = some s[0] := by
    have := bytes_at s 0 h0
    rw [List.drop_zero] at this
    rw [this]; rfl
  clear hl hd hkl hcl hcd hkd c1 c2
  by_cases c3 : s[0].toNat = 34
  · have b3 : ((s[0].toNat : Int) == 34) = true := byte_t c3
    have HNR : Hid (PR = match txtR s.toList.tail [] 1 with
        | .error e => .error e
        | .ok (t, i) => .ok (⟨3, t, 0⟩, i)) := by
      unfold Hid; rw [HPR.out, pieceR, if_neg HNL.out, if_neg HND.out, if_pos (by rw [hs0]; congr 1; exact UInt8.toNat_inj.1 c3)]; rfl
    have HC : Hid _ := firstText_c s W h1 h0
    clear hs0 c3
    cases hN : txtR s.toList.tail [] 1 with
    | error er =>
      rw [hN] at HC HNR
      have HP : Hid (PR = .error er) := HNR.out
      clear hN
      go_enter Tryz.func37, Tryz.ntmps37
      go_wp2_with fail
      rw [← HWW.out]
      clear HWW
      refine Calls.mono HL.out ?_
      rintro e w1 ⟨rfl, hw1⟩
      rw [hw1]
      clear hw1 w1
      go_wp2_with fail
      refine Calls.mono HD.out ?_
      rintro e w1 ⟨rfl, hw1⟩
      rw [hw1]
      clear hw1 w1
      go_wp2_with fail
      refine Calls.mono HC.out ?_
      rintro e w2 ⟨hr, hb⟩
      obtain rfl : e = .panicked [errP er] := hr
      have HB : Hid (Below w.heap.size w w2) := bl_trans HA.out hb
      clear hb HC
      go_wp2_with fail
      exact ⟨rfl, EndN.err HP.out, HB.out⟩
    | ok q =>
      obtain ⟨t, i⟩ := q
      rw [hN] at HC HNR
      have HP : Hid (PR = .ok (⟨3, t, 0⟩, i)) := HNR.out
      clear hN
      go_enter Tryz.func37, Tryz.ntmps37
      go_wp2_with fail
      rw [← HWW.out]
      clear HWW
      refine Calls.mono HL.out ?_
      rintro e w1 ⟨rfl, hw1⟩
      rw [hw1]
      clear hw1 w1
      go_wp2_with fail
      refine Calls.mono HD.out ?_
      rintro e w1 ⟨rfl, hw1⟩
      rw [hw1]
      clear hw1 w1
      go_wp2_with fail
      refine Calls.mono HC.out ?_
      rintro e w2 ⟨hr, hb⟩
      obtain rfl : e = .returned (.tuple #[.agg #[.int .i64 3, .string (bs t), .int .i64 0], .int .i64 i]) := hr
      have HBX : Hid (Bx w.heap.size [.int .i64 0, .string ⟨#[]⟩, .int .i64 0] 84 w2 ∧ Below w.heap.size w w2) := ⟨HX.out.below hb, bl_trans HA.out hb⟩
      have g0 := HBX.out.1.cell 0
      have g1 := HBX.out.1.cell 1
      have g2 := HBX.out.1.cell 2
      have z0 := HBX.out.1.thaw 0
      have z1 := HBX.out.1.thaw 1
      have z2 := HBX.out.1.thaw 2
      simp only [List.getElem?_cons_zero, List.getElem?_cons_succ] at g0 g1 g2
      clear hb HC
      go_wp2_with fail
      refine bodyPost_ret (v := .tuple #[.agg #[.int .i64 3, .string (bs t), .int .i64 0], .int .i64 i]) (by simp [results, Tryz.results37, go_sem, g0, g1, g2]) rfl ?_
      exact ⟨EndN.ok HP.out (rfl), ((HBX.out.2.setCell (p := ⟨w.heap.size, 0, none⟩) (Nat.le_refl _) _).setCell (p := ⟨w.heap.size, 1, none⟩) (Nat.le_refl _) _).setCell (p := ⟨w.heap.size, 2, none⟩) (Nat.le_refl _) _⟩
  have b3 : ((s[0].toNat : Int) == 34) = false := byte_f c3
  have HNR : Hid (PR = match signsL.find? (fun t => t.isPrefixOf s.toList) with
      | some t => .ok (⟨4, t, 0⟩, t.length)
      | none => .error 4) := by
    unfold Hid; rw [HPR.out, pieceR, if_neg HNL.out, if_neg HND.out, if_neg (by rw [hs0]; intro h; exact c3 (by rw [Option.some.inj h]; rfl))]; rfl
  clear hs0 c3
  have hr : W.rangeAt 1 0 signsA.toList := fun j v hv => by rw [Nat.zero_add, HS.out.cell j]; simpa using hv
  obtain ⟨A, hA⟩ : ∃ A, A = signsA.toList := ⟨_, rfl⟩
  rw [← hA] at hr
  have hn : (Tryz.prog.info? 106).map (·.size) = some A.length := by rw [hA]; kernel_rfl
  have HR : Hid (W.rangeAt 1 0 A) := hr
  have HN : Hid ((Tryz.prog.info? 106).map (·.size) = some A.length) := hn
  have HAA : Hid (A = signsA.toList) := hA
  obtain ⟨g0, g1, g2⟩ : W.cell? ⟨w.heap.size, 0, none⟩ = some (.int .i64 0) ∧ W.cell? ⟨w.heap.size, 1, none⟩ = some (.string ⟨#[]⟩) ∧ W.cell? ⟨w.heap.size, 2, none⟩ = some (.int .i64 0) := ⟨HX.out.cell 0, HX.out.cell 1, HX.out.cell 2⟩
  have z0 := HX.out.thaw 0
  have z1 := HX.out.thaw 1
  have z2 := HX.out.thaw 2
  clear hA hr hn
  go_enter Tryz.func37, Tryz.ntmps37
  go_wp2_with fail
  rw [← HWW.out]
  clear HWW
  refine Calls.mono HL.out ?_
  rintro e w1 ⟨rfl, hw1⟩
  rw [hw1]
  clear hw1 w1
  go_wp2_with fail
  refine Calls.mono HD.out ?_
  rintro e w1 ⟨rfl, hw1⟩
  rw [hw1]
  clear hw1 w1
  go_wp2_with (refine wpList_load_mid rfl 106 _ rfl 1 0 rfl A _ HR.out Tryz.underlying106 rfl HN.out ?_)
  go_loop [36] (fun v => ∃ k : Nat, k ≤ 27 ∧ v = .int .i64 k ∧ Hid (∀ q, q < k → (signsL.getD q []).isPrefixOf s.toList = false)) (fun v => 27 - (intOf v).toNat)
  case atStart => exact ⟨0, by omega, rfl, fun q hq => absurd hq (Nat.not_lt_zero _)⟩
  case round =>
    obtain ⟨k, hk, rfl, HQ⟩ := hrel
    by_cases hk2 : k < 27
    · have i1 : (k : Int) < 27 := by omega
      obtain ⟨x, hx⟩ : ∃ x : ByteArray, x = bs (signsL.getD k []) := ⟨_, rfl⟩
      have hix := run_index_one (P := Tryz.prog) (cs := A.toArray) (v := .string x) W Tryz.underlying106 Tryz.underlying9 rfl (by kernel_rfl) hk2 (by
        rw [HAA.out, hx]
        simp only [signsA, List.getElem?_toArray, List.getElem?_map]
        rw [List.getElem?_eq_getElem (by show k < signsL.length; exact hk2)]
        simp [List.getD, List.getElem?_eq_getElem (show k < signsL.length from hk2)]
        rfl)
      have hxp : Lib.hasPrefix s.data.toList x.data.toList = (signsL.getD k []).isPrefixOf s.toList := by
        rw [hx, Lib.hasPrefix, ByteArray.toList_eq]
        simp [bs]
      have hcp := Tryz.strings_HasPrefix s x
      rw [hxp] at hcp
      have HC : Hid _ := hcp
      have HXX : Hid (x = bs (signsL.getD k [])) := hx
      have hxz : x.size ≤ 2 := by
        rw [hx, bs_size]
        have : ∀ k, k < 27 → (signsL.getD k []).length ≤ 2 := by decide
        exact this k hk2
      clear hxp hcp hx
      cases hb : (signsL.getD k []).isPrefixOf s.toList with
      | true =>
        rw [hb] at HC
        have HP : Hid (PR = .ok (⟨4, signsL.getD k [], 0⟩, (signsL.getD k []).length)) := by unfold Hid; rw [HNR.out, sign_some hk2 HQ.out hb]
        have HZ : Hid (x.size = (signsL.getD k []).length) := by unfold Hid; rw [HXX.out, bs_size]
        clear hb HQ
        go_wp2_with (refine (HC.out _).mono ?_; rintro e w1 ⟨rfl, rfl⟩)
        refine bodyPost_ret (v := .tuple #[.agg #[.int .i64 4, .string x, .int .i64 0], .int .i64 x.size]) (by simp [results, Tryz.results37, go_sem, g0, g1, g2]) rfl ?_
        exact ⟨EndN.ok HP.out (by rw [HXX.out, bs_size]; rfl), ((HA.out.setCell (p := ⟨w.heap.size, 0, none⟩) (Nat.le_refl _) _).setCell (p := ⟨w.heap.size, 1, none⟩) (Nat.le_refl _) _).setCell (p := ⟨w.heap.size, 2, none⟩) (Nat.le_refl _) _⟩
      | false =>
        rw [hb] at HC
        have R2 : Hid (∀ q, q < k + 1 → (signsL.getD q []).isPrefixOf s.toList = false) := fun q hq => by
          by_cases e : q = k
          · subst e; exact hb
          · exact HQ.out q (by omega)
        clear hb HQ
        go_wp2_with (refine (HC.out _).mono ?_; rintro e w1 ⟨rfl, rfl⟩)
        go_round
        case rel => exact ⟨k + 1, by omega, by go_num, R2⟩
        case measure => simp [intOf]; omega
    · have i1 : ¬ (k : Int) < 27 := by omega
      have HP : Hid (PR = .error 4) := by unfold Hid; rw [HNR.out, sign_none fun q hq => HQ.out q (by have : q < 27 := hq; omega)]
      clear HQ
      go_wp2_with fail
      exact ⟨rfl, EndN.err HP.out, HA.out⟩
end Go.Proofs.YtcmipgonogbolaaGreatDoor
