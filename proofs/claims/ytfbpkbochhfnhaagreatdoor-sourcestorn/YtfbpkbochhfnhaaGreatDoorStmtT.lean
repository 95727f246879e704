/-
  Contract of the checker's stmtTexts.
-/
import Derived.Test.YtfbpkbochhfnhaaGreatDoorExpr
namespace Go.Proofs.YtfbpkbochhfnhaaGreatDoor
open Go.ChangeShapes Go.WideShapes Go.ChangeAt Go.RowKit Go.Joins
set_option linter.unusedVariables false

set_option maxHeartbeats 8000000 in
theorem stmtTexts_c (B bc bm : Nat) (when : Int) (k : Int) (s t : ByteArray) (v1 v2 v3 : Value) (st : St) (w : World) (h : Chk bc bm when w st 2) (hT : Tb B w) (hB1 : B ≤ bc) (hB2 : B ≤ bm) (hs : s.size ≤ maxLen) (ht : t.size ≤ maxLen) :
    Calls Tryz.prog 125 #[.pointer (some ⟨bc, 0, none⟩), .agg #[.int .i64 k, .string s, .string t, v1, v2, v3]] w (Out bc bm when 0 w (textsS when k s t st)) := by
  have H : Hid (Chk bc bm when w st 2) := h
  have HT : Hid (Tb B w) := hT
  have HS : Hid (s.size ≤ maxLen) := hs
  have HST : Hid (t.size ≤ maxLen) := ht
  have HBL : Hid (B ≤ w.heap.size) := by have := h.lt; unfold Hid; omega
  have HA : Hid (∀ o, Below B w (w.alloc o)) := fun o => (Below.refl _ _).alloc HBL.out o
  have HB : Hid (∀ o, But bc bm w (w.alloc o)) := fun o => (But.refl _ _ _).alloc o
  have g1 : w.heap.size ≠ bc := by have := h.lt; omega
  have g2 : w.heap.size ≠ bm := by have := h.lt; omega
  unfold maxLen at hs ht
  clear h hT
  by_cases e1 : k = 1
  · skip
    subst e1
    have HS1 : Hid (textsS1 1 s st = nameR s 1 st) := by simp [Hid, textsS1]
    have HR0 : Hid (RowAt (w.alloc (.cells #[.int .i64 1, .string s, .string t, v1, v2, v3] 111)) w.heap.size #[.int .i64 1, .string s, .string t, v1, v2, v3]) := RowAt.new w _ _
    go_enter Tryz.func125, Tryz.ntmps125
    go_wp2_with fail
    refine (nameIs_c B bc bm 1 when s 1 st _ (H.out.alloc _) (HT.out.below (HA.out _)) HS.out (.inl rfl)).mono ?_
    rintro e w1 ⟨hb, hr⟩
    have HO : Hid (But bc bm w w1) := (HB.out _).trans hb
    have HR : Hid (RowAt w1 w.heap.size #[.int .i64 1, .string s, .string t, v1, v2, v3]) := hb.box HR0.out g1 g2
    have HT1 : Hid (Tb B w1) := HT.out.below (HO.out.below HBL.out hB1 hB2)
    clear hb HR0
    cases hR : nameR s 1 st with
    | error er =>
      rw [hR] at hr
      subst hr
      have HN : Hid (textsS when 1 s t st = .error er) := by simp only [Hid, textsS]; rw [HS1.out, hR]
      clear hR
      go_wp2_with fail
      refine ⟨rfl, ?_⟩
      rw [HN.out]
      exact out_error HO.out
    | ok st1 =>
      rw [hR] at hr
      obtain ⟨rfl, hc1⟩ := hr
      have HC : Hid (Chk bc bm when w1 st1 1) := hc1
      have HP : Hid (textsS when 1 s t st = textsS2 1 t st1) := by simp only [Hid, textsS]; rw [HS1.out, hR]; simp
      clear hR hc1
      have q0 := HR.out.cell 0
      have q1 := HR.out.cell 1
      have q2 := HR.out.cell 2
      simp only [List.getElem?_toArray, List.getElem?_cons_zero, List.getElem?_cons_succ] at q0 q1 q2
      go_wp2_with fail
      refine (refuse_f 7 _).mono ?_
      rintro e w8 ⟨rfl, rfl⟩
      by_cases gt : 0 < t.size
      · have HN : Hid (textsS when 1 s t st = .error 4) := by rw [HP.out]; simp [Hid, textsS2, gt]
        have he2 := ise_f gt
        go_wp2_with fail
        refine (refuse_t 4 _).mono ?_
        rintro e w9 ⟨rfl, rfl⟩
        go_wp2_with fail
        refine ⟨rfl, ?_⟩
        rw [HN.out]
        exact out_error HO.out
      · have HN : Hid (textsS when 1 s t st = .ok st1) := by rw [HP.out]; simp [Hid, textsS2, gt]
        have he2 := ise_t gt
        go_wp2_with fail
        refine (refuse_f 4 _).mono ?_
        rintro e w9 ⟨rfl, rfl⟩
        go_wp2_with fail
        go_end0
        rw [HN.out]
        exact out_ok HO.out (HC.out.less (Nat.zero_le _))
  by_cases e7 : k = 7
  · skip
    subst e7
    have HS1 : Hid (textsS1 7 s st = nameR s 1 st) := by simp [Hid, textsS1]
    have HR0 : Hid (RowAt (w.alloc (.cells #[.int .i64 7, .string s, .string t, v1, v2, v3] 111)) w.heap.size #[.int .i64 7, .string s, .string t, v1, v2, v3]) := RowAt.new w _ _
    go_enter Tryz.func125, Tryz.ntmps125
    go_wp2_with fail
    refine (nameIs_c B bc bm 1 when s 1 st _ (H.out.alloc _) (HT.out.below (HA.out _)) HS.out (.inl rfl)).mono ?_
    rintro e w1 ⟨hb, hr⟩
    have HO : Hid (But bc bm w w1) := (HB.out _).trans hb
    have HR : Hid (RowAt w1 w.heap.size #[.int .i64 7, .string s, .string t, v1, v2, v3]) := hb.box HR0.out g1 g2
    have HT1 : Hid (Tb B w1) := HT.out.below (HO.out.below HBL.out hB1 hB2)
    clear hb HR0
    cases hR : nameR s 1 st with
    | error er =>
      rw [hR] at hr
      subst hr
      have HN : Hid (textsS when 7 s t st = .error er) := by simp only [Hid, textsS]; rw [HS1.out, hR]
      clear hR
      go_wp2_with fail
      refine ⟨rfl, ?_⟩
      rw [HN.out]
      exact out_error HO.out
    | ok st1 =>
      rw [hR] at hr
      obtain ⟨rfl, hc1⟩ := hr
      have HC : Hid (Chk bc bm when w1 st1 1) := hc1
      have HP : Hid (textsS when 7 s t st = textsS2 7 t st1) := by simp only [Hid, textsS]; rw [HS1.out, hR]; simp
      clear hR hc1
      have q0 := HR.out.cell 0
      have q1 := HR.out.cell 1
      have q2 := HR.out.cell 2
      simp only [List.getElem?_toArray, List.getElem?_cons_zero, List.getElem?_cons_succ] at q0 q1 q2
      go_wp2_with fail
      refine (refuse_f 7 _).mono ?_
      rintro e w8 ⟨rfl, rfl⟩
      go_wp2_with fail
      refine (nameIs_c B bc bm 0 when t 2 st1 _ HC.out HT1.out HST.out (.inr rfl)).mono ?_
      rintro e w2 ⟨hb2, hr2⟩
      have HO2 : Hid (But bc bm w w2) := HO.out.trans hb2
      clear hb2
      have HN2 : Hid (textsS when 7 s t st = nameR t 2 st1) := by rw [HP.out]; simp [Hid, textsS2]
      cases hR2 : nameR t 2 st1 with
      | ok st2 =>
        rw [hR2] at hr2
        obtain ⟨rfl, hc2⟩ := hr2
        have HC2 : Hid (Chk bc bm when w2 st2 0) := hc2
        have HN : Hid (textsS when 7 s t st = .ok st2) := HN2.out.trans hR2
        clear hc2 hR2
        go_wp2_with fail
        go_end0
        rw [HN.out]
        exact out_ok HO2.out HC2.out
      | error er =>
        rw [hR2] at hr2
        subst hr2
        have HN : Hid (textsS when 7 s t st = .error er) := HN2.out.trans hR2
        clear hR2
        go_wp2_with fail
        refine ⟨rfl, ?_⟩
        rw [HN.out]
        exact out_error HO2.out
  by_cases e2 : k = 2
  · skip
    subst e2
    have HS1 : Hid (textsS1 2 s st = nameR s 2 st) := by simp [Hid, textsS1]
    have HR0 : Hid (RowAt (w.alloc (.cells #[.int .i64 2, .string s, .string t, v1, v2, v3] 111)) w.heap.size #[.int .i64 2, .string s, .string t, v1, v2, v3]) := RowAt.new w _ _
    go_enter Tryz.func125, Tryz.ntmps125
    go_wp2_with fail
    refine (nameIs_c B bc bm 1 when s 2 st _ (H.out.alloc _) (HT.out.below (HA.out _)) HS.out (.inr rfl)).mono ?_
    rintro e w1 ⟨hb, hr⟩
    have HO : Hid (But bc bm w w1) := (HB.out _).trans hb
    have HR : Hid (RowAt w1 w.heap.size #[.int .i64 2, .string s, .string t, v1, v2, v3]) := hb.box HR0.out g1 g2
    have HT1 : Hid (Tb B w1) := HT.out.below (HO.out.below HBL.out hB1 hB2)
    clear hb HR0
    cases hR : nameR s 2 st with
    | error er =>
      rw [hR] at hr
      subst hr
      have HN : Hid (textsS when 2 s t st = .error er) := by simp only [Hid, textsS]; rw [HS1.out, hR]
      clear hR
      go_wp2_with fail
      refine ⟨rfl, ?_⟩
      rw [HN.out]
      exact out_error HO.out
    | ok st1 =>
      rw [hR] at hr
      obtain ⟨rfl, hc1⟩ := hr
      have HC : Hid (Chk bc bm when w1 st1 1) := hc1
      have HP : Hid (textsS when 2 s t st = textsS2 2 t st1) := by simp only [Hid, textsS]; rw [HS1.out, hR]; simp
      clear hR hc1
      have q0 := HR.out.cell 0
      have q1 := HR.out.cell 1
      have q2 := HR.out.cell 2
      simp only [List.getElem?_toArray, List.getElem?_cons_zero, List.getElem?_cons_succ] at q0 q1 q2
      go_wp2_with fail
      refine (refuse_f 7 _).mono ?_
      rintro e w8 ⟨rfl, rfl⟩
      by_cases gt : 0 < t.size
      · have HN : Hid (textsS when 2 s t st = .error 4) := by rw [HP.out]; simp [Hid, textsS2, gt]
        have he2 := ise_f gt
        go_wp2_with fail
        refine (refuse_t 4 _).mono ?_
        rintro e w9 ⟨rfl, rfl⟩
        go_wp2_with fail
        refine ⟨rfl, ?_⟩
        rw [HN.out]
        exact out_error HO.out
      · have HN : Hid (textsS when 2 s t st = .ok st1) := by rw [HP.out]; simp [Hid, textsS2, gt]
        have he2 := ise_t gt
        go_wp2_with fail
        refine (refuse_f 4 _).mono ?_
        rintro e w9 ⟨rfl, rfl⟩
        go_wp2_with fail
        go_end0
        rw [HN.out]
        exact out_ok HO.out (HC.out.less (Nat.zero_le _))
  by_cases e9 : k = 9
  · skip
    subst e9
    have HS1 : Hid (textsS1 9 s st = nameR s 2 st) := by simp [Hid, textsS1]
    have HR0 : Hid (RowAt (w.alloc (.cells #[.int .i64 9, .string s, .string t, v1, v2, v3] 111)) w.heap.size #[.int .i64 9, .string s, .string t, v1, v2, v3]) := RowAt.new w _ _
    go_enter Tryz.func125, Tryz.ntmps125
    go_wp2_with fail
    refine (nameIs_c B bc bm 1 when s 2 st _ (H.out.alloc _) (HT.out.below (HA.out _)) HS.out (.inr rfl)).mono ?_
    rintro e w1 ⟨hb, hr⟩
    have HO : Hid (But bc bm w w1) := (HB.out _).trans hb
    have HR : Hid (RowAt w1 w.heap.size #[.int .i64 9, .string s, .string t, v1, v2, v3]) := hb.box HR0.out g1 g2
    have HT1 : Hid (Tb B w1) := HT.out.below (HO.out.below HBL.out hB1 hB2)
    clear hb HR0
    cases hR : nameR s 2 st with
    | error er =>
      rw [hR] at hr
      subst hr
      have HN : Hid (textsS when 9 s t st = .error er) := by simp only [Hid, textsS]; rw [HS1.out, hR]
      clear hR
      go_wp2_with fail
      refine ⟨rfl, ?_⟩
      rw [HN.out]
      exact out_error HO.out
    | ok st1 =>
      rw [hR] at hr
      obtain ⟨rfl, hc1⟩ := hr
      have HC : Hid (Chk bc bm when w1 st1 1) := hc1
      have HP : Hid (textsS when 9 s t st = textsS2 9 t st1) := by simp only [Hid, textsS]; rw [HS1.out, hR]; simp
      clear hR hc1
      have q0 := HR.out.cell 0
      have q1 := HR.out.cell 1
      have q2 := HR.out.cell 2
      simp only [List.getElem?_toArray, List.getElem?_cons_zero, List.getElem?_cons_succ] at q0 q1 q2
      go_wp2_with fail
      refine (refuse_f 7 _).mono ?_
      rintro e w8 ⟨rfl, rfl⟩
      by_cases gt : 0 < t.size
      · have HN : Hid (textsS when 9 s t st = .error 4) := by rw [HP.out]; simp [Hid, textsS2, gt]
        have he2 := ise_f gt
        go_wp2_with fail
        refine (refuse_t 4 _).mono ?_
        rintro e w9 ⟨rfl, rfl⟩
        go_wp2_with fail
        refine ⟨rfl, ?_⟩
        rw [HN.out]
        exact out_error HO.out
      · have HN : Hid (textsS when 9 s t st = .ok st1) := by rw [HP.out]; simp [Hid, textsS2, gt]
        have he2 := ise_t gt
        go_wp2_with fail
        refine (refuse_f 4 _).mono ?_
        rintro e w9 ⟨rfl, rfl⟩
        go_wp2_with fail
        go_end0
        rw [HN.out]
        exact out_ok HO.out (HC.out.less (Nat.zero_le _))
  by_cases e10 : k = 10
  · skip
    subst e10
    have HS1 : Hid (textsS1 10 s st = nameR s 2 st) := by simp [Hid, textsS1]
    have HR0 : Hid (RowAt (w.alloc (.cells #[.int .i64 10, .string s, .string t, v1, v2, v3] 111)) w.heap.size #[.int .i64 10, .string s, .string t, v1, v2, v3]) := RowAt.new w _ _
    go_enter Tryz.func125, Tryz.ntmps125
    go_wp2_with fail
    refine (nameIs_c B bc bm 1 when s 2 st _ (H.out.alloc _) (HT.out.below (HA.out _)) HS.out (.inr rfl)).mono ?_
    rintro e w1 ⟨hb, hr⟩
    have HO : Hid (But bc bm w w1) := (HB.out _).trans hb
    have HR : Hid (RowAt w1 w.heap.size #[.int .i64 10, .string s, .string t, v1, v2, v3]) := hb.box HR0.out g1 g2
    have HT1 : Hid (Tb B w1) := HT.out.below (HO.out.below HBL.out hB1 hB2)
    clear hb HR0
    cases hR : nameR s 2 st with
    | error er =>
      rw [hR] at hr
      subst hr
      have HN : Hid (textsS when 10 s t st = .error er) := by simp only [Hid, textsS]; rw [HS1.out, hR]
      clear hR
      go_wp2_with fail
      refine ⟨rfl, ?_⟩
      rw [HN.out]
      exact out_error HO.out
    | ok st1 =>
      rw [hR] at hr
      obtain ⟨rfl, hc1⟩ := hr
      have HC : Hid (Chk bc bm when w1 st1 1) := hc1
      have HP : Hid (textsS when 10 s t st = (if (10 : Int) = 10 ∧ when ≠ 0 then .error 7 else textsS2 10 t st1)) := by simp only [Hid, textsS]; rw [HS1.out, hR]
      clear hR hc1
      have q0 := HR.out.cell 0
      have q1 := HR.out.cell 1
      have q2 := HR.out.cell 2
      simp only [List.getElem?_toArray, List.getElem?_cons_zero, List.getElem?_cons_succ] at q0 q1 q2
      have c2 := HC.out.c2
      by_cases gw : when = 0
      · have HN1 : Hid (textsS when 10 s t st = textsS2 10 t st1) := by rw [HP.out, if_neg (by simp [gw])]; rfl
        have bw : (when != 0) = false := by simpa using gw
        clear gw
        go_wp2_with fail
        refine (refuse_f 7 _).mono ?_
        rintro e w8 ⟨rfl, rfl⟩
        by_cases gt : 200 < (t.size : Int)
        · have HN : Hid (textsS when 10 s t st = .error 1) := by rw [HN1.out]; simp only [Hid, textsS2]; rw [if_neg (by decide), if_pos trivial, if_pos (by omega)]
          go_wp2_with fail
          refine (refuse_t 1 _).mono ?_
          rintro e w9 ⟨rfl, rfl⟩
          go_wp2_with fail
          refine ⟨rfl, ?_⟩
          rw [HN.out]
          exact out_error HO.out
        · have HN : Hid (textsS when 10 s t st = .ok st1) := by rw [HN1.out]; simp only [Hid, textsS2]; rw [if_neg (by decide), if_pos trivial, if_neg (by omega)]
          go_wp2_with fail
          try rw [decide_eq_false (show ¬ (200 : Int) < (t.size : Int) by omega)]
          refine (refuse_f 1 _).mono ?_
          rintro e w9 ⟨rfl, rfl⟩
          go_wp2_with fail
          go_end0
          rw [HN.out]
          exact out_ok HO.out (HC.out.less (Nat.zero_le _))
      · have HN : Hid (textsS when 10 s t st = .error 7) := by rw [HP.out, if_pos ⟨rfl, gw⟩]; rfl
        have bw : (when != 0) = true := by simpa using gw
        clear gw
        go_wp2_with fail
        refine (refuse_t 7 _).mono ?_
        rintro e w9 ⟨rfl, rfl⟩
        go_wp2_with fail
        refine ⟨rfl, ?_⟩
        rw [HN.out]
        exact out_error HO.out
  have f1 : (k == 1) = false := by simpa using e1
  have f7 : (k == 7) = false := by simpa using e7
  have f2 : (k == 2) = false := by simpa using e2
  have f9 : (k == 9) = false := by simpa using e9
  have f10 : (k == 10) = false := by simpa using e10
  have HS1 : Hid (textsS1 k s st = (if 0 < s.size then .error 4 else .ok st)) := by simp only [Hid, textsS1]; rw [if_neg (by omega), if_neg (by omega)]
  have HS2 : Hid (textsS2 k t st = (if 0 < t.size then .error 4 else .ok st)) := by simp only [Hid, textsS2]; rw [if_neg e7, if_neg e10]
  have HNX : Hid (¬ (k = 10 ∧ when ≠ 0)) := fun h => e10 h.1
  clear e1 e7 e2 e9 e10
  by_cases gs : 0 < s.size
  · have HN : Hid (textsS when k s t st = .error 4) := by simp only [Hid, textsS]; rw [HS1.out, if_pos gs]
    have he := ise_f gs
    go_enter Tryz.func125, Tryz.ntmps125
    go_wp2_with fail
    refine (refuse_t 4 _).mono ?_
    rintro e w9 ⟨rfl, rfl⟩
    go_wp2_with fail
    refine ⟨rfl, ?_⟩
    rw [HN.out]
    exact out_error (HB.out _)
  · have HP : Hid (textsS when k s t st = textsS2 k t st) := by simp only [Hid, textsS]; rw [HS1.out, if_neg gs]; exact if_neg HNX.out
    have he := ise_t gs
    by_cases gt : 0 < t.size
    · have HN : Hid (textsS when k s t st = .error 4) := by rw [HP.out, HS2.out, if_pos gt]; rfl
      have he2 := ise_f gt
      go_enter Tryz.func125, Tryz.ntmps125
      go_wp2_with fail
      refine (refuse_f 4 _).mono ?_
      rintro e w8 ⟨rfl, rfl⟩
      go_wp2_with fail
      refine (refuse_f 7 _).mono ?_
      rintro e w7 ⟨rfl, rfl⟩
      go_wp2_with fail
      refine (refuse_t 4 _).mono ?_
      rintro e w9 ⟨rfl, rfl⟩
      go_wp2_with fail
      refine ⟨rfl, ?_⟩
      rw [HN.out]
      exact out_error (HB.out _)
    · have HN : Hid (textsS when k s t st = .ok st) := by rw [HP.out, HS2.out, if_neg gt]; rfl
      have he2 := ise_t gt
      go_enter Tryz.func125, Tryz.ntmps125
      go_wp2_with fail
      refine (refuse_f 4 _).mono ?_
      rintro e w8 ⟨rfl, rfl⟩
      go_wp2_with fail
      refine (refuse_f 7 _).mono ?_
      rintro e w7 ⟨rfl, rfl⟩
      go_wp2_with fail
      refine (refuse_f 4 _).mono ?_
      rintro e w9 ⟨rfl, rfl⟩
      go_wp2_with fail
      go_end0
      rw [HN.out]
      exact out_ok (HB.out _) ((H.out.alloc _).less (Nat.zero_le _))
end Go.Proofs.YtfbpkbochhfnhaaGreatDoor
