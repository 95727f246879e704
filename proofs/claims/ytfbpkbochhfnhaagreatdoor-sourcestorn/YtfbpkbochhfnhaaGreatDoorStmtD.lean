/-
  The checker's stmt, whatever the height.
-/
import Derived.Test.YtfbpkbochhfnhaaGreatDoorStmtC
namespace Go.Proofs.YtfbpkbochhfnhaaGreatDoor
open Go.ChangeShapes Go.WideShapes Go.ChangeAt Go.RowKit Go.Joins
set_option linter.unusedVariables false

theorem stmtParts_i (k : Int) (s t : ByteArray) (a1 a2 a3 : Option Addr) (n1 n2 n3 p1 p2 p3 : Nat) (w : World) (B : Nat) (hT : Tb B w) (k1 : 1 ≤ k) (k2 : k ≤ 10) (l1 : n1 ≤ maxLen) (l2 : n2 ≤ maxLen) (l3 : n3 ≤ maxLen) :
    Calls Tryz.prog 124 #[.agg #[.int .i64 k, .string s, .string t, .slice a1 n1 p1, .slice a2 n2 p2, .slice a3 n3 p3]] w fun e w' => e = .returned (.bool (partsS k n1 n2 n3)) ∧ Below w.heap.size w w' := by
  obtain ⟨q, rfl⟩ : ∃ q : Nat, k = q := ⟨k.toNat, by omega⟩
  exact stmtParts_c q s t a1 a2 a3 n1 n2 n3 p1 p2 p3 w B hT (by omega) (by omega) l1 l2 l3

set_option maxHeartbeats 16000000 in
theorem stmt_of {m : Nat} (hX : ExprsC m) (hY : StmtsC m) : StmtC (m + 1) := by
  intro B bc bm when x cs d st w hx hc hT hB1 hB2 hd1 hd2
  cases x with
  | mk k s t es bd el =>
  obtain ⟨v1, v2, v3, rfl, wk, ws, wt, hs1, hs2, hs3⟩ := hx
  have HS1 : Hid (Sl w B 4 v1 es.length (fun i c => ∃ x, es[i]? = some x ∧ ExA B w m c x)) := hs1
  have HS2 : Hid (Sl w B 6 v2 bd.length (fun i c => ∃ x, bd[i]? = some x ∧ SmA B w m c x)) := hs2
  have HS3 : Hid (Sl w B 6 v3 el.length (fun i c => ∃ x, el[i]? = some x ∧ SmA B w m c x)) := hs3
  obtain ⟨a1, p1, rfl, hl1, _⟩ := hs1
  obtain ⟨a2, p2, rfl, hl2, _⟩ := hs2
  obtain ⟨a3, p3, rfl, hl3, _⟩ := hs3
  have HX : Hid (ExprsC m) := hX
  have HY : Hid (StmtsC m) := hY
  have H : Hid (Chk bc bm when w st 0) := hc
  have HT : Hid (Tb B w) := hT
  have HBL : Hid (B ≤ w.heap.size) := by have := hc.lt; unfold Hid; omega
  have g1 : w.heap.size ≠ bc := by have := hc.lt; omega
  have g2 : w.heap.size ≠ bm := by have := hc.lt; omega
  have HL1 : Hid (es.length ≤ maxLen) := hl1
  have HL2 : Hid (bd.length ≤ maxLen) := hl2
  have HL3 : Hid (el.length ≤ maxLen) := hl3
  have HWS : Hid (s.size ≤ maxLen) := ws
  have HWT : Hid (t.size ≤ maxLen) := wt
  have hw : wrap64 (d + 1) = d + 1 := by unfold wrap64; omega
  have hwr : IntKind.i64.wrap (d + 1) = d + 1 := by rw [Go.PlainAid.i64_is]; exact hw
  clear hX hY hc hT hl1 hl2 hl3 ws wt wk
  obtain ⟨o, ho⟩ : ∃ o, o = Obj.cells #[.int .i64 k, .string s, .string t, .slice a1 es.length p1, .slice a2 bd.length p2, .slice a3 el.length p3] 111 := ⟨_, rfl⟩
  have HO0 : Hid (But bc bm w (w.alloc o)) := (But.refl _ _ _).alloc o
  have HC0 : Hid (Chk bc bm when (w.alloc o) st 0) := H.out.alloc o
  have HR0 : Hid (RowAt (w.alloc o) w.heap.size #[.int .i64 k, .string s, .string t, .slice a1 es.length p1, .slice a2 bd.length p2, .slice a3 el.length p3]) := by rw [ho]; exact RowAt.new w _ _
  go_enter Tryz.func100, Tryz.ntmps100
  go_wp2_with fail
  rw [← ho]
  refine (node_c bc bm when d st _ HC0.out).mono ?_
  rintro e w1 ⟨hb1, hr⟩
  have HO1 : Hid (But bc bm w w1) := HO0.out.trans hb1
  have HR1 : Hid (RowAt w1 w.heap.size #[.int .i64 k, .string s, .string t, .slice a1 es.length p1, .slice a2 bd.length p2, .slice a3 el.length p3]) := hb1.box HR0.out g1 g2
  clear hb1 HO0 HC0 HR0 ho
  cases hP : partR d st with
  | error er =>
    rw [hP] at hr
    subst hr
    have HN : Hid (ckS when (m + 1) (.mk k s t es bd el) d st = .error er) := by simp only [Hid, ckS, hP]
    clear hP
    go_wp2_with fail
    refine ⟨rfl, ?_⟩
    rw [HN.out]
    exact out_error HO1.out
  | ok st1 =>
    rw [hP] at hr
    obtain ⟨rfl, hc1⟩ := hr
    have HC1 : Hid (Chk bc bm when w1 st1 2) := hc1
    have HT1 : Hid (Tb B w1) := HT.out.below (HO1.out.below HBL.out hB1 hB2)
    have hd3 : d ≤ 20 := by
      unfold partR at hP
      split at hP
      · cases hP
      · omega
    have HN0 : Hid (ckS when (m + 1) (.mk k s t es bd el) d st = (if k < 1 ∨ 10 < k then .error 3 else if partsS k es.length bd.length el.length = false then .error 4 else match textsS when k s t st1 with
        | .error r => .error r
        | .ok st2 => if k = 8 ∧ when ≠ 1 then .error 7 else match runL (fun x => ckE m x (d + 1)) es st2 with
          | .error r => .error r
          | .ok st3 => match runL (fun x => ckS when m x (d + 1)) bd st3 with
            | .error r => .error r
            | .ok st4 => runL (fun x => ckS when m x (d + 1)) el st4)) := by simp only [Hid, ckS, hP]; rfl
    clear hc1 hP
    have q0 := HR1.out.cell 0
    have q1 := HR1.out.cell 1
    have q2 := HR1.out.cell 2
    have q3 := HR1.out.cell 3
    have q4 := HR1.out.cell 4
    have q5 := HR1.out.cell 5
    simp only [List.getElem?_toArray, List.getElem?_cons_zero, List.getElem?_cons_succ] at q0 q1 q2 q3 q4 q5
    by_cases hk1 : k < 1
    · have HN : Hid (ckS when (m + 1) (.mk k s t es bd el) d st = .error 3) := by rw [HN0.out, if_pos (.inl hk1)]; rfl
      go_wp2_with fail
      refine (refuse_t 3 _).mono ?_
      rintro e w99 ⟨rfl, rfl⟩
      go_wp2_with fail
      refine ⟨rfl, ?_⟩
      rw [HN.out]
      exact out_error HO1.out
    by_cases hk2 : 10 < k
    · have HN : Hid (ckS when (m + 1) (.mk k s t es bd el) d st = .error 3) := by rw [HN0.out, if_pos (.inr hk2)]; rfl
      go_wp2_with fail
      refine (refuse_t 3 _).mono ?_
      rintro e w99 ⟨rfl, rfl⟩
      go_wp2_with fail
      refine ⟨rfl, ?_⟩
      rw [HN.out]
      exact out_error HO1.out
    go_wp2_with fail
    rw [decide_eq_false (show ¬ k < 1 by omega), decide_eq_false (show ¬ 10 < k by omega)]
    refine (refuse_f 3 _).mono ?_
    rintro e w2 ⟨rfl, rfl⟩
    have HN1 := HN0.out
    rw [if_neg (by omega)] at HN1
    have HN2 : Hid (ckS when (m + 1) (.mk k s t es bd el) d st = (if partsS k es.length bd.length el.length = false then .error 4 else match textsS when k s t st1 with
          | .error r => .error r
          | .ok st2 => if k = 8 ∧ when ≠ 1 then .error 7 else match runL (fun x => ckE m x (d + 1)) es st2 with
            | .error r => .error r
            | .ok st3 => match runL (fun x => ckS when m x (d + 1)) bd st3 with
              | .error r => .error r
              | .ok st4 => runL (fun x => ckS when m x (d + 1)) el st4)) := HN1
    clear HN1 HN0
    go_wp2_with fail
    refine (stmtParts_i k s t a1 a2 a3 es.length bd.length el.length p1 p2 p3 _ B HT1.out (by omega) (by omega) HL1.out HL2.out HL3.out).mono ?_
    rintro e w3 ⟨rfl, hb3⟩
    have HO3 : Hid (But bc bm w w3) := HO1.out.more hb3
    have HC3 : Hid (Chk bc bm when w3 st1 2) := HC1.out.below hb3
    have HR3 : Hid (RowAt w3 w.heap.size #[.int .i64 k, .string s, .string t, .slice a1 es.length p1, .slice a2 bd.length p2, .slice a3 el.length p3]) := HR1.out.below hb3
    have HT3 : Hid (Tb B w3) := HT.out.below (HO3.out.below HBL.out hB1 hB2)
    clear hb3 q0 q1 q2 q3 q4 q5 HO1 HC1 HR1 HT1 hk1 hk2
    have q0 := HR3.out.cell 0
    have q1 := HR3.out.cell 1
    have q2 := HR3.out.cell 2
    have q3 := HR3.out.cell 3
    have q4 := HR3.out.cell 4
    have q5 := HR3.out.cell 5
    simp only [List.getElem?_toArray, List.getElem?_cons_zero, List.getElem?_cons_succ] at q0 q1 q2 q3 q4 q5
    cases hpa : partsS k es.length bd.length el.length with
    | false =>
      have HN : Hid (ckS when (m + 1) (.mk k s t es bd el) d st = .error 4) := by rw [HN2.out, if_pos hpa]; rfl
      clear hpa
      go_wp2_with fail
      refine (refuse_t 4 _).mono ?_
      rintro e w99 ⟨rfl, rfl⟩
      go_wp2_with fail
      refine ⟨rfl, ?_⟩
      rw [HN.out]
      exact out_error HO3.out
    | true =>
      have HN3 : Hid (ckS when (m + 1) (.mk k s t es bd el) d st = (match textsS when k s t st1 with
          | .error r => .error r
          | .ok st2 => if k = 8 ∧ when ≠ 1 then .error 7 else match runL (fun x => ckE m x (d + 1)) es st2 with
            | .error r => .error r
            | .ok st3 => match runL (fun x => ckS when m x (d + 1)) bd st3 with
              | .error r => .error r
              | .ok st4 => runL (fun x => ckS when m x (d + 1)) el st4)) := by rw [HN2.out, if_neg (by rw [hpa]; decide)]; rfl
      clear hpa HN2
      go_wp2_with fail
      refine (refuse_f 4 _).mono ?_
      rintro e w4 ⟨rfl, rfl⟩
      go_wp2_with fail
      refine (stmtTexts_c B bc bm when k s t _ _ _ st1 _ HC3.out HT3.out hB1 hB2 HWS.out HWT.out).mono ?_
      rintro e w5 ⟨hb5, hr⟩
      have HO5 : Hid (But bc bm w w5) := HO3.out.trans hb5
      have HR5 : Hid (RowAt w5 w.heap.size #[.int .i64 k, .string s, .string t, .slice a1 es.length p1, .slice a2 bd.length p2, .slice a3 el.length p3]) := hb5.box HR3.out g1 g2
      have HT5 : Hid (Tb B w5) := HT.out.below (HO5.out.below HBL.out hB1 hB2)
      clear hb5 q0 q1 q2 q3 q4 q5 HO3 HC3 HR3 HT3
      have q0 := HR5.out.cell 0
      have q1 := HR5.out.cell 1
      have q2 := HR5.out.cell 2
      have q3 := HR5.out.cell 3
      have q4 := HR5.out.cell 4
      have q5 := HR5.out.cell 5
      simp only [List.getElem?_toArray, List.getElem?_cons_zero, List.getElem?_cons_succ] at q0 q1 q2 q3 q4 q5
      cases hte : textsS when k s t st1 with
      | error er =>
        rw [hte] at hr
        subst hr
        have HN : Hid (ckS when (m + 1) (.mk k s t es bd el) d st = .error er) := by rw [HN3.out, hte]; rfl
        clear hte
        go_wp2_with fail
        refine ⟨rfl, ?_⟩
        rw [HN.out]
        exact out_error HO5.out
      | ok st2 =>
        rw [hte] at hr
        obtain ⟨rfl, hc5⟩ := hr
        have HC5 : Hid (Chk bc bm when w5 st2 0) := hc5
        have HN4 : Hid (ckS when (m + 1) (.mk k s t es bd el) d st = (if k = 8 ∧ when ≠ 1 then .error 7 else match runL (fun x => ckE m x (d + 1)) es st2 with
              | .error r => .error r
              | .ok st3 => match runL (fun x => ckS when m x (d + 1)) bd st3 with
                | .error r => .error r
                | .ok st4 => runL (fun x => ckS when m x (d + 1)) el st4)) := by rw [HN3.out, hte]; rfl
        have c2 := hc5.c2
        clear hte hc5 HN3
        -- a Next where it may not be
        by_cases hnx : k = 8 ∧ when ≠ 1
        · have HN : Hid (ckS when (m + 1) (.mk k s t es bd el) d st = .error 7) := by rw [HN4.out, if_pos hnx]; rfl
          have b8 : (k == 8) = true := by simpa using hnx.1
          have bw : (when != 1) = true := by simpa using hnx.2
          clear hnx
          go_wp2_with fail
          refine (refuse_t 7 _).mono ?_
          rintro e w99 ⟨rfl, rfl⟩
          go_wp2_with fail
          refine ⟨rfl, ?_⟩
          rw [HN.out]
          exact out_error HO5.out
        have HN5 : Hid (ckS when (m + 1) (.mk k s t es bd el) d st = (match runL (fun x => ckE m x (d + 1)) es st2 with
                | .error r => .error r
                | .ok st3 => match runL (fun x => ckS when m x (d + 1)) bd st3 with
                  | .error r => .error r
                  | .ok st4 => runL (fun x => ckS when m x (d + 1)) el st4)) := by rw [HN4.out, if_neg hnx]; rfl
        have HNX : Hid (((k == 8) && (when != 1)) = false) := by
          unfold Hid
          rw [Bool.eq_false_iff]
          simpa using hnx
        clear HN4 hnx
        have after : Calls Tryz.prog 19 #[.bool false, .int .i64 7] w5 fun r w' => r = .returned (.tuple #[]) ∧ w' = w5 := refuse_f 7 w5
        by_cases h8 : k = 8
        · have b8 : (k == 8) = true := by simpa using h8
          have bw : (when != 1) = false := by have := HNX.out; rw [b8] at this; simpa using this
          clear after h8
          go_wp2_with fail
          refine (refuse_f 7 _).mono ?_
          rintro e w6 ⟨rfl, rfl⟩
          go_wp2_with fail
          refine (HX.out B bc bm when es _ (d + 1) st2 _ (HS1.out.below (HO5.out.below HBL.out hB1 hB2) fun i c ⟨x, hx, he⟩ => ⟨x, hx, he.below (HO5.out.below HBL.out hB1 hB2)⟩) HC5.out HT5.out hB1 hB2 (by omega) (by omega)).mono ?_
          rintro e w7 ⟨hb7, hr⟩
          have HO7 : Hid (But bc bm w w7) := HO5.out.trans hb7
          have HR7 : Hid (RowAt w7 w.heap.size #[.int .i64 k, .string s, .string t, .slice a1 es.length p1, .slice a2 bd.length p2, .slice a3 el.length p3]) := hb7.box HR5.out g1 g2
          have HT7 : Hid (Tb B w7) := HT.out.below (HO7.out.below HBL.out hB1 hB2)
          clear hb7 q0 q1 q2 q3 q4 q5 c2
          have q0 := HR7.out.cell 0
          have q1 := HR7.out.cell 1
          have q2 := HR7.out.cell 2
          have q3 := HR7.out.cell 3
          have q4 := HR7.out.cell 4
          have q5 := HR7.out.cell 5
          simp only [List.getElem?_toArray, List.getElem?_cons_zero, List.getElem?_cons_succ] at q0 q1 q2 q3 q4 q5
          cases hR : runL (fun x => ckE m x (d + 1)) es st2 with
          | error er =>
            rw [hR] at hr
            subst hr
            have HN : Hid (ckS when (m + 1) (.mk k s t es bd el) d st = .error er) := by rw [HN5.out, hR]; rfl
            clear hR
            go_wp2_with fail
            refine ⟨rfl, ?_⟩
            rw [HN.out]
            exact out_error HO7.out
          | ok st3 =>
            rw [hR] at hr
            obtain ⟨rfl, hc7⟩ := hr
            have HC7 : Hid (Chk bc bm when w7 st3 0) := hc7
            have HN6 : Hid (ckS when (m + 1) (.mk k s t es bd el) d st = (match runL (fun x => ckS when m x (d + 1)) bd st3 with
                    | .error r => .error r
                    | .ok st4 => runL (fun x => ckS when m x (d + 1)) el st4)) := by rw [HN5.out, hR]; rfl
            clear hR hc7
            go_wp2_with fail
            refine (HY.out B bc bm when bd _ (d + 1) st3 _ (HS2.out.below (HO7.out.below HBL.out hB1 hB2) fun i c ⟨x, hx, he⟩ => ⟨x, hx, he.below (HO7.out.below HBL.out hB1 hB2)⟩) HC7.out HT7.out hB1 hB2 (by omega) (by omega)).mono ?_
            rintro e w8 ⟨hb8, hr⟩
            have HO8 : Hid (But bc bm w w8) := HO7.out.trans hb8
            have HR8 : Hid (RowAt w8 w.heap.size #[.int .i64 k, .string s, .string t, .slice a1 es.length p1, .slice a2 bd.length p2, .slice a3 el.length p3]) := hb8.box HR7.out g1 g2
            have HT8 : Hid (Tb B w8) := HT.out.below (HO8.out.below HBL.out hB1 hB2)
            clear hb8 q0 q1 q2 q3 q4 q5
            have q0 := HR8.out.cell 0
            have q1 := HR8.out.cell 1
            have q2 := HR8.out.cell 2
            have q3 := HR8.out.cell 3
            have q4 := HR8.out.cell 4
            have q5 := HR8.out.cell 5
            simp only [List.getElem?_toArray, List.getElem?_cons_zero, List.getElem?_cons_succ] at q0 q1 q2 q3 q4 q5
            cases hR : runL (fun x => ckS when m x (d + 1)) bd st3 with
            | error er =>
              rw [hR] at hr
              subst hr
              have HN : Hid (ckS when (m + 1) (.mk k s t es bd el) d st = .error er) := by rw [HN6.out, hR]; rfl
              clear hR
              go_wp2_with fail
              refine ⟨rfl, ?_⟩
              rw [HN.out]
              exact out_error HO8.out
            | ok st4 =>
              rw [hR] at hr
              obtain ⟨rfl, hc8⟩ := hr
              have HC8 : Hid (Chk bc bm when w8 st4 0) := hc8
              have HN7 : Hid (ckS when (m + 1) (.mk k s t es bd el) d st = runL (fun x => ckS when m x (d + 1)) el st4) := by rw [HN6.out, hR]; rfl
              clear hR hc8
              go_wp2_with fail
              refine (HY.out B bc bm when el _ (d + 1) st4 _ (HS3.out.below (HO8.out.below HBL.out hB1 hB2) fun i c ⟨x, hx, he⟩ => ⟨x, hx, he.below (HO8.out.below HBL.out hB1 hB2)⟩) HC8.out HT8.out hB1 hB2 (by omega) (by omega)).mono ?_
              rintro e w9 ⟨hb9, hr⟩
              have HO9 : Hid (But bc bm w w9) := HO8.out.trans hb9
              clear hb9 q0 q1 q2 q3 q4 q5
              cases hR : runL (fun x => ckS when m x (d + 1)) el st4 with
              | error er =>
                rw [hR] at hr
                subst hr
                have HN : Hid (ckS when (m + 1) (.mk k s t es bd el) d st = .error er) := HN7.out.trans hR
                clear hR
                go_wp2_with fail
                refine ⟨rfl, ?_⟩
                rw [HN.out]
                exact out_error HO9.out
              | ok st5 =>
                rw [hR] at hr
                obtain ⟨rfl, hc9⟩ := hr
                have HC9 : Hid (Chk bc bm when w9 st5 0) := hc9
                have HN : Hid (ckS when (m + 1) (.mk k s t es bd el) d st = .ok st5) := HN7.out.trans hR
                clear hR hc9
                go_wp2_with fail
                go_end0
                rw [HN.out]
                exact out_ok HO9.out HC9.out
        · have b8 : (k == 8) = false := by simpa using h8
          clear after h8
          go_wp2_with fail
          refine (refuse_f 7 _).mono ?_
          rintro e w6 ⟨rfl, rfl⟩
          go_wp2_with fail
          refine (HX.out B bc bm when es _ (d + 1) st2 _ (HS1.out.below (HO5.out.below HBL.out hB1 hB2) fun i c ⟨x, hx, he⟩ => ⟨x, hx, he.below (HO5.out.below HBL.out hB1 hB2)⟩) HC5.out HT5.out hB1 hB2 (by omega) (by omega)).mono ?_
          rintro e w7 ⟨hb7, hr⟩
          have HO7 : Hid (But bc bm w w7) := HO5.out.trans hb7
          have HR7 : Hid (RowAt w7 w.heap.size #[.int .i64 k, .string s, .string t, .slice a1 es.length p1, .slice a2 bd.length p2, .slice a3 el.length p3]) := hb7.box HR5.out g1 g2
          have HT7 : Hid (Tb B w7) := HT.out.below (HO7.out.below HBL.out hB1 hB2)
          clear hb7 q0 q1 q2 q3 q4 q5 c2
          have q0 := HR7.out.cell 0
          have q1 := HR7.out.cell 1
          have q2 := HR7.out.cell 2
          have q3 := HR7.out.cell 3
          have q4 := HR7.out.cell 4
          have q5 := HR7.out.cell 5
          simp only [List.getElem?_toArray, List.getElem?_cons_zero, List.getElem?_cons_succ] at q0 q1 q2 q3 q4 q5
          cases hR : runL (fun x => ckE m x (d + 1)) es st2 with
          | error er =>
            rw [hR] at hr
            subst hr
            have HN : Hid (ckS when (m + 1) (.mk k s t es bd el) d st = .error er) := by rw [HN5.out, hR]; rfl
            clear hR
            go_wp2_with fail
            refine ⟨rfl, ?_⟩
            rw [HN.out]
            exact out_error HO7.out
          | ok st3 =>
            rw [hR] at hr
            obtain ⟨rfl, hc7⟩ := hr
            have HC7 : Hid (Chk bc bm when w7 st3 0) := hc7
            have HN6 : Hid (ckS when (m + 1) (.mk k s t es bd el) d st = (match runL (fun x => ckS when m x (d + 1)) bd st3 with
                    | .error r => .error r
                    | .ok st4 => runL (fun x => ckS when m x (d + 1)) el st4)) := by rw [HN5.out, hR]; rfl
            clear hR hc7
            go_wp2_with fail
            refine (HY.out B bc bm when bd _ (d + 1) st3 _ (HS2.out.below (HO7.out.below HBL.out hB1 hB2) fun i c ⟨x, hx, he⟩ => ⟨x, hx, he.below (HO7.out.below HBL.out hB1 hB2)⟩) HC7.out HT7.out hB1 hB2 (by omega) (by omega)).mono ?_
            rintro e w8 ⟨hb8, hr⟩
            have HO8 : Hid (But bc bm w w8) := HO7.out.trans hb8
            have HR8 : Hid (RowAt w8 w.heap.size #[.int .i64 k, .string s, .string t, .slice a1 es.length p1, .slice a2 bd.length p2, .slice a3 el.length p3]) := hb8.box HR7.out g1 g2
            have HT8 : Hid (Tb B w8) := HT.out.below (HO8.out.below HBL.out hB1 hB2)
            clear hb8 q0 q1 q2 q3 q4 q5
            have q0 := HR8.out.cell 0
            have q1 := HR8.out.cell 1
            have q2 := HR8.out.cell 2
            have q3 := HR8.out.cell 3
            have q4 := HR8.out.cell 4
            have q5 := HR8.out.cell 5
            simp only [List.getElem?_toArray, List.getElem?_cons_zero, List.getElem?_cons_succ] at q0 q1 q2 q3 q4 q5
            cases hR : runL (fun x => ckS when m x (d + 1)) bd st3 with
            | error er =>
              rw [hR] at hr
              subst hr
              have HN : Hid (ckS when (m + 1) (.mk k s t es bd el) d st = .error er) := by rw [HN6.out, hR]; rfl
              clear hR
              go_wp2_with fail
              refine ⟨rfl, ?_⟩
              rw [HN.out]
              exact out_error HO8.out
            | ok st4 =>
              rw [hR] at hr
              obtain ⟨rfl, hc8⟩ := hr
              have HC8 : Hid (Chk bc bm when w8 st4 0) := hc8
              have HN7 : Hid (ckS when (m + 1) (.mk k s t es bd el) d st = runL (fun x => ckS when m x (d + 1)) el st4) := by rw [HN6.out, hR]; rfl
              clear hR hc8
              go_wp2_with fail
              refine (HY.out B bc bm when el _ (d + 1) st4 _ (HS3.out.below (HO8.out.below HBL.out hB1 hB2) fun i c ⟨x, hx, he⟩ => ⟨x, hx, he.below (HO8.out.below HBL.out hB1 hB2)⟩) HC8.out HT8.out hB1 hB2 (by omega) (by omega)).mono ?_
              rintro e w9 ⟨hb9, hr⟩
              have HO9 : Hid (But bc bm w w9) := HO8.out.trans hb9
              clear hb9 q0 q1 q2 q3 q4 q5
              cases hR : runL (fun x => ckS when m x (d + 1)) el st4 with
              | error er =>
                rw [hR] at hr
                subst hr
                have HN : Hid (ckS when (m + 1) (.mk k s t es bd el) d st = .error er) := HN7.out.trans hR
                clear hR
                go_wp2_with fail
                refine ⟨rfl, ?_⟩
                rw [HN.out]
                exact out_error HO9.out
              | ok st5 =>
                rw [hR] at hr
                obtain ⟨rfl, hc9⟩ := hr
                have HC9 : Hid (Chk bc bm when w9 st5 0) := hc9
                have HN : Hid (ckS when (m + 1) (.mk k s t es bd el) d st = .ok st5) := HN7.out.trans hR
                clear hR hc9
                go_wp2_with fail
                go_end0
                rw [HN.out]
                exact out_ok HO9.out HC9.out
theorem stmtC_all : ∀ m, StmtC m
  | 0 => fun _ _ _ _ _ _ _ _ _ h => h.elim
  | m + 1 => stmt_of (exprsC_all m) (stmts_of (stmtC_all m))
theorem stmtsC_all (m : Nat) : StmtsC m := stmts_of (stmtC_all m)
end Go.Proofs.YtfbpkbochhfnhaaGreatDoor
