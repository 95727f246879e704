/-
  The checker's expr, whatever the height.
-/
import Derived.Test.YtfbpkbochhfnhaaGreatDoorExprC
namespace Go.Proofs.YtfbpkbochhfnhaaGreatDoor
open Go.ChangeShapes Go.WideShapes Go.ChangeAt Go.RowKit Go.Joins
set_option linter.unusedVariables false

/-- A box that a call laid for itself stays while the checker and new blocks turn. -/
theorem But.box {bc bm : Nat} {w w' : World} {g : Nat} {cs : Array Value} (h : But bc bm w w') (hr : RowAt w g cs) (h1 : g ≠ bc) (h2 : g ≠ bm) : RowAt w' g cs := hr.stays (h.block g hr.lt h1 h2)

set_option maxHeartbeats 8000000 in
theorem expr_of {m : Nat} (hX : ExprsC m) : ExprC (m + 1) := by
  intro B bc bm when x cs d st w hx hc hT hB1 hB2 hd1 hd2
  cases x with
  | mk k n s l =>
  obtain ⟨v, rfl, wk, wn, ws, a, cap, rfl, hlen, hsl⟩ := hx
  have HSL : Hid (Sl w B 4 (.slice a l.length cap) l.length (fun i c => ∃ x, l[i]? = some x ∧ ExA B w m c x)) := ⟨a, cap, rfl, hlen, hsl⟩
  have HX : Hid (ExprsC m) := hX
  have H : Hid (Chk bc bm when w st 0) := hc
  have HT : Hid (Tb B w) := hT
  have HBL : Hid (B ≤ w.heap.size) := by have := hc.lt; unfold Hid; omega
  have g1 : w.heap.size ≠ bc := by have := hc.lt; omega
  have g2 : w.heap.size ≠ bm := by have := hc.lt; omega
  have HLEN : Hid (l.length ≤ maxLen) := hlen
  have HWS : Hid (s.size ≤ maxLen) := ws
  have hw : wrap64 (d + 1) = d + 1 := by unfold wrap64; omega
  have hwr : IntKind.i64.wrap (d + 1) = d + 1 := by rw [Go.PlainAid.i64_is]; exact hw
  clear hX hc hT hsl hlen ws wk wn
  -- the box
  obtain ⟨o, ho⟩ : ∃ o, o = Obj.cells #[.int .i64 k, .int .i64 n, .string s, .slice a l.length cap] 57 := ⟨_, rfl⟩
  have HA : Hid (Below B w (w.alloc o)) := (Below.refl _ _).alloc HBL.out o
  have HO0 : Hid (But bc bm w (w.alloc o)) := (But.refl _ _ _).alloc o
  have HC0 : Hid (Chk bc bm when (w.alloc o) st 0) := H.out.alloc o
  have HR0 : Hid (RowAt (w.alloc o) w.heap.size #[.int .i64 k, .int .i64 n, .string s, .slice a l.length cap]) := by rw [ho]; exact RowAt.new w _ _
  go_enter Tryz.func66, Tryz.ntmps66
  go_wp2_with fail
  rw [← ho]
  refine (node_c bc bm when d st _ HC0.out).mono ?_
  rintro e w1 ⟨hb1, hr⟩
  have HO1 : Hid (But bc bm w w1) := HO0.out.trans hb1
  have HR1 : Hid (RowAt w1 w.heap.size #[.int .i64 k, .int .i64 n, .string s, .slice a l.length cap]) := hb1.box HR0.out g1 g2
  clear hb1 HA HO0 HC0 HR0 ho
  cases hP : partR d st with
  | error er =>
    rw [hP] at hr
    subst hr
    have HN : Hid (ckE (m + 1) (.mk k n s l) d st = .error er) := by simp only [Hid, ckE, hP]
    clear hP
    go_wp2_with fail
    refine ⟨rfl, ?_⟩
    rw [HN.out]
    exact out_error HO1.out
  | ok st1 =>
    rw [hP] at hr
    obtain ⟨rfl, hc1⟩ := hr
    have HC1 : Hid (Chk bc bm when w1 st1 2) := hc1
    have HT1 : Hid (Tb B w1) := HT.out.below (HO1.out.below HBL.out hB1 hB2)
    have hd3 : d ≤ 20 := by
      unfold partR at hP
      split at hP
      · cases hP
      · omega
    have HN0 : Hid (ckE (m + 1) (.mk k n s l) d st = (if k < 1 ∨ 12 < k then .error 3 else if partsE k n s l.length = false then .error 4 else match textsE k s st1 with
        | .error e => .error e
        | .ok st2 => if n < 0 ∨ 1099511627776 < n then .error 2 else runL (fun x => ckE m x (d + 1)) l st2)) := by simp only [Hid, ckE, hP]; rfl
    clear hc1 hP
    have q0 := HR1.out.cell 0
    have q1 := HR1.out.cell 1
    have q2 := HR1.out.cell 2
    have q3 := HR1.out.cell 3
    simp only [List.getElem?_toArray, List.getElem?_cons_zero, List.getElem?_cons_succ] at q0 q1 q2 q3
    by_cases hk1 : k < 1
    · have HN : Hid (ckE (m + 1) (.mk k n s l) d st = .error 3) := by rw [HN0.out, if_pos (.inl hk1)]; rfl
      go_wp2_with fail
      refine (refuse_t 3 _).mono ?_
      rintro e w2 ⟨rfl, rfl⟩
      go_wp2_with fail
      refine ⟨rfl, ?_⟩
      rw [HN.out]
      exact out_error HO1.out
    by_cases hk2 : 12 < k
    · have HN : Hid (ckE (m + 1) (.mk k n s l) d st = .error 3) := by rw [HN0.out, if_pos (.inr hk2)]; rfl
      go_wp2_with fail
      refine (refuse_t 3 _).mono ?_
      rintro e w2 ⟨rfl, rfl⟩
      go_wp2_with fail
      refine ⟨rfl, ?_⟩
      rw [HN.out]
      exact out_error HO1.out
    go_wp2_with fail
    rw [decide_eq_false (show ¬ k < 1 by omega), decide_eq_false (show ¬ 12 < k by omega)]
    refine (refuse_f 3 _).mono ?_
    rintro e w2 ⟨rfl, rfl⟩
    have HN1 := HN0.out
    rw [if_neg (by omega)] at HN1
    have HN2 : Hid (ckE (m + 1) (.mk k n s l) d st = (if partsE k n s l.length = false then .error 4 else match textsE k s st1 with
        | .error e => .error e
        | .ok st2 => if n < 0 ∨ 1099511627776 < n then .error 2 else runL (fun x => ckE m x (d + 1)) l st2)) := HN1
    clear HN1 HN0
    go_wp2_with fail
    refine (exprParts_c k n s a l.length cap _ B HT1.out (by omega) (by omega) HLEN.out).mono ?_
    rintro e w3 ⟨rfl, hb3⟩
    have HO3 : Hid (But bc bm w w3) := HO1.out.more hb3
    have HC3 : Hid (Chk bc bm when w3 st1 2) := HC1.out.below hb3
    have HR3 : Hid (RowAt w3 w.heap.size #[.int .i64 k, .int .i64 n, .string s, .slice a l.length cap]) := HR1.out.below hb3
    have HT3 : Hid (Tb B w3) := HT.out.below (HO3.out.below HBL.out hB1 hB2)
    clear hb3 q0 q1 q2 q3 HO1 HC1 HR1 HT1 hk1 hk2
    have q0 := HR3.out.cell 0
    have q1 := HR3.out.cell 1
    have q2 := HR3.out.cell 2
    have q3 := HR3.out.cell 3
    simp only [List.getElem?_toArray, List.getElem?_cons_zero, List.getElem?_cons_succ] at q0 q1 q2 q3
    cases hpa : partsE k n s l.length with
    | false =>
      have HN : Hid (ckE (m + 1) (.mk k n s l) d st = .error 4) := by rw [HN2.out, if_pos hpa]; rfl
      clear hpa
      go_wp2_with fail
      refine (refuse_t 4 _).mono ?_
      rintro e w4 ⟨rfl, rfl⟩
      go_wp2_with fail
      refine ⟨rfl, ?_⟩
      rw [HN.out]
      exact out_error HO3.out
    | true =>
      have HN3 : Hid (ckE (m + 1) (.mk k n s l) d st = (match textsE k s st1 with
        | .error e => .error e
        | .ok st2 => if n < 0 ∨ 1099511627776 < n then .error 2 else runL (fun x => ckE m x (d + 1)) l st2)) := by rw [HN2.out, if_neg (by rw [hpa]; decide)]; rfl
      clear hpa HN2
      go_wp2_with fail
      refine (refuse_f 4 _).mono ?_
      rintro e w4 ⟨rfl, rfl⟩
      go_wp2_with fail
      refine (exprTexts_c B bc bm when k n s _ st1 _ HC3.out HT3.out hB1 hB2 HWS.out).mono ?_
      rintro e w5 ⟨hb5, hr⟩
      have HO5 : Hid (But bc bm w w5) := HO3.out.trans hb5
      have HR5 : Hid (RowAt w5 w.heap.size #[.int .i64 k, .int .i64 n, .string s, .slice a l.length cap]) := hb5.box HR3.out g1 g2
      have HT5 : Hid (Tb B w5) := HT.out.below (HO5.out.below HBL.out hB1 hB2)
      clear hb5 q0 q1 q2 q3 HO3 HC3 HR3 HT3
      have q0 := HR5.out.cell 0
      have q1 := HR5.out.cell 1
      have q2 := HR5.out.cell 2
      have q3 := HR5.out.cell 3
      simp only [List.getElem?_toArray, List.getElem?_cons_zero, List.getElem?_cons_succ] at q0 q1 q2 q3
      cases hte : textsE k s st1 with
      | error er =>
        rw [hte] at hr
        subst hr
        have HN : Hid (ckE (m + 1) (.mk k n s l) d st = .error er) := by rw [HN3.out, hte]; rfl
        clear hte
        go_wp2_with fail
        refine ⟨rfl, ?_⟩
        rw [HN.out]
        exact out_error HO5.out
      | ok st2 =>
        rw [hte] at hr
        obtain ⟨rfl, hc5⟩ := hr
        have HC5 : Hid (Chk bc bm when w5 st2 0) := hc5
        have HN4 : Hid (ckE (m + 1) (.mk k n s l) d st = (if n < 0 ∨ 1099511627776 < n then .error 2 else runL (fun x => ckE m x (d + 1)) l st2)) := by rw [HN3.out, hte]; rfl
        clear hte hc5 HN3
        by_cases hn1 : n < 0
        · have HN : Hid (ckE (m + 1) (.mk k n s l) d st = .error 2) := by rw [HN4.out, if_pos (.inl hn1)]; rfl
          go_wp2_with fail
          refine (refuse_t 2 _).mono ?_
          rintro e w6 ⟨rfl, rfl⟩
          go_wp2_with fail
          refine ⟨rfl, ?_⟩
          rw [HN.out]
          exact out_error HO5.out
        by_cases hn2 : 1099511627776 < n
        · have HN : Hid (ckE (m + 1) (.mk k n s l) d st = .error 2) := by rw [HN4.out, if_pos (.inr hn2)]; rfl
          go_wp2_with fail
          refine (refuse_t 2 _).mono ?_
          rintro e w6 ⟨rfl, rfl⟩
          go_wp2_with fail
          refine ⟨rfl, ?_⟩
          rw [HN.out]
          exact out_error HO5.out
        have HN5 : Hid (ckE (m + 1) (.mk k n s l) d st = runL (fun x => ckE m x (d + 1)) l st2) := by rw [HN4.out, if_neg (by omega)]; rfl
        clear HN4
        go_wp2_with fail
        rw [decide_eq_false (show ¬ n < 0 by omega), decide_eq_false (show ¬ 1099511627776 < n by omega)]
        refine (refuse_f 2 _).mono ?_
        rintro e w6 ⟨rfl, rfl⟩
        clear hn1 hn2
        go_wp2_with fail
        refine (HX.out B bc bm when l _ (d + 1) st2 _ (HSL.out.below (HO5.out.below HBL.out hB1 hB2) fun i c ⟨x, hx, he⟩ => ⟨x, hx, he.below (HO5.out.below HBL.out hB1 hB2)⟩) HC5.out HT5.out hB1 hB2 (by omega) (by omega)).mono ?_
        rintro e w7 ⟨hb7, hr⟩
        have HO7 : Hid (But bc bm w w7) := HO5.out.trans hb7
        clear hb7 q0 q1 q2 q3
        cases hR : runL (fun x => ckE m x (d + 1)) l st2 with
        | error er =>
          rw [hR] at hr
          subst hr
          have HN : Hid (ckE (m + 1) (.mk k n s l) d st = .error er) := HN5.out.trans hR
          clear hR
          go_wp2_with fail
          refine ⟨rfl, ?_⟩
          rw [HN.out]
          exact out_error HO7.out
        | ok st3 =>
          rw [hR] at hr
          obtain ⟨rfl, hc7⟩ := hr
          have HC7 : Hid (Chk bc bm when w7 st3 0) := hc7
          have HN : Hid (ckE (m + 1) (.mk k n s l) d st = .ok st3) := HN5.out.trans hR
          clear hR hc7
          go_wp2_with fail
          go_end0
          rw [HN.out]
          exact out_ok HO7.out HC7.out

theorem exprC_all : ∀ m, ExprC m
  | 0 => fun _ _ _ _ _ _ _ _ _ h => h.elim
  | m + 1 => expr_of (exprs_of (exprC_all m))
theorem exprsC_all (m : Nat) : ExprsC m := exprs_of (exprC_all m)
end Go.Proofs.YtfbpkbochhfnhaaGreatDoor
