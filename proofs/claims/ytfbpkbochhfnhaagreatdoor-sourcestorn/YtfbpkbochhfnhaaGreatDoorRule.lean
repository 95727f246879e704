/-
  Contracts of syntax.isZero and of the checker's rule.
-/
import Derived.Test.YtfbpkbochhfnhaaGreatDoorStmtD
namespace Go.Proofs.YtfbpkbochhfnhaaGreatDoor
open Go.ChangeShapes Go.WideShapes Go.ChangeAt Go.RowKit Go.Joins
set_option linter.unusedVariables false

set_option maxHeartbeats 2000000 in
theorem isZero_c (k n : Int) (s : ByteArray) (a : Option Addr) (l : List Ex) (cap : Nat) (w : World) (hl : l.length ≤ maxLen) :
    Calls Tryz.prog 67 #[.agg #[.int .i64 k, .int .i64 n, .string s, .slice a l.length cap]] w fun e w' => e = .returned (.bool (zeroE (.mk k n s l))) ∧ Below w.heap.size w w' := by
  unfold maxLen at hl
  by_cases hk : k = 0
  · subst hk
    by_cases hn : n = 0
    · subst hn
      by_cases hs : 0 < s.size
      · have HN : Hid (zeroE (.mk 0 0 s l) = false) := by have : ¬ s.size = 0 := by omega
                                                          simp [Hid, zeroE, this]
        have he := ise_f hs
        go_enter Tryz.func67, Tryz.ntmps67
        go_wp2_with fail
        go_ret
        exact ⟨ret_bool HN.out.symm, by go_grown⟩
      · have HN : Hid (((l.length : Int) == 0) = zeroE (.mk 0 0 s l)) := by
          have : s.size = 0 := by omega
          unfold Hid
          rw [Bool.eq_iff_iff]
          simp [zeroE, this]
        have he := ise_t hs
        go_enter Tryz.func67, Tryz.ntmps67
        go_wp2_with fail
        go_ret
        exact ⟨ret_bool HN.out, by go_grown⟩
    · have HN : Hid (zeroE (.mk 0 n s l) = false) := by simp [Hid, zeroE, hn]
      have b : (n == 0) = false := by simpa using hn
      clear hn
      go_enter Tryz.func67, Tryz.ntmps67
      go_wp2_with fail
      go_ret
      exact ⟨ret_bool HN.out.symm, by go_grown⟩
  · have HN : Hid (zeroE (.mk k n s l) = false) := by simp [Hid, zeroE, hk]
    have b : (k == 0) = false := by simpa using hk
    clear hk
    go_enter Tryz.func67, Tryz.ntmps67
    go_wp2_with fail
    go_ret
    exact ⟨ret_bool HN.out.symm, by go_grown⟩

theorem Chk.setWhen {bc bm : Nat} {when : Int} {w : World} {st : St} {j : Nat} (h : Chk bc bm when w st j) (wh : Int) : Chk bc bm wh (w.setCell ⟨bc, 2, none⟩ (.int .i64 wh)) st j := by
  obtain ⟨n, D, g1, g2, g3⟩ := h.map
  exact ⟨h.ne, (World.cell?_setCell_other _ _ _ _ (by simp)).trans h.c0, (World.cell?_setCell_other _ _ _ _ (by simp)).trans h.c1, World.cell?_setCell_same _ _ _ h.c2, by simp [h.f1], by simp [h.f2], h.lo, h.hi, n, D, g1, ownsMap_block g2 (Below.heap_setCell _ _ _ _ (by simpa using h.ne.symm)), g3⟩

set_option maxHeartbeats 16000000 in
theorem rule_c (m B bc bm : Nat) (when : Int) (r : Ru) (cs : List Value) (st : St) (w : World) (hx : RuA B w m cs r) (hc : Chk bc bm when w st 0) (hT : Tb B w) (hB1 : B ≤ bc) (hB2 : B ≤ bm) :
    Calls Tryz.prog 43 #[.pointer (some ⟨bc, 0, none⟩), .agg cs.toArray] w (Out bc bm r.when 0 w (ckR m r st)) := by
  obtain ⟨wh, has, pat, bd⟩ := r
  obtain ⟨c0, c1, c2, c3, v, rfl, ww, hp, hsl⟩ := hx
  simp only at hp hsl ww
  have HP0 : Hid (ExA B w m [c0, c1, c2, c3] pat) := hp
  cases m with
  | zero => exact hp.elim
  | succ m =>
  cases pat with
  | mk k n s l =>
  obtain ⟨v1, e1, _, _, hws, a, cap, rfl, hlen, _⟩ := hp
  simp only [List.cons.injEq, and_true] at e1
  obtain ⟨rfl, rfl, rfl, rfl⟩ := e1
  have HS : Hid (Sl w B 6 v bd.length (fun i c => ∃ x, bd[i]? = some x ∧ SmA B w (m + 1) c x)) := hsl
  obtain ⟨a2, p2, rfl, hl2, _⟩ := hsl
  have HP : Hid (ExA B w (m + 1) [.int .i64 k, .int .i64 n, .string s, .slice a l.length cap] (.mk k n s l)) := HP0
  have H : Hid (Chk bc bm when w st 0) := hc
  have HT : Hid (Tb B w) := hT
  have HBL : Hid (B ≤ w.heap.size) := by have := hc.lt; unfold Hid; omega
  have g1 : w.heap.size ≠ bc := by have := hc.lt; omega
  have g2 : w.heap.size ≠ bm := by have := hc.lt; omega
  have HLEN : Hid (l.length ≤ maxLen) := hlen
  clear HP0 hc hT hlen hl2 hws ww
  obtain ⟨o, ho⟩ : ∃ o, o = Obj.cells #[.int .i64 wh, .bool has, .int .i64 k, .int .i64 n, .string s, .slice a l.length cap, .slice a2 bd.length p2] 60 := ⟨_, rfl⟩
  have HO0 : Hid (But bc bm w (w.alloc o)) := (But.refl _ _ _).alloc o
  have HC0 : Hid (Chk bc bm when (w.alloc o) st 0) := H.out.alloc o
  have HR0 : Hid (RowAt (w.alloc o) w.heap.size #[.int .i64 wh, .bool has, .int .i64 k, .int .i64 n, .string s, .slice a l.length cap, .slice a2 bd.length p2]) := by rw [ho]; exact RowAt.new w _ _
  change Calls Tryz.prog 43 #[.pointer (some ⟨bc, 0, none⟩), .agg #[.int .i64 wh, .bool has, .int .i64 k, .int .i64 n, .string s, .slice a l.length cap, .slice a2 bd.length p2]] w (Out bc bm wh 0 w (ckR (m + 1) ⟨wh, has, .mk k n s l, bd⟩ st))
  have hne : ¬ bc = w.heap.size := fun h => g1 h.symm
  have hne2 : ¬ w.heap.size = bc := g1
  by_cases hk1 : wh < 0
  · have HN : Hid (ckR (m + 1) ⟨wh, has, .mk k n s l, bd⟩ st = .error 3) := by simp only [Hid, ckR]; rw [if_pos (.inl hk1)]
    subst ho
    go_enter Tryz.func43, Tryz.ntmps43
    go_wp2_with fail
    refine (refuse_t 3 _).mono ?_
    rintro e w99 ⟨rfl, rfl⟩
    go_wp2_with fail
    refine ⟨rfl, ?_⟩
    rw [HN.out]
    exact out_error HO0.out
  by_cases hk2 : 2 < wh
  · have HN : Hid (ckR (m + 1) ⟨wh, has, .mk k n s l, bd⟩ st = .error 3) := by simp only [Hid, ckR]; rw [if_pos (.inr hk2)]
    subst ho
    go_enter Tryz.func43, Tryz.ntmps43
    go_wp2_with fail
    refine (refuse_t 3 _).mono ?_
    rintro e w99 ⟨rfl, rfl⟩
    go_wp2_with fail
    refine ⟨rfl, ?_⟩
    rw [HN.out]
    exact out_error HO0.out
  have HK : Hid (¬ (wh < 0 ∨ 2 < wh)) := by unfold Hid; omega
  have bk1 : decide (wh < 0) = false := decide_eq_false hk1
  have bk2 : decide (2 < wh) = false := decide_eq_false hk2
  cases has with
  | true =>
    by_cases h1 : wh = 1
    · subst h1
      have HN0 : Hid (ckR (m + 1) ⟨1, true, .mk k n s l, bd⟩ st = (match ckE (m + 1) (.mk k n s l) 1 st with
        | .error e => .error e
        | .ok st1 => runL (fun x => ckS 1 (m + 1) x 1) bd st1)) := by simp [Hid, ckR]; rfl
      have HC1 : Hid (Chk bc bm 1 ((w.alloc o).setCell ⟨bc, 2, none⟩ (.int .i64 1)) st 0) := HC0.out.setWhen 1
      have HO1 : Hid (But bc bm w ((w.alloc o).setCell ⟨bc, 2, none⟩ (.int .i64 1))) := HO0.out.set 2 _
      have HR1 : Hid (RowAt ((w.alloc o).setCell ⟨bc, 2, none⟩ (.int .i64 1)) w.heap.size #[.int .i64 1, .bool true, .int .i64 k, .int .i64 n, .string s, .slice a l.length cap, .slice a2 bd.length p2]) := HR0.out.stays (Below.heap_setCell _ _ _ _ g1)
      have HT1 : Hid (Tb B ((w.alloc o).setCell ⟨bc, 2, none⟩ (.int .i64 1))) := HT.out.below (HO1.out.below HBL.out hB1 hB2)
      clear hk1 hk2 HK bk1 bk2
      have q0 := HR0.out.cell 0
      have q1 := HR0.out.cell 1
      have q2 := HR0.out.cell 2
      have q3 := HR0.out.cell 3
      have q4 := HR0.out.cell 4
      have q5 := HR0.out.cell 5
      have q6 := HR0.out.cell 6
      simp only [List.getElem?_toArray, List.getElem?_cons_zero, List.getElem?_cons_succ] at q0 q1 q2 q3 q4 q5 q6
      have c2' := HC0.out.c2
      have f2' := HC0.out.f2
      go_enter Tryz.func43, Tryz.ntmps43
      go_wp2_with fail
      rw [← ho]
      clear ho
      try rw [bk1, bk2]
      refine (refuse_f 3 _).mono ?_
      rintro e w1 ⟨rfl, he1⟩
      subst he1
      go_wp2_with fail
      refine (refuse_f 4 _).mono ?_
      rintro e w2 ⟨rfl, he2⟩
      subst he2
      go_wp2_with fail
      refine (exprC_all (m + 1) B bc bm 1 (.mk k n s l) [.int .i64 k, .int .i64 n, .string s, .slice a l.length cap] 1 st _ (HP.out.below (HO1.out.below HBL.out hB1 hB2)) HC1.out HT1.out hB1 hB2 (by omega) (by omega)).mono ?_
      rintro e w3 ⟨hb3, hr⟩
      have HO3 : Hid (But bc bm w w3) := HO1.out.trans hb3
      have HR3 : Hid (RowAt w3 w.heap.size #[.int .i64 1, .bool true, .int .i64 k, .int .i64 n, .string s, .slice a l.length cap, .slice a2 bd.length p2]) := hb3.box HR1.out g1 g2
      have HT3 : Hid (Tb B w3) := HT.out.below (HO3.out.below HBL.out hB1 hB2)
      clear hb3 q0 q1 q2 q3 q4 q5 q6 HO1 HC1 HR1 HT1 c2' f2'
      cases hE : ckE (m + 1) (.mk k n s l) 1 st with
      | error er =>
        rw [hE] at hr
        subst hr
        have HN : Hid (ckR (m + 1) ⟨1, true, .mk k n s l, bd⟩ st = .error er) := by rw [HN0.out, hE]; rfl
        clear hE
        go_wp2_with fail
        refine ⟨rfl, ?_⟩
        rw [HN.out]
        exact out_error HO3.out
      | ok st1 =>
        rw [hE] at hr
        obtain ⟨rfl, hc3⟩ := hr
        have HC3 : Hid (Chk bc bm 1 w3 st1 0) := hc3
        have HN1 : Hid (ckR (m + 1) ⟨1, true, .mk k n s l, bd⟩ st = runL (fun x => ckS 1 (m + 1) x 1) bd st1) := by rw [HN0.out, hE]; rfl
        clear hE hc3
        have q0 := HR3.out.cell 0
        have q1 := HR3.out.cell 1
        have q2 := HR3.out.cell 2
        have q3 := HR3.out.cell 3
        have q4 := HR3.out.cell 4
        have q5 := HR3.out.cell 5
        have q6 := HR3.out.cell 6
        simp only [List.getElem?_toArray, List.getElem?_cons_zero, List.getElem?_cons_succ] at q0 q1 q2 q3 q4 q5 q6
        go_wp2_with fail
        refine (refuse_f 4 _).mono ?_
        rintro e w4 ⟨rfl, he4⟩
        subst he4
        go_wp2_with fail
        refine (stmtsC_all (m + 1) B bc bm 1 bd _ 1 st1 _ (HS.out.below (HO3.out.below HBL.out hB1 hB2) fun i c ⟨x, hx, he⟩ => ⟨x, hx, he.below (HO3.out.below HBL.out hB1 hB2)⟩) HC3.out HT3.out hB1 hB2 (by omega) (by omega)).mono ?_
        rintro e w9 ⟨hb9, hr⟩
        have HO9 : Hid (But bc bm w w9) := HO3.out.trans hb9
        clear hb9 q0 q1 q2 q3 q4 q5 q6
        cases hR : runL (fun x => ckS 1 (m + 1) x 1) bd st1 with
        | error er =>
          rw [hR] at hr
          subst hr
          have HN : Hid (ckR (m + 1) ⟨1, true, .mk k n s l, bd⟩ st = .error er) := HN1.out.trans hR
          clear hR
          go_wp2_with fail
          refine ⟨rfl, ?_⟩
          rw [HN.out]
          exact out_error HO9.out
        | ok st5 =>
          rw [hR] at hr
          obtain ⟨rfl, hc9⟩ := hr
          have HC9 : Hid (Chk bc bm 1 w9 st5 0) := hc9
          have HN : Hid (ckR (m + 1) ⟨1, true, .mk k n s l, bd⟩ st = .ok st5) := HN1.out.trans hR
          clear hR hc9
          go_wp2_with fail
          go_end0
          rw [HN.out]
          exact out_ok HO9.out HC9.out
    · have HN : Hid (ckR (m + 1) ⟨wh, true, .mk k n s l, bd⟩ st = .error 4) := by simp only [Hid, ckR]; rw [if_neg HK.out, if_pos ⟨trivial, h1⟩]
      have b1 : (wh != 1) = true := by simpa using h1
      clear hk1 hk2 h1
      have q0 := HR0.out.cell 0
      have q1 := HR0.out.cell 1
      have q2 := HR0.out.cell 2
      have q3 := HR0.out.cell 3
      have q4 := HR0.out.cell 4
      have q5 := HR0.out.cell 5
      have q6 := HR0.out.cell 6
      simp only [List.getElem?_toArray, List.getElem?_cons_zero, List.getElem?_cons_succ] at q0 q1 q2 q3 q4 q5 q6
      have c2' := HC0.out.c2
      have f2' := HC0.out.f2
      go_enter Tryz.func43, Tryz.ntmps43
      go_wp2_with fail
      rw [← ho]
      clear ho
      try rw [bk1, bk2]
      refine (refuse_f 3 _).mono ?_
      rintro e w1 ⟨rfl, he1⟩
      subst he1
      go_wp2_with fail
      refine (refuse_t 4 _).mono ?_
      rintro e w99 ⟨rfl, rfl⟩
      go_wp2_with fail
      refine ⟨rfl, ?_⟩
      rw [HN.out]
      exact out_error HO0.out
  | false =>
    have HN0 : Hid (ckR (m + 1) ⟨wh, false, .mk k n s l, bd⟩ st = (if zeroE (.mk k n s l) = false then .error 4 else runL (fun x => ckS wh (m + 1) x 1) bd st)) := by
      simp only [Hid, ckR]; rw [if_neg HK.out]; simp
    have HC1 : Hid (Chk bc bm wh ((w.alloc o).setCell ⟨bc, 2, none⟩ (.int .i64 wh)) st 0) := HC0.out.setWhen wh
    have HO1 : Hid (But bc bm w ((w.alloc o).setCell ⟨bc, 2, none⟩ (.int .i64 wh))) := HO0.out.set 2 _
    have HR1 : Hid (RowAt ((w.alloc o).setCell ⟨bc, 2, none⟩ (.int .i64 wh)) w.heap.size #[.int .i64 wh, .bool false, .int .i64 k, .int .i64 n, .string s, .slice a l.length cap, .slice a2 bd.length p2]) := HR0.out.stays (Below.heap_setCell _ _ _ _ g1)
    clear hk1 hk2
    have q0 := HR0.out.cell 0
    have q1 := HR0.out.cell 1
    have q2 := HR0.out.cell 2
    have q3 := HR0.out.cell 3
    have q4 := HR0.out.cell 4
    have q5 := HR0.out.cell 5
    have q6 := HR0.out.cell 6
    simp only [List.getElem?_toArray, List.getElem?_cons_zero, List.getElem?_cons_succ] at q0 q1 q2 q3 q4 q5 q6
    have c2' := HC0.out.c2
    have f2' := HC0.out.f2
    go_enter Tryz.func43, Tryz.ntmps43
    go_wp2_with fail
    rw [← ho]
    clear ho
    try rw [bk1, bk2]
    refine (refuse_f 3 _).mono ?_
    rintro e w1 ⟨rfl, he1⟩
    subst he1
    go_wp2_with fail
    refine (refuse_f 4 _).mono ?_
    rintro e w2 ⟨rfl, he2⟩
    subst he2
    go_wp2_with fail
    refine (isZero_c k n s a l cap _ HLEN.out).mono ?_
    rintro e w3 ⟨rfl, hb3⟩
    have HO3 : Hid (But bc bm w w3) := HO1.out.more hb3
    have HC3 : Hid (Chk bc bm wh w3 st 0) := HC1.out.below hb3
    have HR3 : Hid (RowAt w3 w.heap.size #[.int .i64 wh, .bool false, .int .i64 k, .int .i64 n, .string s, .slice a l.length cap, .slice a2 bd.length p2]) := HR1.out.below hb3
    have HT3 : Hid (Tb B w3) := HT.out.below (HO3.out.below HBL.out hB1 hB2)
    clear hb3 q0 q1 q2 q3 q4 q5 q6 HO1 HC1 HR1 c2' f2' 
    have q0 := HR3.out.cell 0
    have q1 := HR3.out.cell 1
    have q2 := HR3.out.cell 2
    have q3 := HR3.out.cell 3
    have q4 := HR3.out.cell 4
    have q5 := HR3.out.cell 5
    have q6 := HR3.out.cell 6
    simp only [List.getElem?_toArray, List.getElem?_cons_zero, List.getElem?_cons_succ] at q0 q1 q2 q3 q4 q5 q6
    cases hz : zeroE (.mk k n s l) with
    | false =>
      have HN : Hid (ckR (m + 1) ⟨wh, false, .mk k n s l, bd⟩ st = .error 4) := by rw [HN0.out, if_pos hz]; rfl
      clear hz
      go_wp2_with fail
      refine (refuse_t 4 _).mono ?_
      rintro e w99 ⟨rfl, rfl⟩
      go_wp2_with fail
      refine ⟨rfl, ?_⟩
      rw [HN.out]
      exact out_error HO3.out
    | true =>
      have HN1 : Hid (ckR (m + 1) ⟨wh, false, .mk k n s l, bd⟩ st = runL (fun x => ckS wh (m + 1) x 1) bd st) := by rw [HN0.out, if_neg (by rw [hz]; decide)]; rfl
      clear hz
      go_wp2_with fail
      refine (refuse_f 4 _).mono ?_
      rintro e w4 ⟨rfl, he4⟩
      subst he4
      go_wp2_with fail
      refine (stmtsC_all (m + 1) B bc bm wh bd _ 1 st _ (HS.out.below (HO3.out.below HBL.out hB1 hB2) fun i c ⟨x, hx, he⟩ => ⟨x, hx, he.below (HO3.out.below HBL.out hB1 hB2)⟩) HC3.out HT3.out hB1 hB2 (by omega) (by omega)).mono ?_
      rintro e w9 ⟨hb9, hr⟩
      have HO9 : Hid (But bc bm w w9) := HO3.out.trans hb9
      clear hb9 q0 q1 q2 q3 q4 q5 q6
      cases hR : runL (fun x => ckS wh (m + 1) x 1) bd st with
      | error er =>
        rw [hR] at hr
        subst hr
        have HN : Hid (ckR (m + 1) ⟨wh, false, .mk k n s l, bd⟩ st = .error er) := HN1.out.trans hR
        clear hR
        go_wp2_with fail
        refine ⟨rfl, ?_⟩
        rw [HN.out]
        exact out_error HO9.out
      | ok st5 =>
        rw [hR] at hr
        obtain ⟨rfl, hc9⟩ := hr
        have HC9 : Hid (Chk bc bm wh w9 st5 0) := hc9
        have HN : Hid (ckR (m + 1) ⟨wh, false, .mk k n s l, bd⟩ st = .ok st5) := HN1.out.trans hR
        clear hR hc9
        go_wp2_with fail
        go_end0
        rw [HN.out]
        exact out_ok HO9.out HC9.out
end Go.Proofs.YtfbpkbochhfnhaaGreatDoor
