/-
  Contract of the checker's exprTexts.
-/
import Derived.Test.YtfbpkbochhfnhaaGreatDoorFind
import Derived.Test.YtfbpkbochhfnhaaGreatDoorNode
import Derived.Handy
namespace Go.Proofs.YtfbpkbochhfnhaaGreatDoor
open Go.ChangeShapes Go.WideShapes Go.ChangeAt Go.RowKit Go.Joins
set_option linter.unusedVariables false

theorem Chk.but {bc bm : Nat} {when : Int} {w : World} {st : St} {j : Nat} {R : Res} {w' : World} {r : Ending} (o : Obj) (h : Out bc bm when j (w.alloc o) R r w') : Out bc bm when j w R r w' :=
  ⟨(But.of_below ((Below.refl _ _).alloc (Nat.le_refl _) o)).trans h.1, h.2⟩

/-- The end of a call that handed its own end on. -/
theorem out_error {bc bm : Nat} {when : Int} {j : Nat} {w w' : World} {e : Int} (hb : But bc bm w w') : Out bc bm when j w (.error e) (.panicked [errP e]) w' := ⟨hb, rfl⟩
theorem out_ok {bc bm : Nat} {when : Int} {j : Nat} {w w' : World} {st : St} (hb : But bc bm w w') (hc : Chk bc bm when w' st j) : Out bc bm when j w (.ok st) (.returned (.tuple #[])) w' := ⟨hb, rfl, hc⟩

set_option maxHeartbeats 4000000 in
theorem exprTexts_c (B bc bm : Nat) (when : Int) (k n : Int) (s : ByteArray) (v : Value) (st : St) (w : World) (h : Chk bc bm when w st 2) (hT : Tb B w) (hB1 : B ≤ bc) (hB2 : B ≤ bm) (hs : s.size ≤ maxLen) :
    Calls Tryz.prog 98 #[.pointer (some ⟨bc, 0, none⟩), .agg #[.int .i64 k, .int .i64 n, .string s, v]] w (Out bc bm when 0 w (textsE k s st)) := by
  have H : Hid (Chk bc bm when w st 2) := h
  have HT : Hid (Tb B w) := hT
  have HS : Hid (s.size ≤ maxLen) := hs
  have HBL : Hid (B ≤ w.heap.size) := by have := h.lt; unfold Hid; omega
  have HA : Hid (∀ o, Below B w (w.alloc o)) := fun o => (Below.refl _ _).alloc HBL.out o
  have HB : Hid (∀ o, But bc bm w (w.alloc o)) := fun o => (But.refl _ _ _).alloc o
  unfold maxLen at hs
  clear h hT
  by_cases e2 : k = 2
  · subst e2
    by_cases g : 200 < (s.size : Int)
    · have HP : Hid (textsE 2 s st = .error 1) := by simp only [Hid, textsE, if_true]; rw [if_pos (by omega)]
      go_enter Tryz.func98, Tryz.ntmps98
      go_wp2_with fail
      refine (refuse_t 1 _).mono ?_
      rintro e w1 ⟨rfl, rfl⟩
      go_wp2_with fail
      refine ⟨rfl, ?_⟩
      rw [HP.out]
      exact out_error (HB.out _)
    · have HP : Hid (textsE 2 s st = .ok st) := by simp only [Hid, textsE, if_true]; rw [if_neg (by omega)]
      go_enter Tryz.func98, Tryz.ntmps98
      go_wp2_with fail
      refine (refuse_f 1 _).mono ?_
      rintro e w1 ⟨rfl, rfl⟩
      go_wp2_with fail
      go_end0
      rw [HP.out]
      exact out_ok (HB.out _) ((H.out.alloc _).less (Nat.zero_le _))
  by_cases e3 : k = 3
  · subst e3
    have HP : Hid (textsE 3 s st = nameR s 1 st) := by simp [Hid, textsE]
    clear e2
    go_enter Tryz.func98, Tryz.ntmps98
    go_wp2_with fail
    refine (nameIs_c B bc bm 1 when s 1 st _ (H.out.alloc _) (HT.out.below (HA.out _)) HS.out (.inl rfl)).mono ?_
    rintro e w1 ⟨hb, hr⟩
    have HO : Hid (But bc bm w w1) := (HB.out _).trans hb
    clear hb
    rw [HP.out]
    cases hR : nameR s 1 st with
    | ok st' =>
      rw [hR] at hr
      obtain ⟨rfl, hc⟩ := hr
      have HC : Hid (Chk bc bm when w1 st' 1) := hc
      have HQ : Hid (textsE 3 s st = .ok st') := HP.out.trans hR
      clear hc hR
      go_wp2_with fail
      go_end0
      rw [HQ.out]
      exact out_ok HO.out (HC.out.less (Nat.zero_le _))
    | error er =>
      rw [hR] at hr
      subst hr
      clear hR
      go_wp2_with fail
      exact ⟨rfl, out_error HO.out⟩
  by_cases e5 : k = 5
  · subst e5
    have HP : Hid (textsE 5 s st = nameR s 2 st) := by simp [Hid, textsE]
    clear e2 e3
    go_enter Tryz.func98, Tryz.ntmps98
    go_wp2_with fail
    refine (nameIs_c B bc bm 1 when s 2 st _ (H.out.alloc _) (HT.out.below (HA.out _)) HS.out (.inr rfl)).mono ?_
    rintro e w1 ⟨hb, hr⟩
    have HO : Hid (But bc bm w w1) := (HB.out _).trans hb
    clear hb
    rw [HP.out]
    cases hR : nameR s 2 st with
    | ok st' =>
      rw [hR] at hr
      obtain ⟨rfl, hc⟩ := hr
      have HC : Hid (Chk bc bm when w1 st' 1) := hc
      have HQ : Hid (textsE 5 s st = .ok st') := HP.out.trans hR
      clear hc hR
      go_wp2_with fail
      go_end0
      rw [HQ.out]
      exact out_ok HO.out (HC.out.less (Nat.zero_le _))
    | error er =>
      rw [hR] at hr
      subst hr
      clear hR
      go_wp2_with fail
      exact ⟨rfl, out_error HO.out⟩
  by_cases e9 : k = 9
  · subst e9
    have HP : Hid (textsE 9 s st = nameR s 2 st) := by simp [Hid, textsE]
    clear e2 e3 e5
    go_enter Tryz.func98, Tryz.ntmps98
    go_wp2_with fail
    refine (nameIs_c B bc bm 1 when s 2 st _ (H.out.alloc _) (HT.out.below (HA.out _)) HS.out (.inr rfl)).mono ?_
    rintro e w1 ⟨hb, hr⟩
    have HO : Hid (But bc bm w w1) := (HB.out _).trans hb
    clear hb
    rw [HP.out]
    cases hR : nameR s 2 st with
    | ok st' =>
      rw [hR] at hr
      obtain ⟨rfl, hc⟩ := hr
      have HC : Hid (Chk bc bm when w1 st' 1) := hc
      have HQ : Hid (textsE 9 s st = .ok st') := HP.out.trans hR
      clear hc hR
      go_wp2_with fail
      go_end0
      rw [HQ.out]
      exact out_ok HO.out (HC.out.less (Nat.zero_le _))
    | error er =>
      rw [hR] at hr
      subst hr
      clear hR
      go_wp2_with fail
      exact ⟨rfl, out_error HO.out⟩
  by_cases e6 : k = 6
  · subst e6
    clear e2 e3 e5 e9
    go_enter Tryz.func98, Tryz.ntmps98
    go_wp2_with fail
    refine (isOperator_c s _ ((HT.out.below (HA.out _)).levels.2)).mono ?_
    rintro e w1 ⟨rfl, hb⟩
    have HO : Hid (But bc bm w w1) := (HB.out _).more hb
    have HC : Hid (Chk bc bm when w1 st 2) := (H.out.alloc _).below hb
    clear hb
    by_cases g : 0 < lvl s
    · have HP : Hid (textsE 6 s st = .ok st) := by simp [Hid, textsE, g]
      rw [decide_eq_true g]
      clear g
      go_wp2_with fail
      refine (refuse_f 4 _).mono ?_
      rintro e w2 ⟨rfl, rfl⟩
      go_wp2_with fail
      go_end0
      rw [HP.out]
      exact out_ok HO.out (HC.out.less (Nat.zero_le _))
    · have HP : Hid (textsE 6 s st = .error 4) := by simp [Hid, textsE, g]
      rw [decide_eq_false g]
      clear g
      go_wp2_with fail
      refine (refuse_t 4 _).mono ?_
      rintro e w2 ⟨rfl, rfl⟩
      go_wp2_with fail
      refine ⟨rfl, ?_⟩
      rw [HP.out]
      exact out_error HO.out
  by_cases e12 : k = 12
  · subst e12
    clear e2 e3 e5 e9 e6
    by_cases g1 : s.toList = [78, 82]
    · have HP : Hid (textsE 12 s st = .ok st) := by simp [Hid, textsE, g1]
      have b1 : (s.toList == [78, 82]) = true := by simp [g1]
      clear g1
      go_enter Tryz.func98, Tryz.ntmps98
      go_wp2_with fail
      refine (refuse_f 4 _).mono ?_
      rintro e w2 ⟨rfl, rfl⟩
      go_wp2_with fail
      go_end0
      rw [HP.out]
      exact out_ok (HB.out _) ((H.out.alloc _).less (Nat.zero_le _))
    · have b1 : (s.toList == [78, 82]) = false := by simpa using g1
      by_cases g2 : s.toList = [78, 70]
      · have HP : Hid (textsE 12 s st = .ok st) := by simp [Hid, textsE, g2]
        have b2 : (s.toList == [78, 70]) = true := by simp [g2]
        clear g1 g2
        go_enter Tryz.func98, Tryz.ntmps98
        go_wp2_with fail
        refine (refuse_f 4 _).mono ?_
        rintro e w2 ⟨rfl, rfl⟩
        go_wp2_with fail
        go_end0
        rw [HP.out]
        exact out_ok (HB.out _) ((H.out.alloc _).less (Nat.zero_le _))
      · have HP : Hid (textsE 12 s st = .error 4) := by simp [Hid, textsE, g1, g2]
        have b2 : (s.toList == [78, 70]) = false := by simpa using g2
        clear g1 g2
        go_enter Tryz.func98, Tryz.ntmps98
        go_wp2_with fail
        refine (refuse_t 4 _).mono ?_
        rintro e w2 ⟨rfl, rfl⟩
        go_wp2_with fail
        refine ⟨rfl, ?_⟩
        rw [HP.out]
        exact out_error (HB.out _)
  by_cases e11 : k = 11
  · subst e11
    have HP : Hid (textsE 11 s st = .ok st) := by simp [Hid, textsE]
    clear e2 e3 e5 e9 e6 e12
    go_enter Tryz.func98, Tryz.ntmps98
    go_wp2_with fail
    go_end0
    rw [HP.out]
    exact out_ok (HB.out _) ((H.out.alloc _).less (Nat.zero_le _))
  have f2 : (k == 2) = false := by simpa using e2
  have f3 : (k == 3) = false := by simpa using e3
  have f5 : (k == 5) = false := by simpa using e5
  have f9 : (k == 9) = false := by simpa using e9
  have f6 : (k == 6) = false := by simpa using e6
  have f12 : (k == 12) = false := by simpa using e12
  have f11 : (k == 11) = false := by simpa using e11
  by_cases g : 0 < s.size
  · have HP : Hid (textsE k s st = .error 4) := by simp [Hid, textsE, e2, e3, e5, e9, e6, e12, e11, g]
    have he := ise_f g
    clear e2 e3 e5 e9 e6 e12 e11
    go_enter Tryz.func98, Tryz.ntmps98
    go_wp2_with fail
    refine (refuse_t 4 _).mono ?_
    rintro e w2 ⟨rfl, rfl⟩
    go_wp2_with fail
    refine ⟨rfl, ?_⟩
    rw [HP.out]
    exact out_error (HB.out _)
  · have HP : Hid (textsE k s st = .ok st) := by simp only [Hid, textsE]; rw [if_neg e2, if_neg e3, if_neg (by omega), if_neg e6, if_neg e12, if_neg e11, if_neg g]
    have he := ise_t g
    clear e2 e3 e5 e9 e6 e12 e11
    go_enter Tryz.func98, Tryz.ntmps98
    go_wp2_with fail
    refine (refuse_f 4 _).mono ?_
    rintro e w2 ⟨rfl, rfl⟩
    go_wp2_with fail
    go_end0
    rw [HP.out]
    exact out_ok (HB.out _) ((H.out.alloc _).less (Nat.zero_le _))
end Go.Proofs.YtfbpkbochhfnhaaGreatDoor
