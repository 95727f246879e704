/-
  Contract of the reader's signed; what enter handed back, called at the end.
-/
import Derived.Test.YtfbpkbochhfnhaaGreatDoorRdE0
import Derived.Defers
namespace Go.Proofs.YtfbpkbochhfnhaaGreatDoor
open Go.ChangeShapes Go.WideShapes Go.ChangeAt Go.RowKit Go.Joins Go.Maps
set_option linter.unusedVariables false

theorem leaveD_c (r g : Nat) (o : Int) (ps : List Pc) (u : FrameMode) (w : World) (h : Rdr r w (o + 1) ps) (ho : 0 ≤ o) (hg : Lv r g w) :
    CallsD Tryz.prog 88 #[.pointer (some ⟨g, 0, none⟩)] u w fun e u' w' => u' = u ∧ (e = .returned (.tuple #[]) ∧ w' = w.setCell ⟨r, 1, none⟩ (.int .i64 o)) := by
  have c1 := h.c1
  have f1 := h.f1
  have hi := h.hi
  have q0 := hg.2.cell 0
  simp only [List.getElem?_toArray, List.getElem?_cons_zero] at q0
  have i1 : o + 1 - 1 = o := by omega
  have i2 : -9223372036854775808 ≤ o := by omega
  have i3 : o ≤ 9223372036854775807 := by omega
  clear h hg
  go_enter_d Tryz.func88, Tryz.ntmps88
  go_wp2_with fail
  go_end0
  exact ⟨rfl, by simp⟩

theorem leaveD_p (r g : Nat) (o : Int) (u : FrameMode) (w : World) (h : Opn r w (o + 1)) (ho : 0 ≤ o) (hg : Lv r g w) :
    CallsD Tryz.prog 88 #[.pointer (some ⟨g, 0, none⟩)] u w fun e u' w' => u' = u ∧ (e = .returned (.tuple #[]) ∧ Opn r w' o ∧ But r r w w') := by
  obtain ⟨o', c1, f1, l1, l2, l3⟩ := h
  have q0 := hg.2.cell 0
  simp only [List.getElem?_toArray, List.getElem?_cons_zero] at q0
  have i2 : -9223372036854775808 ≤ o' - 1 := by omega
  have i3 : o' - 1 ≤ 9223372036854775807 := by omega
  have HB : Hid (Opn r (w.setCell ⟨r, 1, none⟩ (.int .i64 (o' - 1))) o ∧ But r r w (w.setCell ⟨r, 1, none⟩ (.int .i64 (o' - 1)))) := ⟨⟨o' - 1, World.cell?_setCell_same _ _ _ c1, by simp [f1], by omega, by omega, ho⟩, (But.refl r r w).set 1 _⟩
  clear hg
  go_enter_d Tryz.func88, Tryz.ntmps88
  go_wp2_with fail
  go_end0
  exact ⟨rfl, HB.out⟩

theorem Lv.but {r g : Nat} {w w' : World} (h : Lv r g w) (hb : But r r w w') : Lv r g w' := ⟨h.1, h.2.stays (hb.block _ h.2.lt h.1 h.1)⟩

theorem Lv.set4 {r g g' : Nat} {w : World} (h : Lv r g w) (hne : g' ≠ g) (a b c d : Value) : Lv r g (set4 w g' a b c d) :=
  ⟨h.1, h.2.stays (by
    simp only [Go.Proofs.YtfbpkbochhfnhaaGreatDoor.set4]
    rw [Below.heap_setCell _ _ _ _ (by simpa using fun e => hne e.symm), Below.heap_setCell _ _ _ _ (by simpa using fun e => hne e.symm), Below.heap_setCell _ _ _ _ (by simpa using fun e => hne e.symm), Below.heap_setCell _ _ _ _ (by simpa using fun e => hne e.symm)])⟩

/-- One less is open. -/
theorem OutR.left {r n : Nat} {o : Int} {w U : World} {R : Rd Ex} {x : Ex} {p : List Pc} {v : Value} (h : OutR r (o + 1) w R (KE w n) (.returned v) U) (hR : R = .ok (x, p)) (ho : 0 ≤ o) (h4 : o ≤ 40) (hr : r < w.heap.size) : OutR r o w R (KE w n) (.returned v) (U.setCell ⟨r, 1, none⟩ (.int .i64 o)) := by
  obtain ⟨h1, h2⟩ := h
  refine ⟨h1.trans ((But.refl _ _ _).set 1 _), ?_⟩
  rw [hR] at h2 ⊢
  obtain ⟨v', e, h3, h5, cs, e2, h6⟩ := h2
  exact ⟨v', e, h3.opened o ho h4, h5, cs, e2, h6.same ((Same.refl _ _).set hr 1 _) (Nat.le_refl _) (Nat.le_refl _)⟩

set_option maxHeartbeats 2000000 in
theorem signed_of {m : Nat} (hX : OpC m) : SgnC (m + 1) := by
  intro r o ps w h hm
  have HX : Hid (OpC m) := hX
  clear hX
  have lo := h.lo
  have hlt := h.lt
  obtain ⟨W, hW⟩ : ∃ W, W = w.alloc (.cells #[.int .i64 0, .int .i64 0, .string ⟨#[]⟩, .slice none 0 0] 57) := ⟨_, rfl⟩
  have HA0 : Hid (Below w.heap.size w W) := by rw [hW]; exact (Below.refl _ _).alloc (Nat.le_refl _) _
  have HG0 : Hid (Bx w.heap.size [.int .i64 0, .int .i64 0, .string ⟨#[]⟩, .slice none 0 0] 57 W) := by rw [hW]; exact Bx.new w _ _
  have HS0 : Hid (w.heap.size + 1 ≤ W.heap.size) := by rw [hW]; simp [Hid]
  have HB0 : Hid (But r r w W) := But.of_below HA0.out
  have HR0 : Hid (Rdr r W o ps) := h.below HA0.out
  have HWW : Hid (W = _) := hW
  clear hW h
  by_cases ho : 40 < o + 1
  · have HE : Hid (sgnR (m + 1) o ps = .error 1) := by unfold Hid; rw [sgnR, if_pos ho]
    have HC : Hid _ := enter_f r o ps W HR0.out ho
    go_enter_defers Tryz.func115, Tryz.ntmps115
    go_wp2_with fail
    rw [← HWW.out]
    clear HWW
    refine Calls.mono HC.out ?_
    rintro e w1 ⟨rfl, hb, hop⟩
    have HO : Hid (But r r w w1 ∧ Opn r w1 o) := ⟨HB0.out.trans hb, hop⟩
    clear hb hop HC
    go_wp2_with fail
    refine ⟨HO.out.1, ?_⟩
    rw [HE.out]
    exact ⟨rfl, HO.out.2⟩
  · have HE : Hid (sgnR (m + 1) o ps = opR m (o + 1) ps) := by unfold Hid; rw [sgnR, if_neg ho]
    have HC : Hid _ := enter_c r o ps W HR0.out ho
    go_enter_defers Tryz.func115, Tryz.ntmps115
    go_wp2_with fail
    rw [← HWW.out]
    clear HWW
    refine Calls.mono HC.out ?_
    rintro e w1 ⟨rfl, hrd, hb, hlv⟩
    have HB1 : Hid (But r r w w1) := HB0.out.trans hb
    have HS1 : Hid (w.heap.size + 1 ≤ w1.heap.size) := Nat.le_trans HS0.out hb.size
    have HG1 : Hid (Bx (w.heap.size) [.int .i64 0, .int .i64 0, .string ⟨#[]⟩, .slice none 0 0] 57 w1) := HG0.out.but hb hlt
    have HV1 : Hid (Lv r W.heap.size w1) := hlv
    have HR1 : Hid (Rdr r w1 (o + 1) ps) := hrd
    have HC2 : Hid _ := HX.out r (o + 1) ps w1 hrd (by omega)
    clear hb hlv hrd HC
    go_wp2_with fail
    refine Calls.mono HC2.out ?_
    rintro e w2 ⟨hb, hr⟩
    have HB2 : Hid (But r r w w2) := HB1.out.trans hb
    have HG2 : Hid (Bx (w.heap.size) [.int .i64 0, .int .i64 0, .string ⟨#[]⟩, .slice none 0 0] 57 w2) := HG1.out.but hb hlt
    have HV2 : Hid (Lv r W.heap.size w2) := HV1.out.but hb
    rcases rd_cases (opR m (o + 1) ps) with ⟨er, hN⟩ | ⟨x, p1, hN⟩
    · rw [hN] at hr HE
      obtain ⟨rfl, hop⟩ := hr
      have HO : Hid (Opn r w2 (o + 1)) := hop
      clear hb hop hN HC2
      go_wp2_with fail
      refine leaves_cons (f := 88) (args := #[.pointer (some ⟨W.heap.size, 0, none⟩)]) (by simp) (by simp [go_sem]) ?_
      refine (leaveD_p r W.heap.size o _ w2 HO.out lo HV2.out).mono ?_
      rintro e u' w3 ⟨rfl, rfl, h1, h2⟩
      refine ⟨HB2.out.trans h2, ?_⟩
      rw [HE.out]
      exact ⟨rfl, h1⟩
    · rw [hN] at hr HE
      obtain ⟨v, rfl, hrd, hl1, cs1, rfl, hx1⟩ := hr
      obtain ⟨k1, n1, s1, a1, len1, cap1, rfl⟩ := hx1.shape
      have HX1 : Hid (ExP (fun b => w.heap.size + 1 ≤ b) w2 (ps.length - p1.length) [.int .i64 k1, .int .i64 n1, .string s1, .slice a1 len1 cap1] x) := hx1.same (Same.refl _ _) HS1.out (Nat.le_refl _)
      have HR2 : Hid (Rdr r w2 (o + 1) p1) := hrd
      have HL : Hid (p1.length < ps.length) := hl1
      obtain ⟨g0, g1, g2, g3, z0, z1, z2, z3⟩ := HG2.out.four
      clear hb hrd hl1 hx1 hN HC2
      go_wp2_with fail
      refine leaves_cons (f := 88) (args := #[.pointer (some ⟨W.heap.size, 0, none⟩)]) (by simp) (by simp [go_sem]) ?_
      have HRU : Hid (Rdr r (set4 w2 w.heap.size (.int .i64 k1) (.int .i64 n1) (.string s1) (.slice a1 len1 cap1)) (o + 1) p1) := HR2.out.low (Below.set4 w2 hlt _ _ _ _)
      refine (leaveD_c r W.heap.size o p1 _ _ HRU.out lo (HV2.out.set4 (by have := HS0.out; omega) _ _ _ _)).mono ?_
      rintro e u' w3 ⟨rfl, rfl, rfl⟩
      have hne : ¬ r = w.heap.size := by omega
      refine ⟨.agg #[.int .i64 k1, .int .i64 n1, .string s1, .slice a1 len1 cap1], by simp [results, Tryz.results115, go_sem, g0, g1, g2, g3], ?_⟩
      exact OutR.left (outE HE.out HB2.out hlt HR2.out HL.out HX1.out (Nat.le_refl _)) HE.out lo (by omega) hlt
end Go.Proofs.YtfbpkbochhfnhaaGreatDoor
