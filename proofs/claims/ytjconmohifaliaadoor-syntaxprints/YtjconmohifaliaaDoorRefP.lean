/-
  Contract of the document's ProgramFault (P2.4).
-/
import Derived.Test.YtjconmohifaliaaDoorRefK
namespace Go.Proofs.YtjconmohifaliaaDoor
open Go.ChangeShapes Go.WideShapes Go.ChangeAt Go.RowKit Go.Joins
set_option linter.unusedVariables false

theorem ExA.data {B : Nat} {w : World} {m : Nat} {cs : List Value} {x : Ex} (h : ExA B w m cs x) : ∃ (k n : Int) (s : ByteArray) (l : List Ex) (a : Option Addr) (cap : Nat), x = .mk k n s l ∧ cs = [.int .i64 k, .int .i64 n, .string s, .slice a l.length cap] ∧ l.length ≤ maxLen := by
  cases m with
  | zero => exact h.elim
  | succ m =>
    cases x with
    | mk k n s l =>
      obtain ⟨v, rfl, _, _, _, a, cap, rfl, hl, _⟩ := h
      exact ⟨k, n, s, l, a, cap, rfl, rfl, hl⟩

theorem CenA.setW {cb : Nat} {when : Int} {w : World} {c : Value × Value} {j : Nat} {R : Res} (h : CenA cb when w c j R) (wh : Int) : CenA cb wh (w.setCell ⟨cb, 3, none⟩ (.int .i64 wh)) c j R := by
  cases R with
  | ok st => obtain ⟨xs, ys, h, h2⟩ := h; exact ⟨xs, ys, h.setW wh, h2⟩
  | error er => obtain ⟨h0, xs, ys, n, h⟩ := h; exact ⟨h0, xs, ys, n, h.setW wh⟩

theorem begun (w : World) (o : Obj) (t : TypeId) : CenA (w.heap.size + 1) 0 ((w.alloc o).alloc (Obj.cells #[Value.slice none 0 0, Value.slice none 0 0, Value.int .i64 0, Value.int .i64 0, Value.int .i64 0] t)) (.slice none 0 0, .slice none 0 0) 0 (.ok ⟨fun _ => 0, 0⟩) := by
  have hs : (w.alloc o).heap.size = w.heap.size + 1 := by simp
  have hr := RowAt.new (w.alloc o) #[Value.slice none 0 0, Value.slice none 0 0, Value.int .i64 0, Value.int .i64 0, Value.int .i64 0] t
  rw [hs] at hr
  refine ⟨[], [], ⟨hr.cell 0, hr.cell 1, hr.cell 2, hr.cell 3, hr.cell 4, fun o' => ?_, World.ownsRow_nil _ _ _ _, World.ownsRow_nil _ _ _ _, .inl rfl⟩, ⟨fun s => by simp, fun s => by simp, fun s => .inl rfl⟩, by show 0 + 0 + 0 ≤ 2 * (0 : Int).toNat; omega, by show (0 : Int) ≤ 0; omega, by show (0 : Int) ≤ 4000; omega⟩
  rw [← hs]
  simp [go_sem]

/-- A rule, as the document looks at it. -/
def ruleR (m : Nat) (r : Ru) (s : St) : Res :=
  bindR (if r.has then bindR (askR (askR (.ok s) (inB 0 r.when 2) 3) (!r.has || r.when == 1) 4) (ckE m r.pat 1) else askR (askR (askR (.ok s) (inB 0 r.when 2) 3) (!r.has || r.when == 1) 4) (zeroE r.pat) 4) (runL (fun x => ckS r.when m x 1) r.body)
theorem ruleR_is (m : Nat) (r : Ru) (s : St) : ruleR m r s = ckR m r s := by
  unfold ruleR ckR
  by_cases hw : r.when < 0 ∨ 2 < r.when
  · rw [if_pos hw, inB_f (by omega)]
    cases r.has <;> rfl
  · rw [if_neg hw, inB_t (by omega) (by omega)]
    cases hh : r.has with
    | true =>
      by_cases h1 : r.when = 1
      · simp [askR, bindR, h1]
        cases ckE m r.pat 1 s <;> rfl
      · simp [askR, bindR, h1]
    | false =>
      cases hz : zeroE r.pat with
      | true => simp [askR, bindR]
      | false => simp [askR, bindR]

set_option maxHeartbeats 32000000 in
set_option maxRecDepth 2000 in
theorem fault_c (m B : Nat) (l : List Ru) (v : Value) (w : World) (hv : Sl w B 7 v l.length (fun i c => ∃ x, l[i]? = some x ∧ RuA B w m c x)) (hB : B ≤ w.heap.size) :
    Calls Tryd.prog 10 #[.agg #[v]] w fun e w' => e = .returned (.int .i64 (ckP m l)) ∧ Below w.heap.size w w' := by
  obtain ⟨a1, cap, rfl, hl, hs⟩ := hv
  have HSL : Hid (0 < l.length → ∃ b off, a1 = some ⟨b, off, none⟩ ∧ b < B ∧ ∀ i, i < l.length → ∃ cs : List Value, cs.length = 7 ∧ (∀ j, j < 7 → w.cell? ⟨b, off + i * 7 + j, none⟩ = cs[j]?) ∧ ∃ x, l[i]? = some x ∧ RuA B w m cs x) := hs
  have HB : Hid (B ≤ w.heap.size) := hB
  unfold maxLen at hl
  clear hs hB
  by_cases h20 : 20 < (l.length : Int)
  · have HN : Hid (ckP m l = 1) := by simp only [Hid, ckP]; rw [if_pos (by omega)]
    go_enter Tryd.func10, Tryd.ntmps10
    go_wp2_with fail
    go_ret
    exact ⟨ret_int HN.out.symm, (Below.refl _ _).alloc (Nat.le_refl _) _⟩
  have HL : Hid (¬ 20 < l.length) := by unfold Hid; omega
  have b20 : decide (20 < (l.length : Int)) = false := decide_eq_false h20
  clear h20
  go_enter Tryd.func10, Tryd.ntmps10
  go_wp2_with fail
  have HCE : Hid (CenA (w.heap.size + 1) 0 ((w.alloc (Obj.cells #[Value.slice a1 l.length cap] 24)).alloc (Obj.cells #[Value.slice none 0 0, Value.slice none 0 0, Value.int .i64 0, Value.int .i64 0, Value.int .i64 0] 58)) (.slice none 0 0, .slice none 0 0) 0 (.ok ⟨fun _ => 0, 0⟩)) := begun w _ _
  have HG : Hid (RowAt ((w.alloc (Obj.cells #[Value.slice a1 l.length cap] 24)).alloc (Obj.cells #[Value.slice none 0 0, Value.slice none 0 0, Value.int .i64 0, Value.int .i64 0, Value.int .i64 0] 58)) w.heap.size #[Value.slice a1 l.length cap]) := (RowAt.new w _ _).below ((Below.refl _ _).alloc (Nat.le_refl _) _)
  have HW : Hid (Below w.heap.size w ((w.alloc (Obj.cells #[Value.slice a1 l.length cap] 24)).alloc (Obj.cells #[Value.slice none 0 0, Value.slice none 0 0, Value.int .i64 0, Value.int .i64 0, Value.int .i64 0] 58))) := ((Below.refl _ _).alloc (Nat.le_refl _) _).alloc (by simp) _
  generalize ((w.alloc (Obj.cells #[Value.slice a1 l.length cap] 24)).alloc (Obj.cells #[Value.slice none 0 0, Value.slice none 0 0, Value.int .i64 0, Value.int .i64 0, Value.int .i64 0] 58)) = w1 at HCE HG HW ⊢
  obtain ⟨xs1, ys1, n1, ee1, hcn1⟩ := HCE.out.cn
  have HCN : Hid (Cn (w.heap.size + 1) w1 (.slice none 0 0, .slice none 0 0) xs1 ys1 n1 0 ee1) := hcn1
  have hcb1 : w.heap.size + 1 < w1.heap.size := hcn1.lt
  clear hcn1
  have g1 : w.heap.size ≠ w.heap.size + 1 := by omega
  go_loopw [4] (fun v wr => ∃ (i : Nat) (wh : Int) (ci : Value × Value), i ≤ l.length ∧ v = .int .i64 i ∧ Hid (Fr (w.heap.size + 1) w1 (.slice none 0 0, .slice none 0 0) wr ci ∧ (RowAt wr w.heap.size #[Value.slice a1 l.length cap] ∧ Not2 ci w.heap.size) ∧ CenA (w.heap.size + 1) wh wr ci 0 (runL (ckR m) (l.take i) ⟨fun _ => 0, 0⟩))) (fun v _ => l.length - (intOf v).toNat)
  case atStart => exact ⟨0, 0, _, by omega, rfl, Fr.refl _ _ _, ⟨HG.out, HCN.out.low (by omega)⟩, HCE.out⟩
  case round =>
    obtain ⟨i, wh0, ci, hil, rfl, HR⟩ := hrel
    have HGr : Hid (RowAt wr w.heap.size #[Value.slice a1 l.length cap]) := HR.out.2.1.1
    have qg := HGr.out.cell 0
    simp only [List.getElem?_toArray, List.getElem?_cons_zero] at qg
    have HFIN : Hid (Below w.heap.size w wr) := HW.out.trans (HR.out.1.below HCN.out (by omega))
    cases hRi : runL (ckR m) (l.take i) ⟨fun _ => 0, 0⟩ with
    | error x =>
      have HCX : Hid (CenA (w.heap.size + 1) wh0 wr ci 0 (.error x)) := by have := HR.out.2.2; rw [hRi] at this; exact this
      obtain ⟨hx0, xs9, ys9, n9, hcn9⟩ := HCX.out
      have e4 := hcn9.c4
      have bx : (x == 0) = false := by simpa using hx0
      have HE : Hid (ckP m l = x) := by
        have h1 := runL_err (r := l.drop i) hRi
        rw [List.take_append_drop] at h1
        simp only [Hid, ckP]
        rw [if_neg HL.out, h1]
      clear hcn9 hx0 hRi
      by_cases hlt : i < l.length
      · have i1 : (i : Int) < (l.length : Int) := by omega
        go_wp2_with fail
        go_ret
        exact ⟨ret_int HE.out.symm, HFIN.out⟩
      · have i1 : ¬ (i : Int) < (l.length : Int) := by omega
        go_wp2_with fail
        go_ret
        exact ⟨ret_int HE.out.symm, HFIN.out⟩
    | ok s9 =>
      have HCX : Hid (CenA (w.heap.size + 1) wh0 wr ci 0 (.ok s9)) := by have := HR.out.2.2; rw [hRi] at this; exact this
      obtain ⟨xs9, ys9, hcn9, _⟩ := (show CenA (w.heap.size + 1) wh0 wr ci 0 (.ok s9) from HCX.out)
      have e4 := hcn9.c4
      have HCI : Hid (Cn (w.heap.size + 1) wr ci xs9 ys9 s9.nodes wh0 0) := hcn9
      have HRI : Hid (runL (ckR m) (l.take i) ⟨fun _ => 0, 0⟩ = .ok s9) := hRi
      clear hcn9 hRi
      by_cases hlt : i < l.length
      · have i1 : (i : Int) < (l.length : Int) := by omega
        have i2 : (0 : Int) ≤ (i : Int) := by omega
        obtain ⟨b, off, rfl, hb, hi⟩ := HSL.out (by omega)
        obtain ⟨cs, hcl, hcell, x, hx, hex⟩ := hi i hlt
        have HBW : Hid (Below B w wr) := (HW.out.mono HB.out).trans (HR.out.1.below HCN.out (by have := HB.out; omega))
        have HXX : Hid (l[i] = x) := by rw [List.getElem?_eq_getElem hlt] at hx; exact Option.some.inj hx
        obtain ⟨wh, has, pat, bd⟩ := x
        obtain ⟨d0, d1, d2, d3, v, rfl, ww, hp, hsb⟩ := hex
        simp only at hp hsb ww
        have HPAT : Hid (ExA B w m [d0, d1, d2, d3] pat) := hp
        obtain ⟨k, n, s, l2, a, cap2, rfl, e5, hl2⟩ := hp.data
        simp only [List.cons.injEq, and_true] at e5
        obtain ⟨rfl, rfl, rfl, rfl⟩ := e5
        have HSB : Hid (Sl w B 6 v bd.length (fun i c => ∃ x, bd[i]? = some x ∧ SmA B w m c x)) := hsb
        obtain ⟨a3, cp3, rfl, hl3, _⟩ := hsb
        unfold maxLen at hl2 hl3
        have p0 : wr.cell? ⟨b, off + i * 7, none⟩ = some (.int .i64 wh) := by rw [HBW.out.cell (p := ⟨b, off + i * 7, none⟩) hb]; simpa using hcell 0 (by omega)
        have p1 : wr.cell? ⟨b, off + i * 7 + 1, none⟩ = some (.bool has) := by rw [HBW.out.cell (p := ⟨b, off + i * 7 + 1, none⟩) hb]; simpa using hcell 1 (by omega)
        have p2 : wr.cell? ⟨b, off + i * 7 + 2, none⟩ = some (.int .i64 k) := by rw [HBW.out.cell (p := ⟨b, off + i * 7 + 2, none⟩) hb]; simpa using hcell 2 (by omega)
        have p3 : wr.cell? ⟨b, off + i * 7 + 3, none⟩ = some (.int .i64 n) := by rw [HBW.out.cell (p := ⟨b, off + i * 7 + 3, none⟩) hb]; simpa using hcell 3 (by omega)
        have p4 : wr.cell? ⟨b, off + i * 7 + 4, none⟩ = some (.string s) := by rw [HBW.out.cell (p := ⟨b, off + i * 7 + 4, none⟩) hb]; simpa using hcell 4 (by omega)
        have p5 : wr.cell? ⟨b, off + i * 7 + 5, none⟩ = some (.slice a l2.length cap2) := by rw [HBW.out.cell (p := ⟨b, off + i * 7 + 5, none⟩) hb]; simpa using hcell 5 (by omega)
        have p6 : wr.cell? ⟨b, off + i * 7 + 6, none⟩ = some (.slice a3 bd.length cp3) := by rw [HBW.out.cell (p := ⟨b, off + i * 7 + 6, none⟩) hb]; simpa using hcell 6 (by omega)
        have HBR : Hid (B ≤ wr.heap.size) := by have := HBW.out.size; have := HB.out; unfold Hid; omega
        have gr1 : wr.heap.size ≠ w.heap.size + 1 := by have := HCI.out.lt; omega
        have hgr : w.heap.size < wr.heap.size := by have := HCI.out.lt; omega
        clear hcell hx hcl hi hp ww
        have NEXT : Hid (∀ (wf : World) (cf : Value × Value), Fr (w.heap.size + 1) wr ci wf cf → CenA (w.heap.size + 1) wh wf cf 0 (ruleR m ⟨wh, has, .mk k n s l2, bd⟩ s9) → ∃ (i' : Nat) (wh' : Int) (c' : Value × Value), i' ≤ l.length ∧ Value.int .i64 ((i : Int) + 1) = Value.int .i64 i' ∧ Hid (Fr (w.heap.size + 1) w1 (.slice none 0 0, .slice none 0 0) wf c' ∧ (RowAt wf w.heap.size #[Value.slice (some ⟨b, off, none⟩) l.length cap] ∧ Not2 c' w.heap.size) ∧ CenA (w.heap.size + 1) wh' wf c' 0 (runL (ckR m) (l.take i') ⟨fun _ => 0, 0⟩))) := fun wf cf hf hc =>
          ⟨i + 1, wh, cf, by omega, by simp, HR.out.1.trans hf, ⟨hf.box HR.out.2.1.1 g1 HR.out.2.1.2, hf.new _ HR.out.2.1.1.lt HR.out.2.1.2⟩, by
            rw [List.take_succ_eq_append_getElem hlt, runL_snoc HRI.out, HXX.out, ← ruleR_is]
            exact hc⟩
        obtain ⟨o, ho⟩ : ∃ o, o = Obj.cells #[.int .i64 wh, .bool has, .int .i64 k, .int .i64 n, .string s, .slice a l2.length cap2, .slice a3 bd.length cp3] 39 := ⟨_, rfl⟩
        have HF2 : Hid (Fr (w.heap.size + 1) wr ci (wr.alloc o) ci) := Fr.alloc o
        have HC2 : Hid (CenA (w.heap.size + 1) wh0 (wr.alloc o) ci 0 (.ok s9)) := HCX.out.alloc o
        have HD2 : Hid (RowAt (wr.alloc o) wr.heap.size #[.int .i64 wh, .bool has, .int .i64 k, .int .i64 n, .string s, .slice a l2.length cap2, .slice a3 bd.length cp3] ∧ Not2 ci wr.heap.size) := ⟨by rw [ho]; exact RowAt.new wr _ _, HCI.out.fresh (Nat.le_refl _)⟩
        have r0 : True := trivial
        have r1 : True := trivial
        have r2 : True := trivial
        have r3 : True := trivial
        have r4 : True := trivial
        have r5 : True := trivial
        have r6 : True := trivial
        go_wp2_with fail
        rw [← ho]
        clear ho p0 p1 p2 p3 p4 p5 p6 qg e4
        have hn1 : ¬ wr.heap.size = w.heap.size + 1 := gr1
        have hn2 : ¬ w.heap.size + 1 = wr.heap.size := fun h => gr1 h.symm
        refine (in_c wh 0 2 _).mono ?_
        rintro e w20 ⟨rfl, he20⟩
        rw [he20]
        clear he20 w20
        have HD2r : Hid (RowAt (wr.alloc o) wr.heap.size #[.int .i64 wh, .bool has, .int .i64 k, .int .i64 n, .string s, .slice a l2.length cap2, .slice a3 bd.length cp3]) := HD2.out.1
        clear r0 r1 r2 r3 r4 r5 r6
        have r0 := HD2r.out.cell 0
        have r1 := HD2r.out.cell 1
        have r2 := HD2r.out.cell 2
        have r3 := HD2r.out.cell 3
        have r4 := HD2r.out.cell 4
        have r5 := HD2r.out.cell 5
        have r6 := HD2r.out.cell 6
        simp only [List.getElem?_toArray, List.getElem?_cons_zero, List.getElem?_cons_succ] at r0 r1 r2 r3 r4 r5 r6
        go_wp2_with fail
        refine (ask_c (w.heap.size + 1) 0 wh0 3 (inB 0 wh 2) _ ci (.ok s9) HC2.out (by decide)).mono ?_
        rintro e w3 ⟨rfl, c3, hf3, hc3⟩
        have HF3 : Hid (Fr (w.heap.size + 1) wr ci w3 c3) := HF2.out.trans hf3
        have HD3 : Hid (RowAt w3 wr.heap.size #[.int .i64 wh, .bool has, .int .i64 k, .int .i64 n, .string s, .slice a l2.length cap2, .slice a3 bd.length cp3] ∧ Not2 c3 wr.heap.size) := ⟨hf3.box HD2.out.1 gr1 HD2.out.2, hf3.new _ HD2.out.1.lt HD2.out.2⟩
        have HC3 : Hid (CenA (w.heap.size + 1) wh0 w3 c3 0 (askR (.ok s9) (inB 0 wh 2) 3)) := hc3
        clear hf3 hc3 r0 r1 r2 r3 r4 r5 r6
        have HD3r : Hid (RowAt w3 wr.heap.size #[.int .i64 wh, .bool has, .int .i64 k, .int .i64 n, .string s, .slice a l2.length cap2, .slice a3 bd.length cp3]) := HD3.out.1
        have r0 := HD3r.out.cell 0
        have r1 := HD3r.out.cell 1
        have r2 := HD3r.out.cell 2
        have r3 := HD3r.out.cell 3
        have r4 := HD3r.out.cell 4
        have r5 := HD3r.out.cell 5
        have r6 := HD3r.out.cell 6
        simp only [List.getElem?_toArray, List.getElem?_cons_zero, List.getElem?_cons_succ] at r0 r1 r2 r3 r4 r5 r6
        cases has with
        | true =>
          go_wp2_with fail
          refine (ask_c (w.heap.size + 1) 0 wh0 4 (wh == 1) _ c3 (askR (.ok s9) (inB 0 wh 2) 3) HC3.out (by decide)).mono ?_
          rintro e w4 ⟨rfl, c4, hf4, hc4⟩
          have HF4 : Hid (Fr (w.heap.size + 1) wr ci w4 c4) := HF3.out.trans hf4
          have HD4 : Hid (RowAt w4 wr.heap.size #[.int .i64 wh, .bool true, .int .i64 k, .int .i64 n, .string s, .slice a l2.length cap2, .slice a3 bd.length cp3] ∧ Not2 c4 wr.heap.size) := ⟨hf4.box HD3.out.1 gr1 HD3.out.2, hf4.new _ HD3.out.1.lt HD3.out.2⟩
          have HC4 : Hid (CenA (w.heap.size + 1) wh0 w4 c4 0 (askR (askR (.ok s9) (inB 0 wh 2) 3) (wh == 1) 4)) := hc4
          clear hf4 hc4 r0 r1 r2 r3 r4 r5 r6
          have HD4r : Hid (RowAt w4 wr.heap.size #[.int .i64 wh, .bool true, .int .i64 k, .int .i64 n, .string s, .slice a l2.length cap2, .slice a3 bd.length cp3]) := HD4.out.1
          have r0 := HD4r.out.cell 0
          have r1 := HD4r.out.cell 1
          have r2 := HD4r.out.cell 2
          have r3 := HD4r.out.cell 3
          have r4 := HD4r.out.cell 4
          have r5 := HD4r.out.cell 5
          have r6 := HD4r.out.cell 6
          simp only [List.getElem?_toArray, List.getElem?_cons_zero, List.getElem?_cons_succ] at r0 r1 r2 r3 r4 r5 r6
          have HF5 : Hid (Fr (w.heap.size + 1) wr ci (w4.setCell ⟨w.heap.size + 1, 3, none⟩ (.int .i64 wh)) c4) := HF4.out.trans (Fr.set 3 _)
          have HD5 : Hid (RowAt (w4.setCell ⟨w.heap.size + 1, 3, none⟩ (.int .i64 wh)) wr.heap.size #[.int .i64 wh, .bool true, .int .i64 k, .int .i64 n, .string s, .slice a l2.length cap2, .slice a3 bd.length cp3] ∧ Not2 c4 wr.heap.size) := ⟨HD4.out.1.stays (Below.heap_setCell _ _ _ _ gr1), HD4.out.2⟩
          have HC5 : Hid (CenA (w.heap.size + 1) wh (w4.setCell ⟨w.heap.size + 1, 3, none⟩ (.int .i64 wh)) c4 0 (askR (askR (.ok s9) (inB 0 wh 2) 3) (wh == 1) 4)) := HC4.out.setW wh
          obtain ⟨xs6, ys6, n6, ee6, hcn6⟩ := HC4.out.cn
          have k3 := hcn6.c3
          have z3 := hcn6.fz 3
          clear hcn6
          cases hR2 : askR (askR (.ok s9) (inB 0 wh 2) 3) (wh == 1) 4 with
          | error x =>
            have HCX4 : Hid (CenA (w.heap.size + 1) wh0 w4 c4 0 (.error x)) := by have := HC4.out; rw [hR2] at this; exact this
            obtain ⟨hx0, xs7, ys7, n7, hcn7⟩ := HCX4.out
            have e4 := hcn7.c4
            have bx : (x == 0) = false := by simpa using hx0
            have HC6 : Hid (CenA (w.heap.size + 1) wh (w4.setCell ⟨w.heap.size + 1, 3, none⟩ (.int .i64 wh)) c4 0 (.error x)) := by have := HC5.out; rw [hR2] at this; exact this
            have HRX : Hid (askR (askR (.ok s9) (inB 0 wh 2) 3) (wh == 1) 4 = .error x) := hR2
            clear hcn7 hx0 hR2
            go_wp2_with fail
            refine (blockR_all m B (w.heap.size + 1) wh bd _ 1 (.error x) _ c4 (HSB.out.below (HBW.out.trans (HF5.out.below HCI.out (by have := HB.out; omega))) fun i c ⟨x, hx, he⟩ => ⟨x, hx, he.below (HBW.out.trans (HF5.out.below HCI.out (by have := HB.out; omega)))⟩) HC6.out (by have := HB.out; omega) (by omega) (by omega)).mono ?_
            rintro e w30 ⟨rfl, c30, hf30, hc30⟩
            have HNX := NEXT.out w30 c30 (HF5.out.trans hf30) (by
              have he : ruleR m ⟨wh, true, .mk k n s l2, bd⟩ s9 = .error x := by
                have := HRX.out
                simp only [ruleR, if_true, Bool.not_true, Bool.false_or]
                rw [this]; rfl
              rw [he]; exact hc30)
            have HNXT : Hid _ := HNX
            clear hf30 hc30 HNX r0 r1 r2 r3 r4 r5 r6
            go_wp2_with fail
            go_roundw
            case rel => exact HNXT.out
            case measure => simp [intOf]; omega
          | ok s2 =>
            have HCX4 : Hid (CenA (w.heap.size + 1) wh0 w4 c4 0 (.ok s2)) := by have := HC4.out; rw [hR2] at this; exact this
            obtain ⟨xs7, ys7, hcn7, _⟩ := (show CenA (w.heap.size + 1) wh0 w4 c4 0 (.ok s2) from HCX4.out)
            have e4 := hcn7.c4
            have HC6 : Hid (CenA (w.heap.size + 1) wh (w4.setCell ⟨w.heap.size + 1, 3, none⟩ (.int .i64 wh)) c4 0 (.ok s2)) := by have := HC5.out; rw [hR2] at this; exact this
            have HRX : Hid (askR (askR (.ok s9) (inB 0 wh 2) 3) (wh == 1) 4 = .ok s2) := hR2
            clear hcn7 hR2
            go_wp2_with fail
            refine (exprR_all m B (w.heap.size + 1) wh (.mk k n s l2) [.int .i64 k, .int .i64 n, .string s, .slice a l2.length cap2] 1 s2 _ c4 (HPAT.out.below (HBW.out.trans (HF5.out.below HCI.out (by have := HB.out; omega)))) HC6.out (by have := HB.out; omega) (by omega) (by omega)).mono ?_
            rintro e w7 ⟨rfl, c7, hf7, hc7⟩
            have HF7 : Hid (Fr (w.heap.size + 1) wr ci w7 c7) := HF5.out.trans hf7
            have HD7 : Hid (RowAt w7 wr.heap.size #[.int .i64 wh, .bool true, .int .i64 k, .int .i64 n, .string s, .slice a l2.length cap2, .slice a3 bd.length cp3] ∧ Not2 c7 wr.heap.size) := ⟨hf7.box HD5.out.1 gr1 HD5.out.2, hf7.new _ HD5.out.1.lt HD5.out.2⟩
            have HC7 : Hid (CenA (w.heap.size + 1) wh w7 c7 0 (ckE m (.mk k n s l2) 1 s2)) := hc7
            clear hf7 hc7 r0 r1 r2 r3 r4 r5 r6
            have HD7r : Hid (RowAt w7 wr.heap.size #[.int .i64 wh, .bool true, .int .i64 k, .int .i64 n, .string s, .slice a l2.length cap2, .slice a3 bd.length cp3]) := HD7.out.1
            have r0 := HD7r.out.cell 0
            have r1 := HD7r.out.cell 1
            have r2 := HD7r.out.cell 2
            have r3 := HD7r.out.cell 3
            have r4 := HD7r.out.cell 4
            have r5 := HD7r.out.cell 5
            have r6 := HD7r.out.cell 6
            simp only [List.getElem?_toArray, List.getElem?_cons_zero, List.getElem?_cons_succ] at r0 r1 r2 r3 r4 r5 r6
            go_wp2_with fail
            refine (blockR_all m B (w.heap.size + 1) wh bd _ 1 (ckE m (.mk k n s l2) 1 s2) _ c7 (HSB.out.below (HBW.out.trans (HF7.out.below HCI.out (by have := HB.out; omega))) fun i c ⟨x, hx, he⟩ => ⟨x, hx, he.below (HBW.out.trans (HF7.out.below HCI.out (by have := HB.out; omega)))⟩) HC7.out (by have := HB.out; omega) (by omega) (by omega)).mono ?_
            rintro e w30 ⟨rfl, c30, hf30, hc30⟩
            have HNX := NEXT.out w30 c30 (HF7.out.trans hf30) (by
              have he : ruleR m ⟨wh, true, .mk k n s l2, bd⟩ s9 = bindR (ckE m (.mk k n s l2) 1 s2) (runL (fun x => ckS wh m x 1) bd) := by { have := HRX.out; simp only [ruleR, if_true, Bool.not_true, Bool.false_or]; rw [this]; rfl }
              rw [he]; exact hc30)
            have HNXT : Hid _ := HNX
            clear hf30 hc30 HNX r0 r1 r2 r3 r4 r5 r6
            go_wp2_with fail
            go_roundw
            case rel => exact HNXT.out
            case measure => simp [intOf]; omega
        | false =>
          go_wp2_with fail
          refine (ask_c (w.heap.size + 1) 0 wh0 4 true _ c3 (askR (.ok s9) (inB 0 wh 2) 3) HC3.out (by decide)).mono ?_
          rintro e w4 ⟨rfl, c4, hf4, hc4⟩
          have HF4 : Hid (Fr (w.heap.size + 1) wr ci w4 c4) := HF3.out.trans hf4
          have HD4 : Hid (RowAt w4 wr.heap.size #[.int .i64 wh, .bool false, .int .i64 k, .int .i64 n, .string s, .slice a l2.length cap2, .slice a3 bd.length cp3] ∧ Not2 c4 wr.heap.size) := ⟨hf4.box HD3.out.1 gr1 HD3.out.2, hf4.new _ HD3.out.1.lt HD3.out.2⟩
          have HC4 : Hid (CenA (w.heap.size + 1) wh0 w4 c4 0 (askR (askR (.ok s9) (inB 0 wh 2) 3) true 4)) := hc4
          clear hf4 hc4 r0 r1 r2 r3 r4 r5 r6
          have HD4r : Hid (RowAt w4 wr.heap.size #[.int .i64 wh, .bool false, .int .i64 k, .int .i64 n, .string s, .slice a l2.length cap2, .slice a3 bd.length cp3]) := HD4.out.1
          have r0 := HD4r.out.cell 0
          have r1 := HD4r.out.cell 1
          have r2 := HD4r.out.cell 2
          have r3 := HD4r.out.cell 3
          have r4 := HD4r.out.cell 4
          have r5 := HD4r.out.cell 5
          have r6 := HD4r.out.cell 6
          simp only [List.getElem?_toArray, List.getElem?_cons_zero, List.getElem?_cons_succ] at r0 r1 r2 r3 r4 r5 r6
          have HF5 : Hid (Fr (w.heap.size + 1) wr ci (w4.setCell ⟨w.heap.size + 1, 3, none⟩ (.int .i64 wh)) c4) := HF4.out.trans (Fr.set 3 _)
          have HD5 : Hid (RowAt (w4.setCell ⟨w.heap.size + 1, 3, none⟩ (.int .i64 wh)) wr.heap.size #[.int .i64 wh, .bool false, .int .i64 k, .int .i64 n, .string s, .slice a l2.length cap2, .slice a3 bd.length cp3] ∧ Not2 c4 wr.heap.size) := ⟨HD4.out.1.stays (Below.heap_setCell _ _ _ _ gr1), HD4.out.2⟩
          have HC5 : Hid (CenA (w.heap.size + 1) wh (w4.setCell ⟨w.heap.size + 1, 3, none⟩ (.int .i64 wh)) c4 0 (askR (askR (.ok s9) (inB 0 wh 2) 3) true 4)) := HC4.out.setW wh
          obtain ⟨xs6, ys6, n6, ee6, hcn6⟩ := HC4.out.cn
          have k3 := hcn6.c3
          have z3 := hcn6.fz 3
          clear hcn6
          by_cases ek : k = 0
          · have bk : (k == 0) = true := by simpa using ek
            by_cases en : n = 0
            · have bn : (n == 0) = true := by simpa using en
              by_cases es : 0 < s.size
              · have he := ise_f es
                have HKN : Hid (k = 0 ∧ n = 0 ∧ 0 < s.size) := ⟨ek, en, es⟩
                clear ek en es
                have HZ : Hid (zeroE (.mk k n s l2) = false) := by have h := HKN.out; have h2 : ¬ s.size = 0 := (by omega); simp [Hid, zeroE, h2]
                go_wp2_with fail
                refine (ask_c (w.heap.size + 1) 0 wh 4 false _ c4 (askR (askR (.ok s9) (inB 0 wh 2) 3) true 4) HC5.out (by decide)).mono ?_
                rintro e w7 ⟨rfl, c7, hf7, hc7⟩
                have HF7 : Hid (Fr (w.heap.size + 1) wr ci w7 c7) := HF5.out.trans hf7
                have HD7 : Hid (RowAt w7 wr.heap.size #[.int .i64 wh, .bool false, .int .i64 k, .int .i64 n, .string s, .slice a l2.length cap2, .slice a3 bd.length cp3] ∧ Not2 c7 wr.heap.size) := ⟨hf7.box HD5.out.1 gr1 HD5.out.2, hf7.new _ HD5.out.1.lt HD5.out.2⟩
                have HC7 : Hid (CenA (w.heap.size + 1) wh w7 c7 0 (askR (askR (askR (.ok s9) (inB 0 wh 2) 3) true 4) false 4)) := hc7
                clear hf7 hc7 r0 r1 r2 r3 r4 r5 r6
                have HD7r : Hid (RowAt w7 wr.heap.size #[.int .i64 wh, .bool false, .int .i64 k, .int .i64 n, .string s, .slice a l2.length cap2, .slice a3 bd.length cp3]) := HD7.out.1
                have r0 := HD7r.out.cell 0
                have r1 := HD7r.out.cell 1
                have r2 := HD7r.out.cell 2
                have r3 := HD7r.out.cell 3
                have r4 := HD7r.out.cell 4
                have r5 := HD7r.out.cell 5
                have r6 := HD7r.out.cell 6
                simp only [List.getElem?_toArray, List.getElem?_cons_zero, List.getElem?_cons_succ] at r0 r1 r2 r3 r4 r5 r6
                go_wp2_with fail
                refine (blockR_all m B (w.heap.size + 1) wh bd _ 1 (askR (askR (askR (.ok s9) (inB 0 wh 2) 3) true 4) false 4) _ c7 (HSB.out.below (HBW.out.trans (HF7.out.below HCI.out (by have := HB.out; omega))) fun i c ⟨x, hx, he⟩ => ⟨x, hx, he.below (HBW.out.trans (HF7.out.below HCI.out (by have := HB.out; omega)))⟩) HC7.out (by have := HB.out; omega) (by omega) (by omega)).mono ?_
                rintro e w30 ⟨rfl, c30, hf30, hc30⟩
                have HNX := NEXT.out w30 c30 (HF7.out.trans hf30) (by
                  have he : ruleR m ⟨wh, false, .mk k n s l2, bd⟩ s9 = bindR (askR (askR (askR (.ok s9) (inB 0 wh 2) 3) true 4) false 4) (runL (fun x => ckS wh m x 1) bd) := by { simp only [ruleR, Bool.not_false, Bool.true_or]; rw [HZ.out]; rfl }
                  rw [he]; exact hc30)
                have HNXT : Hid _ := HNX
                clear hf30 hc30 HNX r0 r1 r2 r3 r4 r5 r6
                go_wp2_with fail
                go_roundw
                case rel => exact HNXT.out
                case measure => simp [intOf]; omega
              · have he := ise_t es
                have HKN : Hid (k = 0 ∧ n = 0 ∧ s.size = 0) := ⟨ek, en, by omega⟩
                clear ek en es
                have HZ : Hid (zeroE (.mk k n s l2) = ((l2.length : Int) == 0)) := by have h := HKN.out; unfold Hid; rw [Bool.eq_iff_iff]; simp [zeroE, h.1, h.2.1, h.2.2]
                go_wp2_with fail
                refine (ask_c (w.heap.size + 1) 0 wh 4 ((l2.length : Int) == 0) _ c4 (askR (askR (.ok s9) (inB 0 wh 2) 3) true 4) HC5.out (by decide)).mono ?_
                rintro e w7 ⟨rfl, c7, hf7, hc7⟩
                have HF7 : Hid (Fr (w.heap.size + 1) wr ci w7 c7) := HF5.out.trans hf7
                have HD7 : Hid (RowAt w7 wr.heap.size #[.int .i64 wh, .bool false, .int .i64 k, .int .i64 n, .string s, .slice a l2.length cap2, .slice a3 bd.length cp3] ∧ Not2 c7 wr.heap.size) := ⟨hf7.box HD5.out.1 gr1 HD5.out.2, hf7.new _ HD5.out.1.lt HD5.out.2⟩
                have HC7 : Hid (CenA (w.heap.size + 1) wh w7 c7 0 (askR (askR (askR (.ok s9) (inB 0 wh 2) 3) true 4) ((l2.length : Int) == 0) 4)) := hc7
                clear hf7 hc7 r0 r1 r2 r3 r4 r5 r6
                have HD7r : Hid (RowAt w7 wr.heap.size #[.int .i64 wh, .bool false, .int .i64 k, .int .i64 n, .string s, .slice a l2.length cap2, .slice a3 bd.length cp3]) := HD7.out.1
                have r0 := HD7r.out.cell 0
                have r1 := HD7r.out.cell 1
                have r2 := HD7r.out.cell 2
                have r3 := HD7r.out.cell 3
                have r4 := HD7r.out.cell 4
                have r5 := HD7r.out.cell 5
                have r6 := HD7r.out.cell 6
                simp only [List.getElem?_toArray, List.getElem?_cons_zero, List.getElem?_cons_succ] at r0 r1 r2 r3 r4 r5 r6
                go_wp2_with fail
                refine (blockR_all m B (w.heap.size + 1) wh bd _ 1 (askR (askR (askR (.ok s9) (inB 0 wh 2) 3) true 4) ((l2.length : Int) == 0) 4) _ c7 (HSB.out.below (HBW.out.trans (HF7.out.below HCI.out (by have := HB.out; omega))) fun i c ⟨x, hx, he⟩ => ⟨x, hx, he.below (HBW.out.trans (HF7.out.below HCI.out (by have := HB.out; omega)))⟩) HC7.out (by have := HB.out; omega) (by omega) (by omega)).mono ?_
                rintro e w30 ⟨rfl, c30, hf30, hc30⟩
                have HNX := NEXT.out w30 c30 (HF7.out.trans hf30) (by
                  have he : ruleR m ⟨wh, false, .mk k n s l2, bd⟩ s9 = bindR (askR (askR (askR (.ok s9) (inB 0 wh 2) 3) true 4) ((l2.length : Int) == 0) 4) (runL (fun x => ckS wh m x 1) bd) := by { simp only [ruleR, Bool.not_false, Bool.true_or]; rw [HZ.out]; rfl }
                  rw [he]; exact hc30)
                have HNXT : Hid _ := HNX
                clear hf30 hc30 HNX r0 r1 r2 r3 r4 r5 r6
                go_wp2_with fail
                go_roundw
                case rel => exact HNXT.out
                case measure => simp [intOf]; omega
            · have bn : (n == 0) = false := by simpa using en
              have HKN : Hid (¬ n = 0) := en
              clear ek en
              have HZ : Hid (zeroE (.mk k n s l2) = false) := by simp [Hid, zeroE, HKN.out]
              go_wp2_with fail
              refine (ask_c (w.heap.size + 1) 0 wh 4 false _ c4 (askR (askR (.ok s9) (inB 0 wh 2) 3) true 4) HC5.out (by decide)).mono ?_
              rintro e w7 ⟨rfl, c7, hf7, hc7⟩
              have HF7 : Hid (Fr (w.heap.size + 1) wr ci w7 c7) := HF5.out.trans hf7
              have HD7 : Hid (RowAt w7 wr.heap.size #[.int .i64 wh, .bool false, .int .i64 k, .int .i64 n, .string s, .slice a l2.length cap2, .slice a3 bd.length cp3] ∧ Not2 c7 wr.heap.size) := ⟨hf7.box HD5.out.1 gr1 HD5.out.2, hf7.new _ HD5.out.1.lt HD5.out.2⟩
              have HC7 : Hid (CenA (w.heap.size + 1) wh w7 c7 0 (askR (askR (askR (.ok s9) (inB 0 wh 2) 3) true 4) false 4)) := hc7
              clear hf7 hc7 r0 r1 r2 r3 r4 r5 r6
              have HD7r : Hid (RowAt w7 wr.heap.size #[.int .i64 wh, .bool false, .int .i64 k, .int .i64 n, .string s, .slice a l2.length cap2, .slice a3 bd.length cp3]) := HD7.out.1
              have r0 := HD7r.out.cell 0
              have r1 := HD7r.out.cell 1
              have r2 := HD7r.out.cell 2
              have r3 := HD7r.out.cell 3
              have r4 := HD7r.out.cell 4
              have r5 := HD7r.out.cell 5
              have r6 := HD7r.out.cell 6
              simp only [List.getElem?_toArray, List.getElem?_cons_zero, List.getElem?_cons_succ] at r0 r1 r2 r3 r4 r5 r6
              go_wp2_with fail
              refine (blockR_all m B (w.heap.size + 1) wh bd _ 1 (askR (askR (askR (.ok s9) (inB 0 wh 2) 3) true 4) false 4) _ c7 (HSB.out.below (HBW.out.trans (HF7.out.below HCI.out (by have := HB.out; omega))) fun i c ⟨x, hx, he⟩ => ⟨x, hx, he.below (HBW.out.trans (HF7.out.below HCI.out (by have := HB.out; omega)))⟩) HC7.out (by have := HB.out; omega) (by omega) (by omega)).mono ?_
              rintro e w30 ⟨rfl, c30, hf30, hc30⟩
              have HNX := NEXT.out w30 c30 (HF7.out.trans hf30) (by
                have he : ruleR m ⟨wh, false, .mk k n s l2, bd⟩ s9 = bindR (askR (askR (askR (.ok s9) (inB 0 wh 2) 3) true 4) false 4) (runL (fun x => ckS wh m x 1) bd) := by { simp only [ruleR, Bool.not_false, Bool.true_or]; rw [HZ.out]; rfl }
                rw [he]; exact hc30)
              have HNXT : Hid _ := HNX
              clear hf30 hc30 HNX r0 r1 r2 r3 r4 r5 r6
              go_wp2_with fail
              go_roundw
              case rel => exact HNXT.out
              case measure => simp [intOf]; omega
          · have bk : (k == 0) = false := by simpa using ek
            have HKN : Hid (¬ k = 0) := ek
            clear ek
            have HZ : Hid (zeroE (.mk k n s l2) = false) := by simp [Hid, zeroE, HKN.out]
            go_wp2_with fail
            refine (ask_c (w.heap.size + 1) 0 wh 4 false _ c4 (askR (askR (.ok s9) (inB 0 wh 2) 3) true 4) HC5.out (by decide)).mono ?_
            rintro e w7 ⟨rfl, c7, hf7, hc7⟩
            have HF7 : Hid (Fr (w.heap.size + 1) wr ci w7 c7) := HF5.out.trans hf7
            have HD7 : Hid (RowAt w7 wr.heap.size #[.int .i64 wh, .bool false, .int .i64 k, .int .i64 n, .string s, .slice a l2.length cap2, .slice a3 bd.length cp3] ∧ Not2 c7 wr.heap.size) := ⟨hf7.box HD5.out.1 gr1 HD5.out.2, hf7.new _ HD5.out.1.lt HD5.out.2⟩
            have HC7 : Hid (CenA (w.heap.size + 1) wh w7 c7 0 (askR (askR (askR (.ok s9) (inB 0 wh 2) 3) true 4) false 4)) := hc7
            clear hf7 hc7 r0 r1 r2 r3 r4 r5 r6
            have HD7r : Hid (RowAt w7 wr.heap.size #[.int .i64 wh, .bool false, .int .i64 k, .int .i64 n, .string s, .slice a l2.length cap2, .slice a3 bd.length cp3]) := HD7.out.1
            have r0 := HD7r.out.cell 0
            have r1 := HD7r.out.cell 1
            have r2 := HD7r.out.cell 2
            have r3 := HD7r.out.cell 3
            have r4 := HD7r.out.cell 4
            have r5 := HD7r.out.cell 5
            have r6 := HD7r.out.cell 6
            simp only [List.getElem?_toArray, List.getElem?_cons_zero, List.getElem?_cons_succ] at r0 r1 r2 r3 r4 r5 r6
            go_wp2_with fail
            refine (blockR_all m B (w.heap.size + 1) wh bd _ 1 (askR (askR (askR (.ok s9) (inB 0 wh 2) 3) true 4) false 4) _ c7 (HSB.out.below (HBW.out.trans (HF7.out.below HCI.out (by have := HB.out; omega))) fun i c ⟨x, hx, he⟩ => ⟨x, hx, he.below (HBW.out.trans (HF7.out.below HCI.out (by have := HB.out; omega)))⟩) HC7.out (by have := HB.out; omega) (by omega) (by omega)).mono ?_
            rintro e w30 ⟨rfl, c30, hf30, hc30⟩
            have HNX := NEXT.out w30 c30 (HF7.out.trans hf30) (by
              have he : ruleR m ⟨wh, false, .mk k n s l2, bd⟩ s9 = bindR (askR (askR (askR (.ok s9) (inB 0 wh 2) 3) true 4) false 4) (runL (fun x => ckS wh m x 1) bd) := by { simp only [ruleR, Bool.not_false, Bool.true_or]; rw [HZ.out]; rfl }
              rw [he]; exact hc30)
            have HNXT : Hid _ := HNX
            clear hf30 hc30 HNX r0 r1 r2 r3 r4 r5 r6
            go_wp2_with fail
            go_roundw
            case rel => exact HNXT.out
            case measure => simp [intOf]; omega
      · have i1 : ¬ (i : Int) < (l.length : Int) := by omega
        have HE : Hid (ckP m l = 0) := by
          have := runL_all hlt HRI.out
          simp only [Hid, ckP]
          rw [if_neg HL.out, this]
        go_wp2_with fail
        go_ret
        exact ⟨ret_int HE.out.symm, HFIN.out⟩
end Go.Proofs.YtjconmohifaliaaDoor
