/-
  The census' expr, whatever the height.
-/
import Derived.Test.YtjconmohifaliaaDoorRefW
import Derived.Deep.DeepCutAuto
import Derived.Deep.CutBlock
namespace Go.Proofs.YtjconmohifaliaaDoor
open Go.ChangeShapes Go.WideShapes Go.ChangeAt Go.RowKit Go.Joins
set_option linter.unusedVariables false

def ExprR (m : Nat) : Prop := ∀ (B cb : Nat) (when : Int) (x : Ex) (cs : List Value) (d : Int) (st : St) (w : World) (c : Value × Value), ExA B w m cs x → CenA cb when w c 0 (.ok st) → B ≤ cb → 1 ≤ d → d ≤ 21 →
  Calls Tryd.prog 21 #[.pointer (some ⟨cb, 0, none⟩), .agg cs.toArray, .int .i64 d] w (OutC cb when 0 w c (ckE m x d st))

theorem CenA.drew {cb : Nat} {when : Int} {w : World} {c : Value × Value} {j : Nat} {R : Res} (h : CenA cb when w c j R) : CenA cb when w.drew c j R := h.below ((Below.refl _ _).drew)

/-- What comes behind the kind, ahead of the parts. -/
def preE (k n : Int) (s : ByteArray) (len : Nat) (st : St) : Res :=
  if partsE k n s len = false then .error 4
  else match textsE k s st with
    | .error e => .error e
    | .ok st2 => if n < 0 ∨ 1099511627776 < n then .error 2 else .ok st2

theorem pre_bind (k n : Int) (s : ByteArray) (len : Nat) (st : St) (f : St → Res) (h1 : k ≠ 1) (h11 : k ≠ 11) (hf : ∀ t, textsE k s t = f t) :
    preE k n s len st = bindR (askR (askR (.ok st) ((len : Int) == argsN k s) 4) (n == 0) 4) f := by
  unfold preE partsE
  by_cases hl : (len : Int) = argsN k s
  · by_cases hn : n = 0
    · have hr : ¬ (n < 0 ∨ 1099511627776 < n) := by omega
      simp [askR, bindR, hl, hn, h11, hf]
      cases f st <;> rfl
    · simp [askR, bindR, hl, hn, h1]
  · simp [askR, bindR, hl]

theorem pre_ask (k n : Int) (s : ByteArray) (len : Nat) (st : St) (b : Bool) (er : Int) (h1 : k ≠ 1) (h11 : k ≠ 11) (hf : ∀ t, textsE k s t = if b then .ok t else .error er) :
    preE k n s len st = askR (askR (askR (.ok st) ((len : Int) == argsN k s) 4) (n == 0) 4) b er := by
  rw [pre_bind k n s len st _ h1 h11 hf]
  generalize askR (askR (.ok st) ((len : Int) == argsN k s) 4) (n == 0) 4 = R
  cases R <;> rfl

theorem pre_11 (n : Int) (s : ByteArray) (len : Nat) (st : St) :
    preE 11 n s len st = askR (askR (askR (.ok st) ((len : Int) == argsN 11 s) 4) (n == 0) 4) (decide (0 < asksN s)) 4 := by
  unfold preE partsE
  by_cases hl : (len : Int) = argsN 11 s
  · by_cases hn : n = 0
    · by_cases ha : 0 < asksN s
      · simp [askR, hl, hn, ha, textsE]
      · simp [askR, hl, hn, ha]
    · simp [askR, hl, hn]
  · simp [askR, hl]

theorem pre_1 (n : Int) (s : ByteArray) (len : Nat) (st : St) (b : Bool) (hb : b = true ↔ s.size = 0) :
    preE 1 n s len st = askR (askR (askR (askR (.ok st) ((len : Int) == argsN 1 s) 4) true 4) b 4) (inB 0 n 1099511627776) 2 := by
  unfold preE partsE
  by_cases hl : (len : Int) = argsN 1 s
  · cases b with
    | true =>
      have hz : s.size = 0 := hb.1 rfl
      by_cases hn : 0 ≤ n ∧ n ≤ 1099511627776
      · have hr : ¬ (n < 0 ∨ 1099511627776 < n) := by omega
        simp [askR, hl, textsE, hz, inB, hn, hr]
      · have hr : n < 0 ∨ 1099511627776 < n := by omega
        simp [askR, hl, textsE, hz, inB, hn, hr]
    | false =>
      have hz : 0 < s.size := by
        have : ¬ s.size = 0 := fun h => by have := hb.2 h; cases this
        omega
      simp [askR, hl, textsE, hz]
  · simp [askR, hl]

set_option maxHeartbeats 32000000 in
set_option maxRecDepth 2000 in
theorem exprR_of {m : Nat} (hX : ExprR m) : ExprR (m + 1) := by
  intro B cb when x cs d st w c hx hc hB hd1 hd2
  cases x with
  | mk k n s l =>
  obtain ⟨v, rfl, wk, wn, ws, a, cap, rfl, hlen, hsl⟩ := hx
  obtain ⟨xs0, ys0, hcn0, _⟩ := (show CenA cb when w c 0 (.ok st) from hc)
  have HX : Hid (ExprR m) := hX
  have HSL : Hid (0 < l.length → ∃ b off, a = some ⟨b, off, none⟩ ∧ b < B ∧ ∀ i, i < l.length → ∃ cs : List Value, cs.length = 4 ∧ (∀ j, j < 4 → w.cell? ⟨b, off + i * 4 + j, none⟩ = cs[j]?) ∧ ∃ x, l[i]? = some x ∧ ExA B w m cs x) := hsl
  have HCN : Hid (Cn cb w c xs0 ys0 st.nodes when 0) := hcn0
  have H : Hid (CenA cb when w c 0 (.ok st)) := hc
  have g1 : w.heap.size ≠ cb := by have := hcn0.lt; omega
  have HWS : Hid (s.size ≤ maxLen) := ws
  have hw : wrap64 (d + 1) = d + 1 := by unfold wrap64; omega
  have hwr : IntKind.i64.wrap (d + 1) = d + 1 := by rw [Go.PlainAid.i64_is]; exact hw
  unfold maxLen at hlen
  clear hX hc hsl hcn0 ws wk wn
  obtain ⟨o, ho⟩ : ∃ o, o = Obj.cells #[.int .i64 k, .int .i64 n, .string s, .slice a l.length cap] 36 := ⟨_, rfl⟩
  have HF0 : Hid (Fr cb w c (w.alloc o) c) := Fr.alloc o
  have HC0 : Hid (CenA cb when (w.alloc o) c 0 (.ok st)) := H.out.alloc o
  have HB0 : Hid (RowAt (w.alloc o) w.heap.size #[.int .i64 k, .int .i64 n, .string s, .slice a l.length cap] ∧ Not2 c w.heap.size) := ⟨by rw [ho]; exact RowAt.new w _ _, HCN.out.fresh (Nat.le_refl _)⟩
  have q0 : True := trivial
  have q1 : True := trivial
  have q2 : True := trivial
  have q3 : True := trivial
  go_enter Tryd.func21, Tryd.ntmps21
  go_wp2_with fail
  rw [← ho]
  clear ho
  refine (part_c cb when d _ c st HC0.out).mono ?_
  rintro e w1 ⟨rfl, c1, hf1, hc1⟩
  have HF1 : Hid (Fr cb w c w1 c1) := HF0.out.trans hf1
  have HB1 : Hid (RowAt w1 w.heap.size #[.int .i64 k, .int .i64 n, .string s, .slice a l.length cap] ∧ Not2 c1 w.heap.size) := ⟨hf1.box HB0.out.1 g1 HB0.out.2, hf1.new _ HB0.out.1.lt HB0.out.2⟩
  have HC1 : Hid (CenA cb when w1 c1 2 (partR d st)) := hc1
  clear hf1 hc1 q0 q1 q2 q3
  have HB1r : Hid (RowAt w1 w.heap.size #[.int .i64 k, .int .i64 n, .string s, .slice a l.length cap]) := HB1.out.1
  have q0 := HB1r.out.cell 0
  have q1 := HB1r.out.cell 1
  have q2 := HB1r.out.cell 2
  have q3 := HB1r.out.cell 3
  simp only [List.getElem?_toArray, List.getElem?_cons_zero, List.getElem?_cons_succ] at q0 q1 q2 q3
  go_wp2_with fail
  refine (in_c k 1 12 _).mono ?_
  rintro e w2 ⟨rfl, he2⟩
  rw [he2]
  clear he2 w2
  go_wp2_with fail
  refine (ask_c cb 2 when 3 _ _ c1 (partR d st) HC1.out (by decide)).mono ?_
  rintro e w3 ⟨rfl, c3, hf3, hc3⟩
  have HF3 : Hid (Fr cb w c w3 c3) := HF1.out.trans hf3
  have HB3 : Hid (RowAt w3 w.heap.size #[.int .i64 k, .int .i64 n, .string s, .slice a l.length cap] ∧ Not2 c3 w.heap.size) := ⟨hf3.box HB1.out.1 g1 HB1.out.2, hf3.new _ HB1.out.1.lt HB1.out.2⟩
  have HC3 : Hid (CenA cb when w3 c3 2 (askR (partR d st) (inB 1 k 12) 3)) := hc3
  clear hf3 hc3 q0 q1 q2 q3
  have HB3r : Hid (RowAt w3 w.heap.size #[.int .i64 k, .int .i64 n, .string s, .slice a l.length cap]) := HB3.out.1
  have q0 := HB3r.out.cell 0
  have q1 := HB3r.out.cell 1
  have q2 := HB3r.out.cell 2
  have q3 := HB3r.out.cell 3
  simp only [List.getElem?_toArray, List.getElem?_cons_zero, List.getElem?_cons_succ] at q0 q1 q2 q3
  cases hR1 : askR (partR d st) (inB 1 k 12) 3 with
  | error x =>
    have HN : Hid (ckE (m + 1) (.mk k n s l) d st = .error x) := by
      cases hP : partR d st with
      | error y =>
        rw [hP] at hR1
        simp only [askR, Except.error.injEq] at hR1
        simp only [Hid, ckE, hP, hR1]
      | ok st1 =>
        rw [hP] at hR1
        by_cases hk : 1 ≤ k ∧ k ≤ 12
        · rw [inB_t hk.1 hk.2] at hR1; simp [askR] at hR1
        · rw [inB_f (by omega)] at hR1
          simp [askR] at hR1
          simp only [Hid, ckE, hP]
          rw [if_pos (by omega), ← hR1]
    have HCX : Hid (CenA cb when w3 c3 2 (.error x)) := by have := HC3.out; rw [hR1] at this; exact this
    obtain ⟨hx0, xs3, ys3, n3, hcn3⟩ := HCX.out
    have e4 := hcn3.c4
    have bx : (x == 0) = false := by simpa using hx0
    clear hcn3 hx0 hR1
    go_wp2_with fail
    refine bodyPost_ret (results_none rfl _ _ _) rfl ?_
    rw [HN.out]
    exact ⟨rfl, c3, HF3.out, HCX.out.less (by omega)⟩
  | ok st1 =>
    have HP : Hid (partR d st = .ok st1 ∧ 1 ≤ k ∧ k ≤ 12) := by
      cases hP : partR d st with
      | error y => rw [hP] at hR1; simp [askR] at hR1
      | ok st0 =>
        rw [hP] at hR1
        by_cases hk : 1 ≤ k ∧ k ≤ 12
        · rw [inB_t hk.1 hk.2] at hR1
          simp [askR] at hR1
          rw [hR1]
          exact ⟨rfl, hk⟩
        · rw [inB_f (by omega)] at hR1; simp [askR] at hR1
    have HCX : Hid (CenA cb when w3 c3 2 (.ok st1)) := by have := HC3.out; rw [hR1] at this; exact this
    obtain ⟨xs3, ys3, hcn3, _, _, hlo3, hhi3⟩ := HCX.out
    have e4 := hcn3.c4
    have HN0 : Hid (ckE (m + 1) (.mk k n s l) d st = bindR (preE k n s l.length st1) (runL (fun x => ckE m x (d + 1)) l)) := by
      simp only [Hid, ckE, HP.out.1]
      rw [if_neg (by have := HP.out.2; omega)]
      unfold preE bindR
      by_cases hp : partsE k n s l.length = false
      · rw [if_pos hp, if_pos hp]
      · rw [if_neg hp, if_neg hp]
        cases textsE k s st1 with
        | error y => rfl
        | ok st2 =>
          by_cases hn : n < 0 ∨ 1099511627776 < n
          · simp only [if_pos hn]
          · simp only [if_neg hn]
    have hd3 : d ≤ 20 := by
      have := HP.out.1
      unfold partR at this
      split at this
      · cases this
      · omega
    clear hcn3 hR1 HC3
    go_wp2_with fail
    go_region_held3 (fun w' => w'.cell? ⟨w.heap.size, 0, none⟩ = some (.int .i64 k) ∧ w'.cell? ⟨w.heap.size, 1, none⟩ = some (.int .i64 n) ∧ w'.cell? ⟨w.heap.size, 2, none⟩ = some (.string s) ∧ w'.cell? ⟨w.heap.size, 3, none⟩ = some (.slice a l.length cap)) (go_keep) (first
      | (go_at_call 37; refine (argsRef_c k n s _ _).mono ?_; rintro e w4 ⟨rfl, hb4⟩; have HF4 : Hid (Fr cb w c w4 c3) := HF3.out.trans ((Fr.of_below ((Below.refl _ _).drew)).trans (Fr.of_below hb4)); have HB4r : Hid (RowAt w4 w.heap.size #[.int .i64 k, .int .i64 n, .string s, .slice a l.length cap]) := (HB3.out.1.below ((Below.refl _ _).drew)).below hb4; have HC4 : Hid (CenA cb when w4 c3 2 (.ok st1)) := HCX.out.drew.below hb4; have p0 := HB4r.out.cell 0; have p1 := HB4r.out.cell 1; have p2 := HB4r.out.cell 2; have p3 := HB4r.out.cell 3; simp only [List.getElem?_toArray, List.getElem?_cons_zero, List.getElem?_cons_succ] at p0 p1 p2 p3; clear hb4)
      | (go_at_call 19; refine (ask_c cb 2 when 4 _ _ c3 (.ok st1) HC4.out (by decide)).mono ?_; rintro e w5 ⟨rfl, c5, hf5, hc5⟩; have HF5 : Hid (Fr cb w c w5 c5) := HF4.out.trans hf5; have HB5 : Hid (RowAt w5 w.heap.size #[.int .i64 k, .int .i64 n, .string s, .slice a l.length cap] ∧ Not2 c5 w.heap.size) := ⟨hf5.box HB4r.out g1 HB3.out.2, hf5.new _ HB4r.out.lt HB3.out.2⟩; have HC5 : Hid (CenA cb when w5 c5 2 _) := hc5; have r0 := HB5.out.1.cell 0; have r1 := HB5.out.1.cell 1; have r2 := HB5.out.1.cell 2; have r3 := HB5.out.1.cell 3; simp only [List.getElem?_toArray, List.getElem?_cons_zero, List.getElem?_cons_succ] at r0 r1 r2 r3; clear hf5 hc5))
    have HC5' : Hid (CenA cb when w5 c5 2 (askR (.ok st1) ((l.length : Int) == argsN k s) 4)) := HC5.out
    clear HC5 HC4 HB4r HF4 p0 p1 p2 p3 q0 q1 q2 q3 e4 HCX HB3 HB3r HF3 HB1 HB1r HF1 HC1 HF0 HC0 HB0
    have HB5r : Hid (RowAt w5 w.heap.size #[.int .i64 k, .int .i64 n, .string s, .slice a l.length cap]) := HB5.out.1
    clear r0 r1 r2 r3
    go_upto_region 5 with fail
    go_cut [] (fun wx => ∃ c6 : Value × Value, Hid (Fr cb w c wx c6 ∧ (RowAt wx w.heap.size #[.int .i64 k, .int .i64 n, .string s, .slice a l.length cap] ∧ Not2 c6 w.heap.size) ∧ CenA cb when wx c6 2 (askR (askR (.ok st1) ((l.length : Int) == argsN k s) 4) (k == 1 || n == 0) 4)))
    case first =>
      have r0 := HB5r.out.cell 0
      have r1 := HB5r.out.cell 1
      simp only [List.getElem?_toArray, List.getElem?_cons_zero, List.getElem?_cons_succ] at r0 r1
      by_cases e1 : k = 1
      · subst e1
        go_wp2_with fail
        refine (ask_c cb 2 when 4 true _ c5 _ HC5'.out (by decide)).mono ?_
        rintro e w6 ⟨rfl, c6, hf6, hc6⟩
        have HX6 : Hid (Fr cb w c w6 c6 ∧ (RowAt w6 w.heap.size #[.int .i64 1, .int .i64 n, .string s, .slice a l.length cap] ∧ Not2 c6 w.heap.size) ∧ CenA cb when w6 c6 2 (askR (askR (.ok st1) ((l.length : Int) == argsN 1 s) 4) ((1 : Int) == 1 || n == 0) 4)) := ⟨HF5.out.trans hf6, ⟨hf6.box HB5.out.1 g1 HB5.out.2, hf6.new _ HB5.out.1.lt HB5.out.2⟩, hc6⟩
        clear hf6 hc6
        go_wp2_with fail
        go_meet
        exact ⟨c6, HX6⟩
      · have f1 : (k == 1) = false := by simpa using e1
        go_wp2_with fail
        refine (ask_c cb 2 when 4 (n == 0) _ c5 _ HC5'.out (by decide)).mono ?_
        rintro e w6 ⟨rfl, c6, hf6, hc6⟩
        have HX6 : Hid (Fr cb w c w6 c6 ∧ (RowAt w6 w.heap.size #[.int .i64 k, .int .i64 n, .string s, .slice a l.length cap] ∧ Not2 c6 w.heap.size) ∧ CenA cb when w6 c6 2 (askR (askR (.ok st1) ((l.length : Int) == argsN k s) 4) (k == 1 || n == 0) 4)) := ⟨HF5.out.trans hf6, ⟨hf6.box HB5.out.1 g1 HB5.out.2, hf6.new _ HB5.out.1.lt HB5.out.2⟩, by rw [f1]; exact hc6⟩
        clear hf6 hc6
        go_wp2_with fail
        go_meet
        exact ⟨c6, HX6⟩
    obtain ⟨c6, HX6⟩ := hcut
    have HF6 : Hid (Fr cb w c wc c6) := HX6.out.1
    have HB6 : Hid (RowAt wc w.heap.size #[.int .i64 k, .int .i64 n, .string s, .slice a l.length cap] ∧ Not2 c6 w.heap.size) := HX6.out.2.1
    have HC6 : Hid (CenA cb when wc c6 2 (askR (askR (.ok st1) ((l.length : Int) == argsN k s) 4) (k == 1 || n == 0) 4)) := HX6.out.2.2
    clear HX6 HC5' HF5 HB5 HB5r
    generalize wc = w6 at HF6 HB6 HC6 ⊢
    have HB6r : Hid (RowAt w6 w.heap.size #[.int .i64 k, .int .i64 n, .string s, .slice a l.length cap]) := HB6.out.1
    have q0 := HB6r.out.cell 0
    have q1 := HB6r.out.cell 1
    have q2 := HB6r.out.cell 2
    have q3 := HB6r.out.cell 3
    simp only [List.getElem?_toArray, List.getElem?_cons_zero, List.getElem?_cons_succ] at q0 q1 q2 q3
    go_upto_block 0 with fail
    go_cut [] (fun wx => ∃ c7 : Value × Value, Hid (Fr cb w c wx c7 ∧ (RowAt wx w.heap.size #[.int .i64 k, .int .i64 n, .string s, .slice a l.length cap] ∧ Not2 c7 w.heap.size) ∧ CenA cb when wx c7 0 (preE k n s l.length st1)))
    case first =>
      by_cases e1 : k = 1
      · subst e1
        have HC8 : Hid (CenA cb when w6 c6 2 (askR (askR (.ok st1) ((l.length : Int) == argsN 1 s) 4) true 4)) := HC6.out
        have HF8 := HF6
        have HB8 := HB6
        by_cases gs : 0 < s.size
        · have he := ise_f gs
          have HGS : Hid (0 < s.size) := gs
          go_wp2_with fail
          refine (ask_c cb 2 when 4 false _ c6 (askR (askR (.ok st1) ((l.length : Int) == argsN 1 s) 4) true 4) HC8.out (by decide)).mono ?_
          rintro e w9 ⟨rfl, c9, hf9, hc9⟩
          have HF9 : Hid (Fr cb w c w9 c9) := HF8.out.trans hf9
          have HB9 : Hid (RowAt w9 w.heap.size #[.int .i64 1, .int .i64 n, .string s, .slice a l.length cap] ∧ Not2 c9 w.heap.size) := ⟨hf9.box HB8.out.1 g1 HB8.out.2, hf9.new _ HB8.out.1.lt HB8.out.2⟩
          have HC9 : Hid (CenA cb when w9 c9 2 (askR (askR (askR (.ok st1) ((l.length : Int) == argsN 1 s) 4) true 4) false 4)) := hc9
          clear hf9 hc9 q0 q1 q2 q3
          have HB9r : Hid (RowAt w9 w.heap.size #[.int .i64 1, .int .i64 n, .string s, .slice a l.length cap]) := HB9.out.1
          have q0 := HB9r.out.cell 0
          have q1 := HB9r.out.cell 1
          have q2 := HB9r.out.cell 2
          have q3 := HB9r.out.cell 3
          simp only [List.getElem?_toArray, List.getElem?_cons_zero, List.getElem?_cons_succ] at q0 q1 q2 q3
          go_wp2_with fail
          refine (in_c n 0 1099511627776 _).mono ?_
          rintro e w11 ⟨rfl, he11⟩
          rw [he11]
          clear he11 w11
          go_wp2_with fail
          refine (ask_c cb 2 when 2 (inB 0 n 1099511627776) _ c9 (askR (askR (askR (.ok st1) ((l.length : Int) == argsN 1 s) 4) true 4) false 4) HC9.out (by decide)).mono ?_
          rintro e w10 ⟨rfl, c10, hf10, hc10⟩
          have HF10 : Hid (Fr cb w c w10 c10) := HF9.out.trans hf10
          have HB10 : Hid (RowAt w10 w.heap.size #[.int .i64 1, .int .i64 n, .string s, .slice a l.length cap] ∧ Not2 c10 w.heap.size) := ⟨hf10.box HB9.out.1 g1 HB9.out.2, hf10.new _ HB9.out.1.lt HB9.out.2⟩
          have HC10 : Hid (CenA cb when w10 c10 2 (askR (askR (askR (askR (.ok st1) ((l.length : Int) == argsN 1 s) 4) true 4) false 4) (inB 0 n 1099511627776) 2)) := hc10
          clear hf10 hc10 q0 q1 q2 q3
          have HB10r : Hid (RowAt w10 w.heap.size #[.int .i64 1, .int .i64 n, .string s, .slice a l.length cap]) := HB10.out.1
          have q0 := HB10r.out.cell 0
          have q1 := HB10r.out.cell 1
          have q2 := HB10r.out.cell 2
          have q3 := HB10r.out.cell 3
          simp only [List.getElem?_toArray, List.getElem?_cons_zero, List.getElem?_cons_succ] at q0 q1 q2 q3
          go_wp2_with fail
          go_meet
          exact ⟨c10, HF10.out, HB10.out, by rw [pre_1 n s l.length st1 false (by have h := HGS.out; exact ⟨fun h2 => (by cases h2), fun h2 => by omega⟩)]; exact HC10.out.less (by omega)⟩
        · have he := ise_t gs
          have HGS : Hid (¬ 0 < s.size) := gs
          go_wp2_with fail
          refine (ask_c cb 2 when 4 true _ c6 (askR (askR (.ok st1) ((l.length : Int) == argsN 1 s) 4) true 4) HC8.out (by decide)).mono ?_
          rintro e w9 ⟨rfl, c9, hf9, hc9⟩
          have HF9 : Hid (Fr cb w c w9 c9) := HF8.out.trans hf9
          have HB9 : Hid (RowAt w9 w.heap.size #[.int .i64 1, .int .i64 n, .string s, .slice a l.length cap] ∧ Not2 c9 w.heap.size) := ⟨hf9.box HB8.out.1 g1 HB8.out.2, hf9.new _ HB8.out.1.lt HB8.out.2⟩
          have HC9 : Hid (CenA cb when w9 c9 2 (askR (askR (askR (.ok st1) ((l.length : Int) == argsN 1 s) 4) true 4) true 4)) := hc9
          clear hf9 hc9 q0 q1 q2 q3
          have HB9r : Hid (RowAt w9 w.heap.size #[.int .i64 1, .int .i64 n, .string s, .slice a l.length cap]) := HB9.out.1
          have q0 := HB9r.out.cell 0
          have q1 := HB9r.out.cell 1
          have q2 := HB9r.out.cell 2
          have q3 := HB9r.out.cell 3
          simp only [List.getElem?_toArray, List.getElem?_cons_zero, List.getElem?_cons_succ] at q0 q1 q2 q3
          go_wp2_with fail
          refine (in_c n 0 1099511627776 _).mono ?_
          rintro e w11 ⟨rfl, he11⟩
          rw [he11]
          clear he11 w11
          go_wp2_with fail
          refine (ask_c cb 2 when 2 (inB 0 n 1099511627776) _ c9 (askR (askR (askR (.ok st1) ((l.length : Int) == argsN 1 s) 4) true 4) true 4) HC9.out (by decide)).mono ?_
          rintro e w10 ⟨rfl, c10, hf10, hc10⟩
          have HF10 : Hid (Fr cb w c w10 c10) := HF9.out.trans hf10
          have HB10 : Hid (RowAt w10 w.heap.size #[.int .i64 1, .int .i64 n, .string s, .slice a l.length cap] ∧ Not2 c10 w.heap.size) := ⟨hf10.box HB9.out.1 g1 HB9.out.2, hf10.new _ HB9.out.1.lt HB9.out.2⟩
          have HC10 : Hid (CenA cb when w10 c10 2 (askR (askR (askR (askR (.ok st1) ((l.length : Int) == argsN 1 s) 4) true 4) true 4) (inB 0 n 1099511627776) 2)) := hc10
          clear hf10 hc10 q0 q1 q2 q3
          have HB10r : Hid (RowAt w10 w.heap.size #[.int .i64 1, .int .i64 n, .string s, .slice a l.length cap]) := HB10.out.1
          have q0 := HB10r.out.cell 0
          have q1 := HB10r.out.cell 1
          have q2 := HB10r.out.cell 2
          have q3 := HB10r.out.cell 3
          simp only [List.getElem?_toArray, List.getElem?_cons_zero, List.getElem?_cons_succ] at q0 q1 q2 q3
          go_wp2_with fail
          go_meet
          exact ⟨c10, HF10.out, HB10.out, by rw [pre_1 n s l.length st1 true (by have h := HGS.out; exact ⟨fun _ => by omega, fun _ => rfl⟩)]; exact HC10.out.less (by omega)⟩
      by_cases e2 : k = 2
      · subst e2
        have HC8 : Hid (CenA cb when w6 c6 2 (askR (askR (.ok st1) ((l.length : Int) == argsN 2 s) 4) (n == 0) 4)) := HC6.out
        have HF8 := HF6
        have HB8 := HB6
        have hsz := HWS.out
        unfold maxLen at hsz
        by_cases gl : (s.size : Int) ≤ 200
        · have HGL : Hid ((s.size : Int) ≤ 200) := gl
          skip
          go_wp2_with fail
          refine (ask_c cb 2 when 1 true _ c6 (askR (askR (.ok st1) ((l.length : Int) == argsN 2 s) 4) (n == 0) 4) HC8.out (by decide)).mono ?_
          rintro e w9 ⟨rfl, c9, hf9, hc9⟩
          have HF9 : Hid (Fr cb w c w9 c9) := HF8.out.trans hf9
          have HB9 : Hid (RowAt w9 w.heap.size #[.int .i64 2, .int .i64 n, .string s, .slice a l.length cap] ∧ Not2 c9 w.heap.size) := ⟨hf9.box HB8.out.1 g1 HB8.out.2, hf9.new _ HB8.out.1.lt HB8.out.2⟩
          have HC9 : Hid (CenA cb when w9 c9 2 (askR (askR (askR (.ok st1) ((l.length : Int) == argsN 2 s) 4) (n == 0) 4) true 1)) := hc9
          clear hf9 hc9 q0 q1 q2 q3
          have HB9r : Hid (RowAt w9 w.heap.size #[.int .i64 2, .int .i64 n, .string s, .slice a l.length cap]) := HB9.out.1
          have q0 := HB9r.out.cell 0
          have q1 := HB9r.out.cell 1
          have q2 := HB9r.out.cell 2
          have q3 := HB9r.out.cell 3
          simp only [List.getElem?_toArray, List.getElem?_cons_zero, List.getElem?_cons_succ] at q0 q1 q2 q3
          go_wp2_with fail
          go_meet
          exact ⟨c9, HF9.out, HB9.out, by rw [pre_ask 2 n s l.length st1 true 1 (by decide) (by decide) (fun t => by have := HGL.out; simp only [textsE, if_true]; rw [if_neg (by omega)])]; exact HC9.out.less (by omega)⟩
        · have gl2 : decide ((s.size : Int) ≤ 200) = false := decide_eq_false gl
          have HGL : Hid (¬ (s.size : Int) ≤ 200) := gl
          clear gl
          skip
          go_wp2_with fail
          refine (ask_c cb 2 when 1 false _ c6 (askR (askR (.ok st1) ((l.length : Int) == argsN 2 s) 4) (n == 0) 4) HC8.out (by decide)).mono ?_
          rintro e w9 ⟨rfl, c9, hf9, hc9⟩
          have HF9 : Hid (Fr cb w c w9 c9) := HF8.out.trans hf9
          have HB9 : Hid (RowAt w9 w.heap.size #[.int .i64 2, .int .i64 n, .string s, .slice a l.length cap] ∧ Not2 c9 w.heap.size) := ⟨hf9.box HB8.out.1 g1 HB8.out.2, hf9.new _ HB8.out.1.lt HB8.out.2⟩
          have HC9 : Hid (CenA cb when w9 c9 2 (askR (askR (askR (.ok st1) ((l.length : Int) == argsN 2 s) 4) (n == 0) 4) false 1)) := hc9
          clear hf9 hc9 q0 q1 q2 q3
          have HB9r : Hid (RowAt w9 w.heap.size #[.int .i64 2, .int .i64 n, .string s, .slice a l.length cap]) := HB9.out.1
          have q0 := HB9r.out.cell 0
          have q1 := HB9r.out.cell 1
          have q2 := HB9r.out.cell 2
          have q3 := HB9r.out.cell 3
          simp only [List.getElem?_toArray, List.getElem?_cons_zero, List.getElem?_cons_succ] at q0 q1 q2 q3
          go_wp2_with fail
          go_meet
          exact ⟨c9, HF9.out, HB9.out, by rw [pre_ask 2 n s l.length st1 false 1 (by decide) (by decide) (fun t => by have := HGL.out; simp only [textsE, if_true]; rw [if_pos (by omega)]; rfl)]; exact HC9.out.less (by omega)⟩
      by_cases e3 : k = 3
      · subst e3
        have HC8 : Hid (CenA cb when w6 c6 2 (askR (askR (.ok st1) ((l.length : Int) == argsN 3 s) 4) (n == 0) 4)) := HC6.out
        have HF8 := HF6
        have HB8 := HB6
        go_wp2_with fail
        refine (variable_c cb 1 when s _ c6 (askR (askR (.ok st1) ((l.length : Int) == argsN 3 s) 4) (n == 0) 4) HC8.out HWS.out).mono ?_
        rintro e w9 ⟨rfl, c9, hf9, hc9⟩
        have HF9 : Hid (Fr cb w c w9 c9) := HF8.out.trans hf9
        have HB9 : Hid (RowAt w9 w.heap.size #[.int .i64 3, .int .i64 n, .string s, .slice a l.length cap] ∧ Not2 c9 w.heap.size) := ⟨hf9.box HB8.out.1 g1 HB8.out.2, hf9.new _ HB8.out.1.lt HB8.out.2⟩
        have HC9 : Hid (CenA cb when w9 c9 1 (bindR (askR (askR (.ok st1) ((l.length : Int) == argsN 3 s) 4) (n == 0) 4) (nameR s 1))) := hc9
        clear hf9 hc9 q0 q1 q2 q3
        have HB9r : Hid (RowAt w9 w.heap.size #[.int .i64 3, .int .i64 n, .string s, .slice a l.length cap]) := HB9.out.1
        have q0 := HB9r.out.cell 0
        have q1 := HB9r.out.cell 1
        have q2 := HB9r.out.cell 2
        have q3 := HB9r.out.cell 3
        simp only [List.getElem?_toArray, List.getElem?_cons_zero, List.getElem?_cons_succ] at q0 q1 q2 q3
        go_wp2_with fail
        go_meet
        exact ⟨c9, HF9.out, HB9.out, by rw [pre_bind 3 n s l.length st1 (nameR s 1) (by decide) (by decide) (fun t => by simp [textsE])]; exact HC9.out.less (by omega)⟩
      by_cases e5 : k = 5
      · subst e5
        have HC8 : Hid (CenA cb when w6 c6 2 (askR (askR (.ok st1) ((l.length : Int) == argsN 5 s) 4) (n == 0) 4)) := HC6.out
        have HF8 := HF6
        have HB8 := HB6
        go_wp2_with fail
        refine (list_c cb 1 when s _ c6 (askR (askR (.ok st1) ((l.length : Int) == argsN 5 s) 4) (n == 0) 4) HC8.out HWS.out).mono ?_
        rintro e w9 ⟨rfl, c9, hf9, hc9⟩
        have HF9 : Hid (Fr cb w c w9 c9) := HF8.out.trans hf9
        have HB9 : Hid (RowAt w9 w.heap.size #[.int .i64 5, .int .i64 n, .string s, .slice a l.length cap] ∧ Not2 c9 w.heap.size) := ⟨hf9.box HB8.out.1 g1 HB8.out.2, hf9.new _ HB8.out.1.lt HB8.out.2⟩
        have HC9 : Hid (CenA cb when w9 c9 1 (bindR (askR (askR (.ok st1) ((l.length : Int) == argsN 5 s) 4) (n == 0) 4) (nameR s 2))) := hc9
        clear hf9 hc9 q0 q1 q2 q3
        have HB9r : Hid (RowAt w9 w.heap.size #[.int .i64 5, .int .i64 n, .string s, .slice a l.length cap]) := HB9.out.1
        have q0 := HB9r.out.cell 0
        have q1 := HB9r.out.cell 1
        have q2 := HB9r.out.cell 2
        have q3 := HB9r.out.cell 3
        simp only [List.getElem?_toArray, List.getElem?_cons_zero, List.getElem?_cons_succ] at q0 q1 q2 q3
        go_wp2_with fail
        go_meet
        exact ⟨c9, HF9.out, HB9.out, by rw [pre_bind 5 n s l.length st1 (nameR s 2) (by decide) (by decide) (fun t => by simp [textsE])]; exact HC9.out.less (by omega)⟩
      by_cases e9 : k = 9
      · subst e9
        have HC8 : Hid (CenA cb when w6 c6 2 (askR (askR (.ok st1) ((l.length : Int) == argsN 9 s) 4) (n == 0) 4)) := HC6.out
        have HF8 := HF6
        have HB8 := HB6
        go_wp2_with fail
        refine (list_c cb 1 when s _ c6 (askR (askR (.ok st1) ((l.length : Int) == argsN 9 s) 4) (n == 0) 4) HC8.out HWS.out).mono ?_
        rintro e w9 ⟨rfl, c9, hf9, hc9⟩
        have HF9 : Hid (Fr cb w c w9 c9) := HF8.out.trans hf9
        have HB9 : Hid (RowAt w9 w.heap.size #[.int .i64 9, .int .i64 n, .string s, .slice a l.length cap] ∧ Not2 c9 w.heap.size) := ⟨hf9.box HB8.out.1 g1 HB8.out.2, hf9.new _ HB8.out.1.lt HB8.out.2⟩
        have HC9 : Hid (CenA cb when w9 c9 1 (bindR (askR (askR (.ok st1) ((l.length : Int) == argsN 9 s) 4) (n == 0) 4) (nameR s 2))) := hc9
        clear hf9 hc9 q0 q1 q2 q3
        have HB9r : Hid (RowAt w9 w.heap.size #[.int .i64 9, .int .i64 n, .string s, .slice a l.length cap]) := HB9.out.1
        have q0 := HB9r.out.cell 0
        have q1 := HB9r.out.cell 1
        have q2 := HB9r.out.cell 2
        have q3 := HB9r.out.cell 3
        simp only [List.getElem?_toArray, List.getElem?_cons_zero, List.getElem?_cons_succ] at q0 q1 q2 q3
        go_wp2_with fail
        go_meet
        exact ⟨c9, HF9.out, HB9.out, by rw [pre_bind 9 n s l.length st1 (nameR s 2) (by decide) (by decide) (fun t => by simp [textsE])]; exact HC9.out.less (by omega)⟩
      by_cases e6 : k = 6
      · subst e6
        have HC8 : Hid (CenA cb when w6 c6 2 (askR (askR (.ok st1) ((l.length : Int) == argsN 6 s) 4) (n == 0) 4)) := HC6.out
        have HF8 := HF6
        have HB8 := HB6
        go_wp2_with fail
        refine (levelOf_c s _).mono ?_
        rintro e w11 ⟨rfl, he11⟩
        rw [he11]
        clear he11 w11
        by_cases gl : 0 < lvl s
        · have HGL : Hid (0 < lvl s) := gl
          skip
          go_wp2_with fail
          refine (ask_c cb 2 when 4 true _ c6 (askR (askR (.ok st1) ((l.length : Int) == argsN 6 s) 4) (n == 0) 4) HC8.out (by decide)).mono ?_
          rintro e w9 ⟨rfl, c9, hf9, hc9⟩
          have HF9 : Hid (Fr cb w c w9 c9) := HF8.out.trans hf9
          have HB9 : Hid (RowAt w9 w.heap.size #[.int .i64 6, .int .i64 n, .string s, .slice a l.length cap] ∧ Not2 c9 w.heap.size) := ⟨hf9.box HB8.out.1 g1 HB8.out.2, hf9.new _ HB8.out.1.lt HB8.out.2⟩
          have HC9 : Hid (CenA cb when w9 c9 2 (askR (askR (askR (.ok st1) ((l.length : Int) == argsN 6 s) 4) (n == 0) 4) true 4)) := hc9
          clear hf9 hc9 q0 q1 q2 q3
          have HB9r : Hid (RowAt w9 w.heap.size #[.int .i64 6, .int .i64 n, .string s, .slice a l.length cap]) := HB9.out.1
          have q0 := HB9r.out.cell 0
          have q1 := HB9r.out.cell 1
          have q2 := HB9r.out.cell 2
          have q3 := HB9r.out.cell 3
          simp only [List.getElem?_toArray, List.getElem?_cons_zero, List.getElem?_cons_succ] at q0 q1 q2 q3
          go_wp2_with fail
          go_meet
          exact ⟨c9, HF9.out, HB9.out, by rw [pre_ask 6 n s l.length st1 true 4 (by decide) (by decide) (fun t => by simp [textsE, HGL.out])]; exact HC9.out.less (by omega)⟩
        · have gl2 : decide (0 < lvl s) = false := decide_eq_false gl
          have HGL : Hid (¬ 0 < lvl s) := gl
          clear gl
          skip
          go_wp2_with fail
          refine (ask_c cb 2 when 4 false _ c6 (askR (askR (.ok st1) ((l.length : Int) == argsN 6 s) 4) (n == 0) 4) HC8.out (by decide)).mono ?_
          rintro e w9 ⟨rfl, c9, hf9, hc9⟩
          have HF9 : Hid (Fr cb w c w9 c9) := HF8.out.trans hf9
          have HB9 : Hid (RowAt w9 w.heap.size #[.int .i64 6, .int .i64 n, .string s, .slice a l.length cap] ∧ Not2 c9 w.heap.size) := ⟨hf9.box HB8.out.1 g1 HB8.out.2, hf9.new _ HB8.out.1.lt HB8.out.2⟩
          have HC9 : Hid (CenA cb when w9 c9 2 (askR (askR (askR (.ok st1) ((l.length : Int) == argsN 6 s) 4) (n == 0) 4) false 4)) := hc9
          clear hf9 hc9 q0 q1 q2 q3
          have HB9r : Hid (RowAt w9 w.heap.size #[.int .i64 6, .int .i64 n, .string s, .slice a l.length cap]) := HB9.out.1
          have q0 := HB9r.out.cell 0
          have q1 := HB9r.out.cell 1
          have q2 := HB9r.out.cell 2
          have q3 := HB9r.out.cell 3
          simp only [List.getElem?_toArray, List.getElem?_cons_zero, List.getElem?_cons_succ] at q0 q1 q2 q3
          go_wp2_with fail
          go_meet
          exact ⟨c9, HF9.out, HB9.out, by rw [pre_ask 6 n s l.length st1 false 4 (by decide) (by decide) (fun t => by simp [textsE, HGL.out])]; exact HC9.out.less (by omega)⟩
      by_cases e11 : k = 11
      · subst e11
        have HC8 : Hid (CenA cb when w6 c6 2 (askR (askR (.ok st1) ((l.length : Int) == argsN 11 s) 4) (n == 0) 4)) := HC6.out
        have HF8 := HF6
        have HB8 := HB6
        go_wp2_with fail
        refine (asksRef_c s _).mono ?_
        rintro e w11 ⟨rfl, he11⟩
        rw [he11]
        clear he11 w11
        go_wp2_with fail
        refine (ask_c cb 2 when 4 (decide (0 < asksN s)) _ c6 (askR (askR (.ok st1) ((l.length : Int) == argsN 11 s) 4) (n == 0) 4) HC8.out (by decide)).mono ?_
        rintro e w9 ⟨rfl, c9, hf9, hc9⟩
        have HF9 : Hid (Fr cb w c w9 c9) := HF8.out.trans hf9
        have HB9 : Hid (RowAt w9 w.heap.size #[.int .i64 11, .int .i64 n, .string s, .slice a l.length cap] ∧ Not2 c9 w.heap.size) := ⟨hf9.box HB8.out.1 g1 HB8.out.2, hf9.new _ HB8.out.1.lt HB8.out.2⟩
        have HC9 : Hid (CenA cb when w9 c9 2 (askR (askR (askR (.ok st1) ((l.length : Int) == argsN 11 s) 4) (n == 0) 4) (decide (0 < asksN s)) 4)) := hc9
        clear hf9 hc9 q0 q1 q2 q3
        have HB9r : Hid (RowAt w9 w.heap.size #[.int .i64 11, .int .i64 n, .string s, .slice a l.length cap]) := HB9.out.1
        have q0 := HB9r.out.cell 0
        have q1 := HB9r.out.cell 1
        have q2 := HB9r.out.cell 2
        have q3 := HB9r.out.cell 3
        simp only [List.getElem?_toArray, List.getElem?_cons_zero, List.getElem?_cons_succ] at q0 q1 q2 q3
        go_wp2_with fail
        go_meet
        exact ⟨c9, HF9.out, HB9.out, by rw [pre_11 n s l.length st1]; exact HC9.out.less (by omega)⟩
      by_cases e12 : k = 12
      · subst e12
        have HC8 : Hid (CenA cb when w6 c6 2 (askR (askR (.ok st1) ((l.length : Int) == argsN 12 s) 4) (n == 0) 4)) := HC6.out
        have HF8 := HF6
        have HB8 := HB6
        by_cases gr : s.toList = [78, 82]
        · have b1 : (s.toList == [78, 82]) = true := by simp [gr]
          have HG : Hid (s.toList = [78, 82]) := gr
          clear gr
          skip
          go_wp2_with fail
          refine (ask_c cb 2 when 4 true _ c6 (askR (askR (.ok st1) ((l.length : Int) == argsN 12 s) 4) (n == 0) 4) HC8.out (by decide)).mono ?_
          rintro e w9 ⟨rfl, c9, hf9, hc9⟩
          have HF9 : Hid (Fr cb w c w9 c9) := HF8.out.trans hf9
          have HB9 : Hid (RowAt w9 w.heap.size #[.int .i64 12, .int .i64 n, .string s, .slice a l.length cap] ∧ Not2 c9 w.heap.size) := ⟨hf9.box HB8.out.1 g1 HB8.out.2, hf9.new _ HB8.out.1.lt HB8.out.2⟩
          have HC9 : Hid (CenA cb when w9 c9 2 (askR (askR (askR (.ok st1) ((l.length : Int) == argsN 12 s) 4) (n == 0) 4) true 4)) := hc9
          clear hf9 hc9 q0 q1 q2 q3
          have HB9r : Hid (RowAt w9 w.heap.size #[.int .i64 12, .int .i64 n, .string s, .slice a l.length cap]) := HB9.out.1
          have q0 := HB9r.out.cell 0
          have q1 := HB9r.out.cell 1
          have q2 := HB9r.out.cell 2
          have q3 := HB9r.out.cell 3
          simp only [List.getElem?_toArray, List.getElem?_cons_zero, List.getElem?_cons_succ] at q0 q1 q2 q3
          go_wp2_with fail
          go_meet
          exact ⟨c9, HF9.out, HB9.out, by rw [pre_ask 12 n s l.length st1 true 4 (by decide) (by decide) (fun t => by simp [textsE, HG.out])]; exact HC9.out.less (by omega)⟩
        have b1 : (s.toList == [78, 82]) = false := by simpa using gr
        by_cases gf : s.toList = [78, 70]
        · have b2 : (s.toList == [78, 70]) = true := by simp [gf]
          have HG : Hid (s.toList = [78, 70]) := gf
          clear gf gr
          skip
          go_wp2_with fail
          refine (ask_c cb 2 when 4 true _ c6 (askR (askR (.ok st1) ((l.length : Int) == argsN 12 s) 4) (n == 0) 4) HC8.out (by decide)).mono ?_
          rintro e w9 ⟨rfl, c9, hf9, hc9⟩
          have HF9 : Hid (Fr cb w c w9 c9) := HF8.out.trans hf9
          have HB9 : Hid (RowAt w9 w.heap.size #[.int .i64 12, .int .i64 n, .string s, .slice a l.length cap] ∧ Not2 c9 w.heap.size) := ⟨hf9.box HB8.out.1 g1 HB8.out.2, hf9.new _ HB8.out.1.lt HB8.out.2⟩
          have HC9 : Hid (CenA cb when w9 c9 2 (askR (askR (askR (.ok st1) ((l.length : Int) == argsN 12 s) 4) (n == 0) 4) true 4)) := hc9
          clear hf9 hc9 q0 q1 q2 q3
          have HB9r : Hid (RowAt w9 w.heap.size #[.int .i64 12, .int .i64 n, .string s, .slice a l.length cap]) := HB9.out.1
          have q0 := HB9r.out.cell 0
          have q1 := HB9r.out.cell 1
          have q2 := HB9r.out.cell 2
          have q3 := HB9r.out.cell 3
          simp only [List.getElem?_toArray, List.getElem?_cons_zero, List.getElem?_cons_succ] at q0 q1 q2 q3
          go_wp2_with fail
          go_meet
          exact ⟨c9, HF9.out, HB9.out, by rw [pre_ask 12 n s l.length st1 true 4 (by decide) (by decide) (fun t => by simp [textsE, HG.out])]; exact HC9.out.less (by omega)⟩
        have b2 : (s.toList == [78, 70]) = false := by simpa using gf
        have HG : Hid (¬ s.toList = [78, 82] ∧ ¬ s.toList = [78, 70]) := ⟨gr, gf⟩
        clear gf gr
        skip
        go_wp2_with fail
        refine (ask_c cb 2 when 4 false _ c6 (askR (askR (.ok st1) ((l.length : Int) == argsN 12 s) 4) (n == 0) 4) HC8.out (by decide)).mono ?_
        rintro e w9 ⟨rfl, c9, hf9, hc9⟩
        have HF9 : Hid (Fr cb w c w9 c9) := HF8.out.trans hf9
        have HB9 : Hid (RowAt w9 w.heap.size #[.int .i64 12, .int .i64 n, .string s, .slice a l.length cap] ∧ Not2 c9 w.heap.size) := ⟨hf9.box HB8.out.1 g1 HB8.out.2, hf9.new _ HB8.out.1.lt HB8.out.2⟩
        have HC9 : Hid (CenA cb when w9 c9 2 (askR (askR (askR (.ok st1) ((l.length : Int) == argsN 12 s) 4) (n == 0) 4) false 4)) := hc9
        clear hf9 hc9 q0 q1 q2 q3
        have HB9r : Hid (RowAt w9 w.heap.size #[.int .i64 12, .int .i64 n, .string s, .slice a l.length cap]) := HB9.out.1
        have q0 := HB9r.out.cell 0
        have q1 := HB9r.out.cell 1
        have q2 := HB9r.out.cell 2
        have q3 := HB9r.out.cell 3
        simp only [List.getElem?_toArray, List.getElem?_cons_zero, List.getElem?_cons_succ] at q0 q1 q2 q3
        go_wp2_with fail
        go_meet
        exact ⟨c9, HF9.out, HB9.out, by rw [pre_ask 12 n s l.length st1 false 4 (by decide) (by decide) (fun t => by simp [textsE, HG.out.1, HG.out.2])]; exact HC9.out.less (by omega)⟩
      have f1 : (k == 1) = false := by simpa using e1
      have f2 : (k == 2) = false := by simpa using e2
      have f3 : (k == 3) = false := by simpa using e3
      have f5 : (k == 5) = false := by simpa using e5
      have f9 : (k == 9) = false := by simpa using e9
      have f6 : (k == 6) = false := by simpa using e6
      have f11 : (k == 11) = false := by simpa using e11
      have f12 : (k == 12) = false := by simpa using e12
      have HKS : Hid (k ≠ 1 ∧ k ≠ 2 ∧ k ≠ 3 ∧ k ≠ 5 ∧ k ≠ 9 ∧ k ≠ 6 ∧ k ≠ 11 ∧ k ≠ 12) := ⟨e1, e2, e3, e5, e9, e6, e11, e12⟩
      clear e1 e2 e3 e5 e9 e6 e11 e12
      have HC8 : Hid (CenA cb when w6 c6 2 (askR (askR (.ok st1) ((l.length : Int) == argsN k s) 4) (n == 0) 4)) := by have := HC6.out; rw [f1] at this; exact this
      have HF8 := HF6
      have HB8 := HB6
      by_cases gs : 0 < s.size
      · have HGS : Hid (0 < s.size) := gs
        have he := ise_f gs
        go_wp2_with fail
        refine (ask_c cb 2 when 4 false _ c6 (askR (askR (.ok st1) ((l.length : Int) == argsN k s) 4) (n == 0) 4) HC8.out (by decide)).mono ?_
        rintro e w9 ⟨rfl, c9, hf9, hc9⟩
        have HF9 : Hid (Fr cb w c w9 c9) := HF8.out.trans hf9
        have HB9 : Hid (RowAt w9 w.heap.size #[.int .i64 k, .int .i64 n, .string s, .slice a l.length cap] ∧ Not2 c9 w.heap.size) := ⟨hf9.box HB8.out.1 g1 HB8.out.2, hf9.new _ HB8.out.1.lt HB8.out.2⟩
        have HC9 : Hid (CenA cb when w9 c9 2 (askR (askR (askR (.ok st1) ((l.length : Int) == argsN k s) 4) (n == 0) 4) false 4)) := hc9
        clear hf9 hc9 q0 q1 q2 q3
        have HB9r : Hid (RowAt w9 w.heap.size #[.int .i64 k, .int .i64 n, .string s, .slice a l.length cap]) := HB9.out.1
        have q0 := HB9r.out.cell 0
        have q1 := HB9r.out.cell 1
        have q2 := HB9r.out.cell 2
        have q3 := HB9r.out.cell 3
        simp only [List.getElem?_toArray, List.getElem?_cons_zero, List.getElem?_cons_succ] at q0 q1 q2 q3
        go_wp2_with fail
        go_meet
        exact ⟨c9, HF9.out, HB9.out, by rw [pre_ask k n s l.length st1 false 4 HKS.out.1 HKS.out.2.2.2.2.2.2.1 (fun t => by have h := HKS.out; simp only [textsE]; rw [if_neg h.2.1, if_neg h.2.2.1, if_neg (by omega), if_neg h.2.2.2.2.2.1, if_neg h.2.2.2.2.2.2.2, if_neg h.2.2.2.2.2.2.1, if_pos HGS.out]; rfl)]; exact HC9.out.less (by omega)⟩
      · have HGS : Hid (¬ 0 < s.size) := gs
        have he := ise_t gs
        go_wp2_with fail
        refine (ask_c cb 2 when 4 true _ c6 (askR (askR (.ok st1) ((l.length : Int) == argsN k s) 4) (n == 0) 4) HC8.out (by decide)).mono ?_
        rintro e w9 ⟨rfl, c9, hf9, hc9⟩
        have HF9 : Hid (Fr cb w c w9 c9) := HF8.out.trans hf9
        have HB9 : Hid (RowAt w9 w.heap.size #[.int .i64 k, .int .i64 n, .string s, .slice a l.length cap] ∧ Not2 c9 w.heap.size) := ⟨hf9.box HB8.out.1 g1 HB8.out.2, hf9.new _ HB8.out.1.lt HB8.out.2⟩
        have HC9 : Hid (CenA cb when w9 c9 2 (askR (askR (askR (.ok st1) ((l.length : Int) == argsN k s) 4) (n == 0) 4) true 4)) := hc9
        clear hf9 hc9 q0 q1 q2 q3
        have HB9r : Hid (RowAt w9 w.heap.size #[.int .i64 k, .int .i64 n, .string s, .slice a l.length cap]) := HB9.out.1
        have q0 := HB9r.out.cell 0
        have q1 := HB9r.out.cell 1
        have q2 := HB9r.out.cell 2
        have q3 := HB9r.out.cell 3
        simp only [List.getElem?_toArray, List.getElem?_cons_zero, List.getElem?_cons_succ] at q0 q1 q2 q3
        go_wp2_with fail
        go_meet
        exact ⟨c9, HF9.out, HB9.out, by rw [pre_ask k n s l.length st1 true 4 HKS.out.1 HKS.out.2.2.2.2.2.2.1 (fun t => by have h := HKS.out; simp only [textsE]; rw [if_neg h.2.1, if_neg h.2.2.1, if_neg (by omega), if_neg h.2.2.2.2.2.1, if_neg h.2.2.2.2.2.2.2, if_neg h.2.2.2.2.2.2.1, if_neg HGS.out]; rfl)]; exact HC9.out.less (by omega)⟩
    obtain ⟨c7, HX7⟩ := hcut
    have HF7 : Hid (Fr cb w c wc c7) := HX7.out.1
    have HB7 : Hid (RowAt wc w.heap.size #[.int .i64 k, .int .i64 n, .string s, .slice a l.length cap] ∧ Not2 c7 w.heap.size) := HX7.out.2.1
    have HC7 : Hid (CenA cb when wc c7 0 (preE k n s l.length st1)) := HX7.out.2.2
    clear HX7 HC6 HF6 HB6 HB6r q0 q1 q2 q3
    generalize wc = w7 at HF7 HB7 HC7 ⊢
    have q0 : True := trivial
    have q1 : True := trivial
    have q2 : True := trivial
    have q3 : True := trivial
    go_wp2_with fail
    have HN : Hid (ckE (m + 1) (.mk k n s l) d st = bindR (preE k n s l.length st1) (runL (fun x => ckE m x (d + 1)) l)) := HN0.out
    obtain ⟨R4, hR4⟩ : ∃ R4, R4 = (preE k n s l.length st1) := ⟨_, rfl⟩
    rw [← hR4] at HN
    have HCL : Hid (CenA cb when w7 c7 0 R4) := by rw [hR4]; exact HC7.out.less (by omega)
    clear hR4 HC7 q0 q1 q2 q3
    go_loopw [6] (fun v wr => ∃ (i : Nat) (ci : Value × Value), i ≤ l.length ∧ v = .int .i64 i ∧ Hid (Fr cb w c wr ci ∧ (RowAt wr w.heap.size #[.int .i64 k, .int .i64 n, .string s, .slice a l.length cap] ∧ Not2 ci w.heap.size) ∧ CenA cb when wr ci 0 (bindR R4 (runL (fun x => ckE m x (d + 1)) (l.take i))))) (fun v _ => l.length - (intOf v).toNat)
    case atStart => exact ⟨0, c7, by omega, rfl, HF7.out, HB7.out, by cases R4 <;> exact HCL.out⟩
    case round =>
      obtain ⟨i, ci, hil, rfl, HR⟩ := hrel
      have HBr : Hid (RowAt wr w.heap.size #[.int .i64 k, .int .i64 n, .string s, .slice a l.length cap]) := HR.out.2.1.1
      have q3 := HBr.out.cell 3
      simp only [List.getElem?_toArray, List.getElem?_cons_zero, List.getElem?_cons_succ] at q3
      cases hRi : bindR R4 (runL (fun x => ckE m x (d + 1)) (l.take i)) with
      | error x =>
        have HCX : Hid (CenA cb when wr ci 0 (.error x)) := by have := HR.out.2.2; rw [hRi] at this; exact this
        obtain ⟨hx0, xs9, ys9, n9, hcn9⟩ := HCX.out
        have e4 := hcn9.c4
        have bx : (x == 0) = false := by simpa using hx0
        have HE : Hid (ckE (m + 1) (.mk k n s l) d st = .error x) := by
          rw [HN.out]
          cases R4 with
          | error y => exact hRi
          | ok st2 =>
            have h1 := runL_err (r := l.drop i) (show runL (fun x => ckE m x (d + 1)) (l.take i) st2 = .error x from hRi)
            rw [List.take_append_drop] at h1
            exact h1
        clear hcn9 hx0 hRi
        by_cases hlt : i < l.length
        · have i1 : (i : Int) < (l.length : Int) := by omega
          go_wp2_with fail
          go_end0
          rw [HE.out]
          exact ⟨rfl, ci, HR.out.1, HCX.out⟩
        · have i1 : ¬ (i : Int) < (l.length : Int) := by omega
          go_wp2_with fail
          go_end0
          rw [HE.out]
          exact ⟨rfl, ci, HR.out.1, HCX.out⟩
      | ok s9 =>
        have HCX : Hid (CenA cb when wr ci 0 (.ok s9)) := by have := HR.out.2.2; rw [hRi] at this; exact this
        obtain ⟨xs9, ys9, hcn9, _⟩ := (show CenA cb when wr ci 0 (.ok s9) from HCX.out)
        have e4 := hcn9.c4
        have HR4 : Hid (∃ st2, R4 = .ok st2 ∧ runL (fun x => ckE m x (d + 1)) (l.take i) st2 = .ok s9) := by
          cases R4 with
          | error y => simp [bindR] at hRi
          | ok st2 => exact ⟨st2, rfl, hRi⟩
        clear hcn9 hRi
        by_cases hlt : i < l.length
        · have i1 : (i : Int) < (l.length : Int) := by omega
          have i2 : (0 : Int) ≤ (i : Int) := by omega
          obtain ⟨b, off, rfl, hb, hi⟩ := HSL.out (by omega)
          obtain ⟨cs, hcl, hcell, x, hx, hex⟩ := hi i hlt
          obtain ⟨k0, n0, s0, a0, len0, cap0, rfl⟩ := hex.shape
          have HBW : Hid (Below B w wr) := HR.out.1.below HCN.out hB
          have p0 : wr.cell? ⟨b, off + i * 4, none⟩ = some (.int .i64 k0) := by rw [HBW.out.cell (p := ⟨b, off + i * 4, none⟩) hb]; simpa using hcell 0 (by omega)
          have p1 : wr.cell? ⟨b, off + i * 4 + 1, none⟩ = some (.int .i64 n0) := by rw [HBW.out.cell (p := ⟨b, off + i * 4 + 1, none⟩) hb]; simpa using hcell 1 (by omega)
          have p2 : wr.cell? ⟨b, off + i * 4 + 2, none⟩ = some (.string s0) := by rw [HBW.out.cell (p := ⟨b, off + i * 4 + 2, none⟩) hb]; simpa using hcell 2 (by omega)
          have p3 : wr.cell? ⟨b, off + i * 4 + 3, none⟩ = some (.slice a0 len0 cap0) := by rw [HBW.out.cell (p := ⟨b, off + i * 4 + 3, none⟩) hb]; simpa using hcell 3 (by omega)
          have HXX : Hid (l[i] = x) := by rw [List.getElem?_eq_getElem hlt] at hx; exact Option.some.inj hx
          have HEX : Hid (ExA B wr m [.int .i64 k0, .int .i64 n0, .string s0, .slice a0 len0 cap0] x) := hex.below HBW.out
          clear hcell hx hex hcl hi
          go_wp2_with fail
          refine (HX.out B cb when x [.int .i64 k0, .int .i64 n0, .string s0, .slice a0 len0 cap0] (d + 1) s9 _ ci HEX.out HCX.out hB (by omega) (by omega)).mono ?_
          rintro e w9 ⟨rfl, c9, hf9, hc9⟩
          have HN9 : Hid (Fr cb w c w9 c9 ∧ (RowAt w9 w.heap.size #[.int .i64 k, .int .i64 n, .string s, .slice (some ⟨b, off, none⟩) l.length cap] ∧ Not2 c9 w.heap.size) ∧ CenA cb when w9 c9 0 (bindR R4 (runL (fun x => ckE m x (d + 1)) (l.take (i + 1))))) := by
            refine ⟨HR.out.1.trans hf9, ⟨hf9.box HR.out.2.1.1 g1 HR.out.2.1.2, hf9.new _ HR.out.2.1.1.lt HR.out.2.1.2⟩, ?_⟩
            obtain ⟨st2, h1, h2⟩ := HR4.out
            rw [h1]
            show CenA cb when w9 c9 0 (runL (fun x => ckE m x (d + 1)) (l.take (i + 1)) st2)
            rw [List.take_succ_eq_append_getElem hlt, runL_snoc h2, HXX.out]
            exact hc9
          clear hf9 hc9 p0 p1 p2 p3 e4 q3
          go_wp2_with fail
          go_roundw
          case rel => exact ⟨i + 1, c9, by omega, by go_num, HN9⟩
          case measure => simp [intOf]; omega
        · have i1 : ¬ (i : Int) < (l.length : Int) := by omega
          have HE : Hid (ckE (m + 1) (.mk k n s l) d st = .ok s9) := by
            obtain ⟨st2, h1, h2⟩ := HR4.out
            rw [HN.out, h1]
            exact runL_all hlt h2
          go_wp2_with fail
          go_end0
          rw [HE.out]
          exact ⟨rfl, ci, HR.out.1, HCX.out⟩
theorem exprR_all : ∀ m, ExprR m
  | 0 => fun _ _ _ _ _ _ _ _ _ h => h.elim
  | m + 1 => exprR_of (exprR_all m)
end Go.Proofs.YtjconmohifaliaaDoor
