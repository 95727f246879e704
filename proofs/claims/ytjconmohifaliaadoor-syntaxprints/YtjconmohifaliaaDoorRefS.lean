/-
  The census' stmt and block, whatever the height.
-/
import Derived.Test.YtjconmohifaliaaDoorRefE
namespace Go.Proofs.YtjconmohifaliaaDoor
open Go.ChangeShapes Go.WideShapes Go.ChangeAt Go.RowKit Go.Joins
set_option linter.unusedVariables false

def StmtR (m : Nat) : Prop := ∀ (B cb : Nat) (when : Int) (x : Sm) (cs : List Value) (d : Int) (st : St) (w : World) (c : Value × Value), SmA B w m cs x → CenA cb when w c 0 (.ok st) → B ≤ cb → 1 ≤ d → d ≤ 21 →
  Calls Tryd.prog 42 #[.pointer (some ⟨cb, 0, none⟩), .agg cs.toArray, .int .i64 d] w (OutC cb when 0 w c (ckS when m x d st))

def BlockR (m : Nat) : Prop := ∀ (B cb : Nat) (when : Int) (l : List Sm) (v : Value) (d : Int) (R : Res) (w : World) (c : Value × Value), Sl w B 6 v l.length (fun i c => ∃ x, l[i]? = some x ∧ SmA B w m c x) → CenA cb when w c 0 R → B ≤ cb → 1 ≤ d → d ≤ 21 →
  Calls Tryd.prog 22 #[.pointer (some ⟨cb, 0, none⟩), v, .int .i64 d] w (OutC cb when 0 w c (bindR R (runL (fun x => ckS when m x d) l)))

/-- How many expressions a statement must have. -/
def nOf (k : Int) (len : Nat) : Int :=
  if k = 1 ∨ k = 5 ∨ k = 6 ∨ k = 9 then 1
  else if k = 2 ∨ k = 3 then 2
  else if k = 4 then (if len = 0 then 1 else len) else 0
theorem nOf_is (k : Int) (len : Nat) : ((len : Int) == nOf k len) = exprsN k len := by
  unfold nOf exprsN
  rw [Bool.eq_iff_iff]
  split
  · simp; omega
  · split
    · simp; omega
    · split
      · split <;> simp <;> omega
      · simp

def fE (k : Int) (s t : ByteArray) (st : St) : Res := if k = 7 then bindR (nameR s 1 st) (nameR t 2) else textsS1 k s st
def fF (when k : Int) (t : ByteArray) (st : St) : Res :=
  if k = 10 then askR (askR (.ok st) (when == 0) 7) (decide (t.size ≤ 200)) 1
  else if k = 7 then .ok st else askR (.ok st) (decide (t.size = 0)) 4
def fG (when k : Int) (st : St) : Res := if k = 8 then askR (.ok st) (when == 1) 7 else .ok st

theorem textsS_chain (when k : Int) (s t : ByteArray) (st : St) : bindR (fE k s t st) (fF when k t) = textsS when k s t st := by
  unfold fE textsS
  by_cases h7 : k = 7
  · subst h7
    simp only [textsS1, if_true]
    rw [if_pos (by simp)]
    cases nameR s 1 st with
    | error e => rfl
    | ok st1 =>
      simp only [bindR, textsS2, if_true]
      rw [if_neg (by simp)]
      cases nameR t 2 st1 with
      | error e => rfl
      | ok st2 => simp [fF]
  · rw [if_neg h7]
    cases textsS1 k s st with
    | error e => rfl
    | ok st1 =>
      simp only [bindR, fF]
      by_cases h10 : k = 10
      · subst h10
        by_cases hw : when = 0
        · by_cases ht : t.size ≤ 200
          · have h2 : ¬ 200 < t.size := by omega
            simp [askR, textsS2, hw, ht, h2]
          · have h2 : 200 < t.size := by omega
            simp [askR, textsS2, hw, ht, h2]
        · simp [askR, hw]
      · rw [if_neg h10, if_neg h7, if_neg (by omega)]
        simp only [textsS2]
        rw [if_neg h7, if_neg h10]
        by_cases ht : t.size = 0
        · simp [askR, ht]
        · have h2 : 0 < t.size := by omega
          simp [askR, ht, h2]

/-- What comes behind the kind, ahead of the parts. -/
def preS (when k : Int) (s t : ByteArray) (es bd el : Nat) (st : St) : Res :=
  if partsS k es bd el = false then .error 4
  else match textsS when k s t st with
    | .error r => .error r
    | .ok st2 => if k = 8 ∧ when ≠ 1 then .error 7 else .ok st2

theorem preS_chain (when k : Int) (s t : ByteArray) (es bd el : Nat) (st1 : St) :
    bindR (bindR (bindR (askR (askR (askR (.ok st1) (exprsN k es) 4) (decide (bd = 0 ∨ (5 ≤ k ∧ k ≤ 7))) 4) (decide (el = 0 ∨ k = 5)) 4) (fE k s t)) (fF when k t)) (fG when k) = preS when k s t es bd el st1 := by
  unfold preS partsS
  cases h1 : exprsN k es with
  | false => rfl
  | true =>
    by_cases h2 : bd = 0 ∨ (5 ≤ k ∧ k ≤ 7)
    · by_cases h3 : el = 0 ∨ k = 5
      · rw [decide_eq_true h2, decide_eq_true h3]
        simp only [askR, Bool.and_self, if_true, if_false, Bool.true_eq_false]
        show bindR (bindR (fE k s t st1) (fF when k t)) (fG when k) = _
        rw [textsS_chain]
        cases textsS when k s t st1 with
        | error e => rfl
        | ok st2 =>
          simp only [bindR, fG]
          by_cases h8 : k = 8
          · by_cases hw : when = 1
            · simp [askR, h8, hw]
            · simp [askR, h8, hw]
          · rw [if_neg h8, if_neg (fun h => h8 h.1)]
      · rw [decide_eq_true h2, decide_eq_false h3]; rfl
    · rw [decide_eq_false h2]; rfl

theorem fE_1 (s t : ByteArray) : fE 1 s t = nameR s 1 := by funext z; simp [fE, textsS1]
theorem fE_2 (s t : ByteArray) : fE 2 s t = nameR s 2 := by funext z; simp [fE, textsS1]
theorem fE_9 (s t : ByteArray) : fE 9 s t = nameR s 2 := by funext z; simp [fE, textsS1]
theorem fE_10 (s t : ByteArray) : fE 10 s t = nameR s 2 := by funext z; simp [fE, textsS1]
theorem bind_assoc {R : Res} {f g h : St → Res} (e : ∀ z, f z = bindR (g z) h) : bindR R f = bindR (bindR R g) h := by
  cases R with
  | error x => rfl
  | ok st => exact e st
theorem bind_ask {R : Res} {f : St → Res} {b : Bool} {er : Int} (e : ∀ z, f z = askR (.ok z) b er) : bindR R f = askR R b er := by
  cases R with
  | error x => rfl
  | ok st => exact e st

theorem bind_ask2 {R : Res} {f : St → Res} {b b2 : Bool} {er er2 : Int} (e : ∀ z, f z = askR (askR (.ok z) b er) b2 er2) : bindR R f = askR (askR R b er) b2 er2 := by
  cases R with
  | error x => rfl
  | ok st => exact e st
theorem bind_ok {R : Res} {f : St → Res} (e : ∀ z, f z = .ok z) : bindR R f = R := by
  cases R with
  | error x => rfl
  | ok st => exact e st

set_option maxHeartbeats 32000000 in
set_option maxRecDepth 2000 in
theorem stmtR_of {m : Nat} (hX : ExprR m) (hY : BlockR m) : StmtR (m + 1) := by
  intro B cb when x cs d st w c hx hc hB hd1 hd2
  cases x with
  | mk k s t es bd el =>
  obtain ⟨v1, v2, v3, rfl, wk, ws, wt, hs1, hs2, hs3⟩ := hx
  have HS2 : Hid (Sl w B 6 v2 bd.length (fun i c => ∃ x, bd[i]? = some x ∧ SmA B w m c x)) := hs2
  have HS3 : Hid (Sl w B 6 v3 el.length (fun i c => ∃ x, el[i]? = some x ∧ SmA B w m c x)) := hs3
  obtain ⟨a1, p1, rfl, hl1, hsl⟩ := hs1
  obtain ⟨a2, p2, rfl, hl2, _⟩ := hs2
  obtain ⟨a3, p3, rfl, hl3, _⟩ := hs3
  obtain ⟨xs0, ys0, hcn0, _⟩ := (show CenA cb when w c 0 (.ok st) from hc)
  have HX : Hid (ExprR m) := hX
  have HY : Hid (BlockR m) := hY
  have HSL : Hid (0 < es.length → ∃ b off, a1 = some ⟨b, off, none⟩ ∧ b < B ∧ ∀ i, i < es.length → ∃ cs : List Value, cs.length = 4 ∧ (∀ j, j < 4 → w.cell? ⟨b, off + i * 4 + j, none⟩ = cs[j]?) ∧ ∃ x, es[i]? = some x ∧ ExA B w m cs x) := hsl
  have HCN : Hid (Cn cb w c xs0 ys0 st.nodes when 0) := hcn0
  have H : Hid (CenA cb when w c 0 (.ok st)) := hc
  have g1 : w.heap.size ≠ cb := by have := hcn0.lt; omega
  have HWS : Hid (s.size ≤ maxLen) := ws
  have HWT : Hid (t.size ≤ maxLen) := wt
  have hw : wrap64 (d + 1) = d + 1 := by unfold wrap64; omega
  have hwr : IntKind.i64.wrap (d + 1) = d + 1 := by rw [Go.PlainAid.i64_is]; exact hw
  unfold maxLen at hl1 hl2 hl3
  clear hX hY hc hsl hcn0 ws wt wk
  obtain ⟨o, ho⟩ : ∃ o, o = Obj.cells #[.int .i64 k, .string s, .string t, .slice a1 es.length p1, .slice a2 bd.length p2, .slice a3 el.length p3] 66 := ⟨_, rfl⟩
  have HF0 : Hid (Fr cb w c (w.alloc o) c) := Fr.alloc o
  have HC0 : Hid (CenA cb when (w.alloc o) c 0 (.ok st)) := H.out.alloc o
  have HB0 : Hid (RowAt (w.alloc o) w.heap.size #[.int .i64 k, .string s, .string t, .slice a1 es.length p1, .slice a2 bd.length p2, .slice a3 el.length p3] ∧ Not2 c w.heap.size) := ⟨by rw [ho]; exact RowAt.new w _ _, HCN.out.fresh (Nat.le_refl _)⟩
  have q0 : True := trivial
  have q1 : True := trivial
  have q2 : True := trivial
  have q3 : True := trivial
  have q4 : True := trivial
  have q5 : True := trivial
  go_enter Tryd.func42, Tryd.ntmps42
  go_wp2_with fail
  rw [← ho]
  clear ho
  refine (part_c cb when d _ c st HC0.out).mono ?_
  rintro e w1 ⟨rfl, c1, hf1, hc1⟩
  have HF1 : Hid (Fr cb w c w1 c1) := HF0.out.trans hf1
  have HB1 : Hid (RowAt w1 w.heap.size #[.int .i64 k, .string s, .string t, .slice a1 es.length p1, .slice a2 bd.length p2, .slice a3 el.length p3] ∧ Not2 c1 w.heap.size) := ⟨hf1.box HB0.out.1 g1 HB0.out.2, hf1.new _ HB0.out.1.lt HB0.out.2⟩
  have HC1 : Hid (CenA cb when w1 c1 2 (partR d st)) := hc1
  clear hf1 hc1 q0 q1 q2 q3 q4 q5
  have HB1r : Hid (RowAt w1 w.heap.size #[.int .i64 k, .string s, .string t, .slice a1 es.length p1, .slice a2 bd.length p2, .slice a3 el.length p3]) := HB1.out.1
  have q0 := HB1r.out.cell 0
  have q1 := HB1r.out.cell 1
  have q2 := HB1r.out.cell 2
  have q3 := HB1r.out.cell 3
  have q4 := HB1r.out.cell 4
  have q5 := HB1r.out.cell 5
  simp only [List.getElem?_toArray, List.getElem?_cons_zero, List.getElem?_cons_succ] at q0 q1 q2 q3 q4 q5
  go_wp2_with fail
  refine (in_c k 1 10 _).mono ?_
  rintro e w2 ⟨rfl, he2⟩
  rw [he2]
  clear he2 w2
  go_wp2_with fail
  refine (ask_c cb 2 when 3 _ _ c1 (partR d st) HC1.out (by decide)).mono ?_
  rintro e w3 ⟨rfl, c3, hf3, hc3⟩
  have HF3 : Hid (Fr cb w c w3 c3) := HF1.out.trans hf3
  have HB3 : Hid (RowAt w3 w.heap.size #[.int .i64 k, .string s, .string t, .slice a1 es.length p1, .slice a2 bd.length p2, .slice a3 el.length p3] ∧ Not2 c3 w.heap.size) := ⟨hf3.box HB1.out.1 g1 HB1.out.2, hf3.new _ HB1.out.1.lt HB1.out.2⟩
  have HC3 : Hid (CenA cb when w3 c3 2 (askR (partR d st) (inB 1 k 10) 3)) := hc3
  clear hf3 hc3 q0 q1 q2 q3 q4 q5
  have HB3r : Hid (RowAt w3 w.heap.size #[.int .i64 k, .string s, .string t, .slice a1 es.length p1, .slice a2 bd.length p2, .slice a3 el.length p3]) := HB3.out.1
  have q0 := HB3r.out.cell 0
  have q1 := HB3r.out.cell 1
  have q2 := HB3r.out.cell 2
  have q3 := HB3r.out.cell 3
  have q4 := HB3r.out.cell 4
  have q5 := HB3r.out.cell 5
  simp only [List.getElem?_toArray, List.getElem?_cons_zero, List.getElem?_cons_succ] at q0 q1 q2 q3 q4 q5
  cases hR1 : askR (partR d st) (inB 1 k 10) 3 with
  | error x =>
    have HN : Hid (ckS when (m + 1) (.mk k s t es bd el) d st = .error x) := by
      cases hP : partR d st with
      | error y =>
        rw [hP] at hR1
        simp only [askR, Except.error.injEq] at hR1
        simp only [Hid, ckS, hP, hR1]
      | ok st1 =>
        rw [hP] at hR1
        by_cases hk : 1 ≤ k ∧ k ≤ 10
        · rw [inB_t hk.1 hk.2] at hR1; simp [askR] at hR1
        · rw [inB_f (by omega)] at hR1
          simp [askR] at hR1
          simp only [Hid, ckS, hP]
          rw [if_pos (by omega), ← hR1]
    have HCX : Hid (CenA cb when w3 c3 2 (.error x)) := by have := HC3.out; rw [hR1] at this; exact this
    obtain ⟨hx0, xs3, ys3, n3, hcn3⟩ := HCX.out
    have e4 := hcn3.c4
    have bx : (x == 0) = false := by simpa using hx0
    clear hcn3 hx0 hR1
    go_wp2_with fail
    refine bodyPost_ret (results_none rfl _ _ _) rfl ?_
    rw [HN.out]
    exact ⟨rfl, c3, HF3.out, HCX.out.less (by omega)⟩
  | ok st1 =>
    have HP : Hid (partR d st = .ok st1 ∧ 1 ≤ k ∧ k ≤ 10) := by
      cases hP : partR d st with
      | error y => rw [hP] at hR1; simp [askR] at hR1
      | ok st0 =>
        rw [hP] at hR1
        by_cases hk : 1 ≤ k ∧ k ≤ 10
        · rw [inB_t hk.1 hk.2] at hR1
          simp [askR] at hR1
          rw [hR1]
          exact ⟨rfl, hk⟩
        · rw [inB_f (by omega)] at hR1; simp [askR] at hR1
    have HCX : Hid (CenA cb when w3 c3 2 (.ok st1)) := by have := HC3.out; rw [hR1] at this; exact this
    obtain ⟨xs3, ys3, hcn3, _⟩ := (show CenA cb when w3 c3 2 (.ok st1) from HCX.out)
    have e4 := hcn3.c4
    have HN0 : Hid (ckS when (m + 1) (.mk k s t es bd el) d st = bindR (bindR (bindR (preS when k s t es.length bd.length el.length st1) (runL (fun x => ckE m x (d + 1)) es)) (runL (fun x => ckS when m x (d + 1)) bd)) (runL (fun x => ckS when m x (d + 1)) el)) := by
      simp only [Hid, ckS, HP.out.1]
      rw [if_neg (by have := HP.out.2; omega)]
      unfold preS
      by_cases hp : partsS k es.length bd.length el.length = false
      · rw [if_pos hp, if_pos hp]; rfl
      · rw [if_neg hp, if_neg hp]
        cases textsS when k s t st1 with
        | error y => rfl
        | ok st2 =>
          by_cases hn : k = 8 ∧ when ≠ 1
          · simp only [if_pos hn]; rfl
          · simp only [if_neg hn]
            simp only [bindR]
            cases runL (fun x => ckE m x (d + 1)) es st2 with
            | error y => rfl
            | ok st3 =>
              dsimp only
              cases runL (fun x => ckS when m x (d + 1)) bd st3 <;> rfl
    have hd3 : d ≤ 20 := by
      have := HP.out.1
      unfold partR at this
      split at this
      · cases this
      · omega
    clear hcn3 hR1 HC3 HF0 HC0 HB0 HF1 HC1 HB1 HB1r
    go_upto_block 0 with fail
    go_cut [6] (fun v wx => v = .int .i64 (nOf k es.length) ∧ wx = w3)
    case first =>
      as_aux_lemma =>
        by_cases e1 : k = 1
        · subst e1
          go_wp2_with fail
          go_meet
          exact ⟨rfl, rfl⟩
        by_cases e5 : k = 5
        · subst e5
          go_wp2_with fail
          go_meet
          exact ⟨rfl, rfl⟩
        by_cases e6 : k = 6
        · subst e6
          go_wp2_with fail
          go_meet
          exact ⟨rfl, rfl⟩
        by_cases e9 : k = 9
        · subst e9
          go_wp2_with fail
          go_meet
          exact ⟨rfl, rfl⟩
        by_cases e2 : k = 2
        · subst e2
          go_wp2_with fail
          go_meet
          exact ⟨rfl, rfl⟩
        by_cases e3 : k = 3
        · subst e3
          go_wp2_with fail
          go_meet
          exact ⟨rfl, rfl⟩
        by_cases e4' : k = 4
        · subst e4'
          by_cases hz : (es.length : Int) = 0
          · have bz : ((es.length : Int) == 0) = true := by simpa using hz
            have HV : Hid (nOf 4 es.length = 1) := by simp only [Hid, nOf]; rw [if_neg (by omega), if_neg (by omega), if_pos trivial, if_pos (by omega)]
            clear hz
            go_wp2_with fail
            go_meet
            exact ⟨by rw [HV.out], rfl⟩
          · have bz : ((es.length : Int) == 0) = false := by simpa using hz
            have HV : Hid (nOf 4 es.length = es.length) := by simp only [Hid, nOf]; rw [if_neg (by omega), if_neg (by omega), if_pos trivial, if_neg (by omega)]
            clear hz
            go_wp2_with fail
            go_meet
            exact ⟨by rw [HV.out], rfl⟩
        have f1 : (k == 1) = false := by simpa using e1
        have f5 : (k == 5) = false := by simpa using e5
        have f6 : (k == 6) = false := by simpa using e6
        have f9 : (k == 9) = false := by simpa using e9
        have f2 : (k == 2) = false := by simpa using e2
        have f3 : (k == 3) = false := by simpa using e3
        have f4 : (k == 4) = false := by simpa using e4'
        have HV : Hid (nOf k es.length = 0) := by simp only [Hid, nOf]; rw [if_neg (by omega), if_neg (by omega), if_neg e4']
        clear e1 e5 e6 e9 e2 e3 e4'
        go_wp2_with fail
        go_meet
        exact ⟨by rw [HV.out], rfl⟩
    as_aux_lemma =>
      obtain ⟨rfl, hwc⟩ := hcut
      rw [hwc]
      clear hwc
      go_wp2_with fail
      refine (ask_c cb 2 when 4 ((es.length : Int) == nOf k es.length) _ c3 (.ok st1) HCX.out (by decide)).mono ?_
      rintro e w4 ⟨rfl, c4, hf4, hc4⟩
      have HF4 : Hid (Fr cb w c w4 c4) := HF3.out.trans hf4
      have HB4 : Hid (RowAt w4 w.heap.size #[.int .i64 k, .string s, .string t, .slice a1 es.length p1, .slice a2 bd.length p2, .slice a3 el.length p3] ∧ Not2 c4 w.heap.size) := ⟨hf4.box HB3.out.1 g1 HB3.out.2, hf4.new _ HB3.out.1.lt HB3.out.2⟩
      have HC4 : Hid (CenA cb when w4 c4 2 (askR (.ok st1) ((es.length : Int) == nOf k es.length) 4)) := hc4
      clear hf4 hc4 q0 q1 q2 q3 q4 q5
      have HB4r : Hid (RowAt w4 w.heap.size #[.int .i64 k, .string s, .string t, .slice a1 es.length p1, .slice a2 bd.length p2, .slice a3 el.length p3]) := HB4.out.1
      have q0 := HB4r.out.cell 0
      have q1 := HB4r.out.cell 1
      have q2 := HB4r.out.cell 2
      have q3 := HB4r.out.cell 3
      have q4 := HB4r.out.cell 4
      have q5 := HB4r.out.cell 5
      simp only [List.getElem?_toArray, List.getElem?_cons_zero, List.getElem?_cons_succ] at q0 q1 q2 q3 q4 q5
      have HC4' : Hid (CenA cb when w4 c4 2 (askR (.ok st1) (exprsN k es.length) 4)) := by have := HC4.out; rw [nOf_is] at this; exact this
      clear HC4 e4 HCX HF3 HB3 HB3r
      go_upto_region 19 with fail
      go_cut [] (fun wx => ∃ cx : Value × Value, Hid (Fr cb w c wx cx ∧ (RowAt wx w.heap.size #[.int .i64 k, .string s, .string t, .slice a1 es.length p1, .slice a2 bd.length p2, .slice a3 el.length p3] ∧ Not2 cx w.heap.size) ∧ CenA cb when wx cx 2 (askR (askR (.ok st1) (exprsN k es.length) 4) (decide (bd.length = 0 ∨ (5 ≤ k ∧ k ≤ 7))) 4)))
      case first =>
        as_aux_lemma =>
          by_cases h2 : (bd.length : Int) = 0
          · have b2 : ((bd.length : Int) == 0) = true := by simpa using h2
            have HD : Hid (decide (bd.length = 0 ∨ (5 ≤ k ∧ k ≤ 7)) = true) := decide_eq_true (.inl (by omega))
            clear h2
            go_wp2_with fail
            refine (ask_c cb 2 when 4 true _ c4 (askR (.ok st1) (exprsN k es.length) 4) HC4'.out (by decide)).mono ?_
            rintro e w5 ⟨rfl, c5, hf5, hc5⟩
            have HF5 : Hid (Fr cb w c w5 c5) := HF4.out.trans hf5
            have HB5 : Hid (RowAt w5 w.heap.size #[.int .i64 k, .string s, .string t, .slice a1 es.length p1, .slice a2 bd.length p2, .slice a3 el.length p3] ∧ Not2 c5 w.heap.size) := ⟨hf5.box HB4.out.1 g1 HB4.out.2, hf5.new _ HB4.out.1.lt HB4.out.2⟩
            have HC5 : Hid (CenA cb when w5 c5 2 (askR (askR (.ok st1) (exprsN k es.length) 4) true 4)) := hc5
            clear hf5 hc5 q0 q1 q2 q3 q4 q5
            have HB5r : Hid (RowAt w5 w.heap.size #[.int .i64 k, .string s, .string t, .slice a1 es.length p1, .slice a2 bd.length p2, .slice a3 el.length p3]) := HB5.out.1
            have q0 := HB5r.out.cell 0
            have q1 := HB5r.out.cell 1
            have q2 := HB5r.out.cell 2
            have q3 := HB5r.out.cell 3
            have q4 := HB5r.out.cell 4
            have q5 := HB5r.out.cell 5
            simp only [List.getElem?_toArray, List.getElem?_cons_zero, List.getElem?_cons_succ] at q0 q1 q2 q3 q4 q5
            go_wp2_with fail
            go_meet
            exact ⟨c5, HF5.out, HB5.out, by rw [HD.out]; exact HC5.out⟩
          · have b2 : ((bd.length : Int) == 0) = false := by simpa using h2
            have HD : Hid (decide (bd.length = 0 ∨ (5 ≤ k ∧ k ≤ 7)) = inB 5 k 7) := by
              unfold Hid inB
              have : ¬ bd.length = 0 := by omega
              simp [this]
            clear h2
            go_wp2_with fail
            refine (in_c k 5 7 _).mono ?_
            rintro e w20 ⟨rfl, he20⟩
            rw [he20]
            clear he20 w20
            go_wp2_with fail
            refine (ask_c cb 2 when 4 (inB 5 k 7) _ c4 (askR (.ok st1) (exprsN k es.length) 4) HC4'.out (by decide)).mono ?_
            rintro e w5 ⟨rfl, c5, hf5, hc5⟩
            have HF5 : Hid (Fr cb w c w5 c5) := HF4.out.trans hf5
            have HB5 : Hid (RowAt w5 w.heap.size #[.int .i64 k, .string s, .string t, .slice a1 es.length p1, .slice a2 bd.length p2, .slice a3 el.length p3] ∧ Not2 c5 w.heap.size) := ⟨hf5.box HB4.out.1 g1 HB4.out.2, hf5.new _ HB4.out.1.lt HB4.out.2⟩
            have HC5 : Hid (CenA cb when w5 c5 2 (askR (askR (.ok st1) (exprsN k es.length) 4) (inB 5 k 7) 4)) := hc5
            clear hf5 hc5 q0 q1 q2 q3 q4 q5
            have HB5r : Hid (RowAt w5 w.heap.size #[.int .i64 k, .string s, .string t, .slice a1 es.length p1, .slice a2 bd.length p2, .slice a3 el.length p3]) := HB5.out.1
            have q0 := HB5r.out.cell 0
            have q1 := HB5r.out.cell 1
            have q2 := HB5r.out.cell 2
            have q3 := HB5r.out.cell 3
            have q4 := HB5r.out.cell 4
            have q5 := HB5r.out.cell 5
            simp only [List.getElem?_toArray, List.getElem?_cons_zero, List.getElem?_cons_succ] at q0 q1 q2 q3 q4 q5
            go_wp2_with fail
            go_meet
            exact ⟨c5, HF5.out, HB5.out, by rw [HD.out]; exact HC5.out⟩
      as_aux_lemma =>
        have HC4 := HC4'
        clear HC4'
        obtain ⟨c6, HX6⟩ := hcut
        have HF6 : Hid (Fr cb w c wc c6) := HX6.out.1
        have HB6 : Hid (RowAt wc w.heap.size #[.int .i64 k, .string s, .string t, .slice a1 es.length p1, .slice a2 bd.length p2, .slice a3 el.length p3] ∧ Not2 c6 w.heap.size) := HX6.out.2.1
        have HC6 : Hid (CenA cb when wc c6 2 (askR (askR (.ok st1) (exprsN k es.length) 4) (decide (bd.length = 0 ∨ (5 ≤ k ∧ k ≤ 7))) 4)) := HX6.out.2.2
        clear HX6 HF4 HB4 HC4 HB4r q0 q1 q2 q3 q4 q5
        generalize wc = w6 at HF6 HB6 HC6 ⊢
        have HB6r : Hid (RowAt w6 w.heap.size #[.int .i64 k, .string s, .string t, .slice a1 es.length p1, .slice a2 bd.length p2, .slice a3 el.length p3]) := HB6.out.1
        have q0 := HB6r.out.cell 0
        have q1 := HB6r.out.cell 1
        have q2 := HB6r.out.cell 2
        have q3 := HB6r.out.cell 3
        have q4 := HB6r.out.cell 4
        have q5 := HB6r.out.cell 5
        simp only [List.getElem?_toArray, List.getElem?_cons_zero, List.getElem?_cons_succ] at q0 q1 q2 q3 q4 q5
        go_upto_region 20 with fail
        go_cut [] (fun wx => ∃ cx : Value × Value, Hid (Fr cb w c wx cx ∧ (RowAt wx w.heap.size #[.int .i64 k, .string s, .string t, .slice a1 es.length p1, .slice a2 bd.length p2, .slice a3 el.length p3] ∧ Not2 cx w.heap.size) ∧ CenA cb when wx cx 2 (askR (askR (askR (.ok st1) (exprsN k es.length) 4) (decide (bd.length = 0 ∨ (5 ≤ k ∧ k ≤ 7))) 4) (decide (el.length = 0 ∨ k = 5)) 4)))
        case first =>
          as_aux_lemma =>
            by_cases h3 : (el.length : Int) = 0
            · have b3 : ((el.length : Int) == 0) = true := by simpa using h3
              have HD : Hid (decide (el.length = 0 ∨ k = 5) = true) := decide_eq_true (.inl (by omega))
              clear h3
              go_wp2_with fail
              refine (ask_c cb 2 when 4 true _ c6 (askR (askR (.ok st1) (exprsN k es.length) 4) (decide (bd.length = 0 ∨ (5 ≤ k ∧ k ≤ 7))) 4) HC6.out (by decide)).mono ?_
              rintro e w7 ⟨rfl, c7, hf7, hc7⟩
              have HF7 : Hid (Fr cb w c w7 c7) := HF6.out.trans hf7
              have HB7 : Hid (RowAt w7 w.heap.size #[.int .i64 k, .string s, .string t, .slice a1 es.length p1, .slice a2 bd.length p2, .slice a3 el.length p3] ∧ Not2 c7 w.heap.size) := ⟨hf7.box HB6.out.1 g1 HB6.out.2, hf7.new _ HB6.out.1.lt HB6.out.2⟩
              have HC7 : Hid (CenA cb when w7 c7 2 (askR (askR (askR (.ok st1) (exprsN k es.length) 4) (decide (bd.length = 0 ∨ (5 ≤ k ∧ k ≤ 7))) 4) true 4)) := hc7
              clear hf7 hc7 q0 q1 q2 q3 q4 q5
              have HB7r : Hid (RowAt w7 w.heap.size #[.int .i64 k, .string s, .string t, .slice a1 es.length p1, .slice a2 bd.length p2, .slice a3 el.length p3]) := HB7.out.1
              have q0 := HB7r.out.cell 0
              have q1 := HB7r.out.cell 1
              have q2 := HB7r.out.cell 2
              have q3 := HB7r.out.cell 3
              have q4 := HB7r.out.cell 4
              have q5 := HB7r.out.cell 5
              simp only [List.getElem?_toArray, List.getElem?_cons_zero, List.getElem?_cons_succ] at q0 q1 q2 q3 q4 q5
              go_wp2_with fail
              go_meet
              exact ⟨c7, HF7.out, HB7.out, by rw [HD.out]; exact HC7.out⟩
            · have b3 : ((el.length : Int) == 0) = false := by simpa using h3
              have HD : Hid (decide (el.length = 0 ∨ k = 5) = (k == 5)) := by
                unfold Hid
                have : ¬ el.length = 0 := by omega
                rw [Bool.eq_iff_iff]
                simp [this]
              clear h3
              go_wp2_with fail
              refine (ask_c cb 2 when 4 (k == 5) _ c6 (askR (askR (.ok st1) (exprsN k es.length) 4) (decide (bd.length = 0 ∨ (5 ≤ k ∧ k ≤ 7))) 4) HC6.out (by decide)).mono ?_
              rintro e w7 ⟨rfl, c7, hf7, hc7⟩
              have HF7 : Hid (Fr cb w c w7 c7) := HF6.out.trans hf7
              have HB7 : Hid (RowAt w7 w.heap.size #[.int .i64 k, .string s, .string t, .slice a1 es.length p1, .slice a2 bd.length p2, .slice a3 el.length p3] ∧ Not2 c7 w.heap.size) := ⟨hf7.box HB6.out.1 g1 HB6.out.2, hf7.new _ HB6.out.1.lt HB6.out.2⟩
              have HC7 : Hid (CenA cb when w7 c7 2 (askR (askR (askR (.ok st1) (exprsN k es.length) 4) (decide (bd.length = 0 ∨ (5 ≤ k ∧ k ≤ 7))) 4) (k == 5) 4)) := hc7
              clear hf7 hc7 q0 q1 q2 q3 q4 q5
              have HB7r : Hid (RowAt w7 w.heap.size #[.int .i64 k, .string s, .string t, .slice a1 es.length p1, .slice a2 bd.length p2, .slice a3 el.length p3]) := HB7.out.1
              have q0 := HB7r.out.cell 0
              have q1 := HB7r.out.cell 1
              have q2 := HB7r.out.cell 2
              have q3 := HB7r.out.cell 3
              have q4 := HB7r.out.cell 4
              have q5 := HB7r.out.cell 5
              simp only [List.getElem?_toArray, List.getElem?_cons_zero, List.getElem?_cons_succ] at q0 q1 q2 q3 q4 q5
              go_wp2_with fail
              go_meet
              exact ⟨c7, HF7.out, HB7.out, by rw [HD.out]; exact HC7.out⟩
        as_aux_lemma =>
          obtain ⟨c8, HX8⟩ := hcut
          have HF8 : Hid (Fr cb w c wc c8) := HX8.out.1
          have HB8 : Hid (RowAt wc w.heap.size #[.int .i64 k, .string s, .string t, .slice a1 es.length p1, .slice a2 bd.length p2, .slice a3 el.length p3] ∧ Not2 c8 w.heap.size) := HX8.out.2.1
          have HC8 : Hid (CenA cb when wc c8 2 (askR (askR (askR (.ok st1) (exprsN k es.length) 4) (decide (bd.length = 0 ∨ (5 ≤ k ∧ k ≤ 7))) 4) (decide (el.length = 0 ∨ k = 5)) 4)) := HX8.out.2.2
          clear HX8 HF6 HB6 HC6 HB6r q0 q1 q2 q3 q4 q5
          generalize wc = w8 at HF8 HB8 HC8 ⊢
          have HB8r : Hid (RowAt w8 w.heap.size #[.int .i64 k, .string s, .string t, .slice a1 es.length p1, .slice a2 bd.length p2, .slice a3 el.length p3]) := HB8.out.1
          have q0 := HB8r.out.cell 0
          have q1 := HB8r.out.cell 1
          have q2 := HB8r.out.cell 2
          have q3 := HB8r.out.cell 3
          have q4 := HB8r.out.cell 4
          have q5 := HB8r.out.cell 5
          simp only [List.getElem?_toArray, List.getElem?_cons_zero, List.getElem?_cons_succ] at q0 q1 q2 q3 q4 q5
          go_upto_block 1 with fail
          go_cut [] (fun wx => ∃ cx : Value × Value, Hid (Fr cb w c wx cx ∧ (RowAt wx w.heap.size #[.int .i64 k, .string s, .string t, .slice a1 es.length p1, .slice a2 bd.length p2, .slice a3 el.length p3] ∧ Not2 cx w.heap.size) ∧ CenA cb when wx cx 0 (bindR (askR (askR (askR (.ok st1) (exprsN k es.length) 4) (decide (bd.length = 0 ∨ (5 ≤ k ∧ k ≤ 7))) 4) (decide (el.length = 0 ∨ k = 5)) 4) (fE k s t))))
          case first =>
            as_aux_lemma =>
              by_cases e1 : k = 1
              · subst e1
                go_wp2_with fail
                refine (variable_c cb 1 when s _ c8 _ HC8.out HWS.out).mono ?_
                rintro e w9 ⟨rfl, c9, hf9, hc9⟩
                have HF9 : Hid (Fr cb w c w9 c9) := HF8.out.trans hf9
                have HB9 : Hid (RowAt w9 w.heap.size #[.int .i64 1, .string s, .string t, .slice a1 es.length p1, .slice a2 bd.length p2, .slice a3 el.length p3] ∧ Not2 c9 w.heap.size) := ⟨hf9.box HB8.out.1 g1 HB8.out.2, hf9.new _ HB8.out.1.lt HB8.out.2⟩
                have HC9 : Hid (CenA cb when w9 c9 1 (bindR (askR (askR (askR (.ok st1) (exprsN 1 es.length) 4) (decide (bd.length = 0 ∨ ((5 : Int) ≤ 1 ∧ (1 : Int) ≤ 7))) 4) (decide (el.length = 0 ∨ (1 : Int) = 5)) 4) (nameR s 1))) := hc9
                clear hf9 hc9 q0 q1 q2 q3 q4 q5
                have HB9r : Hid (RowAt w9 w.heap.size #[.int .i64 1, .string s, .string t, .slice a1 es.length p1, .slice a2 bd.length p2, .slice a3 el.length p3]) := HB9.out.1
                have q0 := HB9r.out.cell 0
                have q1 := HB9r.out.cell 1
                have q2 := HB9r.out.cell 2
                have q3 := HB9r.out.cell 3
                have q4 := HB9r.out.cell 4
                have q5 := HB9r.out.cell 5
                simp only [List.getElem?_toArray, List.getElem?_cons_zero, List.getElem?_cons_succ] at q0 q1 q2 q3 q4 q5
                go_wp2_with fail
                go_meet
                exact ⟨c9, HF9.out, HB9.out, by rw [fE_1 s t]; exact HC9.out.less (by omega)⟩
              by_cases e2 : k = 2
              · subst e2
                go_wp2_with fail
                refine (list_c cb 1 when s _ c8 _ HC8.out HWS.out).mono ?_
                rintro e w9 ⟨rfl, c9, hf9, hc9⟩
                have HF9 : Hid (Fr cb w c w9 c9) := HF8.out.trans hf9
                have HB9 : Hid (RowAt w9 w.heap.size #[.int .i64 2, .string s, .string t, .slice a1 es.length p1, .slice a2 bd.length p2, .slice a3 el.length p3] ∧ Not2 c9 w.heap.size) := ⟨hf9.box HB8.out.1 g1 HB8.out.2, hf9.new _ HB8.out.1.lt HB8.out.2⟩
                have HC9 : Hid (CenA cb when w9 c9 1 (bindR (askR (askR (askR (.ok st1) (exprsN 2 es.length) 4) (decide (bd.length = 0 ∨ ((5 : Int) ≤ 2 ∧ (2 : Int) ≤ 7))) 4) (decide (el.length = 0 ∨ (2 : Int) = 5)) 4) (nameR s 2))) := hc9
                clear hf9 hc9 q0 q1 q2 q3 q4 q5
                have HB9r : Hid (RowAt w9 w.heap.size #[.int .i64 2, .string s, .string t, .slice a1 es.length p1, .slice a2 bd.length p2, .slice a3 el.length p3]) := HB9.out.1
                have q0 := HB9r.out.cell 0
                have q1 := HB9r.out.cell 1
                have q2 := HB9r.out.cell 2
                have q3 := HB9r.out.cell 3
                have q4 := HB9r.out.cell 4
                have q5 := HB9r.out.cell 5
                simp only [List.getElem?_toArray, List.getElem?_cons_zero, List.getElem?_cons_succ] at q0 q1 q2 q3 q4 q5
                go_wp2_with fail
                go_meet
                exact ⟨c9, HF9.out, HB9.out, by rw [fE_2 s t]; exact HC9.out.less (by omega)⟩
              by_cases e9 : k = 9
              · subst e9
                go_wp2_with fail
                refine (list_c cb 1 when s _ c8 _ HC8.out HWS.out).mono ?_
                rintro e w9 ⟨rfl, c9, hf9, hc9⟩
                have HF9 : Hid (Fr cb w c w9 c9) := HF8.out.trans hf9
                have HB9 : Hid (RowAt w9 w.heap.size #[.int .i64 9, .string s, .string t, .slice a1 es.length p1, .slice a2 bd.length p2, .slice a3 el.length p3] ∧ Not2 c9 w.heap.size) := ⟨hf9.box HB8.out.1 g1 HB8.out.2, hf9.new _ HB8.out.1.lt HB8.out.2⟩
                have HC9 : Hid (CenA cb when w9 c9 1 (bindR (askR (askR (askR (.ok st1) (exprsN 9 es.length) 4) (decide (bd.length = 0 ∨ ((5 : Int) ≤ 9 ∧ (9 : Int) ≤ 7))) 4) (decide (el.length = 0 ∨ (9 : Int) = 5)) 4) (nameR s 2))) := hc9
                clear hf9 hc9 q0 q1 q2 q3 q4 q5
                have HB9r : Hid (RowAt w9 w.heap.size #[.int .i64 9, .string s, .string t, .slice a1 es.length p1, .slice a2 bd.length p2, .slice a3 el.length p3]) := HB9.out.1
                have q0 := HB9r.out.cell 0
                have q1 := HB9r.out.cell 1
                have q2 := HB9r.out.cell 2
                have q3 := HB9r.out.cell 3
                have q4 := HB9r.out.cell 4
                have q5 := HB9r.out.cell 5
                simp only [List.getElem?_toArray, List.getElem?_cons_zero, List.getElem?_cons_succ] at q0 q1 q2 q3 q4 q5
                go_wp2_with fail
                go_meet
                exact ⟨c9, HF9.out, HB9.out, by rw [fE_9 s t]; exact HC9.out.less (by omega)⟩
              by_cases e10 : k = 10
              · subst e10
                go_wp2_with fail
                refine (list_c cb 1 when s _ c8 _ HC8.out HWS.out).mono ?_
                rintro e w9 ⟨rfl, c9, hf9, hc9⟩
                have HF9 : Hid (Fr cb w c w9 c9) := HF8.out.trans hf9
                have HB9 : Hid (RowAt w9 w.heap.size #[.int .i64 10, .string s, .string t, .slice a1 es.length p1, .slice a2 bd.length p2, .slice a3 el.length p3] ∧ Not2 c9 w.heap.size) := ⟨hf9.box HB8.out.1 g1 HB8.out.2, hf9.new _ HB8.out.1.lt HB8.out.2⟩
                have HC9 : Hid (CenA cb when w9 c9 1 (bindR (askR (askR (askR (.ok st1) (exprsN 10 es.length) 4) (decide (bd.length = 0 ∨ ((5 : Int) ≤ 10 ∧ (10 : Int) ≤ 7))) 4) (decide (el.length = 0 ∨ (10 : Int) = 5)) 4) (nameR s 2))) := hc9
                clear hf9 hc9 q0 q1 q2 q3 q4 q5
                have HB9r : Hid (RowAt w9 w.heap.size #[.int .i64 10, .string s, .string t, .slice a1 es.length p1, .slice a2 bd.length p2, .slice a3 el.length p3]) := HB9.out.1
                have q0 := HB9r.out.cell 0
                have q1 := HB9r.out.cell 1
                have q2 := HB9r.out.cell 2
                have q3 := HB9r.out.cell 3
                have q4 := HB9r.out.cell 4
                have q5 := HB9r.out.cell 5
                simp only [List.getElem?_toArray, List.getElem?_cons_zero, List.getElem?_cons_succ] at q0 q1 q2 q3 q4 q5
                go_wp2_with fail
                go_meet
                exact ⟨c9, HF9.out, HB9.out, by rw [fE_10 s t]; exact HC9.out.less (by omega)⟩
              by_cases e7 : k = 7
              · subst e7
                go_wp2_with fail
                refine (variable_c cb 1 when s _ c8 _ HC8.out HWS.out).mono ?_
                rintro e w9 ⟨rfl, c9, hf9, hc9⟩
                have HF9 : Hid (Fr cb w c w9 c9) := HF8.out.trans hf9
                have HB9 : Hid (RowAt w9 w.heap.size #[.int .i64 7, .string s, .string t, .slice a1 es.length p1, .slice a2 bd.length p2, .slice a3 el.length p3] ∧ Not2 c9 w.heap.size) := ⟨hf9.box HB8.out.1 g1 HB8.out.2, hf9.new _ HB8.out.1.lt HB8.out.2⟩
                have HC9 : Hid (CenA cb when w9 c9 1 (bindR (askR (askR (askR (.ok st1) (exprsN 7 es.length) 4) (decide (bd.length = 0 ∨ ((5 : Int) ≤ 7 ∧ (7 : Int) ≤ 7))) 4) (decide (el.length = 0 ∨ (7 : Int) = 5)) 4) (nameR s 1))) := hc9
                clear hf9 hc9 q0 q1 q2 q3 q4 q5
                have HB9r : Hid (RowAt w9 w.heap.size #[.int .i64 7, .string s, .string t, .slice a1 es.length p1, .slice a2 bd.length p2, .slice a3 el.length p3]) := HB9.out.1
                have q0 := HB9r.out.cell 0
                have q1 := HB9r.out.cell 1
                have q2 := HB9r.out.cell 2
                have q3 := HB9r.out.cell 3
                have q4 := HB9r.out.cell 4
                have q5 := HB9r.out.cell 5
                simp only [List.getElem?_toArray, List.getElem?_cons_zero, List.getElem?_cons_succ] at q0 q1 q2 q3 q4 q5
                go_wp2_with fail
                refine (list_c cb 0 when t _ c9 _ HC9.out HWT.out).mono ?_
                rintro e w10 ⟨rfl, c10, hf10, hc10⟩
                have HF10 : Hid (Fr cb w c w10 c10) := HF9.out.trans hf10
                have HB10 : Hid (RowAt w10 w.heap.size #[.int .i64 7, .string s, .string t, .slice a1 es.length p1, .slice a2 bd.length p2, .slice a3 el.length p3] ∧ Not2 c10 w.heap.size) := ⟨hf10.box HB9.out.1 g1 HB9.out.2, hf10.new _ HB9.out.1.lt HB9.out.2⟩
                have HC10 : Hid (CenA cb when w10 c10 0 (bindR (bindR (askR (askR (askR (.ok st1) (exprsN 7 es.length) 4) (decide (bd.length = 0 ∨ ((5 : Int) ≤ 7 ∧ (7 : Int) ≤ 7))) 4) (decide (el.length = 0 ∨ (7 : Int) = 5)) 4) (nameR s 1)) (nameR t 2))) := hc10
                clear hf10 hc10 q0 q1 q2 q3 q4 q5
                have HB10r : Hid (RowAt w10 w.heap.size #[.int .i64 7, .string s, .string t, .slice a1 es.length p1, .slice a2 bd.length p2, .slice a3 el.length p3]) := HB10.out.1
                have q0 := HB10r.out.cell 0
                have q1 := HB10r.out.cell 1
                have q2 := HB10r.out.cell 2
                have q3 := HB10r.out.cell 3
                have q4 := HB10r.out.cell 4
                have q5 := HB10r.out.cell 5
                simp only [List.getElem?_toArray, List.getElem?_cons_zero, List.getElem?_cons_succ] at q0 q1 q2 q3 q4 q5
                go_wp2_with fail
                go_meet
                exact ⟨c10, HF10.out, HB10.out, by rw [bind_assoc (fun z => show fE 7 s t z = bindR (nameR s 1 z) (nameR t 2) from by simp [fE])]; exact HC10.out⟩
              have f1 : (k == 1) = false := by simpa using e1
              have f2 : (k == 2) = false := by simpa using e2
              have f9 : (k == 9) = false := by simpa using e9
              have f10 : (k == 10) = false := by simpa using e10
              have f7 : (k == 7) = false := by simpa using e7
              have HFE : Hid (∀ z, fE k s t z = askR (.ok z) (decide (s.size = 0)) 4) := fun z => by
                simp only [fE, textsS1]
                rw [if_neg e7, if_neg (by omega), if_neg (by omega)]
                by_cases hz : s.size = 0
                · rw [if_neg (by omega), decide_eq_true hz]; rfl
                · rw [if_pos (by omega), decide_eq_false hz]; rfl
              clear e1 e2 e9 e10 e7
              by_cases gs : 0 < s.size
              · have he := ise_f gs
                have HD : Hid (decide (s.size = 0) = false) := decide_eq_false (by omega)
                go_wp2_with fail
                refine (ask_c cb 2 when 4 false _ c8 (askR (askR (askR (.ok st1) (exprsN k es.length) 4) (decide (bd.length = 0 ∨ (5 ≤ k ∧ k ≤ 7))) 4) (decide (el.length = 0 ∨ k = 5)) 4) HC8.out (by decide)).mono ?_
                rintro e w9 ⟨rfl, c9, hf9, hc9⟩
                have HF9 : Hid (Fr cb w c w9 c9) := HF8.out.trans hf9
                have HB9 : Hid (RowAt w9 w.heap.size #[.int .i64 k, .string s, .string t, .slice a1 es.length p1, .slice a2 bd.length p2, .slice a3 el.length p3] ∧ Not2 c9 w.heap.size) := ⟨hf9.box HB8.out.1 g1 HB8.out.2, hf9.new _ HB8.out.1.lt HB8.out.2⟩
                have HC9 : Hid (CenA cb when w9 c9 2 (askR (askR (askR (askR (.ok st1) (exprsN k es.length) 4) (decide (bd.length = 0 ∨ (5 ≤ k ∧ k ≤ 7))) 4) (decide (el.length = 0 ∨ k = 5)) 4) false 4)) := hc9
                clear hf9 hc9 q0 q1 q2 q3 q4 q5
                have HB9r : Hid (RowAt w9 w.heap.size #[.int .i64 k, .string s, .string t, .slice a1 es.length p1, .slice a2 bd.length p2, .slice a3 el.length p3]) := HB9.out.1
                have q0 := HB9r.out.cell 0
                have q1 := HB9r.out.cell 1
                have q2 := HB9r.out.cell 2
                have q3 := HB9r.out.cell 3
                have q4 := HB9r.out.cell 4
                have q5 := HB9r.out.cell 5
                simp only [List.getElem?_toArray, List.getElem?_cons_zero, List.getElem?_cons_succ] at q0 q1 q2 q3 q4 q5
                go_wp2_with fail
                go_meet
                exact ⟨c9, HF9.out, HB9.out, by rw [bind_ask HFE.out, HD.out]; exact HC9.out.less (by omega)⟩
              · have he := ise_t gs
                have HD : Hid (decide (s.size = 0) = true) := decide_eq_true (by omega)
                go_wp2_with fail
                refine (ask_c cb 2 when 4 true _ c8 (askR (askR (askR (.ok st1) (exprsN k es.length) 4) (decide (bd.length = 0 ∨ (5 ≤ k ∧ k ≤ 7))) 4) (decide (el.length = 0 ∨ k = 5)) 4) HC8.out (by decide)).mono ?_
                rintro e w9 ⟨rfl, c9, hf9, hc9⟩
                have HF9 : Hid (Fr cb w c w9 c9) := HF8.out.trans hf9
                have HB9 : Hid (RowAt w9 w.heap.size #[.int .i64 k, .string s, .string t, .slice a1 es.length p1, .slice a2 bd.length p2, .slice a3 el.length p3] ∧ Not2 c9 w.heap.size) := ⟨hf9.box HB8.out.1 g1 HB8.out.2, hf9.new _ HB8.out.1.lt HB8.out.2⟩
                have HC9 : Hid (CenA cb when w9 c9 2 (askR (askR (askR (askR (.ok st1) (exprsN k es.length) 4) (decide (bd.length = 0 ∨ (5 ≤ k ∧ k ≤ 7))) 4) (decide (el.length = 0 ∨ k = 5)) 4) true 4)) := hc9
                clear hf9 hc9 q0 q1 q2 q3 q4 q5
                have HB9r : Hid (RowAt w9 w.heap.size #[.int .i64 k, .string s, .string t, .slice a1 es.length p1, .slice a2 bd.length p2, .slice a3 el.length p3]) := HB9.out.1
                have q0 := HB9r.out.cell 0
                have q1 := HB9r.out.cell 1
                have q2 := HB9r.out.cell 2
                have q3 := HB9r.out.cell 3
                have q4 := HB9r.out.cell 4
                have q5 := HB9r.out.cell 5
                simp only [List.getElem?_toArray, List.getElem?_cons_zero, List.getElem?_cons_succ] at q0 q1 q2 q3 q4 q5
                go_wp2_with fail
                go_meet
                exact ⟨c9, HF9.out, HB9.out, by rw [bind_ask HFE.out, HD.out]; exact HC9.out.less (by omega)⟩
          as_aux_lemma =>
            obtain ⟨c11, HX11⟩ := hcut
            have HF11 : Hid (Fr cb w c wc c11) := HX11.out.1
            have HB11 : Hid (RowAt wc w.heap.size #[.int .i64 k, .string s, .string t, .slice a1 es.length p1, .slice a2 bd.length p2, .slice a3 el.length p3] ∧ Not2 c11 w.heap.size) := HX11.out.2.1
            have HC11 : Hid (CenA cb when wc c11 0 (bindR (askR (askR (askR (.ok st1) (exprsN k es.length) 4) (decide (bd.length = 0 ∨ (5 ≤ k ∧ k ≤ 7))) 4) (decide (el.length = 0 ∨ k = 5)) 4) (fE k s t))) := HX11.out.2.2
            clear HX11 HF8 HB8 HC8 HB8r q0 q1 q2 q3 q4 q5
            generalize wc = w11 at HF11 HB11 HC11 ⊢
            have HB11r : Hid (RowAt w11 w.heap.size #[.int .i64 k, .string s, .string t, .slice a1 es.length p1, .slice a2 bd.length p2, .slice a3 el.length p3]) := HB11.out.1
            have q0 := HB11r.out.cell 0
            have q1 := HB11r.out.cell 1
            have q2 := HB11r.out.cell 2
            have q3 := HB11r.out.cell 3
            have q4 := HB11r.out.cell 4
            have q5 := HB11r.out.cell 5
            simp only [List.getElem?_toArray, List.getElem?_cons_zero, List.getElem?_cons_succ] at q0 q1 q2 q3 q4 q5
            obtain ⟨xs11, ys11, n11, ee11, hcn11⟩ := HC11.out.cn
            have cw3 := hcn11.c3
            clear hcn11
            go_upto_if 100 with fail
            go_cut [] (fun wx => ∃ cx : Value × Value, Hid (Fr cb w c wx cx ∧ (RowAt wx w.heap.size #[.int .i64 k, .string s, .string t, .slice a1 es.length p1, .slice a2 bd.length p2, .slice a3 el.length p3] ∧ Not2 cx w.heap.size) ∧ CenA cb when wx cx 0 (bindR (bindR (askR (askR (askR (.ok st1) (exprsN k es.length) 4) (decide (bd.length = 0 ∨ (5 ≤ k ∧ k ≤ 7))) 4) (decide (el.length = 0 ∨ k = 5)) 4) (fE k s t)) (fF when k t))))
            case first =>
              as_aux_lemma =>
                by_cases e10 : k = 10
                · subst e10
                  have b10 : True := trivial
                  go_wp2_with fail
                  refine (ask_c cb 0 when 7 (when == 0) _ c11 _ HC11.out (by decide)).mono ?_
                  rintro e w12 ⟨rfl, c12, hf12, hc12⟩
                  have HF12 : Hid (Fr cb w c w12 c12) := HF11.out.trans hf12
                  have HB12 : Hid (RowAt w12 w.heap.size #[.int .i64 10, .string s, .string t, .slice a1 es.length p1, .slice a2 bd.length p2, .slice a3 el.length p3] ∧ Not2 c12 w.heap.size) := ⟨hf12.box HB11.out.1 g1 HB11.out.2, hf12.new _ HB11.out.1.lt HB11.out.2⟩
                  have HC12 : Hid (CenA cb when w12 c12 0 (askR (bindR (askR (askR (askR (.ok st1) (exprsN 10 es.length) 4) (decide (bd.length = 0 ∨ ((5 : Int) ≤ 10 ∧ (10 : Int) ≤ 7))) 4) (decide (el.length = 0 ∨ (10 : Int) = 5)) 4) (fE 10 s t)) (when == 0) 7)) := hc12
                  clear hf12 hc12 q0 q1 q2 q3 q4 q5
                  have HB12r : Hid (RowAt w12 w.heap.size #[.int .i64 10, .string s, .string t, .slice a1 es.length p1, .slice a2 bd.length p2, .slice a3 el.length p3]) := HB12.out.1
                  have q0 := HB12r.out.cell 0
                  have q1 := HB12r.out.cell 1
                  have q2 := HB12r.out.cell 2
                  have q3 := HB12r.out.cell 3
                  have q4 := HB12r.out.cell 4
                  have q5 := HB12r.out.cell 5
                  simp only [List.getElem?_toArray, List.getElem?_cons_zero, List.getElem?_cons_succ] at q0 q1 q2 q3 q4 q5
                  have hst := HWT.out
                  unfold maxLen at hst
                  by_cases gl : (t.size : Int) ≤ 200
                  · have HD : Hid (decide (t.size ≤ 200) = true) := decide_eq_true (by omega)
                    have gl2 : True := trivial
                    go_wp2_with fail
                    refine (ask_c cb 0 when 1 true _ c12 _ HC12.out (by decide)).mono ?_
                    rintro e w13 ⟨rfl, c13, hf13, hc13⟩
                    have HF13 : Hid (Fr cb w c w13 c13) := HF12.out.trans hf13
                    have HB13 : Hid (RowAt w13 w.heap.size #[.int .i64 10, .string s, .string t, .slice a1 es.length p1, .slice a2 bd.length p2, .slice a3 el.length p3] ∧ Not2 c13 w.heap.size) := ⟨hf13.box HB12.out.1 g1 HB12.out.2, hf13.new _ HB12.out.1.lt HB12.out.2⟩
                    have HC13 : Hid (CenA cb when w13 c13 0 (askR (askR (bindR (askR (askR (askR (.ok st1) (exprsN 10 es.length) 4) (decide (bd.length = 0 ∨ ((5 : Int) ≤ 10 ∧ (10 : Int) ≤ 7))) 4) (decide (el.length = 0 ∨ (10 : Int) = 5)) 4) (fE 10 s t)) (when == 0) 7) true 1)) := hc13
                    clear hf13 hc13 q0 q1 q2 q3 q4 q5
                    have HB13r : Hid (RowAt w13 w.heap.size #[.int .i64 10, .string s, .string t, .slice a1 es.length p1, .slice a2 bd.length p2, .slice a3 el.length p3]) := HB13.out.1
                    have q0 := HB13r.out.cell 0
                    have q1 := HB13r.out.cell 1
                    have q2 := HB13r.out.cell 2
                    have q3 := HB13r.out.cell 3
                    have q4 := HB13r.out.cell 4
                    have q5 := HB13r.out.cell 5
                    simp only [List.getElem?_toArray, List.getElem?_cons_zero, List.getElem?_cons_succ] at q0 q1 q2 q3 q4 q5
                    go_wp2_with fail
                    go_meet
                    exact ⟨c13, HF13.out, HB13.out, by rw [bind_ask2 (fun z => show fF when 10 t z = askR (askR (.ok z) (when == 0) 7) (decide (t.size ≤ 200)) 1 from by simp [fF]), HD.out]; exact HC13.out⟩
                  · have HD : Hid (decide (t.size ≤ 200) = false) := decide_eq_false (by omega)
                    have gl2 : decide ((t.size : Int) ≤ 200) = false := decide_eq_false gl
                    go_wp2_with fail
                    refine (ask_c cb 0 when 1 false _ c12 _ HC12.out (by decide)).mono ?_
                    rintro e w13 ⟨rfl, c13, hf13, hc13⟩
                    have HF13 : Hid (Fr cb w c w13 c13) := HF12.out.trans hf13
                    have HB13 : Hid (RowAt w13 w.heap.size #[.int .i64 10, .string s, .string t, .slice a1 es.length p1, .slice a2 bd.length p2, .slice a3 el.length p3] ∧ Not2 c13 w.heap.size) := ⟨hf13.box HB12.out.1 g1 HB12.out.2, hf13.new _ HB12.out.1.lt HB12.out.2⟩
                    have HC13 : Hid (CenA cb when w13 c13 0 (askR (askR (bindR (askR (askR (askR (.ok st1) (exprsN 10 es.length) 4) (decide (bd.length = 0 ∨ ((5 : Int) ≤ 10 ∧ (10 : Int) ≤ 7))) 4) (decide (el.length = 0 ∨ (10 : Int) = 5)) 4) (fE 10 s t)) (when == 0) 7) false 1)) := hc13
                    clear hf13 hc13 q0 q1 q2 q3 q4 q5
                    have HB13r : Hid (RowAt w13 w.heap.size #[.int .i64 10, .string s, .string t, .slice a1 es.length p1, .slice a2 bd.length p2, .slice a3 el.length p3]) := HB13.out.1
                    have q0 := HB13r.out.cell 0
                    have q1 := HB13r.out.cell 1
                    have q2 := HB13r.out.cell 2
                    have q3 := HB13r.out.cell 3
                    have q4 := HB13r.out.cell 4
                    have q5 := HB13r.out.cell 5
                    simp only [List.getElem?_toArray, List.getElem?_cons_zero, List.getElem?_cons_succ] at q0 q1 q2 q3 q4 q5
                    go_wp2_with fail
                    go_meet
                    exact ⟨c13, HF13.out, HB13.out, by rw [bind_ask2 (fun z => show fF when 10 t z = askR (askR (.ok z) (when == 0) 7) (decide (t.size ≤ 200)) 1 from by simp [fF]), HD.out]; exact HC13.out⟩
                by_cases e7 : k = 7
                · subst e7
                  go_wp2_with fail
                  go_meet
                  exact ⟨c11, HF11.out, HB11.out, by rw [bind_ok (fun z => show fF when 7 t z = .ok z from by simp [fF])]; exact HC11.out⟩
                have f10 : (k == 10) = false := by simpa using e10
                have f7 : (k != 7) = true := by simpa using e7
                have HFF : Hid (∀ z, fF when k t z = askR (.ok z) (decide (t.size = 0)) 4) := fun z => by simp only [fF]; rw [if_neg e10, if_neg e7]
                clear e10 e7
                by_cases gt : 0 < t.size
                · have he := ise_f gt
                  have HD : Hid (decide (t.size = 0) = false) := decide_eq_false (by omega)
                  go_wp2_with fail
                  refine (ask_c cb 0 when 4 false _ c11 (bindR (askR (askR (askR (.ok st1) (exprsN k es.length) 4) (decide (bd.length = 0 ∨ (5 ≤ k ∧ k ≤ 7))) 4) (decide (el.length = 0 ∨ k = 5)) 4) (fE k s t)) HC11.out (by decide)).mono ?_
                  rintro e w12 ⟨rfl, c12, hf12, hc12⟩
                  have HF12 : Hid (Fr cb w c w12 c12) := HF11.out.trans hf12
                  have HB12 : Hid (RowAt w12 w.heap.size #[.int .i64 k, .string s, .string t, .slice a1 es.length p1, .slice a2 bd.length p2, .slice a3 el.length p3] ∧ Not2 c12 w.heap.size) := ⟨hf12.box HB11.out.1 g1 HB11.out.2, hf12.new _ HB11.out.1.lt HB11.out.2⟩
                  have HC12 : Hid (CenA cb when w12 c12 0 (askR (bindR (askR (askR (askR (.ok st1) (exprsN k es.length) 4) (decide (bd.length = 0 ∨ (5 ≤ k ∧ k ≤ 7))) 4) (decide (el.length = 0 ∨ k = 5)) 4) (fE k s t)) false 4)) := hc12
                  clear hf12 hc12 q0 q1 q2 q3 q4 q5
                  have HB12r : Hid (RowAt w12 w.heap.size #[.int .i64 k, .string s, .string t, .slice a1 es.length p1, .slice a2 bd.length p2, .slice a3 el.length p3]) := HB12.out.1
                  have q0 := HB12r.out.cell 0
                  have q1 := HB12r.out.cell 1
                  have q2 := HB12r.out.cell 2
                  have q3 := HB12r.out.cell 3
                  have q4 := HB12r.out.cell 4
                  have q5 := HB12r.out.cell 5
                  simp only [List.getElem?_toArray, List.getElem?_cons_zero, List.getElem?_cons_succ] at q0 q1 q2 q3 q4 q5
                  go_wp2_with fail
                  go_meet
                  exact ⟨c12, HF12.out, HB12.out, by rw [bind_ask HFF.out, HD.out]; exact HC12.out⟩
                · have he := ise_t gt
                  have HD : Hid (decide (t.size = 0) = true) := decide_eq_true (by omega)
                  go_wp2_with fail
                  refine (ask_c cb 0 when 4 true _ c11 (bindR (askR (askR (askR (.ok st1) (exprsN k es.length) 4) (decide (bd.length = 0 ∨ (5 ≤ k ∧ k ≤ 7))) 4) (decide (el.length = 0 ∨ k = 5)) 4) (fE k s t)) HC11.out (by decide)).mono ?_
                  rintro e w12 ⟨rfl, c12, hf12, hc12⟩
                  have HF12 : Hid (Fr cb w c w12 c12) := HF11.out.trans hf12
                  have HB12 : Hid (RowAt w12 w.heap.size #[.int .i64 k, .string s, .string t, .slice a1 es.length p1, .slice a2 bd.length p2, .slice a3 el.length p3] ∧ Not2 c12 w.heap.size) := ⟨hf12.box HB11.out.1 g1 HB11.out.2, hf12.new _ HB11.out.1.lt HB11.out.2⟩
                  have HC12 : Hid (CenA cb when w12 c12 0 (askR (bindR (askR (askR (askR (.ok st1) (exprsN k es.length) 4) (decide (bd.length = 0 ∨ (5 ≤ k ∧ k ≤ 7))) 4) (decide (el.length = 0 ∨ k = 5)) 4) (fE k s t)) true 4)) := hc12
                  clear hf12 hc12 q0 q1 q2 q3 q4 q5
                  have HB12r : Hid (RowAt w12 w.heap.size #[.int .i64 k, .string s, .string t, .slice a1 es.length p1, .slice a2 bd.length p2, .slice a3 el.length p3]) := HB12.out.1
                  have q0 := HB12r.out.cell 0
                  have q1 := HB12r.out.cell 1
                  have q2 := HB12r.out.cell 2
                  have q3 := HB12r.out.cell 3
                  have q4 := HB12r.out.cell 4
                  have q5 := HB12r.out.cell 5
                  simp only [List.getElem?_toArray, List.getElem?_cons_zero, List.getElem?_cons_succ] at q0 q1 q2 q3 q4 q5
                  go_wp2_with fail
                  go_meet
                  exact ⟨c12, HF12.out, HB12.out, by rw [bind_ask HFF.out, HD.out]; exact HC12.out⟩
            as_aux_lemma =>
              clear cw3
              obtain ⟨c14, HX14⟩ := hcut
              have HF14 : Hid (Fr cb w c wc c14) := HX14.out.1
              have HB14 : Hid (RowAt wc w.heap.size #[.int .i64 k, .string s, .string t, .slice a1 es.length p1, .slice a2 bd.length p2, .slice a3 el.length p3] ∧ Not2 c14 w.heap.size) := HX14.out.2.1
              have HC14 : Hid (CenA cb when wc c14 0 (bindR (bindR (askR (askR (askR (.ok st1) (exprsN k es.length) 4) (decide (bd.length = 0 ∨ (5 ≤ k ∧ k ≤ 7))) 4) (decide (el.length = 0 ∨ k = 5)) 4) (fE k s t)) (fF when k t))) := HX14.out.2.2
              clear HX14 HF11 HB11 HC11 HB11r q0 q1 q2 q3 q4 q5
              generalize wc = w14 at HF14 HB14 HC14 ⊢
              have HB14r : Hid (RowAt w14 w.heap.size #[.int .i64 k, .string s, .string t, .slice a1 es.length p1, .slice a2 bd.length p2, .slice a3 el.length p3]) := HB14.out.1
              have q0 := HB14r.out.cell 0
              have q1 := HB14r.out.cell 1
              have q2 := HB14r.out.cell 2
              have q3 := HB14r.out.cell 3
              have q4 := HB14r.out.cell 4
              have q5 := HB14r.out.cell 5
              simp only [List.getElem?_toArray, List.getElem?_cons_zero, List.getElem?_cons_succ] at q0 q1 q2 q3 q4 q5
              obtain ⟨xs14, ys14, n14, ee14, hcn14⟩ := HC14.out.cn
              have cw3 := hcn14.c3
              clear hcn14
              go_upto_if 124 with fail
              go_cut [] (fun wx => ∃ cx : Value × Value, Hid (Fr cb w c wx cx ∧ (RowAt wx w.heap.size #[.int .i64 k, .string s, .string t, .slice a1 es.length p1, .slice a2 bd.length p2, .slice a3 el.length p3] ∧ Not2 cx w.heap.size) ∧ CenA cb when wx cx 0 (bindR (bindR (bindR (askR (askR (askR (.ok st1) (exprsN k es.length) 4) (decide (bd.length = 0 ∨ (5 ≤ k ∧ k ≤ 7))) 4) (decide (el.length = 0 ∨ k = 5)) 4) (fE k s t)) (fF when k t)) (fG when k))))
              case first =>
                as_aux_lemma =>
                  by_cases e8 : k = 8
                  · subst e8
                    go_wp2_with fail
                    refine (ask_c cb 0 when 7 (when == 1) _ c14 _ HC14.out (by decide)).mono ?_
                    rintro e w15 ⟨rfl, c15, hf15, hc15⟩
                    have HF15 : Hid (Fr cb w c w15 c15) := HF14.out.trans hf15
                    have HB15 : Hid (RowAt w15 w.heap.size #[.int .i64 8, .string s, .string t, .slice a1 es.length p1, .slice a2 bd.length p2, .slice a3 el.length p3] ∧ Not2 c15 w.heap.size) := ⟨hf15.box HB14.out.1 g1 HB14.out.2, hf15.new _ HB14.out.1.lt HB14.out.2⟩
                    have HC15 : Hid (CenA cb when w15 c15 0 (askR (bindR (bindR (askR (askR (askR (.ok st1) (exprsN 8 es.length) 4) (decide (bd.length = 0 ∨ ((5 : Int) ≤ 8 ∧ (8 : Int) ≤ 7))) 4) (decide (el.length = 0 ∨ (8 : Int) = 5)) 4) (fE 8 s t)) (fF when 8 t)) (when == 1) 7)) := hc15
                    clear hf15 hc15 q0 q1 q2 q3 q4 q5
                    have HB15r : Hid (RowAt w15 w.heap.size #[.int .i64 8, .string s, .string t, .slice a1 es.length p1, .slice a2 bd.length p2, .slice a3 el.length p3]) := HB15.out.1
                    have q0 := HB15r.out.cell 0
                    have q1 := HB15r.out.cell 1
                    have q2 := HB15r.out.cell 2
                    have q3 := HB15r.out.cell 3
                    have q4 := HB15r.out.cell 4
                    have q5 := HB15r.out.cell 5
                    simp only [List.getElem?_toArray, List.getElem?_cons_zero, List.getElem?_cons_succ] at q0 q1 q2 q3 q4 q5
                    go_wp2_with fail
                    go_meet
                    exact ⟨c15, HF15.out, HB15.out, by rw [bind_ask (fun z => show fG when 8 z = askR (.ok z) (when == 1) 7 from by simp [fG])]; exact HC15.out⟩
                  · have f8 : (k == 8) = false := by simpa using e8
                    have HFG : Hid (∀ z, fG when k z = .ok z) := fun z => by simp only [fG]; rw [if_neg e8]
                    clear e8
                    go_wp2_with fail
                    go_meet
                    exact ⟨c14, HF14.out, HB14.out, by rw [bind_ok HFG.out]; exact HC14.out⟩
              as_aux_lemma =>
                clear cw3
                obtain ⟨c16, HX16⟩ := hcut
                have HF16 : Hid (Fr cb w c wc c16) := HX16.out.1
                have HB16 : Hid (RowAt wc w.heap.size #[.int .i64 k, .string s, .string t, .slice a1 es.length p1, .slice a2 bd.length p2, .slice a3 el.length p3] ∧ Not2 c16 w.heap.size) := HX16.out.2.1
                have HC16 : Hid (CenA cb when wc c16 0 (bindR (bindR (bindR (askR (askR (askR (.ok st1) (exprsN k es.length) 4) (decide (bd.length = 0 ∨ (5 ≤ k ∧ k ≤ 7))) 4) (decide (el.length = 0 ∨ k = 5)) 4) (fE k s t)) (fF when k t)) (fG when k))) := HX16.out.2.2
                clear HX16 HF14 HB14 HC14 HB14r q0 q1 q2 q3 q4 q5
                generalize wc = w16 at HF16 HB16 HC16 ⊢
                have HB16r : Hid (RowAt w16 w.heap.size #[.int .i64 k, .string s, .string t, .slice a1 es.length p1, .slice a2 bd.length p2, .slice a3 el.length p3]) := HB16.out.1
                have q0 := HB16r.out.cell 0
                have q1 := HB16r.out.cell 1
                have q2 := HB16r.out.cell 2
                have q3 := HB16r.out.cell 3
                have q4 := HB16r.out.cell 4
                have q5 := HB16r.out.cell 5
                simp only [List.getElem?_toArray, List.getElem?_cons_zero, List.getElem?_cons_succ] at q0 q1 q2 q3 q4 q5
                have HC17 : Hid (CenA cb when w16 c16 0 (preS when k s t es.length bd.length el.length st1)) := by have := HC16.out; rw [preS_chain] at this; exact this
                clear HC16
                obtain ⟨R4, hR4⟩ : ∃ R4, R4 = preS when k s t es.length bd.length el.length st1 := ⟨_, rfl⟩
                have HN : Hid (ckS when (m + 1) (.mk k s t es bd el) d st = bindR (bindR (bindR R4 (runL (fun x => ckE m x (d + 1)) es)) (runL (fun x => ckS when m x (d + 1)) bd)) (runL (fun x => ckS when m x (d + 1)) el)) := by rw [hR4]; exact HN0.out
                have HCL : Hid (CenA cb when w16 c16 0 R4) := by rw [hR4]; exact HC17.out
                clear hR4 HC17 HN0 q0 q1 q2 q3 q4 q5
                have R8 : True := trivial
                clear R8
                go_upto_block 2 with fail
                go_cut [7] (fun _ wx => ∃ cx : Value × Value, Hid (Fr cb w c wx cx ∧ (RowAt wx w.heap.size #[.int .i64 k, .string s, .string t, .slice a1 es.length p1, .slice a2 bd.length p2, .slice a3 el.length p3] ∧ Not2 cx w.heap.size) ∧ CenA cb when wx cx 0 (bindR R4 (runL (fun x => ckE m x (d + 1)) es))))
                case first =>
                  as_aux_lemma =>
                    go_wp2_with fail
                    go_loopw [7] (fun v wr => ∃ (i : Nat) (ci : Value × Value), i ≤ es.length ∧ v = .int .i64 i ∧ Hid (Fr cb w c wr ci ∧ (RowAt wr w.heap.size #[.int .i64 k, .string s, .string t, .slice a1 es.length p1, .slice a2 bd.length p2, .slice a3 el.length p3] ∧ Not2 ci w.heap.size) ∧ CenA cb when wr ci 0 (bindR R4 (runL (fun x => ckE m x (d + 1)) (es.take i))))) (fun v _ => es.length - (intOf v).toNat)
                    case atStart => exact ⟨0, c16, by omega, rfl, HF16.out, HB16.out, by cases R4 <;> exact HCL.out⟩
                    case round =>
                      obtain ⟨i, ci, hil, rfl, HR⟩ := hrel
                      have HBr : Hid (RowAt wr w.heap.size #[.int .i64 k, .string s, .string t, .slice a1 es.length p1, .slice a2 bd.length p2, .slice a3 el.length p3]) := HR.out.2.1.1
                      have q3 := HBr.out.cell 3
                      simp only [List.getElem?_toArray, List.getElem?_cons_zero, List.getElem?_cons_succ] at q3
                      cases hRi : bindR R4 (runL (fun x => ckE m x (d + 1)) (es.take i)) with
                      | error x =>
                        have HCX : Hid (CenA cb when wr ci 0 (.error x)) := by have := HR.out.2.2; rw [hRi] at this; exact this
                        obtain ⟨hx0, xs9, ys9, n9, hcn9⟩ := HCX.out
                        have e4 := hcn9.c4
                        have bx : (x == 0) = false := by simpa using hx0
                        have HE : Hid (bindR R4 (runL (fun x => ckE m x (d + 1)) es) = .error x) := by
                          cases R4 with
                          | error y => exact hRi
                          | ok st2 =>
                            have h1 := runL_err (r := es.drop i) (show runL (fun x => ckE m x (d + 1)) (es.take i) st2 = .error x from hRi)
                            rw [List.take_append_drop] at h1
                            exact h1
                        clear hcn9 hx0 hRi
                        by_cases hlt : i < es.length
                        · have i1 : (i : Int) < (es.length : Int) := by omega
                          go_wp2_with fail
                          go_meet
                          exact ⟨ci, HR.out.1, HR.out.2.1, by rw [HE.out]; exact HCX.out⟩
                        · have i1 : ¬ (i : Int) < (es.length : Int) := by omega
                          go_wp2_with fail
                          go_meet
                          exact ⟨ci, HR.out.1, HR.out.2.1, by rw [HE.out]; exact HCX.out⟩
                      | ok s9 =>
                        have HCX : Hid (CenA cb when wr ci 0 (.ok s9)) := by have := HR.out.2.2; rw [hRi] at this; exact this
                        obtain ⟨xs9, ys9, hcn9, _⟩ := (show CenA cb when wr ci 0 (.ok s9) from HCX.out)
                        have e4 := hcn9.c4
                        have HR4 : Hid (∃ st2, R4 = .ok st2 ∧ runL (fun x => ckE m x (d + 1)) (es.take i) st2 = .ok s9) := by
                          cases R4 with
                          | error y => simp [bindR] at hRi
                          | ok st2 => exact ⟨st2, rfl, hRi⟩
                        clear hcn9 hRi
                        by_cases hlt : i < es.length
                        · have i1 : (i : Int) < (es.length : Int) := by omega
                          have i2 : (0 : Int) ≤ (i : Int) := by omega
                          obtain ⟨b, off, rfl, hb, hi⟩ := HSL.out (by omega)
                          obtain ⟨cs, hcl, hcell, x, hx, hex⟩ := hi i hlt
                          obtain ⟨k0, n0, s0, a0, len0, cap0, rfl⟩ := hex.shape
                          have HBW : Hid (Below B w wr) := HR.out.1.below HCN.out hB
                          have p0 : wr.cell? ⟨b, off + i * 4, none⟩ = some (.int .i64 k0) := by rw [HBW.out.cell (p := ⟨b, off + i * 4, none⟩) hb]; simpa using hcell 0 (by omega)
                          have p11 : wr.cell? ⟨b, off + i * 4 + 1, none⟩ = some (.int .i64 n0) := by rw [HBW.out.cell (p := ⟨b, off + i * 4 + 1, none⟩) hb]; simpa using hcell 1 (by omega)
                          have p12 : wr.cell? ⟨b, off + i * 4 + 2, none⟩ = some (.string s0) := by rw [HBW.out.cell (p := ⟨b, off + i * 4 + 2, none⟩) hb]; simpa using hcell 2 (by omega)
                          have p13 : wr.cell? ⟨b, off + i * 4 + 3, none⟩ = some (.slice a0 len0 cap0) := by rw [HBW.out.cell (p := ⟨b, off + i * 4 + 3, none⟩) hb]; simpa using hcell 3 (by omega)
                          have HXX : Hid (es[i] = x) := by rw [List.getElem?_eq_getElem hlt] at hx; exact Option.some.inj hx
                          have HEX : Hid (ExA B wr m [.int .i64 k0, .int .i64 n0, .string s0, .slice a0 len0 cap0] x) := hex.below HBW.out
                          clear hcell hx hex hcl hi
                          go_wp2_with fail
                          refine (HX.out B cb when x [.int .i64 k0, .int .i64 n0, .string s0, .slice a0 len0 cap0] (d + 1) s9 _ ci HEX.out HCX.out hB (by omega) (by omega)).mono ?_
                          rintro e w9 ⟨rfl, c9, hf9, hc9⟩
                          have HN9 : Hid (Fr cb w c w9 c9 ∧ (RowAt w9 w.heap.size #[.int .i64 k, .string s, .string t, .slice (some ⟨b, off, none⟩) es.length p1, .slice a2 bd.length p2, .slice a3 el.length p3] ∧ Not2 c9 w.heap.size) ∧ CenA cb when w9 c9 0 (bindR R4 (runL (fun x => ckE m x (d + 1)) (es.take (i + 1))))) := by
                            refine ⟨HR.out.1.trans hf9, ⟨hf9.box HR.out.2.1.1 g1 HR.out.2.1.2, hf9.new _ HR.out.2.1.1.lt HR.out.2.1.2⟩, ?_⟩
                            obtain ⟨st2, h1, h2⟩ := HR4.out
                            rw [h1]
                            show CenA cb when w9 c9 0 (runL (fun x => ckE m x (d + 1)) (es.take (i + 1)) st2)
                            rw [List.take_succ_eq_append_getElem hlt, runL_snoc h2, HXX.out]
                            exact hc9
                          clear hf9 hc9 p0 p11 p12 p13 e4 q3
                          go_wp2_with fail
                          go_roundw
                          case rel => exact ⟨i + 1, c9, by omega, by go_num, HN9⟩
                          case measure => simp [intOf]; omega
                        · have i1 : ¬ (i : Int) < (es.length : Int) := by omega
                          have HE : Hid (bindR R4 (runL (fun x => ckE m x (d + 1)) es) = .ok s9) := by
                            obtain ⟨st2, h1, h2⟩ := HR4.out
                            rw [h1]
                            exact runL_all hlt h2
                          go_wp2_with fail
                          go_meet
                          exact ⟨ci, HR.out.1, HR.out.2.1, by rw [HE.out]; exact HCX.out⟩
                as_aux_lemma =>
                  obtain ⟨c18, HX18⟩ := hcut
                  have HF18 : Hid (Fr cb w c wc c18) := HX18.out.1
                  have HB18 : Hid (RowAt wc w.heap.size #[.int .i64 k, .string s, .string t, .slice a1 es.length p1, .slice a2 bd.length p2, .slice a3 el.length p3] ∧ Not2 c18 w.heap.size) := HX18.out.2.1
                  have HC18 : Hid (CenA cb when wc c18 0 (bindR R4 (runL (fun x => ckE m x (d + 1)) es))) := HX18.out.2.2
                  clear HX18 HF16 HB16 HCL HB16r
                  generalize wc = w18 at HF18 HB18 HC18 ⊢
                  have HB18r : Hid (RowAt w18 w.heap.size #[.int .i64 k, .string s, .string t, .slice a1 es.length p1, .slice a2 bd.length p2, .slice a3 el.length p3]) := HB18.out.1
                  have q0 := HB18r.out.cell 0
                  have q1 := HB18r.out.cell 1
                  have q2 := HB18r.out.cell 2
                  have q3 := HB18r.out.cell 3
                  have q4 := HB18r.out.cell 4
                  have q5 := HB18r.out.cell 5
                  simp only [List.getElem?_toArray, List.getElem?_cons_zero, List.getElem?_cons_succ] at q0 q1 q2 q3 q4 q5
                  go_wp2_with fail
                  refine (HY.out B cb when bd _ (d + 1) _ _ c18 (HS2.out.below (HF18.out.below HCN.out hB) fun i c ⟨x, hx, he⟩ => ⟨x, hx, he.below (HF18.out.below HCN.out hB)⟩) HC18.out hB (by omega) (by omega)).mono ?_
                  rintro e w19 ⟨rfl, c19, hf19, hc19⟩
                  have HF19 : Hid (Fr cb w c w19 c19) := HF18.out.trans hf19
                  have HB19 : Hid (RowAt w19 w.heap.size #[.int .i64 k, .string s, .string t, .slice a1 es.length p1, .slice a2 bd.length p2, .slice a3 el.length p3] ∧ Not2 c19 w.heap.size) := ⟨hf19.box HB18.out.1 g1 HB18.out.2, hf19.new _ HB18.out.1.lt HB18.out.2⟩
                  have HC19 : Hid (CenA cb when w19 c19 0 (bindR (bindR R4 (runL (fun x => ckE m x (d + 1)) es)) (runL (fun x => ckS when m x (d + 1)) bd))) := hc19
                  clear hf19 hc19 q0 q1 q2 q3 q4 q5
                  have HB19r : Hid (RowAt w19 w.heap.size #[.int .i64 k, .string s, .string t, .slice a1 es.length p1, .slice a2 bd.length p2, .slice a3 el.length p3]) := HB19.out.1
                  have q0 := HB19r.out.cell 0
                  have q1 := HB19r.out.cell 1
                  have q2 := HB19r.out.cell 2
                  have q3 := HB19r.out.cell 3
                  have q4 := HB19r.out.cell 4
                  have q5 := HB19r.out.cell 5
                  simp only [List.getElem?_toArray, List.getElem?_cons_zero, List.getElem?_cons_succ] at q0 q1 q2 q3 q4 q5
                  go_wp2_with fail
                  refine (HY.out B cb when el _ (d + 1) _ _ c19 (HS3.out.below (HF19.out.below HCN.out hB) fun i c ⟨x, hx, he⟩ => ⟨x, hx, he.below (HF19.out.below HCN.out hB)⟩) HC19.out hB (by omega) (by omega)).mono ?_
                  rintro e w20 ⟨rfl, c20, hf20, hc20⟩
                  have HFIN : Hid (OutC cb when 0 w c (ckS when (m + 1) (.mk k s t es bd el) d st) (.returned (.tuple #[])) w20) := ⟨rfl, c20, HF19.out.trans hf20, by rw [HN.out]; exact hc20⟩
                  clear hf20 hc20 q0 q1 q2 q3 q4 q5
                  go_wp2_with fail
                  go_end0
                  exact HFIN.out
end Go.Proofs.YtjconmohifaliaaDoor
