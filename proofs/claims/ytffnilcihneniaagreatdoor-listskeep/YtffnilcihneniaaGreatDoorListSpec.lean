/-
  A list that keeps what was put: sources of such programs are read, and what their runs print. Of data alone.
-/
import Derived.Test.YtffnilcihneniaaGreatDoorCutSpec
import Derived.Test.YtffnilcihneniaaGreatDoorMMem
namespace Go.Proofs.YtffnilcihneniaaGreatDoor
open Go.RowKit
set_option linter.unusedVariables false
set_option maxRecDepth 100000
def pS (l : List UInt8) : Pc := ⟨4, l, 0⟩
def pW (l : List UInt8) : Pc := ⟨1, l, 0⟩
def pT (l : List UInt8) : Pc := ⟨3, l, 0⟩
def pN (n : Nat) : Pc := ⟨2, [], (n : Int)⟩
def keyL (d : Nat) : List UInt8 := [107] ++ Lib.itoa (d : Int)
def nA : ByteArray := ⟨#[97]⟩
def nK : ByteArray := ⟨#[107]⟩
abbrev Lop := Nat × Bool
def lopL (i : Nat) (x : Lop) : List UInt8 :=
 if x.2 then [100, 101, 108, 101, 116, 101, 32, 97, 91, 34] ++ keyL x.1 ++ [34, 93, 59, 32]
 else [97, 91, 34] ++ keyL x.1 ++ [34, 93, 32, 61, 32] ++ Lib.itoa (i : Int) ++ [59, 32]
def lopP (i : Nat) (x : Lop) : List Pc :=
 if x.2 then [pW [100, 101, 108, 101, 116, 101], pW [97], pS [91], pT (keyL x.1), pS [93], pS [59]]
 else [pW [97], pS [91], pT (keyL x.1), pS [93], pS [61], pN i, pS [59]]
def lopS (i : Nat) (x : Lop) : Sm :=
 if x.2 then .mk 9 nA ⟨#[]⟩ [.mk 2 0 (bs (keyL x.1)) []] [] []
 else .mk 2 nA ⟨#[]⟩ [.mk 2 0 (bs (keyL x.1)) [], .mk 1 (i : Int) ⟨#[]⟩ []] [] []
theorem lop_del {d : Nat} (hd : d < 8) (i : Nat) : CutsTo (lopL i (d, true)) (lopP i (d, true)) := CutsTo.range (s := fun d => lopL i (d, true)) (ps := fun d => lopP i (d, true)) (by kernel_rfl) hd
theorem lop_put {d i : Nat} (hd : d < 8) (hi : i < 20) : CutsTo (lopL i (d, false)) (lopP i (d, false)) := by
 have h := CutsTo.range (n := 160) (s := fun j => lopL (j / 8) (j % 8, false)) (ps := fun j => lopP (j / 8) (j % 8, false)) (v := 8 * i + d) (by kernel_rfl) (by omega)
 simp only [show (8 * i + d) / 8 = i by omega, show (8 * i + d) % 8 = d by omega] at h
 exact h
theorem lop_cut {x : Lop} {i : Nat} (hd : x.1 < 8) (hi : i < 20) : CutsTo (lopL i x) (lopP i x) := by
 obtain ⟨d, b⟩ := x
 cases b with
 | true => exact lop_del hd i
 | false => exact lop_put hd hi
theorem put_parse (m : Nat) (t : List UInt8) (n : Int) (r : List Pc) : stmtR (m + 30) (0 + 1) ([pW [97], pS [91], pT t, pS [93], pS [61], ⟨2, [], n⟩, pS [59]] ++ r) = .ok (.mk 2 nA ⟨#[]⟩ [.mk 2 0 (bs t) [], .mk 1 n ⟨#[]⟩ []] [] [], r) := by kernel_rfl
theorem del_parse (m : Nat) (t : List UInt8) (r : List Pc) : stmtR (m + 30) (0 + 1) ([pW [100, 101, 108, 101, 116, 101], pW [97], pS [91], pT t, pS [93], pS [59]] ++ r) = .ok (.mk 9 nA ⟨#[]⟩ [.mk 2 0 (bs t) []] [] [], r) := by kernel_rfl
theorem lop_parse (m i : Nat) (x : Lop) (r : List Pc) : stmtR (m + 30) (0 + 1) (lopP i x ++ r) = .ok (lopS i x, r) := by
 obtain ⟨d, b⟩ := x
 cases b with
 | true => exact del_parse m (keyL d) r
 | false => exact put_parse m (keyL d) i r
def lopsL : Nat -> List Lop -> List UInt8
 | _, [] => []
 | i, x :: l => lopL i x ++ lopsL (i + 1) l
def lopsP : Nat -> List Lop -> List Pc
 | _, [] => []
 | i, x :: l => lopP i x ++ lopsP (i + 1) l
def lopsS : Nat -> List Lop -> List Sm
 | _, [] => []
 | i, x :: l => lopS i x :: lopsS (i + 1) l
theorem lopsL_snoc (x : Lop) : ∀ (l : List Lop) (i : Nat), lopsL i (l ++ [x]) = lopsL i l ++ lopL (i + l.length) x
 | [], i => by simp [lopsL]
 | y :: l, i => by rw [List.cons_append, lopsL, lopsL, lopsL_snoc x l (i + 1), List.append_assoc, List.length_cons, show i + 1 + l.length = i + (l.length + 1) by omega]
theorem lops_cut : ∀ (l : List Lop) (i : Nat), (∀ x ∈ l, x.1 < 8) -> i + l.length <= 20 -> CutsTo (lopsL i l) (lopsP i l)
 | [], _, _, _ => CutsTo.nil
 | x :: l, i, h, hi => by
  rw [List.length_cons] at hi
  exact (lop_cut (h x (List.mem_cons_self ..)) (by omega)).app (lops_cut l (i + 1) (fun y hy => h y (List.mem_cons_of_mem _ hy)) (by omega))
theorem lopP_len (i : Nat) (x : Lop) : (lopP i x).length <= 7 := by unfold lopP; split <;> simp
theorem lopL_len (i : Nat) (x : Lop) (hd : x.1 < 8) (hi : i < 20) : (lopP i x).length <= (lopL i x).length /\ (lopL i x).length <= 80 := by
 have h1 := itoa_le x.1 (by omega)
 have h2 := itoa_le i (by omega)
 unfold lopL lopP keyL
 split <;> simp <;> omega
theorem lopsL_len : ∀ (l : List Lop) (i : Nat), (∀ x ∈ l, x.1 < 8) -> i + l.length <= 20 -> (lopsP i l).length <= (lopsL i l).length /\ (lopsL i l).length <= 80 * l.length
 | [], _, _, _ => by simp [lopsL, lopsP]
 | x :: l, i, h, hi => by
  rw [List.length_cons] at hi
  have h1 := lopL_len i x (h x (List.mem_cons_self ..)) (by omega)
  have h2 := lopsL_len l (i + 1) (fun y hy => h y (List.mem_cons_of_mem _ hy)) (by omega)
  rw [lopsL, lopsP, List.length_append, List.length_append, List.length_cons]
  omega
theorem lopP_head (i : Nat) (x : Lop) (r : List Pc) : seesB [125] (lopP i x ++ r) = false := by
 obtain ⟨d, b⟩ := x
 cases b <;> rfl
theorem lops_parse (r : List Pc) : ∀ (l : List Lop) (i m : Nat) (acc : List Sm), stmtsR (m + l.length + 40) (0 + 1) acc (lopsP i l ++ r) = stmtsR (m + 40) (0 + 1) (acc ++ lopsS i l) r
 | [], i, m, acc => by simp [lopsP, lopsS]
 | x :: l, i, m, acc => by
  have e : stmtsR (m + (x :: l).length + 40) (0 + 1) acc (lopsP i (x :: l) ++ r) = match stmtR (m + l.length + 40) (0 + 1) (lopP i x ++ (lopsP (i + 1) l ++ r)) with
   | .error e => .error e
   | .ok (x, p1) => stmtsR (m + l.length + 40) (0 + 1) (acc ++ [x]) p1 := by
   rw [show m + (x :: l).length + 40 = (m + l.length + 40) + 1 by rw [List.length_cons]; omega, lopsP, List.append_assoc]
   conv => lhs; unfold stmtsR
   rw [lopP_head]
   rfl
  rw [e, show m + l.length + 40 = (m + l.length + 10) + 30 by omega, lop_parse]
  simp only
  rw [show m + l.length + 10 + 30 = m + l.length + 40 by omega, lops_parse r l (i + 1) m (acc ++ [lopS i x]), lopsS, List.append_assoc]
  rfl
def lHead : List UInt8 := [66, 69, 71, 73, 78, 32, 123, 32]
def lTail : List UInt8 := [102, 111, 114, 32, 40, 107, 32, 105, 110, 32, 97, 41, 32, 123, 32, 112, 114, 105, 110, 116, 32, 107, 44, 32, 97, 91, 107, 93, 59, 32, 125, 32, 112, 114, 105, 110, 116, 32, 34, 107, 51, 34, 32, 105, 110, 32, 97, 44, 32, 97, 91, 34, 110, 111, 110, 101, 34, 93, 59, 32, 125]
def lTailP : List Pc := [pW [102, 111, 114], pS [40], pW [107], pW [105, 110], pW [97], pS [41], pS [123], pW [112, 114, 105, 110, 116], pW [107], pS [44], pW [97], pS [91], pW [107], pS [93], pS [59], pS [125], pW [112, 114, 105, 110, 116], pT [107, 51], pW [105, 110], pW [97], pS [44], pW [97], pS [91], pT [110, 111, 110, 101], pS [93], pS [59], pS [125]]
def kEs : List Ex := [.mk 3 0 nK [], .mk 5 0 nA [.mk 3 0 nK []]]
def eEs : List Ex := [.mk 9 0 nA [.mk 2 0 ⟨#[107, 51]⟩ []], .mk 5 0 nA [.mk 2 0 ⟨#[110, 111, 110, 101]⟩ []]]
def forS : Sm := .mk 7 nK nA [] [.mk 4 ⟨#[]⟩ ⟨#[]⟩ kEs [] []] []
def lasS : Sm := .mk 4 ⟨#[]⟩ ⟨#[]⟩ eEs [] []
def lSrc (l : List Lop) : List UInt8 := lHead ++ lopsL 0 l ++ lTail
def lPrg (l : List Lop) : List Ru := [⟨0, false, nil0, lopsS 0 l ++ [forS, lasS]⟩]
theorem head_cut : CutsTo lHead [pW [66, 69, 71, 73, 78], pS [123]] := CutsTo.range (n := 1) (s := fun _ => lHead) (ps := fun _ => [pW [66, 69, 71, 73, 78], pS [123]]) (v := 0) (by kernel_rfl) (by decide)
theorem tail_cut : CutsTo lTail lTailP := CutsTo.range (n := 1) (s := fun _ => lTail) (ps := fun _ => lTailP) (v := 0) (by kernel_rfl) (by decide)
theorem tail_parse (m : Nat) (acc : List Sm) : stmtsR (m + 40) (0 + 1) acc lTailP = .ok (acc ++ [forS] ++ [lasS], []) := by kernel_rfl
theorem list_parse (l : List Lop) (m : Nat) (j : Nat) : rulesR (m + l.length + 41) (j + 2) [] ([pW [66, 69, 71, 73, 78], pS [123]] ++ lopsP 0 l ++ lTailP) = .ok (lPrg l) := by
 have h := lops_parse lTailP l 0 m []
 rw [List.nil_append, tail_parse, List.append_assoc] at h
 have e1 : ruleR (m + l.length + 41) 0 ([pW [66, 69, 71, 73, 78], pS [123]] ++ lopsP 0 l ++ lTailP) = (match stmtsR (m + l.length + 40) (0 + 1) [] (lopsP 0 l ++ lTailP) with
  | .error e => (Except.error e : Rd Ru)
  | .ok (b, p1) => Except.ok (⟨0, false, leafE 0 0 [] [], b⟩, p1)) := by kernel_rfl
 have e2 : rulesR (m + l.length + 41) (j + 2) [] ([pW [66, 69, 71, 73, 78], pS [123]] ++ lopsP 0 l ++ lTailP) = (match ruleR (m + l.length + 41) 0 ([pW [66, 69, 71, 73, 78], pS [123]] ++ lopsP 0 l ++ lTailP) with
  | .error e => (Except.error e : Except Int (List Ru))
  | .ok (x, p1) => rulesR (m + l.length + 41) (j + 1) ([] ++ [x]) p1) := rfl
 rw [e2, e1, h]
 rfl
structure StA (N : Int) (st : St) : Prop where
 a : st.nm nA = 0 \/ st.nm nA = 2
 k : st.nm nK = 0
 n : st.nodes <= N
theorem nA_name : nameB nA = true := by kernel_rfl
theorem nK_name : nameB nK = true := by kernel_rfl
theorem nKA : ¬ nK = nA := by decide
theorem nameR_a {st : St} (h : st.nm nA = 0 \/ st.nm nA = 2) : ∃ st', nameR nA 2 st = .ok st' /\ st'.nm nA = 2 /\ st'.nm nK = st.nm nK /\ st'.nodes = st.nodes := by
 unfold nameR
 rw [nA_name, if_neg (by decide)]
 rcases h with h | h
 . rw [if_pos h]
   refine ⟨_, rfl, ?_, ?_, rfl⟩
   . show (if nA = nA then (2 : Int) else st.nm nA) = 2
     rw [if_pos rfl]
   . show (if nK = nA then (2 : Int) else st.nm nK) = _
     rw [if_neg nKA]
 . rw [if_neg (by rw [h]; decide), if_pos h]
   exact ⟨_, rfl, h, rfl, rfl⟩
theorem partR_ok {st : St} {d : Int} (hd : d <= 20) (hn : st.nodes + 1 <= 4000) : partR d st = .ok ⟨st.nm, st.nodes + 1⟩ := by
 unfold partR
 rw [if_neg (by omega)]
theorem ckE_txt {m : Nat} {s : ByteArray} {d : Int} {st : St} (hs : s.size <= 200) (hd : d <= 20) (hn : st.nodes + 1 <= 4000) : ckE (m + 1) (.mk 2 0 s []) d st = .ok ⟨st.nm, st.nodes + 1⟩ := by
 conv => lhs; unfold ckE
 rw [partR_ok hd hn]
 have e : partsE 2 0 s ([] : List Ex).length = true := by simp [partsE, argsN]
 simp only [e, textsE, if_pos, runL]
 rw [if_neg (by decide), if_neg (by decide), if_neg (by omega)]
 simp
theorem ckE_nat {m : Nat} {n : Int} {d : Int} {st : St} (h0 : 0 <= n) (h1 : n <= 1000) (hd : d <= 20) (hn : st.nodes + 1 <= 4000) : ckE (m + 1) (.mk 1 n ⟨#[]⟩ []) d st = .ok ⟨st.nm, st.nodes + 1⟩ := by
 conv => lhs; unfold ckE
 rw [partR_ok hd hn]
 have e : partsE 1 n ⟨#[]⟩ ([] : List Ex).length = true := by simp [partsE, argsN]
 have e2 : ∀ st, textsE 1 ⟨#[]⟩ st = .ok st := fun st => by kernel_rfl
 simp only [e, e2, runL]
 rw [if_neg (by decide), if_neg (by decide), if_neg (by omega)]
theorem key_size {d : Nat} (hd : d < 8) : (bs (keyL d)).size <= 200 := by
 have := itoa_le d (by omega)
 rw [bs_size]
 simp only [keyL, List.length_append, List.length_cons, List.length_nil]
 omega
theorem lop_ck {m i : Nat} {x : Lop} {N : Int} {st : St} (hd : x.1 < 8) (hi : i < 20) (hN : N <= 3000) (h : StA N st) : ∃ st', ckS 0 (m + 3) (lopS i x) 1 st = .ok st' /\ StA (N + 3) st' := by
 obtain ⟨d, b⟩ := x
 have hn := h.n
 have ht : ∀ (k : Int) st, k = 2 \/ k = 9 -> textsS 0 k nA ⟨#[]⟩ st = match nameR nA 2 st with
  | .error e => .error e
  | .ok st1 => .ok st1 := by
  intro k st hk
  rcases hk with rfl | rfl
  . have e1 : textsS1 2 nA st = nameR nA 2 st := rfl
    unfold textsS
    rw [e1]
    cases nameR nA 2 st <;> rfl
  . have e1 : textsS1 9 nA st = nameR nA 2 st := rfl
    unfold textsS
    rw [e1]
    cases nameR nA 2 st <;> rfl
 obtain ⟨st1, a1, a2, a3, a4⟩ := nameR_a (st := ⟨st.nm, st.nodes + 1⟩) h.a
 simp only at a3 a4
 cases b with
 | true =>
  refine ⟨⟨st1.nm, st1.nodes + 1⟩, ?_, .inr a2, a3.trans h.k, by show st1.nodes + 1 <= _; omega⟩
  show ckS 0 (m + 2 + 1) (.mk 9 nA ⟨#[]⟩ [.mk 2 0 (bs (keyL d)) []] [] []) 1 st = _
  conv => lhs; unfold ckS
  rw [partR_ok (by decide) (by omega)]
  simp only [ht 9 _ (.inr rfl), a1, runL, ckE_txt (key_size hd) (show (1 : Int) + 1 <= 20 by decide) (show st1.nodes + 1 <= 4000 by omega)]
  rfl
 | false =>
  refine ⟨⟨st1.nm, st1.nodes + 1 + 1⟩, ?_, .inr a2, a3.trans h.k, by show st1.nodes + 1 + 1 <= _; omega⟩
  show ckS 0 (m + 2 + 1) (.mk 2 nA ⟨#[]⟩ [.mk 2 0 (bs (keyL d)) [], .mk 1 (i : Int) ⟨#[]⟩ []] [] []) 1 st = _
  conv => lhs; unfold ckS
  rw [partR_ok (by decide) (by omega)]
  simp only [ht 2 _ (.inl rfl), a1, runL, ckE_txt (key_size hd) (show (1 : Int) + 1 <= 20 by decide) (show st1.nodes + 1 <= 4000 by omega), ckE_nat (m := m + 1) (st := ⟨st1.nm, st1.nodes + 1⟩) (show (0 : Int) <= (i : Int) by omega) (show (i : Int) <= 1000 by omega) (show (1 : Int) + 1 <= 20 by decide) (show st1.nodes + 1 + 1 <= 4000 by omega)]
  rfl
structure StB (N : Int) (st : St) : Prop where
 a : st.nm nA = 2
 k : st.nm nK = 1
 n : st.nodes <= N
theorem StB.up {N M : Int} {st : St} (h : StB N st) (hM : st.nodes + 1 <= M) : StB M ⟨st.nm, st.nodes + 1⟩ := ⟨h.a, h.k, hM⟩
theorem nameB_a {N : Int} {st : St} (h : StB N st) : nameR nA 2 st = .ok st := by
 unfold nameR
 rw [nA_name, if_neg (by decide), if_neg (by rw [h.a]; decide), if_pos h.a]
theorem nameB_k {N : Int} {st : St} (h : StB N st) : nameR nK 1 st = .ok st := by
 unfold nameR
 rw [nK_name, if_neg (by decide), if_neg (by rw [h.k]; decide), if_pos h.k]
theorem ckE_k {m : Nat} {d N : Int} {st : St} (h : StB N st) (hd : d <= 20) (hn : N <= 3000) : ckE (m + 1) (.mk 3 0 nK []) d st = .ok ⟨st.nm, st.nodes + 1⟩ := by
 have hs := h.n
 conv => lhs; unfold ckE
 rw [partR_ok hd (by omega)]
 have e : partsE 3 0 nK ([] : List Ex).length = true := by kernel_rfl
 have e2 : textsE 3 nK ⟨st.nm, st.nodes + 1⟩ = .ok ⟨st.nm, st.nodes + 1⟩ := nameB_k (h.up (Int.le_refl _))
 simp only [e, e2, runL]
 rfl
theorem ckE_a {m : Nat} {k d N : Int} {st : St} {x : Ex} (hk : k = 5 \/ k = 9) (h : StB N st) (hd : d <= 20) (hn : N <= 3000) : ckE (m + 1) (.mk k 0 nA [x]) d st = match ckE m x (d + 1) ⟨st.nm, st.nodes + 1⟩ with
 | .error e => .error e
 | .ok st1 => .ok st1 := by
 have hs := h.n
 conv => lhs; unfold ckE
 rw [partR_ok hd (by omega)]
 have e2 : textsE k nA ⟨st.nm, st.nodes + 1⟩ = .ok ⟨st.nm, st.nodes + 1⟩ := by
  have := nameB_a (h.up (Int.le_refl _))
  rcases hk with rfl | rfl <;> exact this
 have e : partsE k 0 nA [x].length = true := by rcases hk with rfl | rfl <;> kernel_rfl
 simp only [e, e2, runL]
 rcases hk with rfl | rfl <;> rfl
theorem ckS_two {m : Nat} {N : Int} {st : St} {x y : Ex} {d : Int} {st1 st2 : St} (hd : d <= 10) (hs : st.nodes + 1 <= 4000) (h1 : ckE m x (d + 1) ⟨st.nm, st.nodes + 1⟩ = .ok st1) (h2 : ckE m y (d + 1) st1 = .ok st2) : ckS 0 (m + 1) (.mk 4 ⟨#[]⟩ ⟨#[]⟩ [x, y] [] []) d st = .ok st2 := by
 conv => lhs; unfold ckS
 rw [partR_ok (by omega) hs]
 have e2 : ∀ st, textsS 0 4 ⟨#[]⟩ ⟨#[]⟩ st = .ok st := fun st => by kernel_rfl
 simp only [e2, runL, h1, h2]
 rfl
theorem tail_ck {m : Nat} {st : St} (h : StA 200 st) : ∃ st', runL (fun x => ckS 0 (m + 6) x 1) [forS, lasS] st = .ok st' := by
 have hn := h.n
 obtain ⟨s1, hs1⟩ : ∃ s1 : St, s1 = ⟨fun t => if t = nK then 1 else st.nm t, st.nodes + 1⟩ := ⟨_, rfl⟩
 have e1 : nameR nK 1 ⟨st.nm, st.nodes + 1⟩ = .ok s1 := by
  unfold nameR
  rw [nK_name, if_neg (by decide), if_pos h.k, hs1]
 have ha1 : s1.nm nA = 0 \/ s1.nm nA = 2 := by
  rw [hs1]
  show (if nA = nK then (1 : Int) else st.nm nA) = 0 \/ (if nA = nK then (1 : Int) else st.nm nA) = 2
  rw [if_neg (fun e => nKA e.symm)]
  exact h.a
 have hk1 : s1.nm nK = 1 := by
  rw [hs1]
  show (if nK = nK then (1 : Int) else st.nm nK) = 1
  rw [if_pos rfl]
 obtain ⟨s2, a1, a2, a3, a4⟩ := nameR_a ha1
 have hn2 : s2.nodes <= 201 := by rw [a4, hs1]; show st.nodes + 1 <= 201; omega
 have hB : StB 201 s2 := ⟨a2, a3.trans hk1, hn2⟩
 have hB1 : StB 202 ⟨s2.nm, s2.nodes + 1⟩ := hB.up (by omega)
 have hB2 : StB 203 ⟨s2.nm, s2.nodes + 1 + 1⟩ := hB1.up (st := ⟨s2.nm, s2.nodes + 1⟩) (by show s2.nodes + 1 + 1 <= 203; omega)
 have hB3 : StB 204 ⟨s2.nm, s2.nodes + 1 + 1 + 1⟩ := hB2.up (st := ⟨s2.nm, s2.nodes + 1 + 1⟩) (by show s2.nodes + 1 + 1 + 1 <= 204; omega)
 have p1 : ckS 0 (m + 5) (.mk 4 ⟨#[]⟩ ⟨#[]⟩ kEs [] []) (1 + 1) s2 = .ok ⟨s2.nm, s2.nodes + 1 + 1 + 1 + 1⟩ :=
  ckS_two (N := 0) (by decide) (by omega) (ckE_k (m := m + 3) hB1 (by decide) (by decide)) (by
   rw [ckE_a (m := m + 3) (.inl rfl) hB2 (by decide) (by decide), ckE_k (m := m + 2) hB3 (by decide) (by decide)])
 have f1 : ckS 0 (m + 6) forS 1 st = .ok ⟨s2.nm, s2.nodes + 1 + 1 + 1 + 1⟩ := by
  show ckS 0 (m + 5 + 1) (.mk 7 nK nA [] [.mk 4 ⟨#[]⟩ ⟨#[]⟩ kEs [] []] []) 1 st = _
  conv => lhs; unfold ckS
  rw [partR_ok (by decide) (by omega)]
  have e2 : textsS 0 7 nK nA ⟨st.nm, st.nodes + 1⟩ = .ok s2 := by
   have q1 : textsS1 7 nK ⟨st.nm, st.nodes + 1⟩ = nameR nK 1 ⟨st.nm, st.nodes + 1⟩ := rfl
   unfold textsS
   rw [q1, e1]
   show nameR nA 2 s1 = _
   exact a1
  simp only [e2, runL, p1]
  rfl
 obtain ⟨s3, hs3⟩ : ∃ s3 : St, s3 = ⟨s2.nm, s2.nodes + 1 + 1 + 1 + 1⟩ := ⟨_, rfl⟩
 have hC : StB 205 s3 := by rw [hs3]; exact hB3.up (st := ⟨s2.nm, s2.nodes + 1 + 1 + 1⟩) (by show s2.nodes + 1 + 1 + 1 + 1 <= 205; omega)
 have hn3 := hC.n
 have hC1 : StB 206 ⟨s3.nm, s3.nodes + 1⟩ := hC.up (by omega)
 have hC3 : StB 208 ⟨s3.nm, s3.nodes + 1 + 1 + 1⟩ := ⟨hC.a, hC.k, by show s3.nodes + 1 + 1 + 1 <= 208; omega⟩
 rw [<- hs3] at f1
 refine ⟨⟨s3.nm, s3.nodes + 1 + 1 + 1 + 1 + 1⟩, ?_⟩
 have f2 : ckS 0 (m + 6) lasS 1 s3 = .ok ⟨s3.nm, s3.nodes + 1 + 1 + 1 + 1 + 1⟩ :=
  ckS_two (N := 0) (m := m + 5) (st1 := ⟨s3.nm, s3.nodes + 1 + 1 + 1⟩) (by decide) (by omega) (by
   rw [ckE_a (m := m + 4) (.inr rfl) hC1 (by decide) (by decide), ckE_txt (m := m + 3) (by decide) (by decide) (by show s3.nodes + 1 + 1 + 1 <= 4000; omega)]) (by
   rw [ckE_a (m := m + 4) (.inl rfl) hC3 (by decide) (by decide), ckE_txt (m := m + 3) (by decide) (by decide) (by show s3.nodes + 1 + 1 + 1 + 1 + 1 <= 4000; omega)])
 simp only [runL, f1, f2]
theorem lops_ck {m : Nat} : ∀ (l : List Lop) (i : Nat) (N : Int) (st : St), (∀ x ∈ l, x.1 < 8) -> i + l.length <= 20 -> N + 3 * l.length <= 200 -> StA N st -> ∃ st', runL (fun x => ckS 0 (m + 6) x 1) (lopsS i l ++ [forS, lasS]) st = .ok st'
 | [], i, N, st, _, _, hN, h => tail_ck ⟨h.a, h.k, by have := h.n; simp at hN; omega⟩
 | x :: l, i, N, st, hd, hi, hN, h => by
  simp only [List.length_cons, Int.natCast_add] at hi hN
  obtain ⟨st1, h1, h2⟩ := lop_ck (m := m + 3) (i := i) (hd x (List.mem_cons_self ..)) (by omega) (by omega) h
  obtain ⟨st2, h3⟩ := lops_ck (m := m) l (i + 1) (N + 3) st1 (fun y hy => hd y (List.mem_cons_of_mem _ hy)) (by omega) (by omega) h2
  refine ⟨st2, ?_⟩
  show (match ckS 0 (m + 6) (lopS i x) 1 st with
   | .error e => (Except.error e : Res)
   | .ok st' => runL (fun x => ckS 0 (m + 6) x 1) (lopsS (i + 1) l ++ [forS, lasS]) st') = _
  rw [h1]
  exact h3
theorem list_ck (m : Nat) (l : List Lop) (hd : ∀ x ∈ l, x.1 < 8) (hl : l.length <= 20) : ckP (m + 6) (lPrg l) = 0 := by
 obtain ⟨st, h⟩ := lops_ck (m := m) l 0 0 ⟨fun _ => 0, 0⟩ hd (by omega) (by omega) ⟨.inl rfl, rfl, Int.le_refl _⟩
 have e : ckR (m + 6) ⟨0, false, nil0, lopsS 0 l ++ [forS, lasS]⟩ ⟨fun _ => 0, 0⟩ = runL (fun x => ckS 0 (m + 6) x 1) (lopsS 0 l ++ [forS, lasS]) ⟨fun _ => 0, 0⟩ := rfl
 unfold ckP lPrg
 rw [if_neg (by simp)]
 simp only [runL]
 rw [e, h]
theorem list_read (l : List Lop) (hd : ∀ x ∈ l, x.1 < 8) (hl : l.length <= 20) : readR (lSrc l) = .ok (lPrg l) := by
 have h1 : CutsTo (lSrc l) ([pW [66, 69, 71, 73, 78], pS [123]] ++ lopsP 0 l ++ lTailP) := (head_cut.app (lops_cut l 0 hd (by omega))).app tail_cut
 have h2 := lopsL_len l 0 hd (by omega)
 have h3 : (lSrc l).length = 8 + (lopsL 0 l).length + 61 := by simp only [lSrc, List.length_append]; rfl
 have h4 : ([pW [66, 69, 71, 73, 78], pS [123]] ++ lopsP 0 l ++ lTailP).length = 2 + (lopsP 0 l).length + 27 := by simp only [List.length_append]; rfl
 have h5 : ∀ (l : List Lop) (i : Nat), l.length <= (lopsP i l).length := by
  intro l
  induction l with
  | nil => intro i; exact Nat.le_refl _
  | cons x l ih =>
   intro i
   have h6 : 1 <= (lopP i x).length := by unfold lopP; split <;> simp
   have := ih (i + 1)
   rw [lopsP, List.length_append, List.length_cons]
   omega
 have h6 := h5 l 0
 have hc := h1.all (by omega)
 obtain ⟨m, hm⟩ : ∃ m, 20 * ([pW [66, 69, 71, 73, 78], pS [123]] ++ lopsP 0 l ++ lTailP).length + 40 = m + l.length + 41 := ⟨20 * ([pW [66, 69, 71, 73, 78], pS [123]] ++ lopsP 0 l ++ lTailP).length + 40 - l.length - 41, by omega⟩
 refine read_of (by omega) hc ?_ ?_
 . rw [hm, show ([pW [66, 69, 71, 73, 78], pS [123]] ++ lopsP 0 l ++ lTailP).length + 1 = (([pW [66, 69, 71, 73, 78], pS [123]] ++ lopsP 0 l ++ lTailP).length - 1) + 2 by omega]
   exact list_parse l m _
 . rw [hm]
   exact list_ck (m + l.length + 35) l hd hl
end Go.Proofs.YtffnilcihneniaaGreatDoor
