/-
  Files, lines and rows that a statement makes, in memory.
-/
import Derived.Test.YtoaidkbcoifopaaGreatDoorKrB
import Derived.Test.YtoaidkbcoifopaaGreatDoorBadSpec
import Derived.Test.YtoaidkbcoifopaaGreatDoorLoose
import Derived.Laws.OwnMore
namespace Go.Proofs.YtoaidkbcoifopaaGreatDoor
open Go.ChangeShapes Go.WideShapes Go.ChangeAt Go.RowKit Go.Joins
set_option linter.unusedVariables false
set_option linter.unusedSimpArgs false
set_option maxRecDepth 100000
theorem FlL.up {w : World} {B B' : Nat} {v : Value} {F : List Fl} (h : FlL w B v F) (hB : B <= B') : FlL w B' v F := ⟨h.1, Sl.up h.2 hB fun i c ⟨x, hx, u, h1, h2, h3⟩ => ⟨x, hx, u, h1, h2, h3.up hB⟩⟩
def FlsA (w : World) (v : Value) (F : List Fl) : Prop := FlL w w.heap.size v F
theorem FlsA.stays {w w' : World} {v : Value} {F : List Fl} (h : FlsA w v F) (hb : Below w.heap.size w w') : FlsA w' v F := (FlL.below h hb).up hb.size
theorem txNil (w : World) (B : Nat) : TxL w B (.slice none 0 0) [] := ⟨none, 0, rfl, Nat.zero_le _, fun h => absurd h (by simp)⟩
theorem up_alloc (w : World) (o : Obj) : Below w.heap.size w (w.alloc o) := (Below.refl _ _).alloc (Nat.le_refl _) o
theorem sl_new {w : World} {cs : Array Value} {t sz n cap : Nat} {E : Nat -> List Value -> Prop} (hn : n <= maxLen) (h : ∀ i, i < n -> ∃ l : List Value, l.length = sz /\ (∀ j, j < sz -> cs[i * sz + j]? = l[j]?) /\ E i l) : Sl (w.alloc (.cells cs t)) (w.alloc (.cells cs t)).heap.size sz (.slice (some ⟨w.heap.size, 0, none⟩) n cap) n E :=
  ⟨_, cap, rfl, hn, fun _ => ⟨w.heap.size, 0, rfl, by simp, fun i hi => let ⟨l, h1, h2, h3⟩ := h i hi; ⟨l, h1, fun j hj => by rw [<- h2 j hj, Nat.zero_add]; exact (RowAt.new w cs t).cell _, h3⟩⟩⟩
theorem made_cell (z : Array Value) (n i j : Nat) (hi : i < n) (hj : j < z.size) : (madeCells z (n * z.size))[i * z.size + j]? = z[j]? := by
  have h1 : i * z.size + j < n * z.size := by
    have : (i + 1) * z.size <= n * z.size := Nat.mul_le_mul_right _ hi
    rw [Nat.add_mul] at this
    omega
  have h2 : (i * z.size + j) % z.size = j := by
    rw [Nat.add_comm, Nat.mul_comm, Nat.add_mul_mod_self_left]
    exact Nat.mod_eq_of_lt hj
  unfold madeCells
  rw [Array.getElem?_map, Array.getElem?_range, if_pos h1]
  simp only [Option.map_some, h2]
  rw [Array.getElem?_eq_getElem hj, getElem!_pos z j hj]
theorem new_texts {w : World} {n t : Nat} (hn : n <= 1000) : TxsA (w.alloc (.cells (madeCells #[.string ⟨#[]⟩] (n * 1)) t)) (.slice (some ⟨w.heap.size, 0, none⟩) n n) (List.replicate n txN) := by
  have h := sl_new (w := w) (cs := madeCells #[.string ⟨#[]⟩] (n * 1)) (t := t) (sz := 1) (n := n) (cap := n) (E := fun i c => ∃ s, (List.replicate n txN)[i]? = some s /\ TxA c s) (by unfold maxLen; omega) fun i hi => ⟨[.string txN], rfl, fun j hj => by
    exact (made_cell #[.string ⟨#[]⟩] n i j hi hj).trans (by simp [txN]), txN, by simp [hi], rfl, by decide⟩
  unfold TxsA TxL
  rw [List.length_replicate]
  exact h
theorem new_text {w : World} {t : Nat} {s : ByteArray} (hs : s.size <= maxLen) : TxsA (w.alloc (.cells #[.string s] t)) (.slice (some ⟨w.heap.size, 0, none⟩) 1 1) [s] := by
  refine sl_new (n := 1) (by decide) fun i hi => ?_
  obtain rfl : i = 0 := by omega
  refine ⟨[.string s], rfl, fun j hj => ?_, s, rfl, rfl, hs⟩
  obtain rfl : j = 0 := by omega
  rfl
theorem new_files {w : World} {n t : Nat} (hn : n <= 1000) : FlsA (w.alloc (.cells (madeCells #[.string ⟨#[]⟩, .slice none 0 0] (n * 2)) t)) (.slice (some ⟨w.heap.size, 0, none⟩) n n) (List.replicate n ⟨txN, []⟩) := by
  have h := sl_new (w := w) (cs := madeCells #[.string ⟨#[]⟩, .slice none 0 0] (n * 2)) (t := t) (sz := 2) (n := n) (cap := n) (E := fun i c => ∃ x, (List.replicate n (⟨txN, []⟩ : Fl))[i]? = some x /\ FlA (w.alloc (.cells (madeCells #[.string ⟨#[]⟩, .slice none 0 0] (n * 2)) t)).heap.size (w.alloc (.cells (madeCells #[.string ⟨#[]⟩, .slice none 0 0] (n * 2)) t)) c x) (by unfold maxLen; omega) fun i hi => ⟨[.string txN, .slice none 0 0], rfl, fun j hj => by
    exact (made_cell #[.string ⟨#[]⟩, .slice none 0 0] n i j hi hj).trans (by simp [txN]), ⟨txN, []⟩, by simp [hi], .slice none 0 0, rfl, by decide, txNil _ _⟩
  unfold FlsA FlL
  rw [List.length_replicate]
  exact ⟨⟨_, _, _, rfl, Nat.le_refl _⟩, h⟩
theorem new_file {w : World} {t : Nat} {u : Value} {l : List ByteArray} (hu : TxsA w u l) : FlsA (w.alloc (.cells #[.string txN, u] t)) (.slice (some ⟨w.heap.size, 0, none⟩) 1 1) [⟨txN, l⟩] := by
  refine ⟨⟨_, _, _, rfl, Nat.le_refl _⟩, sl_new (n := 1) (by decide) fun i hi => ?_⟩
  obtain rfl : i = 0 := by omega
  refine ⟨[.string txN, u], rfl, fun j hj => ?_, ⟨txN, l⟩, rfl, u, rfl, (by decide : txN.size <= maxLen), hu.stays (up_alloc _ _)⟩
  match j, hj with
  | 0, _ => rfl
  | 1, _ => rfl
theorem new_two {w : World} {t : Nat} {s : ByteArray} (hs : s.size <= maxLen) : FlsA (w.alloc (.cells #[.string s, .slice none 0 0, .string s, .slice none 0 0] t)) (.slice (some ⟨w.heap.size, 0, none⟩) 2 2) [⟨s, []⟩, ⟨s, []⟩] := by
  refine ⟨⟨_, _, _, rfl, Nat.le_refl _⟩, sl_new (n := 2) (by decide) fun i hi => ⟨[.string s, .slice none 0 0], rfl, fun j hj => ?_, ⟨s, []⟩, ?_, .slice none 0 0, rfl, hs, txNil _ _⟩⟩
  . match i, j, hi, hj with
    | 0, 0, _, _ => rfl
    | 0, 1, _, _ => rfl
    | 1, 0, _, _ => rfl
    | 1, 1, _, _ => rfl
  . match i, hi with
    | 0, _ => rfl
    | 1, _ => rfl
theorem info_of {P : Program} {e sz b : Nat} {z : Value} (h : (P.info? e).map (fun i => (i.size, i.bytes, i.zero)) = some (sz, b, some z)) : ∃ i, P.info? e = some i /\ i.size = sz /\ i.bytes = b /\ i.zero = some z := by
  cases hi : P.info? e with
  | none => rw [hi] at h; cases h
  | some i =>
    rw [hi] at h
    simp only [Option.map_some, Option.some.injEq, Prod.mk.injEq] at h
    exact ⟨i, rfl, h.1, h.2.1, h.2.2⟩
theorem run_files (w : World) (n : Nat) (hn : n <= 1000) : (Instr.makeSlice 30 (.int .i64 (n : Int)) (.int .i64 (n : Int))).run Tryz.prog w = .ok (.slice (some ⟨w.heap.size, 0, none⟩) n n) (w.alloc (.cells (madeCells #[.string ⟨#[]⟩, .slice none 0 0] (n * 2)) 33)) := by
  obtain ⟨i, h1, h2, h3, h4⟩ := info_of (P := Tryz.prog) (e := 33) (sz := 2) (b := 40) (z := .agg #[.string ⟨#[]⟩, .slice none 0 0]) (by kernel_rfl)
  have h := run_makeSlice (P := Tryz.prog) w 30 33 i _ Tryz.underlying30 h1 h4 .i64 .i64 n n (by omega) (by omega) (by rw [h2]; omega) (by rw [h3]; omega) (by omega)
  rw [h2] at h
  simpa [Value.cells] using h
theorem run_texts (w : World) (n : Nat) (hn : n <= 1000) : (Instr.makeSlice 31 (.int .i64 (n : Int)) (.int .i64 (n : Int))).run Tryz.prog w = .ok (.slice (some ⟨w.heap.size, 0, none⟩) n n) (w.alloc (.cells (madeCells #[.string ⟨#[]⟩] (n * 1)) 9)) := by
  obtain ⟨i, h1, h2, h3, h4⟩ := info_of (P := Tryz.prog) (e := 9) (sz := 1) (b := 16) (z := .string ⟨#[]⟩) (by kernel_rfl)
  have h := run_makeSlice (P := Tryz.prog) w 31 9 i _ Tryz.underlying31 h1 h4 .i64 .i64 n n (by omega) (by omega) (by rw [h2]; omega) (by rw [h3]; omega) (by omega)
  rw [h2] at h
  simpa [Value.cells] using h
theorem run_text (w : World) (s : ByteArray) : (Instr.buildSlice 31 1 #[(0, .string s)]).run Tryz.prog w = .ok (.slice (some ⟨w.heap.size, 0, none⟩) 1 1) (w.alloc (.cells #[.string s] 9)) := by
  simp [go_sem]
theorem run_file (w : World) (u : Value) : (Instr.buildSlice 30 1 #[(0, .agg #[.string txN, u])]).run Tryz.prog w = .ok (.slice (some ⟨w.heap.size, 0, none⟩) 1 1) (w.alloc (.cells #[.string txN, u] 33)) := by
  simp [go_sem]
theorem run_two (w : World) (s : ByteArray) : (Instr.buildSlice 30 2 #[(0, .agg #[.string s, .slice none 0 0]), (1, .agg #[.string s, .slice none 0 0])]).run Tryz.prog w = .ok (.slice (some ⟨w.heap.size, 0, none⟩) 2 2) (w.alloc (.cells #[.string s, .slice none 0 0, .string s, .slice none 0 0] 33)) := by
  simp [go_sem]
theorem run_odd (w : World) {v0 v1 v2 v3 v4 : Value} (h0 : ∃ a l c, v0 = .slice a l c) (h1 : ∃ a l c, v1 = .slice a l c) (h2 : ∃ a l c, v2 = .slice a l c) (h3 : ∃ a l c, v3 = .slice a l c) (h4 : ∃ a l c, v4 = .slice a l c) : (Instr.buildSlice 34 5 #[(0, v0), (1, v1), (2, v2), (3, v3), (4, v4)]).run Tryz.prog w = .ok (.slice (some ⟨w.heap.size, 0, none⟩) 5 5) (w.alloc (.cells #[v0, v1, v2, v3, v4] 30)) := by
  obtain ⟨_, _, _, rfl⟩ := h0
  obtain ⟨_, _, _, rfl⟩ := h1
  obtain ⟨_, _, _, rfl⟩ := h2
  obtain ⟨_, _, _, rfl⟩ := h3
  obtain ⟨_, _, _, rfl⟩ := h4
  simp [go_sem]
def OddA (K : Nat) (L : ByteArray) (w : World) (g : Nat) : Prop := g < w.heap.size /\ ∀ (i : Nat) (F : List Fl), (oddF K L)[i]? = some F -> ∃ a l c, w.cell? ⟨g, i, none⟩ = some (.slice a l c) /\ FlsA w (.slice a l c) F
theorem OddA.stays {K : Nat} {L : ByteArray} {w w' : World} {g : Nat} (h : OddA K L w g) (hb : Below w.heap.size w w') : OddA K L w' g :=
  ⟨Nat.lt_of_lt_of_le h.1 hb.size, fun i F hF => let ⟨a, l, c, h1, h2⟩ := h.2 i F hF; ⟨a, l, c, (hb.cell (p := ⟨g, i, none⟩) h.1).trans h1, h2.stays hb⟩⟩
theorem FlsA.sl {w : World} {v : Value} {F : List Fl} (h : FlsA w v F) : ∃ a l c, v = .slice a l c := let ⟨⟨a, l, c, h1, _⟩, _⟩ := h; ⟨a, l, c, h1⟩
theorem odd_new {K t : Nat} {L : ByteArray} {w : World} {v0 v1 v2 v3 v4 : Value} (h0 : FlsA w v0 (List.replicate (8 + K) ⟨txN, []⟩)) (h1 : FlsA w v1 [⟨⟨#[97]⟩, []⟩, ⟨⟨#[97]⟩, []⟩]) (h2 : FlsA w v2 [⟨txN, [L]⟩]) (h3 : FlsA w v3 [⟨txN, [⟨#[97, 10, 98]⟩]⟩]) (h4 : FlsA w v4 [⟨txN, List.replicate (100 + K) txN⟩]) :
    OddA K L (w.alloc (.cells #[v0, v1, v2, v3, v4] t)) w.heap.size := by
  refine ⟨by simp, fun i F hF => ?_⟩
  have key : ∀ (v : Value), FlsA w v F -> #[v0, v1, v2, v3, v4][i]? = some v -> ∃ a l c, (w.alloc (.cells #[v0, v1, v2, v3, v4] t)).cell? ⟨w.heap.size, i, none⟩ = some (.slice a l c) /\ FlsA (w.alloc (.cells #[v0, v1, v2, v3, v4] t)) (.slice a l c) F := fun v hv hc => by
    obtain ⟨a, l, c, rfl⟩ := hv.sl
    exact ⟨a, l, c, ((RowAt.new w _ t).cell i).trans hc, hv.stays (up_alloc _ _)⟩
  match i with
  | 0 => obtain rfl := Option.some.inj hF; exact key v0 h0 rfl
  | 1 => obtain rfl := Option.some.inj hF; exact key v1 h1 rfl
  | 2 => obtain rfl := Option.some.inj hF; exact key v2 h2 rfl
  | 3 => obtain rfl := Option.some.inj hF; exact key v3 h3 rfl
  | 4 => obtain rfl := Option.some.inj hF; exact key v4 h4 rfl
  | i + 5 => simp [oddF] at hF
def BadT (K : Nat) (L : ByteArray) (j : Nat) (v : Value) (w : World) : Prop := match j with
  | 0 => v = .int .i64 K
  | 1 => v = .int .i64 (8 + (K : Int))
  | 2 => FlsA w v (List.replicate (8 + K) ⟨txN, []⟩)
  | 3 => v = .agg #[.string ⟨#[97]⟩, .slice none 0 0]
  | 4 => v = .agg #[.string ⟨#[97]⟩, .slice none 0 0]
  | 5 => FlsA w v [⟨⟨#[97]⟩, []⟩, ⟨⟨#[97]⟩, []⟩]
  | 6 => v = .string L
  | 7 => TxsA w v [L]
  | 8 => ∃ u, v = .agg #[.string txN, u] /\ TxsA w u [L]
  | 9 => FlsA w v [⟨txN, [L]⟩]
  | 10 => TxsA w v [⟨#[97, 10, 98]⟩]
  | 11 => ∃ u, v = .agg #[.string txN, u] /\ TxsA w u [⟨#[97, 10, 98]⟩]
  | 12 => FlsA w v [⟨txN, [⟨#[97, 10, 98]⟩]⟩]
  | 13 => v = .int .i64 K
  | 14 => v = .int .i64 (100 + (K : Int))
  | 15 => TxsA w v (List.replicate (100 + K) txN)
  | 16 => ∃ u, v = .agg #[.string txN, u] /\ TxsA w u (List.replicate (100 + K) txN)
  | 17 => FlsA w v [⟨txN, List.replicate (100 + K) txN⟩]
  | _ => ∃ g, v = .slice (some ⟨g, 0, none⟩) 5 5 /\ OddA K L w g
theorem BadT.stays {K : Nat} {L : ByteArray} {j : Nat} {v : Value} {w w' : World} (h : BadT K L j v w) (hb : Below w.heap.size w w') : BadT K L j v w' := by
  unfold BadT at h ⊢
  split at h
  all_goals first
    | exact h
    | exact FlsA.stays h hb
    | exact TxsA.stays h hb
    | exact let ⟨u, h1, h2⟩ := h; ⟨u, h1, TxsA.stays h2 hb⟩
    | exact let ⟨g, h1, h2⟩ := h; ⟨g, h1, OddA.stays h2 hb⟩
section
variable {P : Program} {w : World} {o : Oper} {ρ : Operand -> Value}
theorem xbin {op : BinOp} {t q : Nat} {x y : Operand} {v1 v2 u : Value} (e : o.op = .binOp op t x y q) (hx : ρ x = v1) (hy : ρ y = v2) (hg : (eqGuard op t x y v1 v2).run P w = .ok () w) (h : (binOp op t v1 v2).run P w = .ok u w) : (execOp ρ o).run P w = .ok (.value u) w := ex_bin e (by rw [hx, hy]; exact hg) (by rw [hx, hy]; exact h)
theorem xmake {t : Nat} {x y : Operand} {v1 v2 u : Value} {w' : World} (e : o.op = .makeSlice t x y) (hx : ρ x = v1) (hy : ρ y = v2) (h : (Instr.makeSlice t v1 v2).run P w = .ok u w') : (execOp ρ o).run P w = .ok (.value u) w' := by
  have := oy_v h
  subst hx hy
  simpa [execOp, e] using this
theorem xrow {t n : Nat} {ps : Array (Nat × Operand)} {qs : Array (Nat × Value)} {u : Value} {w' : World} (e : o.op = .buildSlice t n ps) (hq : (ps.map fun p => (p.1, ρ p.2)) = qs) (h : (Instr.buildSlice t n qs).run P w = .ok u w') : (execOp ρ o).run P w = .ok (.value u) w' := ex_build e (by rw [hq]; exact h)
end
theorem run_agg1 (w : World) (s : ByteArray) : (Instr.build 33 #[(0, .string s)]).run Tryz.prog w = .ok (.agg #[.string s, .slice none 0 0]) w := by simp [go_sem]
theorem run_agg2 (w : World) {u : Value} {l : List ByteArray} {w0 : World} (hu : TxsA w0 u l) : (Instr.build 33 #[(1, u)]).run Tryz.prog w = .ok (.agg #[.string txN, u]) w := by
  obtain ⟨a, c, rfl, -⟩ := hu
  simp [go_sem, txN]
theorem run_plus (w : World) (c : Int) (K : Nat) (h0 : 0 <= c) (h1 : c <= 1000000) (hK : K <= 1000000) : (binOp .add 3 (.int .i64 c) (.int .i64 (K : Int))).run Tryz.prog w = .ok (.int .i64 (c + (K : Int))) w := by
  have hw : IntKind.i64.wrap (c + (K : Int)) = c + (K : Int) := by rw [IntKind.wrap_i64]; omega
  simp [go_sem, hw]
theorem new_bad {w : World} {K t : Nat} (hK : K <= 50) : PrgA (w.alloc (.cells #[.int .i64 (2 + (K : Int)), .bool false, .int .i64 0, .int .i64 0, .string ⟨#[]⟩, .slice none 0 0, .slice none 0 0] t)) (.slice (some ⟨w.heap.size, 0, none⟩) 1 1) (badP K) := by
  refine sl_new (n := 1) (by decide) fun i hi => ?_
  obtain rfl : i = 0 := by omega
  have hs : ∀ (B sz : Nat) (W : World) (E : Nat -> List Value -> Prop), Sl W B sz (.slice none 0 0) 0 E := fun B sz W E => ⟨none, 0, rfl, Nat.zero_le _, fun h => absurd h (by simp)⟩
  refine ⟨[.int .i64 (2 + (K : Int)), .bool false, .int .i64 0, .int .i64 0, .string ⟨#[]⟩, .slice none 0 0, .slice none 0 0], rfl, fun j hj => by rw [Nat.zero_mul, Nat.zero_add]; exact (List.getElem?_toArray ..), ⟨2 + (K : Int), false, .mk 0 0 ⟨#[]⟩ [], []⟩, rfl, .int .i64 0, .int .i64 0, .string ⟨#[]⟩, .slice none 0 0, .slice none 0 0, rfl, ?_, ⟨.slice none 0 0, rfl, by decide, by decide, by decide, hs _ _ _ _⟩, hs _ _ _ _⟩
  show (decide (-9223372036854775808 <= 2 + (K : Int)) && decide (2 + (K : Int) <= 9223372036854775807)) = true
  rw [decide_eq_true (by omega), decide_eq_true (by omega)]
  rfl
end Go.Proofs.YtoaidkbcoifopaaGreatDoor
