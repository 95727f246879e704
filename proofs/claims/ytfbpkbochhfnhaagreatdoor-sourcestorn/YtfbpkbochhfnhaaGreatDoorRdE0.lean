/-
  What the walks of the reader's expressions share: contracts, and trees that stay.
-/
import Derived.Test.YtfbpkbochhfnhaaGreatDoorRdPrim2
import Derived.Deep.OwnRows
namespace Go.Proofs.YtfbpkbochhfnhaaGreatDoor
open Go.ChangeShapes Go.WideShapes Go.ChangeAt Go.RowKit Go.Joins Go.Maps
set_option linter.unusedVariables false

/-- Blocks from lo on stay. -/
def Same (lo : Nat) (w w' : World) : Prop := w.heap.size ≤ w'.heap.size ∧ ∀ b, lo ≤ b → b < w.heap.size → w'.heap[b]? = w.heap[b]?
theorem Same.refl (lo : Nat) (w : World) : Same lo w w := ⟨Nat.le_refl _, fun _ _ _ => rfl⟩
theorem Same.trans {lo : Nat} {a b c : World} (h : Same lo a b) (k : Same lo b c) : Same lo a c := ⟨Nat.le_trans h.1 k.1, fun i h1 h2 => (k.2 i h1 (Nat.lt_of_lt_of_le h2 h.1)).trans (h.2 i h1 h2)⟩
theorem Same.but {lo r : Nat} {w w' : World} (h : But r r w w') (hr : r < lo) : Same lo w w' := ⟨h.size, fun b h1 h2 => h.block b h2 (by omega) (by omega)⟩
theorem Same.alloc {lo : Nat} {a w : World} (h : Same lo a w) (o : Obj) : Same lo a (w.alloc o) := h.trans ⟨by simp, fun b _ hb => ((Below.refl w.heap.size w).alloc (Nat.le_refl _) o).block b hb⟩
theorem Same.set {lo g : Nat} {a w : World} (h : Same lo a w) (hg : g < lo) (o : Nat) (v : Value) : Same lo a (w.setCell ⟨g, o, none⟩ v) :=
  h.trans ⟨by simp [World.setCell], fun b h1 _ => Below.heap_setCell _ _ _ _ (by simp; omega)⟩
theorem Same.below {lo : Nat} {w w' : World} (h : Below w.heap.size w w') : Same lo w w' := ⟨h.size, fun b _ h2 => h.block b h2⟩
theorem ExP.same {lo lo' m m' : Nat} {w w' : World} {cs : List Value} {x : Ex} (h : ExP (fun b => lo ≤ b) w m cs x) (hs : Same lo w w') (hl : lo' ≤ lo) (hm : m ≤ m') : ExP (fun b => lo' ≤ b) w' m' cs x :=
  (h.stays (fun b hb => Nat.le_trans hl hb) hs.2).le hm

theorem ExP.shape {P : Nat → Prop} {w : World} {m : Nat} {cs : List Value} {x : Ex} (h : ExP P w m cs x) : ∃ (k n : Int) (s : ByteArray) (a : Option Addr) (len cap : Nat), cs = [.int .i64 k, .int .i64 n, .string s, .slice a len cap] := by
  cases m with
  | zero => exact h.elim
  | succ m =>
    cases x with
    | mk k n s l =>
      obtain ⟨v, rfl, _, _, _, a, cap, rfl, _⟩ := h
      exact ⟨k, n, s, a, _, cap, rfl⟩

theorem But.below' {r : Nat} {w w1 w' : World} (h : But r r w1 w') (hb : Below w.heap.size w w1) : But r r w w' := (But.of_below hb).trans h

/-- The contracts. -/
def WholeC (m : Nat) : Prop := ∀ (r : Nat) (o : Int) (ps : List Pc) (w : World), Rdr r w o ps → 20 * ps.length + 9 ≤ m →
  Calls Tryz.prog 41 #[.pointer (some ⟨r, 0, none⟩)] w (OutR r o w (wholeR m o ps) (KE w ps.length))
def BinC (m : Nat) : Prop := ∀ (r : Nat) (d o : Int) (ps : List Pc) (w : World), Rdr r w o ps → 1 ≤ d → d ≤ 7 → 20 * ps.length + 9 ≤ m + d.toNat →
  Calls Tryz.prog 65 #[.pointer (some ⟨r, 0, none⟩), .int .i64 d] w (OutR r o w (binR m d o ps) (KE w ps.length))
def OpC (m : Nat) : Prop := ∀ (r : Nat) (o : Int) (ps : List Pc) (w : World), Rdr r w o ps → 20 * ps.length + 1 ≤ m →
  Calls Tryz.prog 93 #[.pointer (some ⟨r, 0, none⟩)] w (OutR r o w (opR m o ps) (KE w ps.length))
def SgnC (m : Nat) : Prop := ∀ (r : Nat) (o : Int) (ps : List Pc) (w : World), Rdr r w o ps → 20 * ps.length + 2 ≤ m →
  Calls Tryz.prog 115 #[.pointer (some ⟨r, 0, none⟩)] w (OutR r o w (sgnR m o ps) (KE w ps.length))
def WordC (m : Nat) : Prop := ∀ (r : Nat) (o : Int) (s : List UInt8) (ps : List Pc) (w : World), Rdr r w o ps → s.length ≤ 6000 → 20 * ps.length + 2 ≤ m →
  Calls Tryz.prog 118 #[.pointer (some ⟨r, 0, none⟩), .string (bs s)] w (OutR r o w (wordR m o s ps) (KE w (ps.length + 1)))
def KeyC (m : Nat) : Prop := ∀ (r : Nat) (o : Int) (ps : List Pc) (w : World), Rdr r w o ps → 20 * ps.length + 1 ≤ m →
  Calls Tryz.prog 114 #[.pointer (some ⟨r, 0, none⟩)] w (OutR r o w (keyR m o ps) (KE w ps.length))
/-- Expressions that were read. -/
def KL (w : World) (n : Nat) : Value → List Ex → List Pc → World → Prop := fun v l ps w' => ps.length < n ∧ 0 < l.length ∧ SlP (fun b => w.heap.size ≤ b) w' 4 v l.length (fun i c => ∃ x, l[i]? = some x ∧ ExP (fun b => w.heap.size ≤ b) w' (n - ps.length) c x)
def WholesC (m : Nat) : Prop := ∀ (r : Nat) (o : Int) (ps : List Pc) (w : World), Rdr r w o ps → 20 * ps.length + 10 ≤ m →
  Calls Tryz.prog 113 #[.pointer (some ⟨r, 0, none⟩)] w (OutR r o w (wholesR m o ps) (KL w ps.length))

theorem needR_len {t : List UInt8} {ps p1 : List Pc} {u : Unit} (h : needR t ps = .ok (u, p1)) : p1.length + 1 = ps.length := by
  unfold needR at h
  cases ps with
  | nil => cases h
  | cons p r =>
    simp only at h
    split at h
    · cases h; rfl
    · cases h
theorem nmR_len {ps p1 : List Pc} {s : List UInt8} (h : nmR ps = .ok (s, p1)) : p1.length + 1 = ps.length ∧ nameL s = true := by
  unfold nmR at h
  cases ps with
  | nil => cases h
  | cons p r =>
    simp only at h
    split at h
    · rename_i hh
      cases h
      exact ⟨rfl, hh.2⟩
    · cases h

/-- A box of one's own. -/
def Bx (g : Nat) (cs : List Value) (T : TypeId) (w : World) : Prop := w.heap[g]? = some (.cells cs.toArray T (0, 0))
theorem Bx.new (w : World) (cs : List Value) (T : TypeId) : Bx w.heap.size cs T (w.alloc (.cells cs.toArray T)) := by
  show (w.heap.push _)[w.heap.size]? = _
  rw [Array.getElem?_push_size]
theorem Bx.lt {g : Nat} {cs : List Value} {T : TypeId} {w : World} (h : Bx g cs T w) : g < w.heap.size := by
  rcases Nat.lt_or_ge g w.heap.size with h' | h'
  · exact h'
  · simp [Bx, Array.getElem?_eq_none h'] at h
theorem Bx.but {g r : Nat} {cs : List Value} {T : TypeId} {w w' : World} (h : Bx g cs T w) (hb : But r r w w') (hg : r < g) : Bx g cs T w' := (hb.block g h.lt (by omega) (by omega)).trans h
theorem Bx.below {g : Nat} {cs : List Value} {T : TypeId} {w w' : World} (h : Bx g cs T w) (hb : Below w.heap.size w w') : Bx g cs T w' := (hb.block g h.lt).trans h
theorem Bx.cell {g : Nat} {cs : List Value} {T : TypeId} {w : World} (h : Bx g cs T w) (i : Nat) : w.cell? ⟨g, i, none⟩ = cs[i]? := by
  have := Lib.cell_of_heap h i
  rw [List.getElem?_toArray] at this
  exact this
theorem Bx.thaw {g : Nat} {cs : List Value} {T : TypeId} {w : World} (h : Bx g cs T w) (i : Nat) : w.frozen? ⟨g, i, none⟩ = false := Lib.frozen_of_heap h i

/-- The four cells of an expression's box. -/
theorem Bx.four {g : Nat} {a b c d : Value} {T : TypeId} {w : World} (h : Bx g [a, b, c, d] T w) : w.cell? ⟨g, 0, none⟩ = some a ∧ w.cell? ⟨g, 1, none⟩ = some b ∧ w.cell? ⟨g, 2, none⟩ = some c ∧ w.cell? ⟨g, 3, none⟩ = some d ∧ w.frozen? ⟨g, 0, none⟩ = false ∧ w.frozen? ⟨g, 1, none⟩ = false ∧ w.frozen? ⟨g, 2, none⟩ = false ∧ w.frozen? ⟨g, 3, none⟩ = false :=
  ⟨h.cell 0, h.cell 1, h.cell 2, h.cell 3, h.thaw 0, h.thaw 1, h.thaw 2, h.thaw 3⟩

abbrev zeroX : List Value := [.int .i64 0, .int .i64 0, .string ⟨#[]⟩, .slice none 0 0]

/-- A result's box is filled. -/
abbrev set4 (w : World) (g : Nat) (a b c d : Value) : World := (((w.setCell ⟨g, 0, none⟩ a).setCell ⟨g, 1, none⟩ b).setCell ⟨g, 2, none⟩ c).setCell ⟨g, 3, none⟩ d

theorem Below.set4 {B g : Nat} (w : World) (hg : B ≤ g) (a b c d : Value) : Below B w (set4 w g a b c d) :=
  ((((Below.refl B w).setCell (p := ⟨g, 0, none⟩) hg a).setCell (p := ⟨g, 1, none⟩) hg b).setCell (p := ⟨g, 2, none⟩) hg c).setCell (p := ⟨g, 3, none⟩) hg d

/-- An expression comes back in its box. -/
theorem outE {r n h : Nat} {o : Int} {w w3 : World} {R : Rd Ex} {x : Ex} {p3 : List Pc} {a b c d : Value} (hR : R = .ok (x, p3)) (hb : But r r w w3) (hr : r < w.heap.size) (h3 : Rdr r w3 o p3) (hl : p3.length < n) (hx : ExP (fun b => w.heap.size + 1 ≤ b) w3 h [a, b, c, d] x) (hh : h ≤ n - p3.length) :
    OutR r o w R (KE w n) (.returned (.agg #[a, b, c, d])) (set4 w3 w.heap.size a b c d) := by
  refine ⟨(((hb.setOther (Nat.le_refl _) 0 a).setOther (Nat.le_refl _) 1 b).setOther (Nat.le_refl _) 2 c).setOther (Nat.le_refl _) 3 d, ?_⟩
  rw [hR]
  exact ⟨_, rfl, h3.low (Below.set4 w3 hr a b c d), hl, [a, b, c, d], rfl, hx.same (((((Same.refl _ _).set (Nat.lt_succ_self _) 0 a).set (Nat.lt_succ_self _) 1 b).set (Nat.lt_succ_self _) 2 c).set (Nat.lt_succ_self _) 3 d) (Nat.le_succ _) hh⟩

theorem rd_cases {α : Type} (R : Rd α) : (∃ er, R = .error er) ∨ ∃ x ps, R = .ok (x, ps) := by
  cases R with
  | error er => exact .inl ⟨er, rfl⟩
  | ok q => exact .inr ⟨q.1, q.2, rfl⟩

/-! ### Trees that are built -/
theorem SlP.none (P : Nat → Prop) (w : World) (sz : Nat) (E : Nat → List Value → Prop) : SlP P w sz (.slice none 0 0) 0 E := ⟨_, _, rfl, Nat.zero_le _, fun h => absurd h (Nat.lt_irrefl 0)⟩
theorem bs_small {s : List UInt8} (h : s.length ≤ 6000) : (bs s).size ≤ maxLen := by rw [bs_size]; unfold maxLen; omega
theorem ExP.node {P : Nat → Prop} {w : World} {m : Nat} {k n : Int} {s : List UInt8} {v : Value} {l : List Ex} (hk : (Lit.int .i64 k).wf = true) (hn : (Lit.int .i64 n).wf = true) (hs : s.length ≤ 6000) (hl : SlP P w 4 v l.length (fun i c => ∃ x, l[i]? = some x ∧ ExP P w m c x)) : ExP P w (m + 1) [.int .i64 k, .int .i64 n, .string (bs s), v] (leafE k n s l) :=
  ⟨v, rfl, hk, hn, bs_small hs, hl⟩
theorem ExP.leaf {P : Nat → Prop} {w : World} {k n : Int} {s : List UInt8} (hk : (Lit.int .i64 k).wf = true) (hn : (Lit.int .i64 n).wf = true) (hs : s.length ≤ 6000) : ExP P w 1 [.int .i64 k, .int .i64 n, .string (bs s), .slice .none 0 0] (leafE k n s []) := ExP.node (m := 0) hk hn hs (SlP.none _ _ _ _)

theorem SlP.one {P : Nat → Prop} {w : World} {g m : Nat} {a b c d : Value} {T : TypeId} {x : Ex} (hg : Bx g [a, b, c, d] T w) (hP : P g) (hx : ExP P w m [a, b, c, d] x) : SlP P w 4 (.slice (some ⟨g, 0, .none⟩) 1 1) [x].length (fun i c => ∃ y, [x][i]? = some y ∧ ExP P w m c y) := by
  refine ⟨_, _, rfl, by simp [maxLen], fun _ => ⟨g, 0, rfl, hP, fun i hi => ?_⟩⟩
  have hi : i < 1 := hi
  obtain rfl : i = 0 := by omega
  exact ⟨_, rfl, fun j hj => by rw [hg.cell]; simp, x, rfl, hx⟩
theorem SlP.two {P : Nat → Prop} {w : World} {g m : Nat} {a b c d a' b' c' d' : Value} {T : TypeId} {x y : Ex} (hg : Bx g [a, b, c, d, a', b', c', d'] T w) (hP : P g) (hx : ExP P w m [a, b, c, d] x) (hy : ExP P w m [a', b', c', d'] y) : SlP P w 4 (.slice (some ⟨g, 0, .none⟩) 2 2) [x, y].length (fun i c => ∃ z, [x, y][i]? = some z ∧ ExP P w m c z) := by
  refine ⟨_, _, rfl, by simp [maxLen], fun _ => ⟨g, 0, rfl, hP, fun i hi => ?_⟩⟩
  have hi : i < 2 := hi
  obtain rfl | rfl : i = 0 ∨ i = 1 := by omega
  · refine ⟨[a, b, c, d], rfl, fun j hj => ?_, x, rfl, hx⟩
    rw [hg.cell]
    obtain rfl | rfl | rfl | rfl : j = 0 ∨ j = 1 ∨ j = 2 ∨ j = 3 := by omega
    all_goals rfl
  · refine ⟨[a', b', c', d'], rfl, fun j hj => ?_, y, rfl, hy⟩
    rw [hg.cell]
    obtain rfl | rfl | rfl | rfl : j = 0 ∨ j = 1 ∨ j = 2 ∨ j = 3 := by omega
    all_goals rfl
theorem SlP.three {P : Nat → Prop} {w : World} {g m : Nat} {a b c d a' b' c' d' e f i' j' : Value} {T : TypeId} {x y z : Ex} (hg : Bx g [a, b, c, d, a', b', c', d', e, f, i', j'] T w) (hP : P g) (hx : ExP P w m [a, b, c, d] x) (hy : ExP P w m [a', b', c', d'] y) (hz : ExP P w m [e, f, i', j'] z) : SlP P w 4 (.slice (some ⟨g, 0, .none⟩) 3 3) [x, y, z].length (fun i c => ∃ u, [x, y, z][i]? = some u ∧ ExP P w m c u) := by
  refine ⟨_, _, rfl, by simp [maxLen], fun _ => ⟨g, 0, rfl, hP, fun i hi => ?_⟩⟩
  have hi : i < 3 := hi
  obtain rfl | rfl | rfl : i = 0 ∨ i = 1 ∨ i = 2 := by omega
  · refine ⟨[a, b, c, d], rfl, fun j hj => ?_, x, rfl, hx⟩
    rw [hg.cell]
    obtain rfl | rfl | rfl | rfl : j = 0 ∨ j = 1 ∨ j = 2 ∨ j = 3 := by omega
    all_goals rfl
  · refine ⟨[a', b', c', d'], rfl, fun j hj => ?_, y, rfl, hy⟩
    rw [hg.cell]
    obtain rfl | rfl | rfl | rfl : j = 0 ∨ j = 1 ∨ j = 2 ∨ j = 3 := by omega
    all_goals rfl
  · refine ⟨[e, f, i', j'], rfl, fun j hj => ?_, z, rfl, hz⟩
    rw [hg.cell]
    obtain rfl | rfl | rfl | rfl : j = 0 ∨ j = 1 ∨ j = 2 ∨ j = 3 := by omega
    all_goals rfl

theorem set4_alloc (w : World) (ob : Obj) (g : Nat) (a b c d : Value) (hg : g < w.heap.size) : set4 (w.alloc ob) g a b c d = (set4 w g a b c d).alloc ob := by
  have e : ∀ (u : World) (i : Nat) (v : Value), (u.setCell ⟨g, i, none⟩ v).heap.size = u.heap.size := fun u i v => by simp [World.setCell]
  simp only [set4]
  rw [World.setCell_alloc_past _ _ _ _ hg, World.setCell_alloc_past _ _ _ _ (by rw [e]; exact hg), World.setCell_alloc_past _ _ _ _ (by rw [e, e]; exact hg), World.setCell_alloc_past _ _ _ _ (by rw [e, e, e]; exact hg)]

/-- An expression comes back in its box; its list was laid last. -/
theorem outE' {r n h : Nat} {o : Int} {w w3 : World} {ob : Obj} {R : Rd Ex} {x : Ex} {p3 : List Pc} {a b c d : Value} (hR : R = .ok (x, p3)) (hb : But r r w w3) (hr : r < w.heap.size) (hw : w.heap.size < w3.heap.size) (h3 : Rdr r w3 o p3) (hl : p3.length < n) (hx : ExP (fun b => w.heap.size + 1 ≤ b) (w3.alloc ob) h [a, b, c, d] x) (hh : h ≤ n - p3.length) :
    OutR r o w R (KE w n) (.returned (.agg #[a, b, c, d])) ((set4 w3 w.heap.size a b c d).alloc ob) := by
  rw [← set4_alloc _ _ _ _ _ _ _ hw]
  exact outE hR (hb.alloc ob) hr (h3.alloc ob) hl hx hh

theorem outLeaf {r n : Nat} {o : Int} {w : World} {ob : Obj} {R : Rd Ex} {x : Ex} {p : List Pc} {a b c d : Value} (hR : R = .ok (x, p)) (h3 : Rdr r w o p) (hl : p.length < n) (hx : ∀ W, ExP (fun b => w.heap.size ≤ b) W 1 [a, b, c, d] x) :
    OutR r o w R (KE w n) (.returned (.agg #[a, b, c, d])) (w.alloc ob) := by
  refine ⟨(But.refl r r w).alloc ob, ?_⟩
  rw [hR]
  exact ⟨_, rfl, h3.alloc ob, hl, [a, b, c, d], rfl, (hx _).le (by omega)⟩

/-- A panic's end that does not hang on the slots: what is deferred is known. -/
def QP (D : List Deferred) (Q : Exit → Act → World → Prop) : Exit → Act → World → Prop
  | .panic c, a, w => a.defers = D ∧ ∀ tmps, Q (.panic c) { tmps := tmps, defers := D } w
  | e, a, w => Q e a w
theorem wp_plain (D : List Deferred) {P : Program} {c : Code} {Q : Exit → Act → World → Prop} {a : Act} {w : World} (h : c.wp P (QP D Q) a w) : c.wp P Q a w := by
  refine wp_mono h fun e a w h => ?_
  cases e with
  | panic c =>
    obtain ⟨h1, h2⟩ := h
    have := h2 a.tmps
    rw [← h1] at this
    exact this
  | _ => exact h
theorem qp_normal (D : List Deferred) (Q : Exit → Act → World → Prop) (a : Act) (w : World) : QP D Q .normal a w = Q .normal a w := rfl

/-! ### A box that is written again -/
theorem heap_set4 (w : World) (g b : Nat) (hb : b ≠ g) (x y z u : Value) : (set4 w g x y z u).heap[b]? = w.heap[b]? := by
  simp only [set4]
  rw [Below.heap_setCell _ _ _ _ (by simpa using hb), Below.heap_setCell _ _ _ _ (by simpa using hb), Below.heap_setCell _ _ _ _ (by simpa using hb), Below.heap_setCell _ _ _ _ (by simpa using hb)]
theorem size_set4 (w : World) (g : Nat) (x y z u : Value) : (set4 w g x y z u).heap.size = w.heap.size := by simp [set4, World.setCell]
theorem Bx.set4 {g : Nat} {o0 o1 o2 o3 : Value} {T : TypeId} {w : World} (h : Bx g [o0, o1, o2, o3] T w) (a b c d : Value) : Bx g [a, b, c, d] T (set4 w g a b c d) := by
  have h' : w.heap[g]? = some (.cells #[o0, o1, o2, o3] T (0, 0)) := h
  simp [Bx, Go.Proofs.YtfbpkbochhfnhaaGreatDoor.set4, World.setCell, Array.getElem?_modify, h']
theorem Bx.far4 {g g' : Nat} {cs : List Value} {T : TypeId} {w : World} (h : Bx g cs T w) (hne : g ≠ g') (a b c d : Value) : Bx g cs T (Go.Proofs.YtfbpkbochhfnhaaGreatDoor.set4 w g' a b c d) := (heap_set4 w g' g hne a b c d).trans h
theorem ExP.old {P : Nat → Prop} {w : World} : ∀ {m : Nat} {cs : List Value} {x : Ex}, ExP P w m cs x → ExP (fun b => P b ∧ b < w.heap.size) w m cs x := by
  intro m
  induction m with
  | zero => intro cs x h; exact h.elim
  | succ m ih =>
    intro cs x h
    cases x with
    | mk k n s l =>
      obtain ⟨v, h1, h2, h3, h4, a, cap, h5, h6, h7⟩ := h
      refine ⟨v, h1, h2, h3, h4, a, cap, h5, h6, fun h0 => ?_⟩
      obtain ⟨b, off, ha, hb, hi⟩ := h7 h0
      have hlt : b < w.heap.size := by
        obtain ⟨cs, g1, g2, _⟩ := hi 0 h0
        have g3 := g2 0 (by decide)
        rw [List.getElem?_eq_getElem (by omega)] at g3
        exact World.block_lt_of_cell? w _ g3
      exact ⟨b, off, ha, ⟨hb, hlt⟩, fun i hi' => let ⟨cs, g1, g2, y, g3, g4⟩ := hi i hi'; ⟨cs, g1, g2, y, g3, ih g4⟩⟩

/-- What is left to be read, as a number of the world's. -/
def left (r : Nat) (w : World) : Nat := match w.cell? ⟨r, 0, none⟩ with
  | some (.slice _ n _) => n
  | _ => 0
theorem Rdr.left {r : Nat} {w : World} {o : Int} {ps : List Pc} (h : Rdr r w o ps) : left r w = ps.length := by
  obtain ⟨v, h1, a, cap, h2, _⟩ := h.pcs
  unfold Go.Proofs.YtfbpkbochhfnhaaGreatDoor.left
  rw [h1, h2]
end Go.Proofs.YtfbpkbochhfnhaaGreatDoor
