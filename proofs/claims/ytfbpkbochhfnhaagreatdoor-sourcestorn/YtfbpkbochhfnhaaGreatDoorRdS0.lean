/-
  What the walks of the reader's statements share: contracts, trees that stay, boxes of six and seven cells.
-/
import Derived.Test.YtfbpkbochhfnhaaGreatDoorRdAll
namespace Go.Proofs.YtfbpkbochhfnhaaGreatDoor
open Go.ChangeShapes Go.WideShapes Go.ChangeAt Go.RowKit Go.Joins Go.Maps
set_option linter.unusedVariables false

/-- Lists of trees in blocks from lo on. -/
def LEx (lo : Nat) (w : World) (h : Nat) (v : Value) (l : List Ex) : Prop := SlP (fun b => lo ≤ b) w 4 v l.length (fun i c => ∃ x, l[i]? = some x ∧ ExP (fun b => lo ≤ b) w h c x)
def LSm (lo : Nat) (w : World) (h : Nat) (v : Value) (l : List Sm) : Prop := SlP (fun b => lo ≤ b) w 6 v l.length (fun i c => ∃ x, l[i]? = some x ∧ SmP (fun b => lo ≤ b) w h c x)
theorem SmP.same {lo lo' m m' : Nat} {w w' : World} {cs : List Value} {x : Sm} (h : SmP (fun b => lo ≤ b) w m cs x) (hs : Same lo w w') (hl : lo' ≤ lo) (hm : m ≤ m') : SmP (fun b => lo' ≤ b) w' m' cs x :=
  (h.stays (fun b hb => Nat.le_trans hl hb) hs.2).le hm
theorem LEx.same {lo lo' m m' : Nat} {w w' : World} {v : Value} {l : List Ex} (h : LEx lo w m v l) (hs : Same lo w w') (hl : lo' ≤ lo) (hm : m ≤ m') : LEx lo' w' m' v l :=
  (SlP.stays h (by decide) hs.2 fun i c ⟨x, hx, he⟩ => ⟨x, hx, he.same hs hl hm⟩).mono (fun b hb => Nat.le_trans hl hb) fun _ _ h => h
theorem LSm.same {lo lo' m m' : Nat} {w w' : World} {v : Value} {l : List Sm} (h : LSm lo w m v l) (hs : Same lo w w') (hl : lo' ≤ lo) (hm : m ≤ m') : LSm lo' w' m' v l :=
  (SlP.stays h (by decide) hs.2 fun i c ⟨x, hx, he⟩ => ⟨x, hx, he.same hs hl hm⟩).mono (fun b hb => Nat.le_trans hl hb) fun _ _ h => h
theorem LEx.nil (lo : Nat) (w : World) (h : Nat) : LEx lo w h (.slice none 0 0) [] := SlP.none _ _ _ _
theorem LSm.nil (lo : Nat) (w : World) (h : Nat) : LSm lo w h (.slice none 0 0) [] := SlP.none _ _ _ _
theorem LEx.shape {lo h : Nat} {w : World} {v : Value} {l : List Ex} (H : LEx lo w h v l) : ∃ a len cap, v = .slice a len cap := by obtain ⟨a, cap, rfl, _⟩ := H; exact ⟨_, _, _, rfl⟩
theorem LSm.shape {lo h : Nat} {w : World} {v : Value} {l : List Sm} (H : LSm lo w h v l) : ∃ a len cap, v = .slice a len cap := by obtain ⟨a, cap, rfl, _⟩ := H; exact ⟨_, _, _, rfl⟩
theorem SmP.shape {P : Nat → Prop} {w : World} {m : Nat} {cs : List Value} {x : Sm} (h : SmP P w m cs x) : ∃ (k : Int) (s t : ByteArray) (a : Option Addr) (len cap : Nat) (b : Option Addr) (len2 cap2 : Nat) (c : Option Addr) (len3 cap3 : Nat), cs = [.int .i64 k, .string s, .string t, .slice a len cap, .slice b len2 cap2, .slice c len3 cap3] := by
  cases m with
  | zero => exact h.elim
  | succ m =>
    cases x with
    | mk k s t es b e =>
      obtain ⟨v1, v2, v3, rfl, _, _, _, ⟨a, cap, rfl, _⟩, ⟨a2, cap2, rfl, _⟩, ⟨a3, cap3, rfl, _⟩⟩ := h
      exact ⟨k, s, t, a, _, cap, a2, _, cap2, a3, _, cap3, rfl⟩
theorem SmP.node {lo : Nat} {w : World} {m : Nat} {k : Int} {s t : List UInt8} {v1 v2 v3 : Value} {es : List Ex} {b e : List Sm} (hk : (Lit.int .i64 k).wf = true) (hs : s.length ≤ 6000) (ht : t.length ≤ 6000) (h1 : LEx lo w m v1 es) (h2 : LSm lo w m v2 b) (h3 : LSm lo w m v3 e) :
    SmP (fun b => lo ≤ b) w (m + 1) [.int .i64 k, .string (bs s), .string (bs t), v1, v2, v3] (leafS k s t es b e) := ⟨v1, v2, v3, rfl, hk, bs_small hs, bs_small ht, h1, h2, h3⟩

/-- A statement, statements, a rule that were read. -/
def KS (w : World) (n : Nat) : Value → Sm → List Pc → World → Prop := fun v x ps w' => ps.length < n ∧ ∃ cs : List Value, v = .agg cs.toArray ∧ SmP (fun b => w.heap.size ≤ b) w' (n - ps.length) cs x
def KB (w : World) (n : Nat) : Value → List Sm → List Pc → World → Prop := fun v l ps w' => ps.length < n ∧ LSm w.heap.size w' (n - ps.length) v l
def KQ (w : World) (n : Nat) : Value → Ex → List Pc → World → Prop := fun v x ps w' => ps.length < n ∧ LEx w.heap.size w' (n - ps.length) v [x]
def KR (w : World) (n : Nat) : Value → Ru → List Pc → World → Prop := fun v x ps w' => ps.length < n ∧ ∃ cs : List Value, v = .agg cs.toArray ∧ RuP (fun b => w.heap.size ≤ b) w' (n - ps.length) cs x

/-- A call of the reader's within another: it ends all, or goes on. -/
theorem pk {α β : Type} {r : Nat} {o : Int} {f : FuncId} {args : Array Value} {w W : World} {R : Rd α} {K : Value → α → List Pc → World → Prop} {R0 : Rd β} {K0 : Value → β → List Pc → World → Prop}
    (hc : Calls Tryz.prog f args W (OutR r o W R K)) (hb : But r r w W) (herr : ∀ er, R = .error er → R0 = .error er) :
    Calls Tryz.prog f args W fun e w' => (∃ er, e = .panicked [errP er] ∧ Hid (OutR r o w R0 K0 (.panicked [errP er]) w')) ∨ ∃ v x ps, e = .returned v ∧ Hid (R = .ok (x, ps) ∧ But r r W w' ∧ Rdr r w' o ps ∧ K v x ps w') := by
  refine hc.mono ?_
  rintro e w1 ⟨hb1, hr⟩
  cases R with
  | error er =>
    obtain ⟨rfl, hop⟩ := hr
    refine .inl ⟨er, rfl, hb.trans hb1, ?_⟩
    rw [herr er rfl]
    exact ⟨rfl, hop⟩
  | ok q =>
    obtain ⟨x, ps⟩ := q
    obtain ⟨v, rfl, hrd, hk⟩ := hr
    exact .inr ⟨v, x, ps, rfl, rfl, hb1, hrd, hk⟩

/-! ### Boxes of six and seven cells -/
abbrev set6 (w : World) (g : Nat) (a b c d e f : Value) : World := (((((w.setCell ⟨g, 0, none⟩ a).setCell ⟨g, 1, none⟩ b).setCell ⟨g, 2, none⟩ c).setCell ⟨g, 3, none⟩ d).setCell ⟨g, 4, none⟩ e).setCell ⟨g, 5, none⟩ f
abbrev set7 (w : World) (g : Nat) (a b c d e f h : Value) : World := (set6 w g a b c d e f).setCell ⟨g, 6, none⟩ h
theorem Bx.six {g : Nat} {a b c d e f : Value} {T : TypeId} {w : World} (h : Bx g [a, b, c, d, e, f] T w) : w.cell? ⟨g, 0, none⟩ = some a ∧ w.cell? ⟨g, 1, none⟩ = some b ∧ w.cell? ⟨g, 2, none⟩ = some c ∧ w.cell? ⟨g, 3, none⟩ = some d ∧ w.cell? ⟨g, 4, none⟩ = some e ∧ w.cell? ⟨g, 5, none⟩ = some f ∧ w.frozen? ⟨g, 0, none⟩ = false ∧ w.frozen? ⟨g, 1, none⟩ = false ∧ w.frozen? ⟨g, 2, none⟩ = false ∧ w.frozen? ⟨g, 3, none⟩ = false ∧ w.frozen? ⟨g, 4, none⟩ = false ∧ w.frozen? ⟨g, 5, none⟩ = false :=
  ⟨h.cell 0, h.cell 1, h.cell 2, h.cell 3, h.cell 4, h.cell 5, h.thaw 0, h.thaw 1, h.thaw 2, h.thaw 3, h.thaw 4, h.thaw 5⟩
theorem Bx.seven {g : Nat} {a b c d e f i : Value} {T : TypeId} {w : World} (h : Bx g [a, b, c, d, e, f, i] T w) : w.cell? ⟨g, 0, none⟩ = some a ∧ w.cell? ⟨g, 1, none⟩ = some b ∧ w.cell? ⟨g, 2, none⟩ = some c ∧ w.cell? ⟨g, 3, none⟩ = some d ∧ w.cell? ⟨g, 4, none⟩ = some e ∧ w.cell? ⟨g, 5, none⟩ = some f ∧ w.cell? ⟨g, 6, none⟩ = some i ∧ w.frozen? ⟨g, 0, none⟩ = false ∧ w.frozen? ⟨g, 1, none⟩ = false ∧ w.frozen? ⟨g, 2, none⟩ = false ∧ w.frozen? ⟨g, 3, none⟩ = false ∧ w.frozen? ⟨g, 4, none⟩ = false ∧ w.frozen? ⟨g, 5, none⟩ = false ∧ w.frozen? ⟨g, 6, none⟩ = false :=
  ⟨h.cell 0, h.cell 1, h.cell 2, h.cell 3, h.cell 4, h.cell 5, h.cell 6, h.thaw 0, h.thaw 1, h.thaw 2, h.thaw 3, h.thaw 4, h.thaw 5, h.thaw 6⟩

/-- Worlds in which only the box g was written. -/
structure Wrote (g : Nat) (w w' : World) : Prop where
  os : w'.os = w.os
  tape : w'.tape = w.tape
  output : w'.output = w.output
  size : w'.heap.size = w.heap.size
  block : ∀ b, b ≠ g → w'.heap[b]? = w.heap[b]?
theorem Wrote.refl (g : Nat) (w : World) : Wrote g w w := ⟨rfl, rfl, rfl, rfl, fun _ _ => rfl⟩
theorem Wrote.set {g : Nat} {a w : World} (h : Wrote g a w) (o : Nat) (v : Value) : Wrote g a (w.setCell ⟨g, o, none⟩ v) :=
  ⟨h.os, h.tape, h.output, (by simp [World.setCell, h.size]), fun b hb => (Below.heap_setCell _ _ _ _ (by simpa using hb)).trans (h.block b hb)⟩
theorem Wrote.six (w : World) (g : Nat) (a b c d e f : Value) : Wrote g w (set6 w g a b c d e f) := ((((((Wrote.refl g w).set 0 a).set 1 b).set 2 c).set 3 d).set 4 e).set 5 f
theorem Wrote.seven (w : World) (g : Nat) (a b c d e f i : Value) : Wrote g w (set7 w g a b c d e f i) := (Wrote.six w g a b c d e f).set 6 i
theorem Wrote.below {g B : Nat} {w w' : World} (h : Wrote g w w') (hg : B ≤ g) : Below B w w' := ⟨h.os, h.tape, h.output, Nat.le_of_eq h.size.symm, fun k hk => h.block k (by omega)⟩
theorem Wrote.same {g lo : Nat} {w w' : World} (h : Wrote g w w') (hg : g < lo) : Same lo w w' := ⟨Nat.le_of_eq h.size.symm, fun b h1 _ => h.block b (by omega)⟩
theorem Wrote.but {g r : Nat} {w w3 w' : World} (h : Wrote g w3 w') (hb : But r r w w3) (hg : w.heap.size ≤ g) : But r r w w' :=
  ⟨h.os.trans hb.os, h.tape.trans hb.tape, h.output.trans hb.output, (by rw [h.size]; exact hb.size), fun k hk h1 h2 => (h.block k (by omega)).trans (hb.block k hk h1 h2)⟩

theorem setCell_alloc_swap (w : World) (ob : Obj) (g o : Nat) (v : Value) (hg : g < w.heap.size) : (w.alloc ob).setCell ⟨g, o, none⟩ v = (w.setCell ⟨g, o, none⟩ v).alloc ob := World.setCell_alloc_past _ _ _ _ hg
theorem set6_alloc (w : World) (ob : Obj) (g : Nat) (a b c d e f : Value) (hg : g < w.heap.size) : set6 (w.alloc ob) g a b c d e f = (set6 w g a b c d e f).alloc ob := by
  have z : ∀ (u : World) (i : Nat) (v : Value), (u.setCell ⟨g, i, none⟩ v).heap.size = u.heap.size := fun u i v => by simp [World.setCell]
  simp only [set6]
  rw [World.setCell_alloc_past _ _ _ _ hg, World.setCell_alloc_past _ _ _ _ (by rw [z]; exact hg), World.setCell_alloc_past _ _ _ _ (by rw [z, z]; exact hg), World.setCell_alloc_past _ _ _ _ (by rw [z, z, z]; exact hg), World.setCell_alloc_past _ _ _ _ (by rw [z, z, z, z]; exact hg), World.setCell_alloc_past _ _ _ _ (by rw [z, z, z, z, z]; exact hg)]

/-- A statement comes back in its box. -/
theorem outS {r n h : Nat} {o : Int} {w w3 : World} {R : Rd Sm} {x : Sm} {p3 : List Pc} {a b c d e f : Value} (hR : R = .ok (x, p3)) (hb : But r r w w3) (hr : r < w.heap.size) (h3 : Rdr r w3 o p3) (hl : p3.length < n) (hx : SmP (fun b => w.heap.size + 1 ≤ b) w3 h [a, b, c, d, e, f] x) (hh : h ≤ n - p3.length) :
    OutR r o w R (KS w n) (.returned (.agg #[a, b, c, d, e, f])) (set6 w3 w.heap.size a b c d e f) := by
  have hw := Wrote.six w3 w.heap.size a b c d e f
  refine ⟨hw.but hb (Nat.le_refl _), ?_⟩
  rw [hR]
  exact ⟨_, rfl, h3.low (hw.below (by omega)), hl, [a, b, c, d, e, f], rfl, hx.same (hw.same (Nat.lt_succ_self _)) (Nat.le_succ _) hh⟩
theorem outS' {r n h : Nat} {o : Int} {w w3 : World} {ob : Obj} {R : Rd Sm} {x : Sm} {p3 : List Pc} {a b c d e f : Value} (hR : R = .ok (x, p3)) (hb : But r r w w3) (hr : r < w.heap.size) (hw : w.heap.size < w3.heap.size) (h3 : Rdr r w3 o p3) (hl : p3.length < n) (hx : SmP (fun b => w.heap.size + 1 ≤ b) (w3.alloc ob) h [a, b, c, d, e, f] x) (hh : h ≤ n - p3.length) :
    OutR r o w R (KS w n) (.returned (.agg #[a, b, c, d, e, f])) ((set6 w3 w.heap.size a b c d e f).alloc ob) := by
  rw [← set6_alloc _ _ _ _ _ _ _ _ _ hw]
  exact outS hR (hb.alloc ob) hr (h3.alloc ob) hl hx hh

/-- The contracts of the statements. -/
def RBlockC (m : Nat) : Prop := ∀ (r : Nat) (o : Int) (ps : List Pc) (w : World), Rdr r w o ps → 20 * ps.length + 1 ≤ m →
  Calls Tryz.prog 39 #[.pointer (some ⟨r, 0, none⟩)] w (OutR r o w (blockR m o ps) (KB w ps.length))
def RStmtC (m : Nat) : Prop := ∀ (r : Nat) (o : Int) (ps : List Pc) (w : World), Rdr r w o ps → 20 * ps.length + 12 ≤ m →
  Calls Tryz.prog 64 #[.pointer (some ⟨r, 0, none⟩)] w (OutR r o w (stmtR m o ps) (KS w ps.length))

theorem LEx.one {lo g m : Nat} {w : World} {a b c d : Value} {T : TypeId} {x : Ex} (hg : Bx g [a, b, c, d] T w) (hlo : lo ≤ g) (hx : ExP (fun b => lo ≤ b) w m [a, b, c, d] x) : LEx lo w m (.slice (some ⟨g, 0, none⟩) 1 1) [x] := SlP.one hg hlo hx
theorem LEx.two {lo g m : Nat} {w : World} {a b c d a' b' c' d' : Value} {T : TypeId} {x y : Ex} (hg : Bx g [a, b, c, d, a', b', c', d'] T w) (hlo : lo ≤ g) (hx : ExP (fun b => lo ≤ b) w m [a, b, c, d] x) (hy : ExP (fun b => lo ≤ b) w m [a', b', c', d'] y) : LEx lo w m (.slice (some ⟨g, 0, none⟩) 2 2) [x, y] := SlP.two hg hlo hx hy
theorem seen_tail {t : List UInt8} {ps : List Pc} (h : seesB t ps = true) : ps.tail.length + 1 = ps.length := by
  cases ps with
  | nil => simp [seesB] at h
  | cons q p => simp
theorem Rdr.short {r : Nat} {w : World} {o : Int} {ps : List Pc} (h : Rdr r w o ps) : ps.length ≤ 6000 := by obtain ⟨v, _, a, cap, _, _, h3, _⟩ := h.pcs; exact h3
end Go.Proofs.YtfbpkbochhfnhaaGreatDoor
