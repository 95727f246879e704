/-
  How expressions, statements and rules lie in memory, below a block's number B: a reading of the argument as a tree; it stays while memory below B stays.
-/
import Derived.Test.YtfbpkbochhfnhaaGreatDoorCkSpec
import Derived.Deep.Slices
namespace Go.Proofs.YtfbpkbochhfnhaaGreatDoor
open Go.ChangeShapes Go.WideShapes Go.ChangeAt Go.RowKit Go.Joins

/-- A slice of len elements of sz cells; E: what is known of the cells of element i. -/
def Sl (w : World) (B sz : Nat) (v : Value) (len : Nat) (E : Nat → List Value → Prop) : Prop :=
  ∃ (a : Option Addr) (cap : Nat), v = .slice a len cap ∧ len ≤ maxLen ∧ (0 < len → ∃ b off, a = some ⟨b, off, none⟩ ∧ b < B ∧ ∀ i, i < len → ∃ cs : List Value, cs.length = sz ∧ (∀ j, j < sz → w.cell? ⟨b, off + i * sz + j, none⟩ = cs[j]?) ∧ E i cs)

theorem Sl.mono {w : World} {B sz : Nat} {v : Value} {len : Nat} {E F : Nat → List Value → Prop} (h : Sl w B sz v len E) (hEF : ∀ i cs, E i cs → F i cs) : Sl w B sz v len F := by
  obtain ⟨a, cap, hv, hl, hs⟩ := h
  refine ⟨a, cap, hv, hl, fun h0 => ?_⟩
  obtain ⟨b, off, ha, hb, hi⟩ := hs h0
  exact ⟨b, off, ha, hb, fun i hi' => let ⟨cs, h1, h2, h3⟩ := hi i hi'; ⟨cs, h1, h2, hEF i cs h3⟩⟩

theorem Sl.below {w w' : World} {B sz : Nat} {v : Value} {len : Nat} {E F : Nat → List Value → Prop} (h : Sl w B sz v len E) (hw : Below B w w') (hEF : ∀ i cs, E i cs → F i cs) : Sl w' B sz v len F := by
  obtain ⟨a, cap, hv, hl, hs⟩ := h
  refine ⟨a, cap, hv, hl, fun h0 => ?_⟩
  obtain ⟨b, off, ha, hb, hi⟩ := hs h0
  exact ⟨b, off, ha, hb, fun i hi' => let ⟨cs, h1, h2, h3⟩ := hi i hi'; ⟨cs, h1, fun j hj => (hw.cell (p := ⟨b, off + i * sz + j, none⟩) hb).trans (h2 j hj), hEF i cs h3⟩⟩

def ExA (B : Nat) (w : World) : Nat → List Value → Ex → Prop
  | 0, _, _ => False
  | m + 1, cs, .mk k n s l => ∃ v, cs = [.int .i64 k, .int .i64 n, .string s, v] ∧ (Lit.int .i64 k).wf = true ∧ (Lit.int .i64 n).wf = true ∧ s.size ≤ maxLen ∧ Sl w B 4 v l.length (fun i c => ∃ x, l[i]? = some x ∧ ExA B w m c x)

def SmA (B : Nat) (w : World) : Nat → List Value → Sm → Prop
  | 0, _, _ => False
  | m + 1, cs, .mk k s t es b e => ∃ v1 v2 v3, cs = [.int .i64 k, .string s, .string t, v1, v2, v3] ∧ (Lit.int .i64 k).wf = true ∧ s.size ≤ maxLen ∧ t.size ≤ maxLen ∧
      Sl w B 4 v1 es.length (fun i c => ∃ x, es[i]? = some x ∧ ExA B w m c x) ∧ Sl w B 6 v2 b.length (fun i c => ∃ x, b[i]? = some x ∧ SmA B w m c x) ∧ Sl w B 6 v3 e.length (fun i c => ∃ x, e[i]? = some x ∧ SmA B w m c x)

def RuA (B : Nat) (w : World) (m : Nat) (cs : List Value) (r : Ru) : Prop :=
  ∃ c0 c1 c2 c3 v, cs = [.int .i64 r.when, .bool r.has, c0, c1, c2, c3, v] ∧ (Lit.int .i64 r.when).wf = true ∧ ExA B w m [c0, c1, c2, c3] r.pat ∧ Sl w B 6 v r.body.length (fun i c => ∃ x, r.body[i]? = some x ∧ SmA B w m c x)

theorem ExA.more {B : Nat} {w : World} : ∀ {m : Nat} {cs : List Value} {x : Ex}, ExA B w m cs x → ExA B w (m + 1) cs x := by
  intro m
  induction m with
  | zero => intro cs x h; exact h.elim
  | succ m ih =>
    intro cs x h
    cases x with
    | mk k n s l =>
      obtain ⟨v, h1, h2, h3, h4, h5⟩ := h
      exact ⟨v, h1, h2, h3, h4, h5.mono fun i c ⟨x, hx, he⟩ => ⟨x, hx, ih he⟩⟩

theorem ExA.le {B : Nat} {w : World} {m m' : Nat} {cs : List Value} {x : Ex} (h : ExA B w m cs x) (hm : m ≤ m') : ExA B w m' cs x := by
  induction hm with
  | refl => exact h
  | step _ ih => exact ih.more

theorem SmA.more {B : Nat} {w : World} : ∀ {m : Nat} {cs : List Value} {x : Sm}, SmA B w m cs x → SmA B w (m + 1) cs x := by
  intro m
  induction m with
  | zero => intro cs x h; exact h.elim
  | succ m ih =>
    intro cs x h
    cases x with
    | mk k s t es b e =>
      obtain ⟨v1, v2, v3, h1, h2, h3, h4, h5, h6, h7⟩ := h
      exact ⟨v1, v2, v3, h1, h2, h3, h4, h5.mono fun i c ⟨x, hx, he⟩ => ⟨x, hx, he.more⟩, h6.mono fun i c ⟨x, hx, he⟩ => ⟨x, hx, ih he⟩, h7.mono fun i c ⟨x, hx, he⟩ => ⟨x, hx, ih he⟩⟩

theorem SmA.le {B : Nat} {w : World} {m m' : Nat} {cs : List Value} {x : Sm} (h : SmA B w m cs x) (hm : m ≤ m') : SmA B w m' cs x := by
  induction hm with
  | refl => exact h
  | step _ ih => exact ih.more

theorem ExA.below {B : Nat} {w w' : World} (hw : Below B w w') : ∀ {m : Nat} {cs : List Value} {x : Ex}, ExA B w m cs x → ExA B w' m cs x := by
  intro m
  induction m with
  | zero => intro cs x h; exact h.elim
  | succ m ih =>
    intro cs x h
    cases x with
    | mk k n s l =>
      obtain ⟨v, h1, h2, h3, h4, h5⟩ := h
      exact ⟨v, h1, h2, h3, h4, h5.below hw fun i c ⟨x, hx, he⟩ => ⟨x, hx, ih he⟩⟩

theorem SmA.below {B : Nat} {w w' : World} (hw : Below B w w') : ∀ {m : Nat} {cs : List Value} {x : Sm}, SmA B w m cs x → SmA B w' m cs x := by
  intro m
  induction m with
  | zero => intro cs x h; exact h.elim
  | succ m ih =>
    intro cs x h
    cases x with
    | mk k s t es b e =>
      obtain ⟨v1, v2, v3, h1, h2, h3, h4, h5, h6, h7⟩ := h
      exact ⟨v1, v2, v3, h1, h2, h3, h4, h5.below hw fun i c ⟨x, hx, he⟩ => ⟨x, hx, he.below hw⟩, h6.below hw fun i c ⟨x, hx, he⟩ => ⟨x, hx, ih he⟩, h7.below hw fun i c ⟨x, hx, he⟩ => ⟨x, hx, ih he⟩⟩

theorem RuA.below {B : Nat} {w w' : World} (hw : Below B w w') {m : Nat} {cs : List Value} {r : Ru} (h : RuA B w m cs r) : RuA B w' m cs r := by
  obtain ⟨c0, c1, c2, c3, v, h1, h2, h3, h4⟩ := h
  exact ⟨c0, c1, c2, c3, v, h1, h2, h3.below hw, h4.below hw fun i c ⟨x, hx, he⟩ => ⟨x, hx, he.below hw⟩⟩

/-! ### From the row's own reading of an argument -/

/-- A slice that is read, element by element. -/
theorem open_sl {H : Type} {enc : TypeId × Value → H} {P : Program} {w : World} {base : Nat} {spare : Nat → Bool} {held : Bool} {t e : TypeId} {fuel sz : Nat} {cs : List Value} {x : DataW H × List MemPlace}
    (ht : P.underlying t = some (.slice e)) (hc : P.cellsOf e = sz) (hsz : 0 < sz) (h : DataW.trod enc P w base spare held fuel t cs = some x) :
    ∃ v len, cs = [v] ∧ Sl w w.heap.size sz v len (fun _ c => ∃ n y, n < fuel ∧ DataW.trod enc P w base spare held n e c = some y) := by
  rcases DataW.trod_slice ht h with ⟨rfl, _⟩ | ⟨a, len, cap, elems, rest, n, hn, rfl, _, hb, hl, hm, hlen, hel, _, _⟩
  · exact ⟨_, 0, rfl, none, 0, rfl, Nat.zero_le _, fun h0 => absurd h0 (Nat.lt_irrefl 0)⟩
  refine ⟨_, len, rfl, some a, cap, rfl, by omega, fun h0 => ?_⟩
  have each : ∀ i, i < len → ∃ c : List Value, c.length = sz ∧ (∀ j, j < sz → w.cell? (a.add (i * sz + j)) = c[j]?) ∧ ∃ y, DataW.trod enc P w base spare held n e c = some y := by
    intro i hi
    have h1 := hel i hi
    rw [List.getElem?_eq_getElem (by omega), hc] at h1
    obtain ⟨c, h2, h3⟩ := Option.bind_eq_some_iff.1 h1
    obtain ⟨_, h4, h5⟩ := World.cells?_some h2
    exact ⟨c, h4, fun j hj => by rw [← h5 j hj, Go.Deep.add_add], _, h3⟩
  have hspot : a.spot = none := by
    obtain ⟨c, h1, h2, _⟩ := each 0 h0
    have h3 := h2 0 hsz
    rw [List.getElem?_eq_getElem (by omega)] at h3
    have := World.cell?_spot h3
    simpa [Addr.add] using this
  obtain ⟨b, off, sp⟩ := a
  simp only at hspot
  subst hspot
  have plain : ∀ j, (⟨b, off, none⟩ : Addr).add j = ⟨b, off + j, none⟩ := fun j => by unfold Addr.add; split <;> simp_all
  refine ⟨b, off, rfl, ?_, fun i hi => ?_⟩
  · obtain ⟨c, h1, h2, _⟩ := each 0 h0
    have h3 := h2 0 hsz
    rw [List.getElem?_eq_getElem (by omega), plain] at h3
    exact World.block_lt_of_cell? w _ h3
  · obtain ⟨c, h1, h2, y, h3⟩ := each i hi
    exact ⟨c, h1, fun j hj => by rw [← h2 j hj, plain, Nat.add_assoc], n, y, by omega, h3⟩

/-- One list for all elements. -/
theorem Sl.list {w : World} {B sz : Nat} {v : Value} {len : Nat} {α : Type} {E : List Value → α → Prop} (h : Sl w B sz v len (fun _ c => ∃ x, E c x)) : ∃ l : List α, l.length = len ∧ Sl w B sz v l.length (fun i c => ∃ x, l[i]? = some x ∧ E c x) := by
  obtain ⟨a, cap, hv, hl, hs⟩ := h
  by_cases h0 : 0 < len
  · obtain ⟨b, off, ha, hb, hi⟩ := hs h0
    have each : ∀ i : Fin len, ∃ x : α, ∃ cs : List Value, cs.length = sz ∧ (∀ j, j < sz → w.cell? ⟨b, off + i.1 * sz + j, none⟩ = cs[j]?) ∧ E cs x := fun i => by
      obtain ⟨cs, h1, h2, x, h3⟩ := hi i.1 i.2
      exact ⟨x, cs, h1, h2, h3⟩
    refine ⟨List.ofFn fun i => Classical.choose (each i), by simp, a, cap, by simpa using hv, by simpa using hl, fun _ => ⟨b, off, ha, hb, fun i hi' => ?_⟩⟩
    have hi2 : i < len := by simpa using hi'
    obtain ⟨cs, h1, h2, h3⟩ := Classical.choose_spec (each ⟨i, hi2⟩)
    exact ⟨cs, h1, h2, _, by simp [hi2], h3⟩
  · obtain rfl : len = 0 := by omega
    exact ⟨[], rfl, a, cap, hv, hl, fun h => absurd h (Nat.lt_irrefl 0)⟩

theorem cellsEx : Tryz.prog.cellsOf 57 = 4 := by kernel_rfl
theorem cellsSm : Tryz.prog.cellsOf 111 = 6 := by kernel_rfl
theorem cellsRu : Tryz.prog.cellsOf 60 = 7 := by kernel_rfl
theorem cellsI : Tryz.prog.cellsOf 3 = 1 := by kernel_rfl
theorem cellsB : Tryz.prog.cellsOf 4 = 1 := by kernel_rfl
theorem cellsS : Tryz.prog.cellsOf 9 = 1 := by kernel_rfl
theorem cellsLE : Tryz.prog.cellsOf 55 = 1 := by kernel_rfl
theorem cellsLS : Tryz.prog.cellsOf 58 = 1 := by kernel_rfl

set_option maxRecDepth 100000
section
variable {H : Type} {enc : TypeId × Value → H} {w : World} {base : Nat} {spare : Nat → Bool} {held : Bool}

theorem openE : ∀ {fuel : Nat} {cs : List Value} {y : DataW H × List MemPlace}, DataW.trod enc Tryz.prog w base spare held fuel 57 cs = some y → ∃ x, ExA w.heap.size w fuel cs x := by
  intro fuel
  induction fuel using Nat.strongRecOn with
  | ind fuel ih =>
    intro cs y h
    obtain ⟨xs, n, rfl, _, hl, hxl, hf⟩ := DataW.trod_struct Tryz.underlying57 h
    rw [cellsEx] at hl
    match cs, hl, xs, hxl with
    | [v0, v1, v2, v3], _, [y0, y1, y2, y3], _ =>
      have g0 := hf 0 _ rfl
      have g1 := hf 1 _ rfl
      have g2 := hf 2 _ rfl
      have g3 := hf 3 _ rfl
      obtain ⟨k, e0, _, w0⟩ := DataW.trod_int Tryz.underlying3 g0
      obtain ⟨q, e1, _, w1⟩ := DataW.trod_int Tryz.underlying3 g1
      obtain ⟨s, e2, _, w2⟩ := DataW.trod_string Tryz.underlying9 g2
      obtain ⟨v, len, e3, hs⟩ := open_sl Tryz.underlying55 cellsEx (by omega) g3
      simp [cellsI, cellsS, cellsLE] at e0 e1 e2 e3
      subst e0 e1 e2 e3
      obtain ⟨l, _, hs⟩ := Sl.list (E := fun c x => ExA w.heap.size w n c x) (hs.mono fun i c ⟨m, z, hm, hz⟩ => let ⟨x, hx⟩ := ih m (by omega) hz; ⟨x, hx.le (by omega)⟩)
      exact ⟨.mk k q s l, _, rfl, w0, w1, w2, hs⟩

theorem openS : ∀ {fuel : Nat} {cs : List Value} {y : DataW H × List MemPlace}, DataW.trod enc Tryz.prog w base spare held fuel 111 cs = some y → ∃ x, SmA w.heap.size w fuel cs x := by
  intro fuel
  induction fuel using Nat.strongRecOn with
  | ind fuel ih =>
    intro cs y h
    obtain ⟨xs, n, rfl, _, hl, hxl, hf⟩ := DataW.trod_struct Tryz.underlying111 h
    rw [cellsSm] at hl
    match cs, hl, xs, hxl with
    | [v0, v1, v2, v3, v4, v5], _, [y0, y1, y2, y3, y4, y5], _ =>
      have g0 := hf 0 _ rfl
      have g1 := hf 1 _ rfl
      have g2 := hf 2 _ rfl
      have g3 := hf 3 _ rfl
      have g4 := hf 4 _ rfl
      have g5 := hf 5 _ rfl
      obtain ⟨k, e0, _, w0⟩ := DataW.trod_int Tryz.underlying3 g0
      obtain ⟨s, e1, _, w1⟩ := DataW.trod_string Tryz.underlying9 g1
      obtain ⟨t, e2, _, w2⟩ := DataW.trod_string Tryz.underlying9 g2
      obtain ⟨u1, len1, e3, h3⟩ := open_sl Tryz.underlying55 cellsEx (by omega) g3
      obtain ⟨u2, len2, e4, h4⟩ := open_sl Tryz.underlying58 cellsSm (by omega) g4
      obtain ⟨u3, len3, e5, h5⟩ := open_sl Tryz.underlying58 cellsSm (by omega) g5
      simp [cellsI, cellsS, cellsLE, cellsLS] at e0 e1 e2 e3 e4 e5
      subst e0 e1 e2 e3 e4 e5
      obtain ⟨l1, _, h3⟩ := Sl.list (E := fun c x => ExA w.heap.size w n c x) (h3.mono fun i c ⟨m, z, hm, hz⟩ => let ⟨x, hx⟩ := openE hz; ⟨x, hx.le (by omega)⟩)
      obtain ⟨l2, _, h4⟩ := Sl.list (E := fun c x => SmA w.heap.size w n c x) (h4.mono fun i c ⟨m, z, hm, hz⟩ => let ⟨x, hx⟩ := ih m (by omega) hz; ⟨x, hx.le (by omega)⟩)
      obtain ⟨l3, _, h5⟩ := Sl.list (E := fun c x => SmA w.heap.size w n c x) (h5.mono fun i c ⟨m, z, hm, hz⟩ => let ⟨x, hx⟩ := ih m (by omega) hz; ⟨x, hx.le (by omega)⟩)
      exact ⟨.mk k s t l1 l2 l3, _, _, _, rfl, w0, w1, w2, h3, h4, h5⟩

theorem openR {fuel : Nat} {cs : List Value} {y : DataW H × List MemPlace} (h : DataW.trod enc Tryz.prog w base spare held fuel 60 cs = some y) : ∃ x, RuA w.heap.size w fuel cs x := by
  obtain ⟨xs, n, rfl, _, hl, hxl, hf⟩ := DataW.trod_struct Tryz.underlying60 h
  rw [cellsRu] at hl
  match cs, hl, xs, hxl with
  | [v0, v1, v2, v3, v4, v5, v6], _, [y0, y1, y2, y3], _ =>
    have g0 := hf 0 _ rfl
    have g1 := hf 1 _ rfl
    have g2 := hf 2 _ rfl
    have g3 := hf 3 _ rfl
    obtain ⟨k, e0, _, w0⟩ := DataW.trod_int Tryz.underlying3 g0
    obtain ⟨b, e1, _⟩ := DataW.trod_bool Tryz.underlying4 g1
    obtain ⟨x, hx⟩ := openE g2
    obtain ⟨u, len, e3, h3⟩ := open_sl Tryz.underlying58 cellsSm (by omega) g3
    simp [cellsI, cellsB, cellsEx, cellsLS] at e0 e1 e3 hx
    subst e0 e1 e3
    obtain ⟨l, _, h3⟩ := Sl.list (E := fun c x => SmA w.heap.size w (n + 1) c x) (h3.mono fun i c ⟨m, z, hm, hz⟩ => let ⟨x, hx⟩ := openS hz; ⟨x, hx.le (by omega)⟩)
    exact ⟨⟨k, b, x, l⟩, _, _, _, _, _, rfl, w0, hx.le (by omega), h3⟩

/-- A program that came in: its rules. -/
theorem openP {fuel : Nat} {cs : List Value} {y : DataW H × List MemPlace} (h : DataW.trod enc Tryz.prog w base spare held fuel 26 cs = some y) :
    ∃ (v : Value) (l : List Ru), cs = [v] ∧ Sl w w.heap.size 7 v l.length (fun i c => ∃ x, l[i]? = some x ∧ RuA w.heap.size w fuel c x) := by
  obtain ⟨v, len, e, hs⟩ := open_sl Tryz.underlying26 cellsRu (by omega) h
  have up : ∀ {m : Nat} {c : List Value} {x : Ru}, m ≤ fuel → RuA w.heap.size w m c x → RuA w.heap.size w fuel c x := fun hm ⟨c0, c1, c2, c3, v, h1, h2, h3, h4⟩ =>
    ⟨c0, c1, c2, c3, v, h1, h2, h3.le hm, h4.mono fun i c ⟨x, hx, he⟩ => ⟨x, hx, he.le hm⟩⟩
  obtain ⟨l, _, hs⟩ := Sl.list (E := fun c x => RuA w.heap.size w fuel c x) (hs.mono fun i c ⟨m, z, hm, hz⟩ => let ⟨x, hx⟩ := openR hz; ⟨x, up (by omega) hx⟩)
  exact ⟨v, l, e, hs⟩
end
end Go.Proofs.YtfbpkbochhfnhaaGreatDoor
