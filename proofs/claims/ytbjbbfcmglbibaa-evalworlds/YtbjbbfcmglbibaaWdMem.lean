/-
  Files and lines (P3.1): what is wrong with them, as a function of data; how they lie in memory, below a block's number B.
-/
import Derived.Test.YtbjbbfcmglbibaaCkMem
import Derived.Lib.Bytealg
namespace Go.Proofs.Ytbjbbfcmglbibaa
open Go.ChangeShapes Go.WideShapes Go.ChangeAt Go.RowKit Go.Joins

/-- A file: its name and its lines. -/
structure Fl where
  name : ByteArray
  lines : List ByteArray
  deriving Inhabited

/-- May a text be a line? -/
def lineB (s : ByteArray) : Bool := decide (s.size ≤ 200) && !s.data.toList.contains 10
def linesR (l : List ByteArray) : Int := if l.all lineB then 0 else 4
def fileR (x : Fl) (ahead : List Fl) : Int :=
  if 100 < x.lines.length ∨ 200 < x.name.size then 1 else if ahead.any (fun g => g.name.toList == x.name.toList) then 9 else linesR x.lines
def worldR (fs : List Fl) (ls : List ByteArray) : Int :=
  if 8 < fs.length ∨ 200 < ls.length then 1
  else (((List.range fs.length).map fun i => fileR (fs.getD i default) (fs.take i)).find? (· != 0)).getD (linesR ls)

theorem indexByte_neg (l : List UInt8) (c : UInt8) : decide (0 ≤ Lib.indexByte l c) = l.contains c := by
  induction l with
  | nil => rfl
  | cons b l ih =>
    have hg := Lib.indexByte_ge l c
    unfold Lib.indexByte
    by_cases h : b = c
    · simp [h]
    · have h2 : (b == c) = false := by simpa using h
      have h3 : (c == b) = false := by simpa using fun e => h e.symm
      rw [h2]
      simp only [Bool.false_eq_true, if_false, List.contains_cons, h3, Bool.false_or]
      rw [← ih]
      by_cases h4 : Lib.indexByte l c = -1
      · rw [h4]; rfl
      · have h5 : (Lib.indexByte l c == -1) = false := by simpa using h4
        rw [h5]
        simp only [Bool.false_eq_true, if_false]
        rw [decide_eq_true (by omega), decide_eq_true (by omega)]

theorem lineB_t {s : ByteArray} (h1 : s.size ≤ 200) (h2 : s.data.toList.contains 10 = false) : lineB s = true := by simp only [lineB, h2, decide_eq_true h1]; rfl
theorem lineB_long {s : ByteArray} (h1 : ¬ s.size ≤ 200) : lineB s = false := by simp [lineB, h1]
theorem lineB_ten {s : ByteArray} (h2 : s.data.toList.contains 10 = true) : lineB s = false := by simp only [lineB, h2]; simp

theorem linesR_ok {l : List ByteArray} (h : ∀ q, q < l.length → lineB (l.getD q default) = true) : linesR l = 0 := by
  have : l.all lineB = true := by
    rw [List.all_eq_true]
    intro x hx
    obtain ⟨q, hq, e⟩ := List.getElem_of_mem hx
    have := h q hq
    rwa [List.getD_eq_getElem?_getD, List.getElem?_eq_getElem hq, Option.getD_some, e] at this
  simp [linesR, this]
theorem linesR_bad {l : List ByteArray} {q : Nat} (hq : q < l.length) (h : lineB (l.getD q default) = false) : linesR l = 4 := by
  have : l.all lineB = false := by
    rw [List.all_eq_false]
    refine ⟨l[q], List.getElem_mem hq, ?_⟩
    rw [List.getD_eq_getElem?_getD, List.getElem?_eq_getElem hq, Option.getD_some] at h
    simp [h]
  simp [linesR, this]

theorem find_first {f : Nat → Int} {n k : Nat} {d : Int} (hk : k < n) (h : ∀ q, q < k → f q = 0) (h2 : f k ≠ 0) : (((List.range n).map f).find? (· != 0)).getD d = f k := by
  have : ((List.range n).map f).find? (· != 0) = some (f k) := by
    rw [List.find?_eq_some_iff_getElem]
    refine ⟨by simpa using h2, k, by simpa using hk, by simp, fun j hj => ?_⟩
    have := h j hj
    simp [this]
  rw [this]; rfl
theorem find_none {f : Nat → Int} {n : Nat} {d : Int} (h : ∀ q, q < n → f q = 0) : (((List.range n).map f).find? (· != 0)).getD d = d := by
  have : ((List.range n).map f).find? (· != 0) = none := by
    rw [List.find?_eq_none]
    intro x hx
    simp only [List.mem_map, List.mem_range] at hx
    obtain ⟨q, hq, rfl⟩ := hx
    simp [h q hq]
  rw [this]; rfl

theorem worldR_big {fs : List Fl} {ls : List ByteArray} (h : 8 < fs.length ∨ 200 < ls.length) : worldR fs ls = 1 := by simp [worldR, h]
theorem worldR_bad {fs : List Fl} {ls : List ByteArray} (h : ¬ (8 < fs.length ∨ 200 < ls.length)) {k : Nat} (hk : k < fs.length) (h1 : ∀ q, q < k → fileR (fs.getD q default) (fs.take q) = 0) (h2 : fileR (fs.getD k default) (fs.take k) ≠ 0) : worldR fs ls = fileR (fs.getD k default) (fs.take k) := by
  rw [worldR, if_neg h]
  exact find_first (f := fun i => fileR (fs.getD i default) (fs.take i)) hk h1 h2
theorem worldR_ok {fs : List Fl} {ls : List ByteArray} (h : ¬ (8 < fs.length ∨ 200 < ls.length)) (h1 : ∀ q, q < fs.length → fileR (fs.getD q default) (fs.take q) = 0) : worldR fs ls = linesR ls := by
  rw [worldR, if_neg h]
  exact find_none (f := fun i => fileR (fs.getD i default) (fs.take i)) h1

/-! ### In memory -/

/-- Texts, one a cell. -/
def TxA (c : List Value) (s : ByteArray) : Prop := c = [.string s] ∧ s.size ≤ maxLen
def TxL (w : World) (B : Nat) (v : Value) (l : List ByteArray) : Prop := Sl w B 1 v l.length (fun i c => ∃ s, l[i]? = some s ∧ TxA c s)
def FlA (B : Nat) (w : World) (c : List Value) (x : Fl) : Prop := ∃ v, c = [.string x.name, v] ∧ x.name.size ≤ maxLen ∧ TxL w B v x.lines
def FlL (w : World) (B : Nat) (v : Value) (l : List Fl) : Prop := (∃ a len cap, v = .slice a len cap ∧ len ≤ cap) ∧ Sl w B 2 v l.length (fun i c => ∃ x, l[i]? = some x ∧ FlA B w c x)

theorem TxL.below {w w' : World} {B : Nat} {v : Value} {l : List ByteArray} (h : TxL w B v l) (hw : Below B w w') : TxL w' B v l := Sl.below h hw fun _ _ h => h
theorem FlA.below {w w' : World} {B : Nat} {c : List Value} {x : Fl} (h : FlA B w c x) (hw : Below B w w') : FlA B w' c x := by
  obtain ⟨v, h1, h2, h3⟩ := h
  exact ⟨v, h1, h2, h3.below hw⟩
theorem FlL.below {w w' : World} {B : Nat} {v : Value} {l : List Fl} (h : FlL w B v l) (hw : Below B w w') : FlL w' B v l := ⟨h.1, Sl.below h.2 hw fun _ _ ⟨x, hx, he⟩ => ⟨x, hx, he.below hw⟩⟩

/-- A text of a list. -/
theorem txAt {w : World} {b off : Nat} {l : List ByteArray} (hi : ∀ i, i < l.length → ∃ cs : List Value, cs.length = 1 ∧ (∀ j, j < 1 → w.cell? ⟨b, off + i * 1 + j, none⟩ = cs[j]?) ∧ ∃ s, l[i]? = some s ∧ TxA cs s) (i : Nat) (h : i < l.length) :
    w.cell? ⟨b, off + i, none⟩ = some (.string (l.getD i default)) ∧ (l.getD i default).size ≤ maxLen := by
  obtain ⟨cs, _, hc, s, hs, rfl, hz⟩ := hi i h
  have := hc 0 (by omega)
  have e : l.getD i default = s := by simp [List.getD_eq_getElem?_getD, hs]
  rw [e]
  exact ⟨by simpa using this, hz⟩

theorem flAt {w : World} {B b off : Nat} {l : List Fl} (hi : ∀ i, i < l.length → ∃ cs : List Value, cs.length = 2 ∧ (∀ j, j < 2 → w.cell? ⟨b, off + i * 2 + j, none⟩ = cs[j]?) ∧ ∃ x, l[i]? = some x ∧ FlA B w cs x) (i o : Nat) (ho : off + i * 2 = o) (h : i < l.length) :
    ∃ (a : Option Addr) (cap : Nat), w.cell? ⟨b, o, none⟩ = some (.string (l.getD i default).name) ∧ w.cell? ⟨b, o + 1, none⟩ = some (.slice a (l.getD i default).lines.length cap) ∧ (l.getD i default).name.size ≤ maxLen ∧ (l.getD i default).lines.length ≤ maxLen ∧ Hid (TxL w B (.slice a (l.getD i default).lines.length cap) (l.getD i default).lines) := by
  obtain ⟨cs, _, hc, x, hx, v, rfl, hz, ht⟩ := hi i h
  have e : l.getD i default = x := by simp [List.getD_eq_getElem?_getD, hx]
  subst ho
  rw [e]
  have ht' := ht
  obtain ⟨a, cap, rfl, hl, _⟩ := ht
  exact ⟨a, cap, hc 0 (by omega), hc 1 (by omega), hz, hl, ht'⟩

theorem cellsTx : Try.prog.cellsOf 9 = 1 := by kernel_rfl
theorem cellsLT : Try.prog.cellsOf 23 = 1 := by kernel_rfl
theorem cellsFl : Try.prog.cellsOf 28 = 2 := by kernel_rfl

section
variable {H : Type} {enc : TypeId × Value → H} {w : World} {base : Nat} {spare : Nat → Bool} {held : Bool}
theorem open_texts {fuel : Nat} {cs : List Value} {y : DataW H × List MemPlace} (h : DataW.trod enc Try.prog w base spare held fuel 23 cs = some y) : ∃ (v : Value) (l : List ByteArray), cs = [v] ∧ TxL w w.heap.size v l := by
  obtain ⟨v, len, e, hs⟩ := open_sl Try.underlying23 cellsTx (by omega) h
  obtain ⟨l, _, hs⟩ := Sl.list (E := fun c x => TxA c x) (hs.mono fun i c ⟨m, z, hm, hz⟩ => let ⟨s, e2, _, w2⟩ := DataW.trod_string Try.underlying9 hz; ⟨s, e2, w2⟩)
  exact ⟨v, l, e, hs⟩

theorem open_file {fuel : Nat} {cs : List Value} {y : DataW H × List MemPlace} (h : DataW.trod enc Try.prog w base spare held fuel 28 cs = some y) : ∃ x, FlA w.heap.size w cs x := by
  obtain ⟨xs, n, rfl, _, hl, hxl, hf⟩ := DataW.trod_struct Try.underlying28 h
  rw [cellsFl] at hl
  match cs, hl, xs, hxl with
  | [v0, v1], _, [y0, y1], _ =>
    have g0 := hf 0 _ rfl
    have g1 := hf 1 _ rfl
    obtain ⟨s, e0, _, w0⟩ := DataW.trod_string Try.underlying9 g0
    obtain ⟨v, l, e1, h1⟩ := open_texts g1
    simp [cellsTx, cellsLT] at e0 e1
    subst e0 e1
    exact ⟨⟨s, l⟩, _, rfl, w0, h1⟩

theorem open_files {fuel : Nat} {cs : List Value} {y : DataW H × List MemPlace} (h : DataW.trod enc Try.prog w base spare held fuel 22 cs = some y) : ∃ (v : Value) (l : List Fl), cs = [v] ∧ FlL w w.heap.size v l := by
  obtain ⟨v, len, e, hs⟩ := open_sl Try.underlying22 cellsFl (by omega) h
  obtain ⟨l, _, hs⟩ := Sl.list (E := fun c x => FlA w.heap.size w c x) (hs.mono fun i c ⟨m, z, hm, hz⟩ => open_file hz)
  refine ⟨v, l, e, ?_, hs⟩
  subst e
  rcases DataW.trod_slice Try.underlying22 h with ⟨h1, _⟩ | ⟨a, len, cap, _, _, _, _, h1, _, _, h2, _⟩
  · cases h1; exact ⟨_, _, _, rfl, Nat.le_refl _⟩
  · cases h1; exact ⟨_, _, _, rfl, h2⟩
end
end Go.Proofs.Ytbjbbfcmglbibaa
