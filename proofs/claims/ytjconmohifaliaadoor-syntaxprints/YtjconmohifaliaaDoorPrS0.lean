/-
  What the walks of statements' texts share: contracts of a statement's and of a block's text; callees in each world of the class.
-/
import Derived.Test.YtjconmohifaliaaDoorPrE
import Derived.Test.YtjconmohifaliaaDoorPrD0
import Derived.Test.YtjconmohifaliaaDoorPrQ
import Derived.Test.YtjconmohifaliaaDoorPrLen
namespace Go.Proofs.YtjconmohifaliaaDoor
open Go.ChangeShapes Go.WideShapes Go.ChangeAt Go.RowKit Go.Joins
set_option linter.unusedVariables false
set_option maxRecDepth 100000

/-- A statement's text. -/
def TextS (F : FuncId) (m : Nat) : Prop := ∀ (B : Nat) (x : Sm) (cs : List Value) (w : World), SmA B w m cs x → B ≤ w.heap.size → okS m x → (smT m x).length ≤ 100000000 → Pow w →
  Calls Tryd.prog F #[.agg cs.toArray] w fun e w' => e = .returned (.string (bs (smT m x))) ∧ Below w.heap.size w w'

/-- Statements in a list. -/
def SmL (B : Nat) (w : World) (m : Nat) (v : Value) (l : List Sm) : Prop := Sl w B 6 v l.length (fun i c => ∃ x, l[i]? = some x ∧ SmA B w m c x)

theorem SmL.below {B m : Nat} {w w' : World} {v : Value} {l : List Sm} (h : SmL B w m v l) (hw : Below B w w') : SmL B w' m v l := Sl.below h hw fun i c ⟨x, h1, h2⟩ => ⟨x, h1, h2.below hw⟩

/-- A block's text. -/
def TextB (F : FuncId) (m : Nat) : Prop := ∀ (B : Nat) (l : List Sm) (v : Value) (w : World), SmL B w m v l → B ≤ w.heap.size → (∀ x ∈ l, okS m x) → (blL (smT m) l).length ≤ 100000000 → Pow w →
  Calls Tryd.prog F #[v] w fun e w' => e = .returned (.string (bs (blL (smT m) l))) ∧ Below w.heap.size w w'

theorem blk_k {F : FuncId} {m B : Nat} {l : List Sm} {v : Value} {w W : World} {T : ByteArray} (hX : TextB F m) (hv : SmL B w m v l) (hw : Below w.heap.size w W) (hB : B ≤ w.heap.size) (hok : ∀ x ∈ l, okS m x) (hlen : (blL (smT m) l).length ≤ 100000000) (hP : Pow w) (hT : T = bs (blL (smT m) l)) (d : Nat) (os : Array Obj) :
    Calls Tryd.prog F #[v] (Sort.grow (redrawn W d) os) fun e w'' => e = .returned (.string T) ∧ ∃ p : Regrown, w'' = Sort.grow (redrawn W p.d) p.os := by
  have hb : Below w.heap.size w (Sort.grow (redrawn W d) os) := bl_trans hw (below_regrown W d os)
  subst hT
  exact Calls.regrown_of (hX B l v _ (hv.below (hb.mono hB)) (Nat.le_trans hB hb.size) hok hlen (hP.stays hb))

theorem elem_k {m B : Nat} {x : Ex} {s : ByteArray} {cs : List Value} {w W : World} {T : ByteArray} (hx : ExA B w m cs x) (hw : Below w.heap.size w W) (hB : B ≤ w.heap.size) (hok : okE m x) (hlen : (exT m x).length ≤ 100000000) (hs : s.size ≤ 200) (hP : Pow w) (hT : T = bs (s.toList ++ [91] ++ exT m x ++ [93])) (d : Nat) (os : Array Obj) :
    Calls Tryd.prog 34 #[.string s, .agg cs.toArray] (Sort.grow (redrawn W d) os) fun e w'' => e = .returned (.string T) ∧ ∃ p : Regrown, w'' = Sort.grow (redrawn W p.d) p.os := by
  have hb : Below w.heap.size w (Sort.grow (redrawn W d) os) := bl_trans hw (below_regrown W d os)
  subst hT
  exact Calls.regrown_of (elemText_c (exprText_c m) B s x cs _ (hx.below (hb.mono hB)) (Nat.le_trans hB hb.size) hok hlen hs (hP.stays hb))

theorem quoted_k {t : ByteArray} {W : World} {T : ByteArray} (ht : t.size ≤ 200) (hT : T = bs (quoteL t.toList)) (d : Nat) (os : Array Obj) :
    Calls Tryd.prog 33 #[.string t] (Sort.grow (redrawn W d) os) fun e w'' => e = .returned (.string T) ∧ ∃ p : Regrown, w'' = Sort.grow (redrawn W p.d) p.os := by
  subst hT
  exact Calls.regrown_of (quoted_c t ht _)
theorem quoteRef_k {t : ByteArray} {W : World} {T : ByteArray} (ht : t.size ≤ 200) (hT : T = bs (quoteL t.toList)) (d : Nat) (os : Array Obj) :
    Calls Tryd.prog 25 #[.string t] (Sort.grow (redrawn W d) os) fun e w'' => e = .returned (.string T) ∧ ∃ p : Regrown, w'' = Sort.grow (redrawn W p.d) p.os := by
  subst hT
  exact Calls.regrown_of ((quoteRef_c t ht _).mono fun e w' ⟨h1, h2⟩ => ⟨h1, by rw [h2]; exact Below.refl _ _⟩)

theorem exprsN_of {k : Int} {es b e : Nat} (h : partsS k es b e = true) : exprsN k es = true := by
  simp only [partsS, Bool.and_eq_true] at h
  exact h.1.1

theorem joinL_count (l : List (List UInt8)) : l.length ≤ (joinL l).length + 1 := by
  induction l with
  | nil => simp
  | cons x l ih =>
    cases l with
    | nil => simp
    | cons y l => simp only [joinL, List.length_append, List.length_cons, List.length_nil] at ih ⊢; omega
end Go.Proofs.YtjconmohifaliaaDoor
