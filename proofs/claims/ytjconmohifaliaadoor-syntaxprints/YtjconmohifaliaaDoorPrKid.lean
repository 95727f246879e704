/-
  What the walks of the texts share: the table that strconv.Itoa reads; an element of a list of expressions; texts and their lengths.
-/
import Derived.Test.YtjconmohifaliaaDoorPrShelf
import Derived.Test.YtjconmohifaliaaDoorCkMem
import Derived.Test.YtjconmohifaliaaDoorRefE
import Derived.Lib.AppendIntMem
import Derived.Lib.ItoaMem
namespace Go.Proofs.YtjconmohifaliaaDoor
open Go.ChangeShapes Go.WideShapes Go.ChangeAt Go.RowKit Go.Joins
set_option linter.unusedVariables false
set_option maxRecDepth 100000

/-- The table that strconv.Itoa reads holds the powers of ten. -/
def Pow (w : World) : Prop := Lib.TabIs Tryd.prog w "internal/strconv.uint64pow10" .u64 Lib.pow10Tab

theorem gPow : ∃ g, Tryd.prog.globalNamed "internal/strconv.uint64pow10" = some g := by
  cases h : Tryd.prog.globalNamed "internal/strconv.uint64pow10" with
  | none =>
    have e : (Tryd.prog.globalNamed "internal/strconv.uint64pow10").isSome = true := by kernel_rfl
    rw [h] at e; cases e
  | some g => exact ⟨g, rfl⟩

theorem Pow.stays {w w' : World} (h : Pow w) (hb : Below w.heap.size w w') : Pow w' := by
  obtain ⟨g, hg⟩ := gPow
  exact tab_stays hg h hb (Nat.le_refl _)

theorem below_grown_k {w w' : World} (h : ∃ k os, w' = Sort.grow (w.drewN k) os) : Below w.heap.size w w' := by
  obtain ⟨k, os, rfl⟩ := h
  exact Lib.below_grow w.heap.size w (Nat.le_refl _) k os

/-- An element of a list of expressions, at the offset o. -/
theorem kid {B m b off : Nat} {w : World} {l : List Ex} (hi : ∀ i, i < l.length → ∃ cs : List Value, cs.length = 4 ∧ (∀ j, j < 4 → w.cell? ⟨b, off + i * 4 + j, none⟩ = cs[j]?) ∧ ∃ x, l[i]? = some x ∧ ExA B w m cs x) (i o : Nat) (ho : off + i * 4 = o) (h : i < l.length) :
    ∃ (k n : Int) (s : ByteArray) (a : Option Addr) (len cap : Nat), w.cell? ⟨b, o, none⟩ = some (.int .i64 k) ∧ w.cell? ⟨b, o + 1, none⟩ = some (.int .i64 n) ∧ w.cell? ⟨b, o + 2, none⟩ = some (.string s) ∧ w.cell? ⟨b, o + 3, none⟩ = some (.slice a len cap) ∧ Hid (ExA B w m [.int .i64 k, .int .i64 n, .string s, .slice a len cap] (l.getD i default)) ∧ l.getD i default ∈ l := by
  obtain ⟨cs, hcl, hcell, x, hx, hex⟩ := hi i h
  obtain ⟨k, n, s, a, len, cap, rfl⟩ := hex.shape
  subst ho
  have hx2 : l.getD i default = x := by simp [List.getD_eq_getElem?_getD, hx]
  refine ⟨k, n, s, a, len, cap, hcell 0 (by omega), hcell 1 (by omega), hcell 2 (by omega), hcell 3 (by omega), by rw [hx2]; exact hex, ?_⟩
  rw [hx2]
  exact List.mem_of_getElem? hx

theorem ret_str {a b : ByteArray} (h : a = b) : Ending.returned (.string a) = .returned (.string b) := by rw [h]

/-- The texts of a function's answers, up to 10^8 bytes. -/
def TextE (F : FuncId) (m : Nat) : Prop := ∀ (B : Nat) (x : Ex) (cs : List Value) (w : World), ExA B w m cs x → B ≤ w.heap.size → okE m x → (exT m x).length ≤ 100000000 → Pow w →
  Calls Tryd.prog F #[.agg cs.toArray] w fun e w' => e = .returned (.string (bs (exT m x))) ∧ Below w.heap.size w w'

/-- A callee within a region that draws: in each world of the class. -/
theorem kid_c {F : FuncId} {m B : Nat} {x : Ex} {cs : List Value} {w W : World} {T : ByteArray} (hX : TextE F m) (hx : ExA B w m cs x) (hw : Below w.heap.size w W) (hB : B ≤ w.heap.size) (hok : okE m x) (hlen : (exT m x).length ≤ 100000000) (hP : Pow w) (hT : T = bs (exT m x)) (d : Nat) (os : Array Obj) :
    Calls Tryd.prog F #[.agg cs.toArray] (Sort.grow (redrawn W d) os) fun e w'' => e = .returned (.string T) ∧ ∃ p : Regrown, w'' = Sort.grow (redrawn W p.d) p.os := by
  have hb : Below w.heap.size w (Sort.grow (redrawn W d) os) := bl_trans hw (below_regrown W d os)
  subst hT
  exact Calls.regrown_of (hX B x cs _ (hx.below (hb.mono hB)) (Nat.le_trans hB hb.size) hok hlen (hP.stays hb))
end Go.Proofs.YtjconmohifaliaaDoor
