/-
  The closures of the document's texts: argument i of the expression (of the statement) in block g, as text.
-/
import Derived.Test.YtjconmohifaliaaDoorPrKid
import Derived.BigQuiet
namespace Go.Proofs.YtjconmohifaliaaDoor
open Go.ChangeShapes Go.WideShapes Go.ChangeAt Go.RowKit Go.Joins
set_option linter.unusedVariables false
set_option maxRecDepth 100000

/-- A list of expressions that lies in memory. -/
def Kids (B b off m : Nat) (w : World) (l : List Ex) : Prop := ∀ i, i < l.length → ∃ cs : List Value, cs.length = 4 ∧ (∀ j, j < 4 → w.cell? ⟨b, off + i * 4 + j, none⟩ = cs[j]?) ∧ ∃ x, l[i]? = some x ∧ ExA B w m cs x

set_option maxHeartbeats 2000000 in
theorem arg_c {m : Nat} (hX : TextE 11 m) (B g b off i len cap : Nat) (l : List Ex) (w W : World) (hw : Below w.heap.size w W) (hB : B ≤ w.heap.size) (hb : b < B) (h3 : W.cell? ⟨g, 3, none⟩ = some (.slice (some ⟨b, off, none⟩) len cap)) (hll : l.length = len) (hi : Kids B b off m w l) (hlt : i < len) (hok : ∀ x ∈ l, okE m x) (hlen : (exT m (l.getD i default)).length ≤ 100000000) (hP : Pow w) :
    Calls Tryd.prog 23 #[.int .i64 i, .pointer (some ⟨g, 0, none⟩)] W fun e w' => e = .returned (.string (bs (exT m (l.getD i default)))) ∧ Below W.heap.size W w' := by
  obtain ⟨k0, n0, s0, a0, len0, cap0, p0, p1, p2, p3, hx0, hm0⟩ := kid hi i (off + i * 4) rfl (by omega)
  have hbw : b < w.heap.size := by omega
  have q0 : W.cell? ⟨b, off + i * 4, none⟩ = some (.int .i64 k0) := (hw.cell (p := ⟨b, off + i * 4, none⟩) hbw).trans p0
  have q1 : W.cell? ⟨b, off + i * 4 + 1, none⟩ = some (.int .i64 n0) := (hw.cell (p := ⟨b, off + i * 4 + 1, none⟩) hbw).trans p1
  have q2 : W.cell? ⟨b, off + i * 4 + 2, none⟩ = some (.string s0) := (hw.cell (p := ⟨b, off + i * 4 + 2, none⟩) hbw).trans p2
  have q3 : W.cell? ⟨b, off + i * 4 + 3, none⟩ = some (.slice a0 len0 cap0) := (hw.cell (p := ⟨b, off + i * 4 + 3, none⟩) hbw).trans p3
  have HC : Hid _ := hX B _ _ W (hx0.out.below (hw.mono hB)) (Nat.le_trans hB hw.size) (hok _ hm0) hlen (hP.stays hw)
  have i1 : (i : Int) < (len : Int) := by omega
  have i2 : (0 : Int) ≤ (i : Int) := by omega
  obtain ⟨T0, hT0⟩ : ∃ T, T = bs (exT m (l.getD i default)) := ⟨_, rfl⟩
  rw [← hT0] at HC ⊢
  clear hX hi hok hlen hP hx0 hm0 p0 p1 p2 p3 hT0 hll
  go_enter Tryd.func23, Tryd.ntmps23
  go_wp2_with fail
  refine Calls.mono HC.out ?_
  rintro e w1 ⟨rfl, hb1⟩
  have HB1 : Hid (Below W.heap.size W w1) := hb1
  clear hb1 HC
  go_wp2_with fail
  go_ret
  exact ⟨rfl, HB1.out⟩

theorem arg_k {m : Nat} (hX : TextE 11 m) (B g b off i len cap : Nat) (l : List Ex) (w W : World) (hw : Below w.heap.size w W) (hB : B ≤ w.heap.size) (hb : b < B) (h3 : W.cell? ⟨g, 3, none⟩ = some (.slice (some ⟨b, off, none⟩) len cap)) (hll : l.length = len) (hi : Kids B b off m w l) (hlt : i < len) (hok : ∀ x ∈ l, okE m x) (hlen : (exT m (l.getD i default)).length ≤ 100000000) (hP : Pow w) {T : ByteArray} (hT : T = bs (exT m (l.getD i default))) (d : Nat) (os : Array Obj) :
    Calls Tryd.prog 23 #[.int .i64 i, .pointer (some ⟨g, 0, none⟩)] (Sort.grow (redrawn W d) os) fun e w'' => e = .returned (.string T) ∧ ∃ p : Regrown, w'' = Sort.grow (redrawn W p.d) p.os := by
  subst hT
  exact Calls.regrown_of (arg_c hX B g b off i len cap l w _ (bl_trans hw (below_regrown W d os)) hB hb (cell_regrown h3 d os) hll hi hlt hok hlen hP)

set_option maxHeartbeats 2000000 in
theorem sarg_c {m : Nat} (hX : TextE 11 m) (B g b off i len cap : Nat) (l : List Ex) (w W : World) (hw : Below w.heap.size w W) (hB : B ≤ w.heap.size) (hb : b < B) (h3 : W.cell? ⟨g, 3, none⟩ = some (.slice (some ⟨b, off, none⟩) len cap)) (hll : l.length = len) (hi : Kids B b off m w l) (hlt : i < len) (hok : ∀ x ∈ l, okE m x) (hlen : (exT m (l.getD i default)).length ≤ 100000000) (hP : Pow w) :
    Calls Tryd.prog 43 #[.int .i64 i, .pointer (some ⟨g, 0, none⟩)] W fun e w' => e = .returned (.string (bs (exT m (l.getD i default)))) ∧ Below W.heap.size W w' := by
  obtain ⟨k0, n0, s0, a0, len0, cap0, p0, p1, p2, p3, hx0, hm0⟩ := kid hi i (off + i * 4) rfl (by omega)
  have hbw : b < w.heap.size := by omega
  have q0 : W.cell? ⟨b, off + i * 4, none⟩ = some (.int .i64 k0) := (hw.cell (p := ⟨b, off + i * 4, none⟩) hbw).trans p0
  have q1 : W.cell? ⟨b, off + i * 4 + 1, none⟩ = some (.int .i64 n0) := (hw.cell (p := ⟨b, off + i * 4 + 1, none⟩) hbw).trans p1
  have q2 : W.cell? ⟨b, off + i * 4 + 2, none⟩ = some (.string s0) := (hw.cell (p := ⟨b, off + i * 4 + 2, none⟩) hbw).trans p2
  have q3 : W.cell? ⟨b, off + i * 4 + 3, none⟩ = some (.slice a0 len0 cap0) := (hw.cell (p := ⟨b, off + i * 4 + 3, none⟩) hbw).trans p3
  have HC : Hid _ := hX B _ _ W (hx0.out.below (hw.mono hB)) (Nat.le_trans hB hw.size) (hok _ hm0) hlen (hP.stays hw)
  have i1 : (i : Int) < (len : Int) := by omega
  have i2 : (0 : Int) ≤ (i : Int) := by omega
  obtain ⟨T0, hT0⟩ : ∃ T, T = bs (exT m (l.getD i default)) := ⟨_, rfl⟩
  rw [← hT0] at HC ⊢
  clear hX hi hok hlen hP hx0 hm0 p0 p1 p2 p3 hT0 hll
  go_enter Tryd.func43, Tryd.ntmps43
  go_wp2_with fail
  refine Calls.mono HC.out ?_
  rintro e w1 ⟨rfl, hb1⟩
  have HB1 : Hid (Below W.heap.size W w1) := hb1
  clear hb1 HC
  go_wp2_with fail
  go_ret
  exact ⟨rfl, HB1.out⟩

theorem sarg_k {m : Nat} (hX : TextE 11 m) (B g b off i len cap : Nat) (l : List Ex) (w W : World) (hw : Below w.heap.size w W) (hB : B ≤ w.heap.size) (hb : b < B) (h3 : W.cell? ⟨g, 3, none⟩ = some (.slice (some ⟨b, off, none⟩) len cap)) (hll : l.length = len) (hi : Kids B b off m w l) (hlt : i < len) (hok : ∀ x ∈ l, okE m x) (hlen : (exT m (l.getD i default)).length ≤ 100000000) (hP : Pow w) {T : ByteArray} (hT : T = bs (exT m (l.getD i default))) (d : Nat) (os : Array Obj) :
    Calls Tryd.prog 43 #[.int .i64 i, .pointer (some ⟨g, 0, none⟩)] (Sort.grow (redrawn W d) os) fun e w'' => e = .returned (.string T) ∧ ∃ p : Regrown, w'' = Sort.grow (redrawn W p.d) p.os := by
  subst hT
  exact Calls.regrown_of (sarg_c hX B g b off i len cap l w _ (bl_trans hw (below_regrown W d os)) hB hb (cell_regrown h3 d os) hll hi hlt hok hlen hP)

end Go.Proofs.YtjconmohifaliaaDoor
