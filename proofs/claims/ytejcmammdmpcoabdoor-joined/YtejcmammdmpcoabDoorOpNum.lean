/-
  Contracts of value.Op at two numbers, an operator each: what is added, taken away, multiplied, divided (P1.4).
-/
import Derived.Test.YtejcmammdmpcoabDoorOpJoin
namespace Go.Proofs.YtejcmammdmpcoabDoor
open Go.ChangeShapes Go.WideShapes Go.ChangeAt Go.RowKit Go.Joins

theorem tl' (l m : List UInt8) (h : (l == m) = false) : ((⟨l.toArray⟩ : ByteArray).toList == m) = false := by rw [ByteArray.toList_eq]; exact h
theorem okN_n {n : Int} (s : ByteArray) (h1 : -1099511627776 ≤ n) (h2 : n ≤ 1099511627776) : okN false n s := ⟨h1, h2⟩

theorem op_nn (c : UInt8) (hc : c = 43 ∨ c = 45 ∨ c = 42 ∨ c = 47 ∨ c = 37) (x y : Int) (w : World) (h1 : -1099511627776 ≤ x) (h2 : x ≤ 1099511627776) (h3 : -1099511627776 ≤ y) (h4 : y ≤ 1099511627776) :
    Calls Tryd.prog 10 #[.string ⟨#[c]⟩, .agg #[.bool false, .int .i64 x, .string ⟨#[]⟩], .agg #[.bool false, .int .i64 y, .string ⟨#[]⟩]] w fun e w' => e = .returned (vt (reck [c] x y)) ∧ Below w.heap.size w w' := by
  have e : (⟨#[c]⟩ : ByteArray).toList = [c] := by rw [ByteArray.toList_eq]
  have k := op_good ⟨#[c]⟩ false x ⟨#[]⟩ false y ⟨#[]⟩ w (by decide) (by decide)
    (by rw [e]; rcases hc with rfl | rfl | rfl | rfl | rfl <;> rfl) (by rw [e]; rcases hc with rfl | rfl | rfl | rfl | rfl <;> rfl) (by rw [e]; rcases hc with rfl | rfl | rfl | rfl | rfl <;> rfl)
    (by rw [e]; rcases hc with rfl | rfl | rfl | rfl | rfl <;> rfl) (by rw [e]; rcases hc with rfl | rfl | rfl | rfl | rfl <;> rfl) (by rw [e]; rcases hc with rfl | rfl | rfl | rfl | rfl <;> rfl)
    (by rw [e]; rcases hc with rfl | rfl | rfl | rfl | rfl <;> rfl) (okN_n _ h1 h2) (okN_n _ h3 h4)
  rw [e] at k
  exact k

theorem op_add (x y r : Int) (w : World) (h1 : -1099511627776 ≤ x) (h2 : x ≤ 1099511627776) (h3 : -1099511627776 ≤ y) (h4 : y ≤ 1099511627776) (hr : x + y = r) (r1 : -1099511627776 ≤ r) (r2 : r ≤ 1099511627776) :
    Calls Tryd.prog 10 #[.string ⟨#[43]⟩, .agg #[.bool false, .int .i64 x, .string ⟨#[]⟩], .agg #[.bool false, .int .i64 y, .string ⟨#[]⟩]] w fun e w' => e = .returned (.tuple #[.agg #[.bool false, .int .i64 r, .string ⟨#[]⟩], .int .i64 0]) ∧ Below w.heap.size w w' := by
  have e : vt (reck [43] x y) = .tuple #[.agg #[.bool false, .int .i64 r, .string ⟨#[]⟩], .int .i64 0] := by
    unfold reck; rw [if_pos rfl, hr, bnd_ok r1 r2]; rfl
  rw [← e]
  exact op_nn 43 (by simp) x y w h1 h2 h3 h4
theorem op_sub (x y r : Int) (w : World) (h1 : -1099511627776 ≤ x) (h2 : x ≤ 1099511627776) (h3 : -1099511627776 ≤ y) (h4 : y ≤ 1099511627776) (hr : x - y = r) (r1 : -1099511627776 ≤ r) (r2 : r ≤ 1099511627776) :
    Calls Tryd.prog 10 #[.string ⟨#[45]⟩, .agg #[.bool false, .int .i64 x, .string ⟨#[]⟩], .agg #[.bool false, .int .i64 y, .string ⟨#[]⟩]] w fun e w' => e = .returned (.tuple #[.agg #[.bool false, .int .i64 r, .string ⟨#[]⟩], .int .i64 0]) ∧ Below w.heap.size w w' := by
  have e : vt (reck [45] x y) = .tuple #[.agg #[.bool false, .int .i64 r, .string ⟨#[]⟩], .int .i64 0] := by
    unfold reck; rw [if_neg (by decide), if_pos rfl, hr, bnd_ok r1 r2]; rfl
  rw [← e]
  exact op_nn 45 (by simp) x y w h1 h2 h3 h4
theorem op_mul (x y r : Int) (w : World) (h1 : -1099511627776 ≤ x) (h2 : x ≤ 1099511627776) (h3 : -1099511627776 ≤ y) (h4 : y ≤ 1099511627776) (hr : x * y = r) (r1 : -1099511627776 ≤ r) (r2 : r ≤ 1099511627776) :
    Calls Tryd.prog 10 #[.string ⟨#[42]⟩, .agg #[.bool false, .int .i64 x, .string ⟨#[]⟩], .agg #[.bool false, .int .i64 y, .string ⟨#[]⟩]] w fun e w' => e = .returned (.tuple #[.agg #[.bool false, .int .i64 r, .string ⟨#[]⟩], .int .i64 0]) ∧ Below w.heap.size w w' := by
  have e : vt (reck [42] x y) = .tuple #[.agg #[.bool false, .int .i64 r, .string ⟨#[]⟩], .int .i64 0] := by
    unfold reck; rw [if_neg (by decide), if_neg (by decide), if_pos rfl, hr, bnd_ok r1 r2]; rfl
  rw [← e]
  exact op_nn 42 (by simp) x y w h1 h2 h3 h4
theorem op_div (x y r : Int) (w : World) (h1 : -1099511627776 ≤ x) (h2 : x ≤ 1099511627776) (h3 : -1099511627776 ≤ y) (h4 : y ≤ 1099511627776) (hy : ¬ y = 0) (hr : x.tdiv y = r) :
    Calls Tryd.prog 10 #[.string ⟨#[47]⟩, .agg #[.bool false, .int .i64 x, .string ⟨#[]⟩], .agg #[.bool false, .int .i64 y, .string ⟨#[]⟩]] w fun e w' => e = .returned (.tuple #[.agg #[.bool false, .int .i64 r, .string ⟨#[]⟩], .int .i64 0]) ∧ Below w.heap.size w w' := by
  have e : vt (reck [47] x y) = .tuple #[.agg #[.bool false, .int .i64 r, .string ⟨#[]⟩], .int .i64 0] := by
    unfold reck; rw [if_neg (by decide), if_neg (by decide), if_neg (by decide), if_neg hy, if_pos rfl, hr]; rfl
  rw [← e]
  exact op_nn 47 (by simp) x y w h1 h2 h3 h4
theorem op_rem (x y r : Int) (w : World) (h1 : -1099511627776 ≤ x) (h2 : x ≤ 1099511627776) (h3 : -1099511627776 ≤ y) (h4 : y ≤ 1099511627776) (hy : ¬ y = 0) (hr : x.tmod y = r) :
    Calls Tryd.prog 10 #[.string ⟨#[37]⟩, .agg #[.bool false, .int .i64 x, .string ⟨#[]⟩], .agg #[.bool false, .int .i64 y, .string ⟨#[]⟩]] w fun e w' => e = .returned (.tuple #[.agg #[.bool false, .int .i64 r, .string ⟨#[]⟩], .int .i64 0]) ∧ Below w.heap.size w w' := by
  have e : vt (reck [37] x y) = .tuple #[.agg #[.bool false, .int .i64 r, .string ⟨#[]⟩], .int .i64 0] := by
    unfold reck; rw [if_neg (by decide), if_neg (by decide), if_neg (by decide), if_neg hy, if_neg (by decide), hr]; rfl
  rw [← e]
  exact op_nn 37 (by simp) x y w h1 h2 h3 h4
theorem op_div0 (x : Int) (w : World) (h1 : -1099511627776 ≤ x) (h2 : x ≤ 1099511627776) :
    Calls Tryd.prog 10 #[.string ⟨#[47]⟩, .agg #[.bool false, .int .i64 x, .string ⟨#[]⟩], .agg #[.bool false, .int .i64 0, .string ⟨#[]⟩]] w fun e w' => e = .returned (.tuple #[.agg #[.bool false, .int .i64 0, .string ⟨#[]⟩], .int .i64 2]) ∧ Below w.heap.size w w' :=
  op_nn 47 (by simp) x 0 w h1 h2 (by omega) (by omega)
theorem op_rem0 (x : Int) (w : World) (h1 : -1099511627776 ≤ x) (h2 : x ≤ 1099511627776) :
    Calls Tryd.prog 10 #[.string ⟨#[37]⟩, .agg #[.bool false, .int .i64 x, .string ⟨#[]⟩], .agg #[.bool false, .int .i64 0, .string ⟨#[]⟩]] w fun e w' => e = .returned (.tuple #[.agg #[.bool false, .int .i64 0, .string ⟨#[]⟩], .int .i64 2]) ∧ Below w.heap.size w w' :=
  op_nn 37 (by simp) x 0 w h1 h2 (by omega) (by omega)

/-- A value that lies in memory: its three cells. -/
def Lies (w : World) (b : Nat) (t : Bool) (n : Int) (s : ByteArray) : Prop :=
  b < w.heap.size ∧ w.cell? ⟨b, 0, none⟩ = some (.bool t) ∧ w.cell? ⟨b, 1, none⟩ = some (.int .i64 n) ∧ w.cell? ⟨b, 2, none⟩ = some (.string s)
theorem Lies.below {w w' : World} {b : Nat} {t : Bool} {n : Int} {s : ByteArray} (h : Lies w b t n s) (hb : Below w.heap.size w w') : Lies w' b t n s :=
  ⟨Nat.lt_of_lt_of_le h.1 hb.size, (hb.cell (p := ⟨b, 0, none⟩) h.1).trans h.2.1, (hb.cell (p := ⟨b, 1, none⟩) h.1).trans h.2.2.1, (hb.cell (p := ⟨b, 2, none⟩) h.1).trans h.2.2.2⟩
theorem Lies.new (w : World) (t : Bool) (n : Int) (s : ByteArray) (T : TypeId) : Lies (w.alloc (.cells #[.bool t, .int .i64 n, .string s] T)) w.heap.size t n s :=
  ⟨by simp, by simp, by simp, by simp⟩
theorem Lies.over {w : World} {b : Nat} {t : Bool} {n : Int} {s : ByteArray} (h : Lies w b t n s) (o : Obj) : Lies (w.alloc o) b t n s := h.below ((Below.refl _ _).alloc (Nat.le_refl _) o)
end Go.Proofs.YtejcmammdmpcoabDoor
