/-
  Contracts of value.Op at a comparison, the answer as a number; cells that stay.
-/
import Derived.Test.YtejcmammdmpcoabDoorOpNum
namespace Go.Proofs.YtejcmammdmpcoabDoor
open Go.ChangeShapes Go.WideShapes Go.ChangeAt Go.RowKit Go.Joins

theorem op_ask_r (op : ByteArray) (hop : AskOp op) (t1 : Bool) (n1 : Int) (s1 : ByteArray) (t2 : Bool) (n2 : Int) (s2 : ByteArray) (w : World) (h1 : -1099511627776 ≤ n1) (h2 : n1 ≤ 1099511627776) (h3 : -1099511627776 ≤ n2) (h4 : n2 ≤ 1099511627776) (hp : Pow w)
    (r : Int) (hr : b2i (askL op.data.toList (decide (ordV t1 n1 s1 t2 n2 s2 < 0)) (decide (ordV t1 n1 s1 t2 n2 s2 = 0))) = r) :
    Calls Tryd.prog 10 #[.string op, .agg #[.bool t1, .int .i64 n1, .string s1], .agg #[.bool t2, .int .i64 n2, .string s2]] w fun e w' =>
      e = .returned (.tuple #[.agg #[.bool false, .int .i64 r, .string ⟨#[]⟩], .int .i64 0]) ∧ Below w.heap.size w w' := by
  subst hr
  exact op_ask_c op hop t1 n1 s1 t2 n2 s2 w h1 h2 h3 h4 hp

/-- A cell that lies in memory. -/
def Sits (w : World) (b o : Nat) (v : Value) : Prop := b < w.heap.size ∧ w.cell? ⟨b, o, none⟩ = some v
theorem Sits.below {w w' : World} {b o : Nat} {v : Value} (h : Sits w b o v) (hb : Below w.heap.size w w') : Sits w' b o v :=
  ⟨Nat.lt_of_lt_of_le h.1 hb.size, (hb.cell (p := ⟨b, o, none⟩) h.1).trans h.2⟩
theorem Sits.over {w : World} {b o : Nat} {v : Value} (h : Sits w b o v) (x : Obj) : Sits (w.alloc x) b o v := h.below ((Below.refl _ _).alloc (Nat.le_refl _) x)

theorem Lies.here {w : World} {k : Nat} (h : w.heap.size = k) (t : Bool) (n : Int) (s : ByteArray) (T : TypeId) : Lies (w.alloc (.cells #[.bool t, .int .i64 n, .string s] T)) k t n s := h ▸ Lies.new w t n s T
theorem Sits.here {w : World} {k : Nat} (h : w.heap.size = k) (cs : Array Value) (T : TypeId) (o : Nat) (v : Value) (hv : cs[o]? = some v) : Sits (w.alloc (.cells cs T)) k o v := by
  subst h
  refine ⟨by simp, ?_⟩
  simp [hv]

/-- Of two values one is so. -/
theorem three (o : Int) : ∃ v0 v1 v2 : Int, (v0 = 0 ∨ v0 = 1) ∧ (v1 = 0 ∨ v1 = 1) ∧ (v2 = 0 ∨ v2 = 1) ∧ v0 + v1 + v2 = 1 ∧
    b2i (askL [60] (decide (o < 0)) (decide (o = 0))) = v0 ∧ b2i (askL [61, 61] (decide (o < 0)) (decide (o = 0))) = v1 ∧ b2i (askL [62] (decide (o < 0)) (decide (o = 0))) = v2 ∧
    b2i (askL [60, 61] (decide (o < 0)) (decide (o = 0))) = v0 + v1 ∧ b2i (askL [33, 61] (decide (o < 0)) (decide (o = 0))) = v0 + v2 := by
  rcases Int.lt_trichotomy o 0 with h | h | h
  · have d1 : decide (o < 0) = true := by simp; omega
    have d2 : decide (o = 0) = false := by simp; omega
    rw [d1, d2]
    exact ⟨1, 0, 0, by omega, by omega, by omega, by omega, rfl, rfl, rfl, rfl, rfl⟩
  · subst h
    exact ⟨0, 1, 0, by omega, by omega, by omega, by omega, rfl, rfl, rfl, rfl, rfl⟩
  · have d1 : decide (o < 0) = false := by simp; omega
    have d2 : decide (o = 0) = false := by simp; omega
    rw [d1, d2]
    exact ⟨0, 0, 1, by omega, by omega, by omega, by omega, rfl, rfl, rfl, rfl, rfl⟩
end Go.Proofs.YtejcmammdmpcoabDoor
