/-
  Contracts of value.Str and of the answer TextOf of the document: of a value that may be its text (a text itself, of a number its decimal digits); nothing that was in memory turns. Str reads the table uint64pow10 of strconv.
-/
import Derived.Test.YtejcmammdmpcoabDoorDec
import Derived.Test.YtejcmammdmpcoabDoorShelf
import Derived.Lib.AppendIntMem
namespace Go.Proofs.YtejcmammdmpcoabDoor
open Go.ChangeShapes Go.WideShapes Go.ChangeAt Go.RowKit Go.Joins

/-- The table that strconv.Itoa reads holds the powers of ten. -/
def Pow (w : World) : Prop := Lib.TabIs Tryd.prog w "internal/strconv.uint64pow10" .u64 Lib.pow10Tab

theorem gPow : ∃ g, Tryd.prog.globalNamed "internal/strconv.uint64pow10" = some g := by
  cases h : Tryd.prog.globalNamed "internal/strconv.uint64pow10" with
  | none =>
    have e : (Tryd.prog.globalNamed "internal/strconv.uint64pow10").isSome = true := by kernel_rfl
    rw [h] at e; cases e
  | some g => exact ⟨g, rfl⟩

theorem Pow.stays {w w' : World} (h : Pow w) (hb : Below w.heap.size w w') : Pow w' := by
  obtain ⟨g, hg⟩ := gPow
  exact tab_stays hg h hb (Nat.le_refl _)

theorem pow_data : (Rows.laid_internal_strconv_uint64pow10 : DataW Unit) = Lib.tabData .u64 Lib.pow10Tab := rfl

theorem pow_of {W : World} {r : List (String × DataW Unit)} (hL : laidMet Tryd.prog (("internal/strconv.uint64pow10", Rows.laid_internal_strconv_uint64pow10) :: r) W) : Pow W := by
  obtain ⟨g, hg⟩ := gPow
  have ht : (Tryd.prog.globals[g]?).map (·.type) = some 85 := by
    have e : (match Tryd.prog.globalNamed "internal/strconv.uint64pow10" with | some g => (Tryd.prog.globals[g]?).map (·.type) | none => none) = some 85 := by kernel_rfl
    rw [hg] at e; exact e
  exact Lib.tabIs_of_head hg ht Tryd.underlying85 Tryd.underlying73 (by kernel_rfl) (by kernel_rfl) hL

/-- P1.2: a value as text. -/
def strOf (t : Bool) (n : Int) (s : ByteArray) : ByteArray := if t then s else ⟨(Lib.itoa n).toArray⟩
theorem strOf_t (n : Int) (s : ByteArray) : strOf true n s = s := rfl
theorem strOf_f (n : Int) (s : ByteArray) : strOf false n s = ⟨(Lib.itoa n).toArray⟩ := rfl

theorem below_grown_k {w w' : World} (h : ∃ k os, w' = Sort.grow (w.drewN k) os) : Below w.heap.size w w' := by
  obtain ⟨k, os, rfl⟩ := h
  exact Lib.below_grow w.heap.size w (Nat.le_refl _) k os

set_option maxHeartbeats 400000 in
theorem str_c (t : Bool) (n : Int) (s : ByteArray) (w : World) (h0 : -1099511627776 ≤ n) (h1 : n ≤ 1099511627776) (hp : Pow w) :
    Calls Tryd.prog 16 #[.agg #[.bool t, .int .i64 n, .string s]] w fun e w' => e = .returned (.string (strOf t n s)) ∧ Below w.heap.size w w' := by
  cases t
  · rw [strOf_f]
    go_enter Tryd.func16, Tryd.ntmps16
    go_wp2_with fail
    refine (Tryd.strconv_Itoa n (by omega) (by omega) _ (hp.stays ((Below.refl _ _).alloc (Nat.le_refl _) _))).mono ?_
    rintro e w1 ⟨rfl, hg⟩
    have hb := below_grown_k hg
    clear hg
    go_wp2_with fail
    go_ret
    exact ⟨rfl, bl_trans ((Below.refl _ _).alloc (Nat.le_refl _) _) hb⟩
  · rw [strOf_t]
    go_enter Tryd.func16, Tryd.ntmps16
    go_wp2_with fail
    go_ret
    exact ⟨rfl, (Below.refl _ _).alloc (Nat.le_refl _) _⟩

set_option maxHeartbeats 400000 in
theorem textOf_c (t : Bool) (n : Int) (s : ByteArray) (w : World) (h0 : -1099511627776 ≤ n) (h1 : n ≤ 1099511627776) :
    Calls Tryd.prog 29 #[.agg #[.bool t, .int .i64 n, .string s]] w fun e w' => e = .returned (.string (strOf t n s)) ∧ Below w.heap.size w w' := by
  cases t
  · rw [strOf_f]
    go_enter Tryd.func29, Tryd.ntmps29
    go_wp2_with fail
    refine (dec_c n _ h0 h1).mono ?_
    rintro e w1 ⟨rfl, hb⟩
    go_wp2_with fail
    go_ret
    exact ⟨rfl, bl_trans ((Below.refl _ _).alloc (Nat.le_refl _) _) hb⟩
  · rw [strOf_t]
    go_enter Tryd.func29, Tryd.ntmps29
    go_wp2_with fail
    go_ret
    exact ⟨rfl, (Below.refl _ _).alloc (Nat.le_refl _) _⟩
end Go.Proofs.YtejcmammdmpcoabDoor
