/-
  Contract of value.Num: a value as number, or ErrRange; nothing that was in memory turns.
-/
import Derived.Test.YtejcmammdmpcoabDoorLead
namespace Go.Proofs.YtejcmammdmpcoabDoor
open Go.ChangeShapes Go.WideShapes Go.ChangeAt Go.RowKit Go.Joins

/-- P1.2: the number that is asked for, ahead of the question whether it may be. -/
def numOf (t : Bool) (n : Int) (s : ByteArray) : Int := if t then lead s.data.toList else n
theorem numOf_t (n : Int) (s : ByteArray) : numOf true n s = lead s.data.toList := rfl
theorem numOf_f (n : Int) (s : ByteArray) : numOf false n s = n := rfl

set_option maxHeartbeats 400000 in
theorem num_ok (t : Bool) (n : Int) (s : ByteArray) (w : World) (hs : s.size ≤ 200) (h1 : -1099511627776 ≤ numOf t n s) (h2 : numOf t n s ≤ 1099511627776) :
    Calls Tryd.prog 14 #[.agg #[.bool t, .int .i64 n, .string s]] w fun e w' => e = .returned (.tuple #[.int .i64 (numOf t n s), .int .i64 0]) ∧ Below w.heap.size w w' := by
  cases t
  · rw [numOf_f] at h1 h2 ⊢
    go_enter Tryd.func14, Tryd.ntmps14
    go_wp2
    go_ret2
    exact ⟨rfl, (Below.refl _ _).alloc (Nat.le_refl _) _⟩
  · rw [numOf_t] at h1 h2 ⊢
    generalize hl : lead s.data.toList = l at h1 h2 ⊢
    have HL : Hid (lead s.data.toList = l) := hl
    clear hl
    go_enter Tryd.func14, Tryd.ntmps14
    go_wp2_with fail
    refine (lead_c s _ hs).mono ?_
    rintro e w1 ⟨rfl, rfl⟩
    rw [HL.out]
    go_wp2
    go_ret2
    exact ⟨rfl, (Below.refl _ _).alloc (Nat.le_refl _) _⟩

set_option maxHeartbeats 400000 in
theorem num_bad (t : Bool) (n : Int) (s : ByteArray) (w : World) (hs : s.size ≤ 200) (h : numOf t n s < -1099511627776 ∨ 1099511627776 < numOf t n s) :
    Calls Tryd.prog 14 #[.agg #[.bool t, .int .i64 n, .string s]] w fun e w' => e = .returned (.tuple #[.int .i64 0, .int .i64 2]) ∧ Below w.heap.size w w' := by
  cases t
  · rw [numOf_f] at h
    rcases h with h | h
    · go_enter Tryd.func14, Tryd.ntmps14
      go_wp2
      go_ret2
      exact ⟨rfl, (Below.refl _ _).alloc (Nat.le_refl _) _⟩
    · have h' : -1099511627776 ≤ n := by omega
      have hd : decide (n ≤ 1099511627776) = false := by simp; omega
      go_enter Tryd.func14, Tryd.ntmps14
      go_wp2
      go_ret2
      exact ⟨rfl, (Below.refl _ _).alloc (Nat.le_refl _) _⟩
  · rw [numOf_t] at h
    generalize hl : lead s.data.toList = l at h
    have HL : Hid (lead s.data.toList = l) := hl
    clear hl
    rcases h with h | h
    · go_enter Tryd.func14, Tryd.ntmps14
      go_wp2_with fail
      refine (lead_c s _ hs).mono ?_
      rintro e w1 ⟨rfl, rfl⟩
      rw [HL.out]
      go_wp2
      go_ret2
      exact ⟨rfl, (Below.refl _ _).alloc (Nat.le_refl _) _⟩
    · have h' : -1099511627776 ≤ l := by omega
      have hd : decide (l ≤ 1099511627776) = false := by simp; omega
      go_enter Tryd.func14, Tryd.ntmps14
      go_wp2_with fail
      refine (lead_c s _ hs).mono ?_
      rintro e w1 ⟨rfl, rfl⟩
      rw [HL.out]
      go_wp2
      go_ret2
      exact ⟨rfl, (Below.refl _ _).alloc (Nat.le_refl _) _⟩
end Go.Proofs.YtejcmammdmpcoabDoor
