/-
  Contract of the answer ValueFault of the document: at a value it answers what P1.1 names wrong with it; nothing that was in memory turns.
-/
import Derived.Test.YtejcmammdmpcoabDoorBase
namespace Go.Proofs.YtejcmammdmpcoabDoor
open Go.ChangeShapes Go.WideShapes Go.ChangeAt Go.RowKit Go.Joins

theorem vf_f4 {n : Int} {s : ByteArray} (h : 0 < s.size) : vf false n s = 4 := by simp [vf, h]
theorem no4 {n : Int} {s : ByteArray} (h : ¬ 0 < s.size) : ¬ ((false = true ∧ n ≠ 0) ∨ (false = false ∧ 0 < s.size)) := by
  rintro (⟨e, _⟩ | ⟨_, e⟩)
  · cases e
  · exact h e
theorem vf_f2 {n : Int} {s : ByteArray} (h : ¬ 0 < s.size) (k : n < -1099511627776 ∨ 1099511627776 < n) : vf false n s = 2 := by
  unfold vf; rw [if_neg (no4 h), if_pos (by omega)]
theorem vf_f0 {n : Int} {s : ByteArray} (h : ¬ 0 < s.size) (k : -1099511627776 ≤ n) (l : n ≤ 1099511627776) : vf false n s = 0 := by
  unfold vf; rw [if_neg (no4 h), if_neg (by omega), if_neg (by omega)]
theorem vf_t4 {n : Int} {s : ByteArray} (h : ¬ n = 0) : vf true n s = 4 := by simp [vf, h]
theorem vf_t1 {s : ByteArray} (h : 200 < s.size) : vf true 0 s = 1 := by simp [vf, h]
theorem vf_t0 {s : ByteArray} (h : ¬ 200 < s.size) : vf true 0 s = 0 := by simp [vf]; omega

theorem vf_ok {t : Bool} {n : Int} {s : ByteArray} (h : vf t n s = 0) : (t = true ∧ n = 0 ∧ s.size ≤ 200) ∨ (t = false ∧ s = ⟨#[]⟩ ∧ -1099511627776 ≤ n ∧ n ≤ 1099511627776) := by
  cases t
  · by_cases h1 : 0 < s.size
    · rw [vf_f4 h1] at h; omega
    · by_cases h2 : n < -1099511627776 ∨ 1099511627776 < n
      · rw [vf_f2 h1 h2] at h; omega
      · refine .inr ⟨rfl, ?_, by omega, by omega⟩
        have : s.data = #[] := Array.eq_empty_of_size_eq_zero (by have : s.data.size = s.size := rfl; omega)
        cases s; simp_all
  · by_cases h1 : n = 0
    · subst h1
      by_cases h2 : 200 < s.size
      · rw [vf_t1 h2] at h; omega
      · exact .inl ⟨rfl, rfl, by omega⟩
    · rw [vf_t4 h1] at h; omega

set_option maxHeartbeats 1000000 in
theorem valueFault_c (t : Bool) (n : Int) (s : ByteArray) (w : World) (hs : s.size ≤ maxLen) :
    Calls Tryd.prog 9 #[.agg #[.bool t, .int .i64 n, .string s]] w fun e w' => e = .returned (.int .i64 (vf t n s)) ∧ Below w.heap.size w w' := by
  unfold maxLen at hs
  cases t
  · by_cases h1 : 0 < s.size
    · rw [vf_f4 h1]
      go_enter Tryd.func9, Tryd.ntmps9
      go_wp2
      go_ret
      exact ⟨rfl, (Below.refl _ _).alloc (Nat.le_refl _) _⟩
    · by_cases h2 : n < -1099511627776
      · rw [vf_f2 h1 (.inl h2)]
        go_enter Tryd.func9, Tryd.ntmps9
        go_wp2
        go_ret
        exact ⟨rfl, (Below.refl _ _).alloc (Nat.le_refl _) _⟩
      · by_cases h3 : 1099511627776 < n
        · rw [vf_f2 h1 (.inr h3)]
          have h2' : -1099511627776 ≤ n := by omega
          have hd : decide (n ≤ 1099511627776) = false := by simp; omega
          go_enter Tryd.func9, Tryd.ntmps9
          go_wp2
          go_ret
          exact ⟨rfl, (Below.refl _ _).alloc (Nat.le_refl _) _⟩
        · rw [vf_f0 h1 (by omega) (by omega)]
          have h2' : -1099511627776 ≤ n := by omega
          have h3' : n ≤ 1099511627776 := by omega
          have h4 : ¬ 200 < s.size := by omega
          go_enter Tryd.func9, Tryd.ntmps9
          go_wp2
          go_ret
          exact ⟨rfl, (Below.refl _ _).alloc (Nat.le_refl _) _⟩
  · by_cases h1 : n = 0
    · subst h1
      by_cases h2 : 200 < s.size
      · rw [vf_t1 h2]
        go_enter Tryd.func9, Tryd.ntmps9
        go_wp2
        go_ret
        exact ⟨rfl, (Below.refl _ _).alloc (Nat.le_refl _) _⟩
      · rw [vf_t0 h2]
        go_enter Tryd.func9, Tryd.ntmps9
        go_wp2
        go_ret
        exact ⟨rfl, (Below.refl _ _).alloc (Nat.le_refl _) _⟩
    · rw [vf_t4 h1]
      go_enter Tryd.func9, Tryd.ntmps9
      go_wp2
      go_ret
      exact ⟨rfl, (Below.refl _ _).alloc (Nat.le_refl _) _⟩
end Go.Proofs.YtejcmammdmpcoabDoor
