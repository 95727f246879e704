/-
  Contract of value.Check: at a value it answers what P1.1 names wrong with it; nothing that was in memory turns.
-/
import Derived.Test.YtejcmammdmpcoabDoorVf
namespace Go.Proofs.YtejcmammdmpcoabDoor
open Go.ChangeShapes Go.WideShapes Go.ChangeAt Go.RowKit Go.Joins

set_option maxHeartbeats 1000000 in
theorem check_c (t : Bool) (n : Int) (s : ByteArray) (w : World) (hs : s.size ≤ maxLen) :
    Calls Tryd.prog 19 #[.agg #[.bool t, .int .i64 n, .string s]] w fun e w' => e = .returned (.int .i64 (vf t n s)) ∧ Below w.heap.size w w' := by
  unfold maxLen at hs
  cases t
  · by_cases h1 : 0 < s.size
    · rw [vf_f4 h1]
      have he := ise_f h1
      go_enter Tryd.func19, Tryd.ntmps19
      go_wp2
      go_ret
      exact ⟨rfl, (Below.refl _ _).alloc (Nat.le_refl _) _⟩
    · have he := ise_t h1
      by_cases h2 : n < -1099511627776
      · rw [vf_f2 h1 (.inl h2)]
        go_enter Tryd.func19, Tryd.ntmps19
        go_wp2
        go_ret
        exact ⟨rfl, (Below.refl _ _).alloc (Nat.le_refl _) _⟩
      · by_cases h3 : 1099511627776 < n
        · rw [vf_f2 h1 (.inr h3)]
          have h2' : -1099511627776 ≤ n := by omega
          have hd : decide (n ≤ 1099511627776) = false := by simp; omega
          go_enter Tryd.func19, Tryd.ntmps19
          go_wp2
          go_ret
          exact ⟨rfl, (Below.refl _ _).alloc (Nat.le_refl _) _⟩
        · rw [vf_f0 h1 (by omega) (by omega)]
          have h2' : -1099511627776 ≤ n := by omega
          have h3' : n ≤ 1099511627776 := by omega
          have h4 : ¬ 200 < s.size := by omega
          go_enter Tryd.func19, Tryd.ntmps19
          go_wp2
          go_ret
          exact ⟨rfl, (Below.refl _ _).alloc (Nat.le_refl _) _⟩
  · by_cases h1 : n = 0
    · subst h1
      by_cases h2 : 200 < s.size
      · rw [vf_t1 h2]
        go_enter Tryd.func19, Tryd.ntmps19
        go_wp2
        go_ret
        exact ⟨rfl, (Below.refl _ _).alloc (Nat.le_refl _) _⟩
      · rw [vf_t0 h2]
        go_enter Tryd.func19, Tryd.ntmps19
        go_wp2
        go_ret
        exact ⟨rfl, (Below.refl _ _).alloc (Nat.le_refl _) _⟩
    · rw [vf_t4 h1]
      go_enter Tryd.func19, Tryd.ntmps19
      go_wp2
      go_ret
      exact ⟨rfl, (Below.refl _ _).alloc (Nat.le_refl _) _⟩
end Go.Proofs.YtejcmammdmpcoabDoor
