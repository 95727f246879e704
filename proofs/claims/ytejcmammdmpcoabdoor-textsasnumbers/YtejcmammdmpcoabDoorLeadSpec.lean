/-
  Plain lemmas: a number as text, with blanks ahead and whatever is no digit behind, begins with that number (P1.2).
-/
import Derived.Test.YtejcmammdmpcoabDoorNumSpec
import Derived.Lib.ItoaNum
import Derived.Lib.ItoaMem
namespace Go.Proofs.YtejcmammdmpcoabDoor

theorem dig_nat (d : Nat) (h : d < 10) : (((UInt8.ofNat (48 + d)).toNat : Nat) : Int) = 48 + d := by
  have : (UInt8.ofNat (48 + d)).toNat = 48 + d := by rw [UInt8.toNat_ofNat']; omega
  omega

theorem acc_dec (u : Nat) : ∀ rest : List UInt8, u ≤ 1099511627776 → acc 0 (Lib.decDigits u ++ rest) = acc u rest := by
  induction u using Nat.strongRecOn with
  | ind u ih =>
    intro rest hu
    by_cases h : u < 10
    · rw [Lib.decDigits_one h, List.cons_append, List.nil_append]
      have hd := dig_nat u h
      rw [acc_step (by omega) (by omega) (by omega), hd]
      congr 1
      omega
    · rw [Lib.decDigits, dif_neg h, List.append_assoc, ih (u / 10) (by omega) _ (by omega), List.cons_append, List.nil_append]
      have hd := dig_nat (u % 10) (by omega)
      rw [acc_step (by omega) (by omega) (by omega), hd]
      congr 1
      omega

/-- What follows is no digit. -/
def Ends (rest : List UInt8) : Prop := rest = [] ∨ ∃ r, rest = 32 :: r
theorem acc_ends {u : Int} {rest : List UInt8} (h : Ends rest) : acc u rest = u := by
  rcases h with rfl | ⟨r, rfl⟩
  · rfl
  · exact acc_stop (.inl (by decide))

theorem dec_head (u : Nat) : ∃ d : Nat, d < 10 ∧ ∃ r, Lib.decDigits u = UInt8.ofNat (48 + d) :: r := by
  induction u using Nat.strongRecOn with
  | ind u ih =>
    by_cases h : u < 10
    · exact ⟨u, h, [], Lib.decDigits_one h⟩
    · obtain ⟨d, hd, r, hr⟩ := ih (u / 10) (by omega)
      exact ⟨d, hd, r ++ [UInt8.ofNat (48 + u % 10)], by rw [Lib.decDigits, dif_neg h, hr, List.cons_append]⟩

theorem trim_blanks (l : List UInt8) (c : UInt8) (r : List UInt8) (n : Nat) (h : l = c :: r) (hc : ¬ (c.toNat : Int) = 32) : Lib.trimLeftB (List.replicate n 32 ++ l) 32 = l := by
  have hb : (c == 32) = false := by rw [beq_eq_false_iff_ne]; rintro rfl; exact hc rfl
  induction n with
  | zero => rw [h]; simp [Lib.trimLeftB, hb]
  | succ n ih => rw [List.replicate_succ, List.cons_append]; unfold Lib.trimLeftB at ih ⊢; rw [List.dropWhile_cons_of_pos (by simp)]; exact ih

theorem lead_itoa (k : Int) (n : Nat) (rest : List UInt8) (h1 : -1099511627776 ≤ k) (h2 : k ≤ 1099511627776) (he : Ends rest) : lead (List.replicate n 32 ++ (Lib.itoa k ++ rest)) = k := by
  by_cases hk : k < 0
  · obtain ⟨u, hu⟩ : ∃ u : Nat, k = -(u : Int) := ⟨k.natAbs, by omega⟩
    subst hu
    have e : Lib.itoa (-(u : Int)) ++ rest = 45 :: (Lib.decDigits u ++ rest) := by rw [Lib.itoa_neg u (by omega), List.cons_append]
    unfold lead
    rw [trim_blanks _ 45 _ n e (by decide), e]
    have hp : Lib.hasPrefix (45 :: (Lib.decDigits u ++ rest)) [45] = true := by simp [Lib.hasPrefix]
    have ht : Lib.trimPrefix (45 :: (Lib.decDigits u ++ rest)) [45] = Lib.decDigits u ++ rest := by unfold Lib.trimPrefix; rw [if_pos hp]; rfl
    rw [if_pos hp, ht, acc_dec u rest (by omega), acc_ends he]
  · obtain ⟨u, hu⟩ : ∃ u : Nat, k = (u : Int) := ⟨k.toNat, by omega⟩
    subst hu
    obtain ⟨d, hd, r, hr⟩ := dec_head u
    have hdn := dig_nat d hd
    have e : Lib.itoa (u : Int) ++ rest = UInt8.ofNat (48 + d) :: (r ++ rest) := by rw [Lib.itoa_nonneg, hr, List.cons_append]
    unfold lead
    rw [trim_blanks _ _ _ n e (by omega)]
    have hp : Lib.hasPrefix (Lib.itoa (u : Int) ++ rest) [45] = false := by
      rw [e]
      have hne : ¬ 45 = UInt8.ofNat (48 + d) := by
        intro h
        have := congrArg UInt8.toNat h
        have e45 : (45 : UInt8).toNat = 45 := rfl
        omega
      generalize UInt8.ofNat (48 + d) = c at hne ⊢
      have hb : (45 == c) = false := by rw [beq_eq_false_iff_ne]; exact hne
      show ((45 == c) && [].isPrefixOf (r ++ rest)) = false
      rw [hb]; rfl
    have ht : Lib.trimPrefix (Lib.itoa (u : Int) ++ rest) [45] = Lib.decDigits u ++ rest := by unfold Lib.trimPrefix; rw [if_neg (by rw [hp]; simp), Lib.itoa_nonneg]
    rw [if_neg (by rw [hp]; simp), ht, acc_dec u rest (by omega), acc_ends he]
end Go.Proofs.YtejcmammdmpcoabDoor
