/-
  Contract of the document's quote (P2.5).
-/
import Derived.Test.YtjconmohifaliaaDoorPrSpec
import Derived.WalkKit
import Derived.ProofKit
import Derived.PlainAid
import Derived.Handy
namespace Go.Proofs.YtjconmohifaliaaDoor
open Go.ChangeShapes Go.WideShapes Go.ChangeAt Go.RowKit Go.Joins
set_option linter.unusedVariables false
set_option maxRecDepth 100000

theorem take_more (s : ByteArray) (k : Nat) (hk : k < s.size) : s.toList.take (k + 1) = s.toList.take k ++ [s[k]] := by
  have hl := toL_len s
  rw [List.take_succ_eq_append_getElem (by omega)]
  congr 2
  simp [ByteArray.toList_eq]
  rfl

theorem one_more (s : ByteArray) (k : Nat) (hk : k < s.size) : (s.extract k (k + 1)).toList = [s[k]] := by
  rw [ByteArray.toList_eq, ByteArray.data_extract, Array.toList_extract, List.extract_eq_take_drop]
  have e : s.data.toList.length = s.size := by simp
  rw [List.drop_eq_getElem_cons (by omega)]
  simp
  rfl

theorem quote_step {s O P : ByteArray} {k : Nat} (hk : k < s.size) (h : O.toList = [34] ++ (s.toList.take k).flatMap quoteB) (hP : P.toList = quoteB s[k]) : (O ++ P).toList = [34] ++ (s.toList.take (k + 1)).flatMap quoteB := by
  rw [toL_append, h, hP, take_more s k hk, List.flatMap_append]
  simp

theorem quote_sz {s O : ByteArray} {k : Nat} (h : O.toList = [34] ++ (s.toList.take k).flatMap quoteB) : O.size ≤ 1 + 2 * k := by
  rw [← toL_len, h]
  have h1 := quoteF_len (s.toList.take k)
  have h2 : (s.toList.take k).length ≤ k := by rw [List.length_take]; omega
  simp only [List.length_append, List.length_cons, List.length_nil]
  omega

set_option maxHeartbeats 2000000 in
theorem quoteRef_c (s : ByteArray) (hs : s.size ≤ 200) (w : World) :
    Calls Tryd.prog 25 #[.string s] w fun e w' => e = .returned (.string ⟨(quoteL s.toList).toArray⟩) ∧ w' = w := by
  go_enter Tryd.func25, Tryd.ntmps25
  go_wp2_with fail
  go_loop [3, 4] (fun v3 v4 => ∃ (k : Nat) (O : ByteArray), k ≤ s.size ∧ v3 = .string O ∧ v4 = .int .i64 k ∧ O.size ≤ 1 + 2 * k ∧ Hid (O.toList = [34] ++ (s.toList.take k).flatMap quoteB)) (fun _ v4 => s.size - (intOf v4).toNat)
  case atStart => exact ⟨0, ⟨#[34]⟩, by omega, rfl, rfl, by decide, by simp [Hid, ByteArray.toList_eq]⟩
  case round =>
    obtain ⟨k, O, hk, rfl, rfl, hO, HO⟩ := hrel
    by_cases hk2 : k < s.size
    · have i1 : (k : Int) < (s.size : Int) := by omega
      have i2 : (0 : Int) ≤ (k : Int) := by omega
      have i3 : (0 : Int) ≤ (k : Int) + 1 := by omega
      have i4 : (k : Int) ≤ (k : Int) + 1 := by omega
      have i5 : ((k : Int) + 1).toNat = k + 1 := by omega
      have i6 : (k : Int) + 1 ≤ (s.size : Int) := by omega
      have hx : s[k]? = some s[k] := by simp [hk2]
      have HP1 : Hid ((s.extract k (k + 1)).toList = [s[k]]) := one_more s k hk2
      have hsz1 : (s.extract k (k + 1)).size = 1 := by rw [ByteArray.size_extract]; omega
      obtain ⟨P1, hP1⟩ : ∃ P1, s.extract k (k + 1) = P1 := ⟨_, rfl⟩
      rw [hP1] at HP1 hsz1
      have ZP : Hid (O.size ≤ 1 + 2 * k ∧ P1.size = 1) := ⟨hO, hsz1⟩
      have z1 : ¬ 9223372036854775807 < O.size + 1 := by omega
      have z2 : ¬ 9223372036854775807 < O.size + 1 + 1 := by omega
      have z3 : ¬ 9223372036854775807 < O.size + P1.size := by omega
      have z4 : ¬ 9223372036854775807 < O.size + 2 := by omega
      have z5 : ¬ 9223372036854775807 < O.size + 1 + P1.size := by omega
      by_cases h34 : s[k].toNat = 34 ∨ s[k].toNat = 92
      · have HE : Hid ((O ++ (⟨#[92]⟩ : ByteArray) ++ P1).toList = [34] ++ (s.toList.take (k + 1)).flatMap quoteB) := by
          have hq : quoteB s[k] = [92] ++ [s[k]] := by
            unfold quoteB
            rw [if_pos (by rcases h34 with h | h; exact .inl (UInt8.toNat_inj.1 h); exact .inr (UInt8.toNat_inj.1 h))]
            rfl
          have := quote_step (P := (⟨#[92]⟩ : ByteArray) ++ P1) hk2 HO.out (by rw [toL_append, HP1.out, hq]; exact congrArg (· ++ [s[k]]) (toL_mk [92]))
          rw [toL_append, toL_append] at this
          unfold Hid
          rw [toL_append, toL_append, ← this, List.append_assoc]
        rcases h34 with h | h
        · have b34 : ((s[k].toNat : Int) == 34) = true := by simp [h]
          clear h hO hsz1
          go_wp2
          go_round
          case rel => exact ⟨k + 1, _, by omega, by go_num, by go_num, quote_sz HE.out, HE⟩
          case measure => simp [intOf]; omega
        · have b34 : ((s[k].toNat : Int) == 34) = false := by simp [h]
          have b92 : ((s[k].toNat : Int) == 92) = true := by simp [h]
          clear h hO hsz1
          go_wp2
          go_round
          case rel => exact ⟨k + 1, _, by omega, by go_num, by go_num, quote_sz HE.out, HE⟩
          case measure => simp [intOf]; omega
      · have b34 : ((s[k].toNat : Int) == 34) = false := by simp; omega
        have b92 : ((s[k].toNat : Int) == 92) = false := by simp; omega
        have hno : ¬ (s[k] = 34 ∨ s[k] = 92) := fun h => h34 (by rcases h with h | h; exact .inl (by rw [h]; rfl); exact .inr (by rw [h]; rfl))
        by_cases h10 : s[k].toNat = 10
        · have b10 : ((s[k].toNat : Int) == 10) = true := by simp [h10]
          have HE : Hid ((O ++ (⟨#[92, 110]⟩ : ByteArray)).toList = [34] ++ (s.toList.take (k + 1)).flatMap quoteB) := quote_step hk2 HO.out (by
            unfold quoteB
            rw [if_neg hno, if_pos (UInt8.toNat_inj.1 h10)]; exact toL_mk [92, 110])
          clear h10 h34 hno hO hsz1
          go_wp2
          go_round
          case rel => exact ⟨k + 1, _, by omega, by go_num, by go_num, quote_sz HE.out, HE⟩
          case measure => simp [intOf]; omega
        · have b10 : ((s[k].toNat : Int) == 10) = false := by simp; omega
          have HE : Hid ((O ++ P1).toList = [34] ++ (s.toList.take (k + 1)).flatMap quoteB) := quote_step hk2 HO.out (by
            unfold quoteB
            rw [if_neg hno, if_neg (fun h => h10 (by rw [h]; rfl)), HP1.out])
          clear h10 h34 hno hO hsz1
          go_wp2
          go_round
          case rel => exact ⟨k + 1, _, by omega, by go_num, by go_num, quote_sz HE.out, HE⟩
          case measure => simp [intOf]; omega
    · have i1 : ¬ (k : Int) < (s.size : Int) := by omega
      have z1 : ¬ 9223372036854775807 < O.size + 1 := by omega
      have HE : Hid (O ++ (⟨#[34]⟩ : ByteArray) = ⟨(quoteL s.toList).toArray⟩) := by
        have hl : s.toList.length = s.size := by rw [ByteArray.toList_eq]; simp
        have h1 : (O ++ (⟨#[34]⟩ : ByteArray)).toList = quoteL s.toList := by
          rw [toL_append, HO.out, List.take_of_length_le (by omega), toL_mk [34]]
          rfl
        rw [ByteArray.toList_eq] at h1
        have h2 : (O ++ (⟨#[34]⟩ : ByteArray)).data = (quoteL s.toList).toArray := by
          apply Array.ext'
          rw [h1]
        show O ++ (⟨#[34]⟩ : ByteArray) = ⟨(quoteL s.toList).toArray⟩
        rw [← h2]
      go_wp2_with fail
      go_ret
      exact ⟨by show Ending.returned (.string (O ++ ⟨#[34]⟩)) = _; rw [HE.out], rfl⟩
end Go.Proofs.YtjconmohifaliaaDoor
