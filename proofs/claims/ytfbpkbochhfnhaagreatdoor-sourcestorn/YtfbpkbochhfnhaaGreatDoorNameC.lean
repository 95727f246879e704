/-
  Contracts of syntax.Name and of the document's own: In, isWord, NameMay (P2.1).
-/
import Derived.Test.YtfbpkbochhfnhaaGreatDoorWordsP
namespace Go.Proofs.YtfbpkbochhfnhaaGreatDoor
open Go.ChangeShapes Go.WideShapes Go.ChangeAt Go.RowKit Go.Joins

/-- Is n from lo to hi? -/
def inB (lo n hi : Int) : Bool := decide (lo ≤ n ∧ n ≤ hi)
theorem inB_t {lo n hi : Int} (h1 : lo ≤ n) (h2 : n ≤ hi) : inB lo n hi = true := decide_eq_true ⟨h1, h2⟩
theorem inB_f {lo n hi : Int} (h : n < lo ∨ hi < n) : inB lo n hi = false := decide_eq_false (by omega)


theorem words_at (k : Nat) (hk : k < 16) : wordsA[k]? = some (.string ⟨(wordsL.getD k []).toArray⟩) := by
  simp only [wordsA, List.getElem?_toArray, List.getElem?_map]
  rw [List.getElem?_eq_getElem (by show k < wordsL.length; exact hk)]
  simp [strV, List.getD, List.getElem?_eq_getElem (show k < wordsL.length from hk)]
  rfl

theorem no_word {s : ByteArray} (h : ∀ q, q < 16 → ¬ s.toList = wordsL.getD q []) : isWordB s = false := by
  unfold isWordB
  have : ∀ l : List (List UInt8), (∀ q, q < l.length → ¬ s.toList = l.getD q []) → l.contains s.toList = false := fun l h => by
    simp only [List.contains_eq_mem, decide_eq_false_iff_not]
    intro hm
    obtain ⟨q, hq, e⟩ := List.getElem_of_mem hm
    exact h q hq (by simp [List.getD, List.getElem?_eq_getElem hq, e])
  exact this wordsL (fun q hq => h q hq)

theorem a_word {s : ByteArray} {k : Nat} (hk : k < 16) (h : s.toList = wordsL.getD k []) : isWordB s = true := by
  unfold isWordB
  rw [h]
  have : ∀ k, k < 16 → wordsL.contains (wordsL.getD k []) = true := by decide
  exact this k hk


theorem nth_letter {s : ByteArray} {k : Nat} (hk : k < s.size) : s.toList[k]? = some s[k] := by
  rw [ByteArray.toList_eq]
  simp [hk]
  rfl

set_option maxHeartbeats 1000000 in
set_option maxRecDepth 4000 in
/-- P2.1 -/
theorem name_c (s : ByteArray) (w : World) (hs : s.size ≤ maxLen) (hW : WordsAt w) :
    Calls Tryz.prog 120 #[.string s] w fun e w' => e = .returned (.bool (nameB s)) ∧ w' = w := by
  unfold maxLen at hs
  by_cases h1 : (s.size : Int) < 1
  · have HN : Hid (nameB s = false) := by simp [Hid, nameB]; omega
    go_enter Tryz.func120, Tryz.ntmps120
    go_wp2_with fail
    go_ret
    exact ⟨ret_bool HN.out.symm, rfl⟩
  · by_cases h2 : 8 < (s.size : Int)
    · have HN : Hid (nameB s = false) := by simp [Hid, nameB]; omega
      go_enter Tryz.func120, Tryz.ntmps120
      go_wp2_with fail
      go_ret
      exact ⟨ret_bool HN.out.symm, rfl⟩
    · have HW : Hid (WordsAt w) := hW
      clear hW
      go_enter Tryz.func120, Tryz.ntmps120
      go_wp2_with fail
      refine (isWord_c s w HW.out).mono ?_
      rintro e w1 ⟨rfl, rfl⟩
      cases hw : isWordB s
      · have HL : Hid (isWordB s = false) := hw
        clear hw
        go_wp2_with fail
        go_loop [18] (fun v => ∃ k : Nat, k ≤ s.size ∧ v = .int .i64 k ∧ Hid (∀ q (hq : q < s.size), q < k → 97 ≤ s[q].toNat ∧ s[q].toNat ≤ 122)) (fun v => s.size - (intOf v).toNat)
        case atStart => exact ⟨0, by omega, rfl, fun q _ hq => absurd hq (Nat.not_lt_zero _)⟩
        case round =>
          obtain ⟨k, hk, rfl, HQ⟩ := hrel
          by_cases hk2 : k < s.size
          · have i1 : (k : Int) < (s.size : Int) := by omega
            have i2 : (0 : Int) ≤ (k : Int) := by omega
            have hx : s[k]? = some s[k] := by simp [hk2]
            by_cases a1 : (s[k].toNat : Int) < 97
            · have hn : nameB s = false := by
                have : lettersB s = false := by
                  unfold lettersB
                  rw [List.all_eq_false]
                  exact ⟨s[k], List.mem_of_getElem? (nth_letter hk2), by simp; omega⟩
                simp [nameB, this]
              have HN : Hid (nameB s = false) := hn
              clear hn
              go_wp2
              go_ret
              exact ⟨ret_bool HN.out.symm, rfl⟩
            · by_cases a2 : 122 < (s[k].toNat : Int)
              · have hn : nameB s = false := by
                  have : lettersB s = false := by
                    unfold lettersB
                    rw [List.all_eq_false]
                    exact ⟨s[k], List.mem_of_getElem? (nth_letter hk2), by simp; omega⟩
                  simp [nameB, this]
                have HN : Hid (nameB s = false) := hn
                clear hn
                go_wp2
                go_ret
                exact ⟨ret_bool HN.out.symm, rfl⟩
              · have HE : Hid (97 ≤ s[k].toNat ∧ s[k].toNat ≤ 122) := ⟨by omega, by omega⟩
                go_wp2
                go_round
                case rel => exact ⟨k + 1, by omega, by go_num, fun q h hq => by
                  by_cases e : q = k
                  · subst e; exact HE.out
                  · exact HQ.out q h (by omega)⟩
                case measure => simp [intOf]; omega
          · have i1 : ¬ (k : Int) < (s.size : Int) := by omega
            have hn : nameB s = true := by
              have : lettersB s = true := by
                unfold lettersB
                rw [List.all_eq_true]
                intro c hc
                obtain ⟨q, hq, e⟩ := List.getElem_of_mem hc
                have hq2 : q < s.size := by rw [ByteArray.toList_eq] at hq; simpa using hq
                have e2 : s[q] = c := by
                  have := nth_letter hq2
                  rw [List.getElem?_eq_getElem hq, e] at this
                  exact (Option.some.inj this).symm
                have := HQ.out q hq2 (by omega)
                rw [e2] at this
                exact decide_eq_true this
              simp [nameB, this, HL.out]
              omega
            have HN : Hid (nameB s = true) := hn
            clear hn
            go_wp2
            go_ret
            exact ⟨ret_bool HN.out.symm, rfl⟩
      · have HN : Hid (nameB s = false) := by simp [Hid, nameB, hw]
        go_wp2_with fail
        go_ret
        exact ⟨ret_bool HN.out.symm, rfl⟩
end Go.Proofs.YtfbpkbochhfnhaaGreatDoor
