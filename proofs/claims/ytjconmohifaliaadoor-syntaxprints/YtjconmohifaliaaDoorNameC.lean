/-
  Contracts of syntax.Name and of the document's own: In, isWord, NameMay (P2.1).
-/
import Derived.Test.YtjconmohifaliaaDoorWordsP
namespace Go.Proofs.YtjconmohifaliaaDoor
open Go.ChangeShapes Go.WideShapes Go.ChangeAt Go.RowKit Go.Joins

/-- Is n from lo to hi? -/
def inB (lo n hi : Int) : Bool := decide (lo ≤ n ∧ n ≤ hi)
theorem inB_t {lo n hi : Int} (h1 : lo ≤ n) (h2 : n ≤ hi) : inB lo n hi = true := decide_eq_true ⟨h1, h2⟩
theorem inB_f {lo n hi : Int} (h : n < lo ∨ hi < n) : inB lo n hi = false := decide_eq_false (by omega)

set_option maxHeartbeats 400000 in
theorem in_c (n low high : Int) (w : World) :
    Calls Tryd.prog 20 #[.int .i64 n, .int .i64 low, .int .i64 high] w fun e w' => e = .returned (.bool (inB low n high)) ∧ w' = w := by
  by_cases h1 : low ≤ n
  · by_cases h2 : n ≤ high
    · go_enter Tryd.func20, Tryd.ntmps20
      go_wp2
      go_ret
      exact ⟨ret_bool (inB_t h1 h2).symm, rfl⟩
    · go_enter Tryd.func20, Tryd.ntmps20
      go_wp2
      go_ret
      exact ⟨ret_bool (inB_f (by omega)).symm, rfl⟩
  · go_enter Tryd.func20, Tryd.ntmps20
    go_wp2
    go_ret
    exact ⟨ret_bool (inB_f (by omega)).symm, rfl⟩

theorem words_at (k : Nat) (hk : k < 16) : wordsA[k]? = some (.string ⟨(wordsL.getD k []).toArray⟩) := by
  simp only [wordsA, List.getElem?_toArray, List.getElem?_map]
  rw [List.getElem?_eq_getElem (by show k < wordsL.length; exact hk)]
  simp [strV, List.getD, List.getElem?_eq_getElem (show k < wordsL.length from hk)]
  rfl

theorem no_word {s : ByteArray} (h : ∀ q, q < 16 → ¬ s.toList = wordsL.getD q []) : isWordB s = false := by
  unfold isWordB
  have : ∀ l : List (List UInt8), (∀ q, q < l.length → ¬ s.toList = l.getD q []) → l.contains s.toList = false := fun l h => by
    simp only [List.contains_eq_mem, decide_eq_false_iff_not]
    intro hm
    obtain ⟨q, hq, e⟩ := List.getElem_of_mem hm
    exact h q hq (by simp [List.getD, List.getElem?_eq_getElem hq, e])
  exact this wordsL (fun q hq => h q hq)

theorem a_word {s : ByteArray} {k : Nat} (hk : k < 16) (h : s.toList = wordsL.getD k []) : isWordB s = true := by
  unfold isWordB
  rw [h]
  have : ∀ k, k < 16 → wordsL.contains (wordsL.getD k []) = true := by decide
  exact this k hk

set_option maxRecDepth 4000 in
theorem isWordRef_c (s : ByteArray) (w : World) :
    Calls Tryd.prog 61 #[.string s] w fun e w' => e = .returned (.bool (isWordB s)) ∧ Below w.heap.size w w' := by
  go_enter Tryd.func61, Tryd.ntmps61
  go_wp2_with fail
  change Code.wp _ _ _ _ (w.alloc (.cells wordsA 9))
  have hcell : ∀ k, k < 16 → (w.alloc (.cells wordsA 9)).cell? ⟨w.heap.size, k, none⟩ = some (.string ⟨(wordsL.getD k []).toArray⟩) := fun k hk => by
    rw [← words_at k hk]
    exact (RowAt.new w wordsA 9).cell k
  have HC : Hid (∀ k, k < 16 → (w.alloc (.cells wordsA 9)).cell? ⟨w.heap.size, k, none⟩ = some (.string ⟨(wordsL.getD k []).toArray⟩)) := hcell
  have HB : Hid (Below w.heap.size w (w.alloc (.cells wordsA 9))) := (Below.refl _ _).alloc (Nat.le_refl _) _
  clear hcell
  generalize w.alloc (.cells wordsA 9) = w1 at HC HB ⊢
  go_loop [4] (fun v => ∃ k : Nat, k ≤ 16 ∧ v = .int .i64 k ∧ Hid (∀ q, q < k → ¬ s.toList = wordsL.getD q [])) (fun v => 16 - (intOf v).toNat)
  case atStart => exact ⟨0, by omega, rfl, fun q hq => absurd hq (Nat.not_lt_zero _)⟩
  case round =>
    obtain ⟨k, hk, rfl, HQ⟩ := hrel
    by_cases hk2 : k < 16
    · have i1 : (k : Int) < 16 := by omega
      have i2 : (0 : Int) ≤ (k : Int) := by omega
      have hc := HC.out k hk2
      obtain ⟨x, hx⟩ : ∃ x : ByteArray, x = ⟨(wordsL.getD k []).toArray⟩ := ⟨_, rfl⟩
      have hxl : x.toList = wordsL.getD k [] := by rw [hx, ByteArray.toList_eq]
      have HX : Hid (x.toList = wordsL.getD k []) := hxl
      rw [← hx] at hc
      clear hx hxl
      by_cases he : x.toList = s.toList
      · have hb : (x.toList == s.toList) = true := by simp [he]
        have HE : Hid (isWordB s = true) := a_word hk2 (he.symm.trans HX.out)
        clear he
        go_wp2
        go_ret
        exact ⟨ret_bool HE.out.symm, HB.out⟩
      · have hb : (x.toList == s.toList) = false := by simp [he]
        have HE : Hid (¬ s.toList = wordsL.getD k []) := fun h => he (HX.out.trans h.symm)
        clear he
        go_wp2
        go_round
        case rel => exact ⟨k + 1, by omega, by go_num, fun q hq => by
          by_cases e : q = k
          · subst e; exact HE.out
          · exact HQ.out q (by omega)⟩
        case measure => simp [intOf]; omega
    · have i1 : ¬ (k : Int) < 16 := by omega
      go_wp2
      go_ret
      exact ⟨ret_bool (no_word fun q hq => HQ.out q (by omega)).symm, HB.out⟩

theorem nth_letter {s : ByteArray} {k : Nat} (hk : k < s.size) : s.toList[k]? = some s[k] := by
  rw [ByteArray.toList_eq]
  simp [hk]
  rfl

set_option maxHeartbeats 1000000 in
set_option maxRecDepth 4000 in
/-- P2.1 -/
theorem name_c (s : ByteArray) (w : World) (hs : s.size ≤ maxLen) (hW : WordsAt w) :
    Calls Tryd.prog 62 #[.string s] w fun e w' => e = .returned (.bool (nameB s)) ∧ w' = w := by
  unfold maxLen at hs
  by_cases h1 : (s.size : Int) < 1
  · have HN : Hid (nameB s = false) := by simp [Hid, nameB]; omega
    go_enter Tryd.func62, Tryd.ntmps62
    go_wp2_with fail
    go_ret
    exact ⟨ret_bool HN.out.symm, rfl⟩
  · by_cases h2 : 8 < (s.size : Int)
    · have HN : Hid (nameB s = false) := by simp [Hid, nameB]; omega
      go_enter Tryd.func62, Tryd.ntmps62
      go_wp2_with fail
      go_ret
      exact ⟨ret_bool HN.out.symm, rfl⟩
    · have HW : Hid (WordsAt w) := hW
      clear hW
      go_enter Tryd.func62, Tryd.ntmps62
      go_wp2_with fail
      refine (isWord_c s w HW.out).mono ?_
      rintro e w1 ⟨rfl, rfl⟩
      cases hw : isWordB s
      · have HL : Hid (isWordB s = false) := hw
        clear hw
        go_wp2_with fail
        go_loop [18] (fun v => ∃ k : Nat, k ≤ s.size ∧ v = .int .i64 k ∧ Hid (∀ q (hq : q < s.size), q < k → 97 ≤ s[q].toNat ∧ s[q].toNat ≤ 122)) (fun v => s.size - (intOf v).toNat)
        case atStart => exact ⟨0, by omega, rfl, fun q _ hq => absurd hq (Nat.not_lt_zero _)⟩
        case round =>
          obtain ⟨k, hk, rfl, HQ⟩ := hrel
          by_cases hk2 : k < s.size
          · have i1 : (k : Int) < (s.size : Int) := by omega
            have i2 : (0 : Int) ≤ (k : Int) := by omega
            have hx : s[k]? = some s[k] := by simp [hk2]
            by_cases a1 : (s[k].toNat : Int) < 97
            · have hn : nameB s = false := by
                have : lettersB s = false := by
                  unfold lettersB
                  rw [List.all_eq_false]
                  exact ⟨s[k], List.mem_of_getElem? (nth_letter hk2), by simp; omega⟩
                simp [nameB, this]
              have HN : Hid (nameB s = false) := hn
              clear hn
              go_wp2
              go_ret
              exact ⟨ret_bool HN.out.symm, rfl⟩
            · by_cases a2 : 122 < (s[k].toNat : Int)
              · have hn : nameB s = false := by
                  have : lettersB s = false := by
                    unfold lettersB
                    rw [List.all_eq_false]
                    exact ⟨s[k], List.mem_of_getElem? (nth_letter hk2), by simp; omega⟩
                  simp [nameB, this]
                have HN : Hid (nameB s = false) := hn
                clear hn
                go_wp2
                go_ret
                exact ⟨ret_bool HN.out.symm, rfl⟩
              · have HE : Hid (97 ≤ s[k].toNat ∧ s[k].toNat ≤ 122) := ⟨by omega, by omega⟩
                go_wp2
                go_round
                case rel => exact ⟨k + 1, by omega, by go_num, fun q h hq => by
                  by_cases e : q = k
                  · subst e; exact HE.out
                  · exact HQ.out q h (by omega)⟩
                case measure => simp [intOf]; omega
          · have i1 : ¬ (k : Int) < (s.size : Int) := by omega
            have hn : nameB s = true := by
              have : lettersB s = true := by
                unfold lettersB
                rw [List.all_eq_true]
                intro c hc
                obtain ⟨q, hq, e⟩ := List.getElem_of_mem hc
                have hq2 : q < s.size := by rw [ByteArray.toList_eq] at hq; simpa using hq
                have e2 : s[q] = c := by
                  have := nth_letter hq2
                  rw [List.getElem?_eq_getElem hq, e] at this
                  exact (Option.some.inj this).symm
                have := HQ.out q hq2 (by omega)
                rw [e2] at this
                exact decide_eq_true this
              simp [nameB, this, HL.out]
              omega
            have HN : Hid (nameB s = true) := hn
            clear hn
            go_wp2
            go_ret
            exact ⟨ret_bool HN.out.symm, rfl⟩
      · have HN : Hid (nameB s = false) := by simp [Hid, nameB, hw]
        go_wp2_with fail
        go_ret
        exact ⟨ret_bool HN.out.symm, rfl⟩
end Go.Proofs.YtjconmohifaliaaDoor
