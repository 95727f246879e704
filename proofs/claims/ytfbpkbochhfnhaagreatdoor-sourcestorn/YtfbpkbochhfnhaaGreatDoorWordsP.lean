/-
  Contract of syntax.isWord.
-/
import Derived.Test.YtfbpkbochhfnhaaGreatDoorTabs
import Derived.Laws.Rows
namespace Go.Proofs.YtfbpkbochhfnhaaGreatDoor
open Go.ChangeShapes Go.WideShapes Go.ChangeAt Go.RowKit Go.Joins

set_option maxRecDepth 4000 in
theorem isWord_c (s : ByteArray) (w : World) (hW : WordsAt w) :
    Calls Tryz.prog 138 #[.string s] w fun e w' => e = .returned (.bool (isWordB s)) ∧ w' = w := by
  have hr : w.rangeAt 12 0 wordsA.toList := fun j v hv => by rw [Nat.zero_add, hW.cell j]; simpa using hv
  obtain ⟨A, hA⟩ : ∃ A, A = wordsA.toList := ⟨_, rfl⟩
  rw [← hA] at hr
  have hn : (Tryz.prog.info? 183).map (·.size) = some A.length := by rw [hA]; kernel_rfl
  have HR : Hid (w.rangeAt 12 0 A) := hr
  have HN : Hid ((Tryz.prog.info? 183).map (·.size) = some A.length) := hn
  have HA : Hid (A = wordsA.toList) := hA
  clear hA hr hn hW
  go_enter Tryz.func138, Tryz.ntmps138
  go_wp2_with (refine wpList_load_mid rfl 183 _ rfl 12 0 rfl A _ HR.out Tryz.underlying183 rfl HN.out ?_)
  go_loop [6] (fun v => ∃ k : Nat, k ≤ 16 ∧ v = .int .i64 k ∧ ∀ q, q < k → ¬ s.toList = wordsL.getD q []) (fun v => 16 - (intOf v).toNat)
  case atStart => exact ⟨0, by omega, rfl, fun q hq => absurd hq (Nat.not_lt_zero _)⟩
  case round =>
    obtain ⟨k, hk, rfl, hq⟩ := hrel
    have HQ : Hid (∀ q, q < k → ¬ s.toList = wordsL.getD q []) := hq
    clear hq
    by_cases hk2 : k < 16
    · have i1 : (k : Int) < 16 := by omega
      obtain ⟨x, hx⟩ : ∃ x : ByteArray, x = ⟨(wordsL.getD k []).toArray⟩ := ⟨_, rfl⟩
      have hxl : x.toList = wordsL.getD k [] := by rw [hx, ByteArray.toList_eq]
      have HX : Hid (x.toList = wordsL.getD k []) := hxl
      have hix := run_index_one (P := Tryz.prog) (cs := A.toArray) (v := .string x) w Tryz.underlying183 Tryz.underlying9 rfl (by kernel_rfl) hk2 (by
        rw [HA.out, hx]
        simp only [wordsA, List.getElem?_toArray, List.getElem?_map]
        rw [List.getElem?_eq_getElem (by show k < wordsL.length; exact hk2)]
        simp [strV, List.getD, List.getElem?_eq_getElem (show k < wordsL.length from hk2)]
        rfl)
      clear hx hxl
      by_cases he : x.toList = s.toList
      · have hb : (x.toList == s.toList) = true := by simp [he]
        have HE : Hid (isWordB s = true) := by
          unfold isWordB
          rw [← he, HX.out]
          have : ∀ k, k < 16 → wordsL.contains (wordsL.getD k []) = true := by decide
          exact this k hk2
        clear he
        go_wp2
        go_ret
        exact ⟨ret_bool HE.out.symm, rfl⟩
      · have hb : (x.toList == s.toList) = false := by simp [he]
        have HE : Hid (¬ s.toList = wordsL.getD k []) := fun h => he (HX.out.trans h.symm)
        clear he
        go_wp2
        go_round
        case rel => exact ⟨k + 1, by omega, by go_num, fun q hq => by
          by_cases e : q = k
          · subst e; exact HE.out
          · exact HQ.out q (by omega)⟩
        case measure => simp [intOf]; omega
    · have i1 : ¬ (k : Int) < 16 := by omega
      go_wp2
      go_ret
      refine ⟨ret_bool ?_, rfl⟩
      unfold isWordB
      symm
      have : ∀ l : List (List UInt8), (∀ q, q < l.length → ¬ s.toList = l.getD q []) → l.contains s.toList = false := fun l h => by
        simp only [List.contains_eq_mem, decide_eq_false_iff_not]
        intro hm
        obtain ⟨q, hq, e⟩ := List.getElem_of_mem hm
        exact h q hq (by simp [List.getD, List.getElem?_eq_getElem hq, e])
      exact this wordsL (fun q hq => HQ.out q (by have : q < 16 := hq; omega))
end Go.Proofs.YtfbpkbochhfnhaaGreatDoor
