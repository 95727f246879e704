/-
  Contract of the document's own NameMay (P2.1).
-/
import Derived.Test.YtjconmohifaliaaDoorNameC
import Derived.PlainAid
namespace Go.Proofs.YtjconmohifaliaaDoor
open Go.ChangeShapes Go.WideShapes Go.ChangeAt Go.RowKit Go.Joins

theorem letters_t {s : ByteArray} (h : ∀ q (hq : q < s.size), 97 ≤ s[q].toNat ∧ s[q].toNat ≤ 122) : lettersB s = true := by
  unfold lettersB
  rw [List.all_eq_true]
  intro c hc
  obtain ⟨q, hq, e⟩ := List.getElem_of_mem hc
  have hq2 : q < s.size := by rw [ByteArray.toList_eq] at hq; simpa using hq
  have e2 : s[q] = c := by
    have := nth_letter hq2
    rw [List.getElem?_eq_getElem hq, e] at this
    exact (Option.some.inj this).symm
  have := h q hq2
  rw [e2] at this
  exact decide_eq_true this

theorem letters_f {s : ByteArray} {k : Nat} (hk : k < s.size) (h : ¬ (97 ≤ s[k].toNat ∧ s[k].toNat ≤ 122)) : lettersB s = false := by
  unfold lettersB
  rw [List.all_eq_false]
  exact ⟨s[k], List.mem_of_getElem? (nth_letter hk), by simpa using h⟩

set_option maxHeartbeats 1000000 in
set_option maxRecDepth 4000 in
theorem nameMay_c (s : ByteArray) (w : World) (hs : s.size ≤ maxLen) :
    Calls Tryd.prog 52 #[.string s] w fun e w' => e = .returned (.bool (nameB s)) ∧ Below w.heap.size w w' := by
  unfold maxLen at hs
  go_enter Tryd.func52, Tryd.ntmps52
  go_wp2_with fail
  go_loop [3] (fun v => ∃ k : Nat, k ≤ s.size ∧ v = .int .i64 k ∧ Hid (∀ q (hq : q < s.size), q < k → 97 ≤ s[q].toNat ∧ s[q].toNat ≤ 122)) (fun v => s.size - (intOf v).toNat)
  case atStart => exact ⟨0, by omega, rfl, fun q _ hq => absurd hq (Nat.not_lt_zero _)⟩
  case round =>
    obtain ⟨k, hk, rfl, HQ⟩ := hrel
    by_cases hk2 : k < s.size
    · have i1 : (k : Int) < (s.size : Int) := by omega
      have i2 : (0 : Int) ≤ (k : Int) := by omega
      have hx : s[k]? = some s[k] := by simp [hk2]
      have hw64 : IntKind.i64.wrap (s[k].toNat : Int) = (s[k].toNat : Int) := by
        have : s[k].toNat < 256 := s[k].toNat_lt
        rw [Go.PlainAid.i64_is]; unfold wrap64; omega
      go_wp2_with fail
      refine (in_c _ 97 122 _).mono ?_
      rintro e w1 ⟨rfl, rfl⟩
      by_cases ha : 97 ≤ s[k].toNat ∧ s[k].toNat ≤ 122
      · have hb : inB 97 (s[k].toNat : Int) 122 = true := inB_t (by omega) (by omega)
        have HE : Hid (97 ≤ s[k].toNat ∧ s[k].toNat ≤ 122) := ha
        clear ha
        rw [hb]
        clear hb
        go_wp2_with fail
        go_round
        case rel => exact ⟨k + 1, by omega, by go_num, fun q h hq => by
          by_cases e : q = k
          · subst e; exact HE.out
          · exact HQ.out q h (by omega)⟩
        case measure => simp [intOf]; omega
      · have hb : inB 97 (s[k].toNat : Int) 122 = false := inB_f (by omega)
        have HN : Hid (nameB s = false) := by simp [Hid, nameB, letters_f hk2 ha]
        clear ha
        rw [hb]
        clear hb
        go_wp2_with fail
        go_ret
        exact ⟨ret_bool HN.out.symm, Below.refl _ _⟩
    · have i1 : ¬ (k : Int) < (s.size : Int) := by omega
      have HL : Hid (lettersB s = true) := letters_t fun q hq => HQ.out q hq (by omega)
      go_wp2_with fail
      refine (in_c _ 1 8 _).mono ?_
      rintro e w1 ⟨rfl, rfl⟩
      by_cases ha : 1 ≤ s.size ∧ s.size ≤ 8
      · have hb : inB 1 (s.size : Int) 8 = true := inB_t (by omega) (by omega)
        have HE : Hid (1 ≤ s.size ∧ s.size ≤ 8) := ha
        clear ha
        rw [hb]
        clear hb
        go_wp2_with fail
        refine (isWordRef_c s _).mono ?_
        rintro e w2 ⟨rfl, hb2⟩
        have HB : Hid (Below _ _ w2) := hb2
        clear hb2
        go_wp2_with fail
        go_ret
        exact ⟨ret_bool (by simp [nameB, HL.out, HE.out.1, HE.out.2]), HB.out⟩
      · have hb : inB 1 (s.size : Int) 8 = false := inB_f (by omega)
        have HN : Hid (nameB s = false) := by simp [Hid, nameB]; omega
        clear ha
        rw [hb]
        clear hb
        go_wp2_with fail
        go_ret
        exact ⟨ret_bool HN.out.symm, Below.refl _ _⟩
end Go.Proofs.YtjconmohifaliaaDoor
