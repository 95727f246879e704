/-
  Contract of the program's quoted (P2.5).
-/
import Derived.Test.YtjconmohifaliaaDoorPrQ
import Derived.Test.YtjconmohifaliaaDoorPrShelf
namespace Go.Proofs.YtjconmohifaliaaDoor
open Go.ChangeShapes Go.WideShapes Go.ChangeAt Go.RowKit Go.Joins
set_option linter.unusedVariables false
set_option maxRecDepth 100000

theorem quote_more {s : ByteArray} {k : Nat} (hk : k < s.size) : [34] ++ (s.toList.take (k + 1)).flatMap quoteB = [34] ++ (s.toList.take k).flatMap quoteB ++ quoteB s[k] := by
  rw [take_more s k hk, List.flatMap_append]
  simp

theorem quote_ln (s : ByteArray) (k : Nat) (hs : s.size ≤ 200) : ([34] ++ (s.toList.take k).flatMap quoteB).length ≤ 401 := by
  have h1 := quoteF_len (s.toList.take k)
  have h2 : (s.toList.take k).length ≤ s.toList.length := by rw [List.length_take]; omega
  have h3 := toL_len s
  simp only [List.length_append, List.length_cons, List.length_nil]
  omega

set_option maxHeartbeats 2000000 in
theorem quoted_c (s : ByteArray) (hs : s.size ≤ 200) (w : World) :
    Calls Tryd.prog 33 #[.string s] w fun e w' => e = .returned (.string (bs (quoteL s.toList))) ∧ Below w.heap.size w w' := by
  obtain ⟨o, ho⟩ : ∃ o, o = Obj.cells #[.pointer none, .slice none 0 0] 33 := ⟨_, rfl⟩
  have HB0 : Hid (Bd w.heap.size w.heap.size [] (w.alloc o)) := by rw [ho]; exact Bd.new w
  have HW0 : Hid (Below w.heap.size w (w.alloc o)) := (Below.refl _ _).alloc (Nat.le_refl _) o
  have HS : Hid (s.size ≤ 200) := hs
  go_enter Tryd.func33, Tryd.ntmps33
  go_wp2_with fail
  rw [← ho]
  clear ho
  refine (HB0.out.byte 34 (by simp) (by simp)).mono ?_
  rintro e w1 ⟨rfl, hb1, hw1⟩
  have HB1 : Hid (Bd w.heap.size w.heap.size ([34] ++ (s.toList.take 0).flatMap quoteB) w1) := show Bd _ _ _ _ by simpa using hb1
  have HW1 : Hid (Below w.heap.size w w1) := HW0.out.trans hw1
  clear hb1 hw1 HB0 HW0
  go_wp2_with fail
  go_loopw [8] (fun v wr => ∃ k : Nat, k ≤ s.size ∧ v = .int .i64 k ∧ Hid (Bd w.heap.size w.heap.size ([34] ++ (s.toList.take k).flatMap quoteB) wr ∧ Below w.heap.size w wr)) (fun v _ => s.size - (intOf v).toNat)
  case atStart => exact ⟨0, by omega, rfl, HB1.out, HW1.out⟩
  case round =>
    obtain ⟨k, hk, rfl, HR⟩ := hrel
    clear HB1 HW1
    by_cases hk2 : k < s.size
    · have i1 : (k : Int) < (s.size : Int) := by omega
      have i2 : (0 : Int) ≤ (k : Int) := by omega
      have hx : s[k]? = some s[k] := by simp [hk2]
      have HL : Hid (([34] ++ (s.toList.take k).flatMap quoteB).length ≤ 401) := quote_ln s k hs
      have HM : Hid ([34] ++ (s.toList.take (k + 1)).flatMap quoteB = [34] ++ (s.toList.take k).flatMap quoteB ++ quoteB s[k]) := quote_more hk2
      by_cases h34 : s[k].toNat = 34 ∨ s[k].toNat = 92
      · have HQ : Hid (quoteB s[k] = [92] ++ [s[k]]) := by
          unfold quoteB Hid
          rw [if_pos (by rcases h34 with h | h; exact .inl (UInt8.toNat_inj.1 h); exact .inr (UInt8.toNat_inj.1 h))]
          rfl
        rcases h34 with h | h
        · have b34 : ((s[k].toNat : Int) == 34) = true := by simp [h]
          clear h
          go_wp2_with fail
          refine (HR.out.1.byte 92 (by have := HL.out; omega) HR.out.2.size).mono ?_
          rintro e w2 ⟨rfl, hb2, hw2⟩
          have HB2 : Hid (Bd w.heap.size w.heap.size ([34] ++ (s.toList.take k).flatMap quoteB ++ [92]) w2) := hb2
          have HW2 : Hid (Below w.heap.size w w2) := HR.out.2.trans hw2
          clear hb2 hw2
          go_wp2_with fail
          refine (HB2.out.byte s[k] (by have := HL.out; simp only [List.length_append, List.length_cons, List.length_nil] at this ⊢; omega) HW2.out.size).mono ?_
          rintro e w3 ⟨rfl, hb3, hw3⟩
          have HN : Hid (Bd w.heap.size w.heap.size ([34] ++ (s.toList.take (k + 1)).flatMap quoteB) w3 ∧ Below w.heap.size w w3) := ⟨by rw [HM.out, HQ.out, ← List.append_assoc]; exact hb3, HW2.out.trans hw3⟩
          clear hb3 hw3
          go_wp2_with fail
          go_roundw
          case rel => exact ⟨k + 1, by omega, by go_num, HN⟩
          case measure => simp [intOf]; omega
        · have b34 : ((s[k].toNat : Int) == 34) = false := by simp [h]
          have b92 : ((s[k].toNat : Int) == 92) = true := by simp [h]
          clear h
          go_wp2_with fail
          refine (HR.out.1.byte 92 (by have := HL.out; omega) HR.out.2.size).mono ?_
          rintro e w2 ⟨rfl, hb2, hw2⟩
          have HB2 : Hid (Bd w.heap.size w.heap.size ([34] ++ (s.toList.take k).flatMap quoteB ++ [92]) w2) := hb2
          have HW2 : Hid (Below w.heap.size w w2) := HR.out.2.trans hw2
          clear hb2 hw2
          go_wp2_with fail
          refine (HB2.out.byte s[k] (by have := HL.out; simp only [List.length_append, List.length_cons, List.length_nil] at this ⊢; omega) HW2.out.size).mono ?_
          rintro e w3 ⟨rfl, hb3, hw3⟩
          have HN : Hid (Bd w.heap.size w.heap.size ([34] ++ (s.toList.take (k + 1)).flatMap quoteB) w3 ∧ Below w.heap.size w w3) := ⟨by rw [HM.out, HQ.out, ← List.append_assoc]; exact hb3, HW2.out.trans hw3⟩
          clear hb3 hw3
          go_wp2_with fail
          go_roundw
          case rel => exact ⟨k + 1, by omega, by go_num, HN⟩
          case measure => simp [intOf]; omega
      · have b34 : ((s[k].toNat : Int) == 34) = false := by simp; omega
        have b92 : ((s[k].toNat : Int) == 92) = false := by simp; omega
        have hno : ¬ (s[k] = 34 ∨ s[k] = 92) := fun h => h34 (by rcases h with h | h; exact .inl (by rw [h]; rfl); exact .inr (by rw [h]; rfl))
        by_cases h10 : s[k].toNat = 10
        · have b10 : ((s[k].toNat : Int) == 10) = true := by simp [h10]
          have HQ : Hid (quoteB s[k] = [92, 110]) := by
            unfold quoteB Hid
            rw [if_neg hno, if_pos (UInt8.toNat_inj.1 h10)]
          clear h10 h34 hno
          go_wp2_with fail
          refine (HR.out.1.write ⟨#[92, 110]⟩ (by have := HL.out; have e : (⟨#[92, 110]⟩ : ByteArray).size = 2 := rfl; omega) HR.out.2.size).mono ?_
          rintro e w3 ⟨rfl, hb3, hw3⟩
          have HN : Hid (Bd w.heap.size w.heap.size ([34] ++ (s.toList.take (k + 1)).flatMap quoteB) w3 ∧ Below w.heap.size w w3) := ⟨by rw [HM.out, HQ.out]; rw [toL_mk [92, 110]] at hb3; exact hb3, HR.out.2.trans hw3⟩
          clear hb3 hw3
          go_wp2_with fail
          go_roundw
          case rel => exact ⟨k + 1, by omega, by go_num, HN⟩
          case measure => simp [intOf]; omega
        · have b10 : ((s[k].toNat : Int) == 10) = false := by simp; omega
          have HQ : Hid (quoteB s[k] = [s[k]]) := by
            unfold quoteB Hid
            rw [if_neg hno, if_neg (fun h => h10 (by rw [h]; rfl))]
          clear h10 h34 hno
          go_wp2_with fail
          refine (HR.out.1.byte s[k] (by have := HL.out; omega) HR.out.2.size).mono ?_
          rintro e w3 ⟨rfl, hb3, hw3⟩
          have HN : Hid (Bd w.heap.size w.heap.size ([34] ++ (s.toList.take (k + 1)).flatMap quoteB) w3 ∧ Below w.heap.size w w3) := ⟨by rw [HM.out, HQ.out]; exact hb3, HR.out.2.trans hw3⟩
          clear hb3 hw3
          go_wp2_with fail
          go_roundw
          case rel => exact ⟨k + 1, by omega, by go_num, HN⟩
          case measure => simp [intOf]; omega
    · have i1 : ¬ (k : Int) < (s.size : Int) := by omega
      have HL : Hid (([34] ++ (s.toList.take k).flatMap quoteB).length ≤ 401) := quote_ln s k hs
      have HQ : Hid ([34] ++ (s.toList.take k).flatMap quoteB ++ [34] = quoteL s.toList) := by
        have hl := toL_len s
        unfold quoteL Hid
        rw [List.take_of_length_le (by omega)]
      go_wp2_with fail
      refine (HR.out.1.byte 34 (by have := HL.out; omega) HR.out.2.size).mono ?_
      rintro e w2 ⟨rfl, hb2, hw2⟩
      have HB2 : Hid (Bd w.heap.size w.heap.size (quoteL s.toList) w2) := by rw [← HQ.out]; exact hb2
      have HW2 : Hid (Below w.heap.size w w2) := HR.out.2.trans hw2
      clear hb2 hw2
      go_wp2_with fail
      refine (HB2.out.string HW2.out.size).mono ?_
      rintro e w3 ⟨rfl, hw3⟩
      have HW3 : Hid (Below w.heap.size w w3) := HW2.out.trans hw3
      clear hw3
      go_wp2_with fail
      go_ret
      exact ⟨rfl, HW3.out⟩
end Go.Proofs.YtjconmohifaliaaDoor
