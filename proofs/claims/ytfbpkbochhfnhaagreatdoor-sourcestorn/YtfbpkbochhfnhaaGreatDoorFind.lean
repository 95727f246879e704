/-
  Contracts of syntax.level, isOperator and argsOf: what the tables say of a text.
-/
import Derived.Test.YtfbpkbochhfnhaaGreatDoorChk
namespace Go.Proofs.YtfbpkbochhfnhaaGreatDoor
open Go.ChangeShapes Go.WideShapes Go.ChangeAt Go.RowKit Go.Joins

theorem flat_pair (l : List (List UInt8 × Int)) (k : Nat) (hk : k < l.length) : ((l.flatMap pairV).drop (k * 2)).take 2 = pairV l[k] := by
  induction l generalizing k with
  | nil => exact absurd hk (Nat.not_lt_zero _)
  | cons y l ih =>
    cases k with
    | zero => simp [pairV]
    | succ k =>
      rw [show (k + 1) * 2 = 2 + k * 2 by omega, ← List.drop_drop]
      simpa [pairV] using ih k (by simpa using hk)

theorem pair_at (l : List (List UInt8 × Int)) (k : Nat) (hk : k < l.length) : (l.flatMap pairV).toArray.toList.toArray.extract (k * 2) (k * 2 + 2) = #[.string ⟨(l.getD k ([], 0)).1.toArray⟩, .int .i64 (l.getD k ([], 0)).2] := by
  have h := flat_pair l k hk
  apply Array.ext'
  simp only [Array.toList_extract, List.extract_eq_take_drop]
  rw [show k * 2 + 2 - k * 2 = 2 by omega]
  simpa [pairV, List.getD, List.getElem?_eq_getElem hk] using h

/-- What a table says of a text; 0: nothing. -/
def findP (l : List (List UInt8 × Int)) (s : ByteArray) : Int := ((l.find? fun p => p.1 == s.toList).map (·.2)).getD 0

theorem findP_none {l : List (List UInt8 × Int)} {s : ByteArray} (h : ∀ q, q < l.length → ¬ (l.getD q ([], 0)).1 = s.toList) : findP l s = 0 := by
  have : l.find? (fun p => p.1 == s.toList) = none := by
    rw [List.find?_eq_none]
    intro p hp
    obtain ⟨q, hq, e⟩ := List.getElem_of_mem hp
    have := h q hq
    simp only [List.getD, List.getElem?_eq_getElem hq, Option.getD_some, e] at this
    simpa using this
  simp [findP, this]

theorem findP_at {l : List (List UInt8 × Int)} {s : ByteArray} {k : Nat} (hk : k < l.length) (he : (l.getD k ([], 0)).1 = s.toList) (h : ∀ q, q < k → ¬ (l.getD q ([], 0)).1 = s.toList) : findP l s = (l.getD k ([], 0)).2 := by
  induction l generalizing k with
  | nil => exact absurd hk (Nat.not_lt_zero _)
  | cons y l ih =>
    cases k with
    | zero =>
      have h1 : (y.1 == s.toList) = true := by simpa [List.getD] using he
      simp [findP, h1, List.getD]
    | succ k =>
      have h0 : (y.1 == s.toList) = false := by simpa [List.getD] using h 0 (by omega)
      have := ih (k := k) (by simpa using hk) (by simpa [List.getD] using he) (fun q hq => by simpa [List.getD] using h (q + 1) (by omega))
      simp only [findP, List.find?_cons, h0] at this ⊢
      rw [this]
      simp [List.getD]

set_option maxHeartbeats 1000000 in
set_option maxRecDepth 4000 in
theorem level_c (s : ByteArray) (w : World) (hR : RowAt w 5 levelsA) :
    Calls Tryz.prog 119 #[.string s] w fun e w' => e = .returned (.int .i64 (findP levelsL s)) ∧ Below w.heap.size w w' := by
  have hr : w.rangeAt 5 0 levelsA.toList := fun j v hv => by rw [Nat.zero_add, hR.cell j]; simpa using hv
  obtain ⟨A, hA⟩ : ∃ A, A = levelsA.toList := ⟨_, rfl⟩
  rw [← hA] at hr
  have hn : (Tryz.prog.info? 168).map (·.size) = some A.length := by rw [hA]; kernel_rfl
  have HR : Hid (w.rangeAt 5 0 A) := hr
  have HN : Hid ((Tryz.prog.info? 168).map (·.size) = some A.length) := hn
  have HA : Hid (A = levelsA.toList) := hA
  clear hA hr hn hR
  go_enter Tryz.func119, Tryz.ntmps119
  go_wp2_with (refine wpList_load_mid rfl 168 _ rfl 5 0 rfl A _ HR.out Tryz.underlying168 rfl HN.out ?_)
  go_loopw [6] (fun v wr => ∃ k : Nat, k ≤ 15 ∧ v = .int .i64 k ∧ Hid (Below w.heap.size w wr ∧ ∀ q, q < k → ¬ (levelsL.getD q ([], 0)).1 = s.toList)) (fun v _ => 15 - (intOf v).toNat)
  case atStart => exact ⟨0, by omega, rfl, Below.refl _ _, fun q hq => absurd hq (Nat.not_lt_zero _)⟩
  case round =>
    obtain ⟨k, hk, rfl, HQ⟩ := hrel
    by_cases hk2 : k < 15
    · have i1 : (k : Int) < 15 := by omega
      obtain ⟨x, hx⟩ : ∃ x : ByteArray, x = ⟨(levelsL.getD k ([], 0)).1.toArray⟩ := ⟨_, rfl⟩
      obtain ⟨y, hy⟩ : ∃ y : Int, y = (levelsL.getD k ([], 0)).2 := ⟨_, rfl⟩
      have hxl : x.toList = (levelsL.getD k ([], 0)).1 := by rw [hx, ByteArray.toList_eq]
      have HX : Hid (x.toList = (levelsL.getD k ([], 0)).1) := hxl
      have HY : Hid (y = (levelsL.getD k ([], 0)).2) := hy
      have hix := fun wr => run_index_two (P := Tryz.prog) (cs := A.toArray) (x := .string x) (y := .int .i64 y) wr Tryz.underlying168 Tryz.underlying167 rfl (by kernel_rfl) hk2 (by
        rw [HA.out, hx, hy]
        exact pair_at levelsL k hk2)
      clear hx hxl hy
      by_cases he : x.toList = s.toList
      · have hb : (x.toList == s.toList) = true := by simp [he]
        have HE : Hid (findP levelsL s = y) := by
          rw [HY.out]
          exact findP_at hk2 (HX.out.symm.trans he) HQ.out.2
        clear he
        go_wp2
        go_ret
        exact ⟨ret_int HE.out.symm, HQ.out.1.alloc HQ.out.1.size _⟩
      · have hb : (x.toList == s.toList) = false := by simp [he]
        have HE : Hid (¬ (levelsL.getD k ([], 0)).1 = s.toList) := fun h => he (HX.out.trans h)
        clear he
        go_wp2
        go_roundw
        case rel => exact ⟨k + 1, by omega, by go_num, HQ.out.1.alloc HQ.out.1.size _, fun q hq => by
          by_cases e : q = k
          · subst e; exact HE.out
          · exact HQ.out.2 q (by omega)⟩
        case measure => simp [intOf]; omega
    · have i1 : ¬ (k : Int) < 15 := by omega
      go_wp2
      go_ret
      exact ⟨ret_int (findP_none fun q hq => HQ.out.2 q (by have : q < 15 := hq; omega)).symm, HQ.out.1⟩

set_option maxHeartbeats 1000000 in
set_option maxRecDepth 4000 in
theorem argsOf_c (s : ByteArray) (w : World) (hR : RowAt w 6 funcsA) :
    Calls Tryz.prog 121 #[.string s] w fun e w' => e = .returned (.int .i64 (findP funcsL s)) ∧ Below w.heap.size w w' := by
  have hr : w.rangeAt 6 0 funcsA.toList := fun j v hv => by rw [Nat.zero_add, hR.cell j]; simpa using hv
  obtain ⟨A, hA⟩ : ∃ A, A = funcsA.toList := ⟨_, rfl⟩
  rw [← hA] at hr
  have hn : (Tryz.prog.info? 170).map (·.size) = some A.length := by rw [hA]; kernel_rfl
  have HR : Hid (w.rangeAt 6 0 A) := hr
  have HN : Hid ((Tryz.prog.info? 170).map (·.size) = some A.length) := hn
  have HA : Hid (A = funcsA.toList) := hA
  clear hA hr hn hR
  go_enter Tryz.func121, Tryz.ntmps121
  go_wp2_with (refine wpList_load_mid rfl 170 _ rfl 6 0 rfl A _ HR.out Tryz.underlying170 rfl HN.out ?_)
  go_loopw [6] (fun v wr => ∃ k : Nat, k ≤ 3 ∧ v = .int .i64 k ∧ Hid (Below w.heap.size w wr ∧ ∀ q, q < k → ¬ (funcsL.getD q ([], 0)).1 = s.toList)) (fun v _ => 3 - (intOf v).toNat)
  case atStart => exact ⟨0, by omega, rfl, Below.refl _ _, fun q hq => absurd hq (Nat.not_lt_zero _)⟩
  case round =>
    obtain ⟨k, hk, rfl, HQ⟩ := hrel
    by_cases hk2 : k < 3
    · have i1 : (k : Int) < 3 := by omega
      obtain ⟨x, hx⟩ : ∃ x : ByteArray, x = ⟨(funcsL.getD k ([], 0)).1.toArray⟩ := ⟨_, rfl⟩
      obtain ⟨y, hy⟩ : ∃ y : Int, y = (funcsL.getD k ([], 0)).2 := ⟨_, rfl⟩
      have hxl : x.toList = (funcsL.getD k ([], 0)).1 := by rw [hx, ByteArray.toList_eq]
      have HX : Hid (x.toList = (funcsL.getD k ([], 0)).1) := hxl
      have HY : Hid (y = (funcsL.getD k ([], 0)).2) := hy
      have hix := fun wr => run_index_two (P := Tryz.prog) (cs := A.toArray) (x := .string x) (y := .int .i64 y) wr Tryz.underlying170 Tryz.underlying169 rfl (by kernel_rfl) hk2 (by
        rw [HA.out, hx, hy]
        exact pair_at funcsL k hk2)
      clear hx hxl hy
      by_cases he : x.toList = s.toList
      · have hb : (x.toList == s.toList) = true := by simp [he]
        have HE : Hid (findP funcsL s = y) := by
          rw [HY.out]
          exact findP_at hk2 (HX.out.symm.trans he) HQ.out.2
        clear he
        go_wp2
        go_ret
        exact ⟨ret_int HE.out.symm, HQ.out.1.alloc HQ.out.1.size _⟩
      · have hb : (x.toList == s.toList) = false := by simp [he]
        have HE : Hid (¬ (funcsL.getD k ([], 0)).1 = s.toList) := fun h => he (HX.out.trans h)
        clear he
        go_wp2
        go_roundw
        case rel => exact ⟨k + 1, by omega, by go_num, HQ.out.1.alloc HQ.out.1.size _, fun q hq => by
          by_cases e : q = k
          · subst e; exact HE.out
          · exact HQ.out.2 q (by omega)⟩
        case measure => simp [intOf]; omega
    · have i1 : ¬ (k : Int) < 3 := by omega
      go_wp2
      go_ret
      exact ⟨ret_int (findP_none fun q hq => HQ.out.2 q (by have : q < 3 := hq; omega)).symm, HQ.out.1⟩

theorem asks_is (s : ByteArray) : findP funcsL s = asksN s := by
  unfold findP asksN funcsL
  generalize s.toList = l
  by_cases h1 : l = [108, 101, 110, 103, 116, 104]
  · subst h1; rfl
  by_cases h2 : l = [105, 110, 100, 101, 120]
  · subst h2; rfl
  by_cases h3 : l = [115, 117, 98, 115, 116, 114]
  · subst h3; rfl
  have k1 : ([108, 101, 110, 103, 116, 104] == l) = false := by simpa using fun h => h1 h.symm
  have k2 : ([105, 110, 100, 101, 120] == l) = false := by simpa using fun h => h2 h.symm
  have k3 : ([115, 117, 98, 115, 116, 114] == l) = false := by simpa using fun h => h3 h.symm
  simp [k1, k2, k3, h1, h2, h3]
theorem lv_is (s : ByteArray) : findP levelsL s = if s.toList = [105, 110] then 3 else lvl s := by
  unfold findP lvl levelsL
  generalize s.toList = l
  by_cases h0 : l = [124, 124]
  · subst h0; rfl
  by_cases h1 : l = [38, 38]
  · subst h1; rfl
  by_cases h2 : l = [60]
  · subst h2; rfl
  by_cases h3 : l = [60, 61]
  · subst h3; rfl
  by_cases h4 : l = [61, 61]
  · subst h4; rfl
  by_cases h5 : l = [33, 61]
  · subst h5; rfl
  by_cases h6 : l = [62]
  · subst h6; rfl
  by_cases h7 : l = [62, 61]
  · subst h7; rfl
  by_cases h8 : l = [105, 110]
  · subst h8; rfl
  by_cases h9 : l = [46, 46]
  · subst h9; rfl
  by_cases h10 : l = [43]
  · subst h10; rfl
  by_cases h11 : l = [45]
  · subst h11; rfl
  by_cases h12 : l = [42]
  · subst h12; rfl
  by_cases h13 : l = [47]
  · subst h13; rfl
  by_cases h14 : l = [37]
  · subst h14; rfl
  have k0 : ([124, 124] == l) = false := by simpa using fun h => h0 h.symm
  have k1 : ([38, 38] == l) = false := by simpa using fun h => h1 h.symm
  have k2 : ([60] == l) = false := by simpa using fun h => h2 h.symm
  have k3 : ([60, 61] == l) = false := by simpa using fun h => h3 h.symm
  have k4 : ([61, 61] == l) = false := by simpa using fun h => h4 h.symm
  have k5 : ([33, 61] == l) = false := by simpa using fun h => h5 h.symm
  have k6 : ([62] == l) = false := by simpa using fun h => h6 h.symm
  have k7 : ([62, 61] == l) = false := by simpa using fun h => h7 h.symm
  have k8 : ([105, 110] == l) = false := by simpa using fun h => h8 h.symm
  have k9 : ([46, 46] == l) = false := by simpa using fun h => h9 h.symm
  have k10 : ([43] == l) = false := by simpa using fun h => h10 h.symm
  have k11 : ([45] == l) = false := by simpa using fun h => h11 h.symm
  have k12 : ([42] == l) = false := by simpa using fun h => h12 h.symm
  have k13 : ([47] == l) = false := by simpa using fun h => h13 h.symm
  have k14 : ([37] == l) = false := by simpa using fun h => h14 h.symm
  simp [k0, k1, k2, k3, k4, k5, k6, k7, k8, k9, k10, k11, k12, k13, k14, h0, h1, h2, h3, h4, h5, h6, h7, h8, h9, h10, h11, h12, h13, h14]

set_option maxHeartbeats 1000000 in
theorem isOperator_c (s : ByteArray) (w : World) (hR : RowAt w 5 levelsA) :
    Calls Tryz.prog 123 #[.string s] w fun e w' => e = .returned (.bool (decide (0 < lvl s))) ∧ Below w.heap.size w w' := by
  have HR : Hid (RowAt w 5 levelsA) := hR
  clear hR
  by_cases h : s.toList = [105, 110]
  · have hb : (s.toList == [105, 110]) = true := by simp [h]
    have HL : Hid (lvl s = 0) := by simp [Hid, lvl, h]
    clear h
    go_enter Tryz.func123, Tryz.ntmps123
    go_wp2_with fail
    go_ret
    exact ⟨ret_bool (by rw [HL.out]; rfl), Below.refl _ _⟩
  · have hb : (s.toList == [105, 110]) = false := by simpa using h
    have HL : Hid (findP levelsL s = lvl s) := by rw [lv_is, if_neg h]; rfl
    clear h
    go_enter Tryz.func123, Tryz.ntmps123
    go_wp2_with fail
    refine (level_c s _ HR.out).mono ?_
    rintro e w1 ⟨rfl, hb1⟩
    rw [HL.out]
    have HB : Hid (Below w.heap.size w w1) := hb1
    clear hb1
    go_wp2_with fail
    go_ret
    exact ⟨rfl, HB.out⟩
end Go.Proofs.YtfbpkbochhfnhaaGreatDoor
