/-
  Contracts of eval.checkLines, checkFile and CheckWorld: they answer what is wrong with files and lines.
-/
import Derived.Test.YtbjbbfcmglbibaaWdMem
import Derived.Test.YtbjbbfcmglbibaaShelf
import Derived.Handy
import Derived.BigQuiet
import Derived.Lib.QuietBelow
namespace Go.Proofs.Ytbjbbfcmglbibaa
open Go.ChangeShapes Go.WideShapes Go.ChangeAt Go.RowKit Go.Joins
set_option linter.unusedVariables false
set_option maxRecDepth 100000

set_option maxHeartbeats 1000000 in
theorem checkLines_c (B : Nat) (l : List ByteArray) (v : Value) (w : World) (hv : TxL w B v l) :
    Calls Try.prog 7 #[v] w fun e w' => e = .returned (.int .i64 (linesR l)) ∧ w' = w := by
  obtain ⟨a, cap, rfl, hl, hsl⟩ := hv
  unfold maxLen at hl
  go_enter Try.func7, Try.ntmps7
  go_wp2_with fail
  go_loop [7] (fun v => ∃ k : Nat, k ≤ l.length ∧ v = .int .i64 k ∧ Hid (∀ q, q < k → lineB (l.getD q default) = true)) (fun v => l.length - (intOf v).toNat)
  case atStart => exact ⟨0, by omega, rfl, fun q hq => absurd hq (Nat.not_lt_zero _)⟩
  case round =>
    obtain ⟨k, hk, rfl, HQ⟩ := hrel
    by_cases hlt : k < l.length
    · obtain ⟨b, off, rfl, hb, hi⟩ := hsl (by omega)
      obtain ⟨c0, z0⟩ := txAt hi k hlt
      have i1 : (k : Int) < (l.length : Int) := by omega
      have i2 : (0 : Int) ≤ (k : Int) := by omega
      obtain ⟨x, hx⟩ : ∃ x, x = l.getD k default := ⟨_, rfl⟩
      rw [← hx] at c0 z0
      have HX : Hid (x = l.getD k default) := hx
      clear hx hi hsl
      by_cases h200 : x.size ≤ 200
      · have j1 : ¬ 200 < (x.size : Int) := by omega
        have hcc := fun w => Try.strings_Contains_one x 10 w
        simp only [indexByte_neg] at hcc
        cases hct : x.data.toList.contains 10 with
        | false =>
          rw [hct] at hcc
          have R2 : Hid (∀ q, q < k + 1 → lineB (l.getD q default) = true) := fun q hq => by
            by_cases e : q = k
            · subst e; rw [← HX.out]; exact lineB_t h200 hct
            · exact HQ.out q (by omega)
          have HC : Hid _ := hcc
          clear hcc hct HQ h200
          go_wp2_with (refine (HC.out _).mono ?_; rintro e w1 ⟨rfl, rfl⟩)
          go_round
          case rel => exact ⟨k + 1, by omega, by go_num, R2⟩
          case measure => simp [intOf]; omega
        | true =>
          rw [hct] at hcc
          have HL : Hid (linesR l = 4) := linesR_bad hlt (by rw [← HX.out]; exact lineB_ten hct)
          have HC : Hid _ := hcc
          clear hcc hct HQ h200
          go_wp2_with (refine (HC.out _).mono ?_; rintro e w1 ⟨rfl, rfl⟩)
          go_ret
          exact ⟨ret_int HL.out.symm, rfl⟩
      · have j1 : 200 < (x.size : Int) := by omega
        have HL : Hid (linesR l = 4) := linesR_bad hlt (by rw [← HX.out]; exact lineB_long h200)
        clear HQ h200
        go_wp2_with fail
        go_ret
        exact ⟨ret_int HL.out.symm, rfl⟩
    · have i1 : ¬ (k : Int) < (l.length : Int) := by omega
      have HL : Hid (linesR l = 0) := linesR_ok fun q hq => HQ.out q (by omega)
      clear HQ hsl
      go_wp2_with fail
      go_ret
      exact ⟨ret_int HL.out.symm, rfl⟩

/-- The closure of checkFile: is that the name? -/
theorem sameName_c (c : Addr) (s t : ByteArray) (v : Value) (w : World) (hc : w.cell? c = some (.string t)) :
    Calls Try.prog 10 #[.agg #[.string s, v], .pointer (some c)] w fun e w' => e = .returned (.bool (s.toList == t.toList)) ∧ Below w.heap.size w w' := by
  obtain ⟨b, o, sp⟩ := c
  obtain rfl : sp = none := World.cell?_spot hc
  have hlt := World.block_lt_of_cell? w _ hc
  simp only at hlt
  go_enter Try.func10, Try.ntmps10
  go_wp2_with fail
  go_ret
  exact ⟨ret_bool rfl, (Below.refl _ _).alloc (Nat.le_refl _) _⟩

/-- Is there a file of that name among the first n? -/
def anyN (l : List Fl) (n : Nat) (t : ByteArray) : Bool := (l.take n).any (fun g => g.name.toList == t.toList)
theorem anyN_f {l : List Fl} {n : Nat} {t : ByteArray} (hn : n ≤ l.length) (h : ∀ q, q < n → ((l.getD q default).name.toList == t.toList) = false) : anyN l n t = false := by
  rw [anyN, List.any_eq_false]
  intro x hx
  obtain ⟨q, hq, rfl⟩ := List.getElem_of_mem hx
  rw [List.length_take] at hq
  have := h q (by omega)
  rw [List.getD_eq_getElem?_getD, List.getElem?_eq_getElem (by omega), Option.getD_some] at this
  simp [this]
theorem anyN_t {l : List Fl} {n q : Nat} {t : ByteArray} (hn : n ≤ l.length) (hq : q < n) (h : ((l.getD q default).name.toList == t.toList) = true) : anyN l n t = true := by
  rw [anyN, List.any_eq_true]
  rw [List.getD_eq_getElem?_getD, List.getElem?_eq_getElem (by omega), Option.getD_some] at h
  refine ⟨l[q], ?_, h⟩
  have h2 : (l.take n)[q]? = some l[q] := by rw [List.getElem?_take, if_pos hq, List.getElem?_eq_getElem]
  exact List.mem_of_getElem? h2

set_option maxHeartbeats 1000000 in
/-- The place of the first file of that name among the first n. -/
theorem indexFunc_c (B : Nat) (l : List Fl) (n : Nat) (a : Option Addr) (cap cap' : Nat) (c : Addr) (t : ByteArray) (w : World) (hv : FlL w B (.slice a l.length cap) l) (hB : B ≤ w.heap.size) (hn : n ≤ l.length) (hc : w.cell? c = some (.string t)) :
    Calls Try.prog 12 #[.slice a n cap', .func (.func 10) #[] #[.pointer (some c)]] w fun e w' => ∃ k : Int, e = .returned (.int .i64 k) ∧ decide (0 ≤ k) = anyN l n t ∧ Below w.heap.size w w' := by
  obtain ⟨-, a, cap, hvv, hl, hsl⟩ := hv
  cases hvv
  unfold maxLen at hl
  have hcl := World.block_lt_of_cell? w _ hc
  have HC : Hid (w.cell? c = some (.string t)) := hc
  have HCL : Hid (c.block < w.heap.size) := hcl
  clear hc hcl
  go_enter Try.func12, Try.ntmps12
  go_wp2_with fail
  go_loopw [8] (fun v wr => ∃ k : Nat, k ≤ n ∧ v = .int .i64 k ∧ Hid (Below w.heap.size w wr ∧ ∀ q, q < k → ((l.getD q default).name.toList == t.toList) = false)) (fun v _ => n - (intOf v).toNat)
  case atStart => exact ⟨0, by omega, rfl, Below.refl _ _, fun q hq => absurd hq (Nat.not_lt_zero _)⟩
  case round =>
    obtain ⟨k, hk, rfl, HQ⟩ := hrel
    by_cases hlt : k < n
    · obtain ⟨b, off, rfl, hb, hi⟩ := hsl (by omega)
      obtain ⟨a1, cap1, c0, c1, z0, z1, ht⟩ := flAt hi k _ rfl (by omega)
      obtain ⟨x, hx⟩ : ∃ x, x = l.getD k default := ⟨_, rfl⟩
      rw [← hx] at c0 c1
      have hbw : b < w.heap.size := by omega
      have d0 := (HQ.out.1.cell (p := ⟨b, off + k * 2, none⟩) hbw).trans c0
      have d1 := (HQ.out.1.cell (p := ⟨b, off + k * 2 + 1, none⟩) hbw).trans c1
      have i1 : (k : Int) < (n : Int) := by omega
      have i2 : (0 : Int) ≤ (k : Int) := by omega
      have hcc := fun v => sameName_c c x.name t v _ ((HQ.out.1.cell HCL.out).trans HC.out)
      cases hs : (x.name.toList == t.toList) with
      | false =>
        have HN : Hid (∀ q, q < k + 1 → ((l.getD q default).name.toList == t.toList) = false) := fun q hq => by
          by_cases e : q = k
          · subst e; rw [← hx]; exact hs
          · exact HQ.out.2 q (by omega)
        rw [hs] at hcc
        have HCC : Hid _ := hcc
        clear hcc hs hx c0 c1 hi hsl ht z0 z1
        go_wp2_with fail
        refine (HCC.out _).mono ?_
        rintro e w1 ⟨rfl, hb1⟩
        have R2 : Hid (Below w.heap.size w w1) := bl_trans HQ.out.1 hb1
        clear hb1 HQ
        go_wp2_with fail
        go_roundw
        case rel => exact ⟨k + 1, by omega, by go_num, R2.out, HN.out⟩
        case measure => simp [intOf]; omega
      | true =>
        have HN : Hid (anyN l n t = true) := anyN_t hn hlt (by rw [← hx]; exact hs)
        rw [hs] at hcc
        have HCC : Hid _ := hcc
        clear hcc hs hx c0 c1 hi hsl ht z0 z1
        go_wp2_with fail
        refine (HCC.out _).mono ?_
        rintro e w1 ⟨rfl, hb1⟩
        have R2 : Hid (Below w.heap.size w w1) := bl_trans HQ.out.1 hb1
        clear hb1 HQ
        go_wp2_with fail
        go_ret
        exact ⟨k, rfl, by rw [HN.out]; simp, R2.out⟩
    · have i1 : ¬ (k : Int) < (n : Int) := by omega
      have HN : Hid (anyN l n t = false) := anyN_f hn fun q hq => HQ.out.2 q (by omega)
      have R2 : Hid (Below w.heap.size w _) := HQ.out.1
      clear HQ hsl
      go_wp2_with fail
      go_ret
      exact ⟨-1, rfl, by rw [HN.out]; rfl, R2.out⟩

theorem containsFunc_c (B : Nat) (l : List Fl) (n : Nat) (a : Option Addr) (cap cap' : Nat) (c : Addr) (t : ByteArray) (w : World) (hv : FlL w B (.slice a l.length cap) l) (hB : B ≤ w.heap.size) (hn : n ≤ l.length) (hc : w.cell? c = some (.string t)) :
    Calls Try.prog 9 #[.slice a n cap', .func (.func 10) #[] #[.pointer (some c)]] w fun e w' => e = .returned (.bool (anyN l n t)) ∧ Below w.heap.size w w' := by
  have H := indexFunc_c B l n a cap cap' c t w hv hB hn hc
  have HI : Hid _ := H
  clear H hv hc
  go_enter Try.func9, Try.ntmps9
  go_wp2_with fail
  refine Calls.mono HI.out ?_
  rintro e w1 ⟨k, rfl, hk, hb⟩
  have HK : Hid _ := hk
  have HB : Hid _ := hb
  clear hk hb
  go_wp2_with fail
  go_ret
  exact ⟨ret_bool HK.out, HB.out⟩

set_option maxHeartbeats 1000000 in
theorem checkFile_c (B : Nat) (l : List Fl) (n : Nat) (a : Option Addr) (cap cap' : Nat) (cs : List Value) (x : Fl) (w : World) (hv : FlL w B (.slice a l.length cap) l) (hB : B ≤ w.heap.size) (hn : n ≤ l.length) (hx : FlA B w cs x) :
    Calls Try.prog 6 #[.agg cs.toArray, .slice a n cap'] w fun e w' => e = .returned (.int .i64 (fileR x (l.take n))) ∧ Below w.heap.size w w' := by
  obtain ⟨v, rfl, hz, ht⟩ := hx
  have HT : Hid (TxL w B v x.lines) := ht
  obtain ⟨a1, cap1, rfl, hl1, _⟩ := ht
  unfold maxLen at hl1 hz
  obtain ⟨nm, hnm⟩ : ∃ nm, nm = x.name := ⟨_, rfl⟩
  obtain ⟨k, hk⟩ : ∃ k, k = x.lines.length := ⟨_, rfl⟩
  rw [← hnm] at hz
  rw [← hk] at HT hl1
  obtain ⟨o, ho⟩ : ∃ o, o = Obj.cells #[Value.string nm, Value.slice a1 k cap1] 28 := ⟨_, rfl⟩
  have HA : Hid (Below w.heap.size w (w.alloc o)) := (Below.refl _ _).alloc (Nat.le_refl _) o
  have hcell : (w.alloc o).cell? ⟨w.heap.size, 0, none⟩ = some (.string nm) ∧ (w.alloc o).cell? ⟨w.heap.size, 1, none⟩ = some (.slice a1 k cap1) := by
    rw [ho]; exact ⟨by simp [go_sem], by simp [go_sem]⟩
  obtain ⟨hc0, hc1⟩ := hcell
  have HV : Hid (FlL (w.alloc o) B (.slice a l.length cap) l) := hv.below (HA.out.mono hB)
  show Calls Try.prog 6 #[.agg #[.string x.name, .slice a1 x.lines.length cap1], .slice a n cap'] w _
  rw [← hnm, ← hk]
  by_cases h100 : 100 < x.lines.length
  · have HF : Hid (fileR x (l.take n) = 1) := by simp [fileR, h100, Hid]
    have i1 : 100 < (k : Int) := by omega
    clear h100 hk hnm hc0 hc1
    go_enter Try.func6, Try.ntmps6
    go_wp2_with fail
    rw [← ho]
    go_ret
    exact ⟨ret_int HF.out.symm, HA.out⟩
  by_cases h200 : 200 < x.name.size
  · have HF : Hid (fileR x (l.take n) = 1) := by simp [fileR, h200, Hid]
    have i1 : ¬ 100 < (k : Int) := by omega
    have i2 : 200 < (nm.size : Int) := by rw [hnm]; omega
    clear h100 hk hnm hc0 hc1 h200
    go_enter Try.func6, Try.ntmps6
    go_wp2_with fail
    rw [← ho]
    go_ret
    exact ⟨ret_int HF.out.symm, HA.out⟩
  have hF : fileR x (l.take n) = if anyN l n nm = true then 9 else linesR x.lines := by rw [fileR, if_neg (by omega), anyN, hnm]
  have i1 : ¬ 100 < (k : Int) := by omega
  have i2 : ¬ 200 < (nm.size : Int) := by rw [hnm]; omega
  have hcf := containsFunc_c B l n a cap cap' ⟨w.heap.size, 0, none⟩ nm (w.alloc o) HV.out (Nat.le_trans hB HA.out.size) hn hc0
  have HCF : Hid _ := hcf
  have HTA : Hid (TxL (w.alloc o) B (.slice a1 k cap1) x.lines) := HT.out.below (HA.out.mono hB)
  have hsz : w.heap.size < (w.alloc o).heap.size := by simp [go_sem]
  have HSZ : Hid _ := hsz
  have HC1 : Hid _ := hc1
  clear hcf hsz h100 h200 hk hnm hc0 hc1 HV HT hv
  cases hany : anyN l n nm with
  | true =>
    rw [hany] at HCF
    have HF : Hid (fileR x (l.take n) = 9) := by rw [hF, hany]; rfl
    clear hF hany
    go_enter Try.func6, Try.ntmps6
    go_wp2_with fail
    rw [← ho]
    refine Calls.mono HCF.out ?_
    rintro e w1 ⟨rfl, hb⟩
    have HB : Hid (Below w.heap.size w w1) := bl_trans HA.out hb
    clear hb
    go_wp2_with fail
    go_ret
    exact ⟨ret_int HF.out.symm, HB.out⟩
  | false =>
    rw [hany] at HCF
    have HF : Hid (fileR x (l.take n) = linesR x.lines) := by rw [hF, hany]; rfl
    clear hF hany
    go_enter Try.func6, Try.ntmps6
    go_wp2_with fail
    rw [← ho]
    refine Calls.mono HCF.out ?_
    rintro e w1 ⟨rfl, hb⟩
    have HB : Hid (Below w.heap.size w w1) := bl_trans HA.out hb
    have q1 := (hb.cell (p := ⟨w.heap.size, 1, none⟩) HSZ.out).trans HC1.out
    have HCL : Hid _ := checkLines_c B x.lines _ w1 (HTA.out.below (hb.mono (Nat.le_trans hB HA.out.size)))
    clear hb
    go_wp2_with fail
    refine Calls.mono HCL.out ?_
    rintro e w2 ⟨rfl, rfl⟩
    go_wp2_with fail
    go_ret
    exact ⟨ret_int HF.out.symm, HB.out⟩
end Go.Proofs.Ytbjbbfcmglbibaa
