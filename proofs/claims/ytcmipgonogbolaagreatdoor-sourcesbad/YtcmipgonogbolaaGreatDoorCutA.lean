/-
  Contracts of isLetter, isDigit, leading and escaped: what a source begins with.
-/
import Derived.Test.YtcmipgonogbolaaGreatDoorRdSpec
import Derived.Test.YtcmipgonogbolaaGreatDoorChk
namespace Go.Proofs.YtcmipgonogbolaaGreatDoor
open Go.ChangeShapes Go.WideShapes Go.ChangeAt Go.RowKit Go.Joins Go.Maps
set_option linter.unusedVariables false

theorem isLetter_c (c : UInt8) (w : World) : Calls Tryz.prog 56 #[.int .u8 (c.toNat : Int)] w fun e w' => e = .returned (.bool (letterB c)) ∧ w' = w := by
  obtain ⟨n, hn⟩ : ∃ n, n = c.toNat := ⟨_, rfl⟩
  have HL : Hid (letterB c = decide ((97 ≤ n ∧ n ≤ 122) ∨ (65 ≤ n ∧ n ≤ 90))) := by rw [hn]; rfl
  rw [← hn]
  clear hn
  by_cases h1 : 97 ≤ n
  · have i1 : (97 : Int) ≤ n := by omega
    by_cases h2 : n ≤ 122
    · have i2 : (n : Int) ≤ 122 := by omega
      have HR : Hid (letterB c = true) := by unfold Hid; rw [HL.out]; exact decide_eq_true (by omega)
      go_enter Tryz.func56, Tryz.ntmps56
      go_wp2_with fail
      go_ret
      exact ⟨ret_bool HR.out.symm, rfl⟩
    · have i2 : ¬ (n : Int) ≤ 122 := by omega
      have i3 : (65 : Int) ≤ n := by omega
      have i4 : ¬ (n : Int) ≤ 90 := by omega
      have HR : Hid (letterB c = false) := by unfold Hid; rw [HL.out]; exact decide_eq_false (by omega)
      go_enter Tryz.func56, Tryz.ntmps56
      go_wp2_with fail
      go_ret
      exact ⟨ret_bool HR.out.symm, rfl⟩
  · have i1 : ¬ (97 : Int) ≤ n := by omega
    by_cases h3 : 65 ≤ n
    · have i3 : (65 : Int) ≤ n := by omega
      by_cases h4 : n ≤ 90
      · have i4 : (n : Int) ≤ 90 := by omega
        have HR : Hid (letterB c = true) := by unfold Hid; rw [HL.out]; exact decide_eq_true (by omega)
        go_enter Tryz.func56, Tryz.ntmps56
        go_wp2_with fail
        go_ret
        exact ⟨ret_bool HR.out.symm, rfl⟩
      · have i4 : ¬ (n : Int) ≤ 90 := by omega
        have HR : Hid (letterB c = false) := by unfold Hid; rw [HL.out]; exact decide_eq_false (by omega)
        go_enter Tryz.func56, Tryz.ntmps56
        go_wp2_with fail
        go_ret
        exact ⟨ret_bool HR.out.symm, rfl⟩
    · have i3 : ¬ (65 : Int) ≤ n := by omega
      have HR : Hid (letterB c = false) := by unfold Hid; rw [HL.out]; exact decide_eq_false (by omega)
      go_enter Tryz.func56, Tryz.ntmps56
      go_wp2_with fail
      go_ret
      exact ⟨ret_bool HR.out.symm, rfl⟩

theorem isDigit_c (c : UInt8) (w : World) : Calls Tryz.prog 58 #[.int .u8 (c.toNat : Int)] w fun e w' => e = .returned (.bool (digitB c)) ∧ w' = w := by
  obtain ⟨n, hn⟩ : ∃ n, n = c.toNat := ⟨_, rfl⟩
  have HL : Hid (digitB c = decide (48 ≤ n ∧ n ≤ 57)) := by rw [hn]; rfl
  rw [← hn]
  clear hn
  by_cases h1 : 48 ≤ n
  · have i1 : (48 : Int) ≤ n := by omega
    by_cases h2 : n ≤ 57
    · have i2 : (n : Int) ≤ 57 := by omega
      have HR : Hid (digitB c = true) := by unfold Hid; rw [HL.out]; exact decide_eq_true (by omega)
      go_enter Tryz.func58, Tryz.ntmps58
      go_wp2_with fail
      go_ret
      exact ⟨ret_bool HR.out.symm, rfl⟩
    · have i2 : ¬ (n : Int) ≤ 57 := by omega
      have HR : Hid (digitB c = false) := by unfold Hid; rw [HL.out]; exact decide_eq_false (by omega)
      go_enter Tryz.func58, Tryz.ntmps58
      go_wp2_with fail
      go_ret
      exact ⟨ret_bool HR.out.symm, rfl⟩
  · have i1 : ¬ (48 : Int) ≤ n := by omega
    have HR : Hid (digitB c = false) := by unfold Hid; rw [HL.out]; exact decide_eq_false (by omega)
    go_enter Tryz.func58, Tryz.ntmps58
    go_wp2_with fail
    go_ret
    exact ⟨ret_bool HR.out.symm, rfl⟩

theorem takeW {α : Type} (p : α → Bool) (l : List α) (k : Nat) (hk : k ≤ l.length) (h : ∀ q, (hq : q < l.length) → q < k → p l[q] = true) (hs : ∀ hq : k < l.length, p l[k] = false) : (l.takeWhile p).length = k := by
  induction l generalizing k with
  | nil => simp at hk; subst hk; rfl
  | cons x l ih =>
    cases k with
    | zero =>
      have := hs (by simp)
      simp only [List.getElem_cons_zero] at this
      simp [this]
    | succ k =>
      have h0 := h 0 (by simp) (by omega)
      simp only [List.getElem_cons_zero] at h0
      simp only [List.takeWhile_cons, h0, if_true, List.length_cons]
      rw [ih k (by simpa using hk) (fun q hq hqk => h (q + 1) (by simpa using hq) (by omega)) (fun hq => hs (by simpa using hq))]

set_option maxHeartbeats 1000000 in
theorem leading_c (g : FuncId) (p : UInt8 → Bool) (s : ByteArray) (w : World) (hs : s.size ≤ 6000)
    (hp : ∀ (c : UInt8) (w : World), Calls Tryz.prog g #[.int .u8 (c.toNat : Int)] w fun e w' => e = .returned (.bool (p c)) ∧ w' = w) (henter : ∀ args w, (callFunc g args).run Tryz.prog w = .ok (.enter g args) w) :
    Calls Tryz.prog 55 #[.string s, .func (.func g) #[] #[]] w fun e w' => e = .returned (.int .i64 ((s.toList.takeWhile p).length : Nat)) ∧ w' = w := by
  have HP : Hid (∀ (c : UInt8) (w : World), Calls Tryz.prog g #[.int .u8 (c.toNat : Int)] w fun e w' => e = .returned (.bool (p c)) ∧ w' = w) := hp
  have hsl : s.toList.length = s.size := by rw [ByteArray.toList_eq]; simp
  have hat : ∀ q (hq : q < s.size) (hq' : q < s.toList.length), s.toList[q] = s[q] := fun q hq hq' => by
    simp only [ByteArray.toList_eq]
    rw [Array.getElem_toList]; rfl
  have HAT : Hid (∀ q (hq : q < s.size) (hq' : q < s.toList.length), s.toList[q] = s[q]) := hat
  have HSL : Hid (s.toList.length = s.size) := hsl
  clear hp hsl hat
  go_enter Tryz.func55, Tryz.ntmps55
  go_wp2_with fail
  go_loop [5] (fun v => ∃ k : Nat, k ≤ s.size ∧ v = .int .i64 k ∧ Hid (∀ q, (hq : q < s.toList.length) → q < k → p s.toList[q] = true)) (fun v => s.size - (intOf v).toNat)
  case atStart => exact ⟨0, by omega, rfl, fun q _ hq => absurd hq (Nat.not_lt_zero _)⟩
  case round =>
    obtain ⟨k, hk, rfl, HQ⟩ := hrel
    by_cases hlt : k < s.size
    · have i1 : (k : Int) < (s.size : Int) := by omega
      have i2 : (0 : Int) ≤ (k : Int) := by omega
      have HC : Hid _ := HP.out s[k]
      cases hb : p s[k] with
      | true =>
        rw [hb] at HC
        have R2 : Hid (∀ q, (hq : q < s.toList.length) → q < k + 1 → p s.toList[q] = true) := fun q hq hq2 => by
          by_cases e : q = k
          · subst e; rw [HAT.out q hlt hq]; exact hb
          · exact HQ.out q hq (by omega)
        clear hb HQ
        go_wp2_with (refine (HC.out _).mono ?_; rintro e w1 ⟨rfl, rfl⟩)
        go_round
        case rel => exact ⟨k + 1, by omega, by go_num, R2⟩
        case measure => simp [intOf]; omega
      | false =>
        rw [hb] at HC
        have HL : Hid ((s.toList.takeWhile p).length = k) := takeW p _ k (by rw [HSL.out]; omega) HQ.out (fun hq => by rw [HAT.out k hlt hq]; exact hb)
        clear hb HQ
        go_wp2_with (refine (HC.out _).mono ?_; rintro e w1 ⟨rfl, rfl⟩)
        go_ret
        exact ⟨ret_int (by rw [HL.out]), rfl⟩
    · have i1 : ¬ (k : Int) < (s.size : Int) := by omega
      have HL : Hid ((s.toList.takeWhile p).length = k) := takeW p _ k (by rw [HSL.out]; omega) HQ.out (fun hq => by rw [HSL.out] at hq; omega)
      clear HQ
      go_wp2_with fail
      go_ret
      exact ⟨ret_int (by rw [HL.out]), rfl⟩


/-- How a call ends that answers, or refuses. -/
def EndN {α : Type} (R : Except Int α) (K : α → Value) (e : Ending) : Prop := match R with
  | .ok n => e = .returned (K n)
  | .error er => e = .panicked [errP er]
theorem EndN.ok {α : Type} {R : Except Int α} {K : α → Value} {n : α} {v : Value} (h : R = .ok n) (hv : v = K n) : EndN R K (.returned v) := by rw [h, hv]; exact rfl
theorem EndN.err {α : Type} {R : Except Int α} {K : α → Value} {er : Int} (h : R = .error er) : EndN R K (.panicked [errP er]) := by rw [h]; exact rfl

/-- What an escape tells. -/
def escR (c : UInt8) : Except Int Int := if c.toNat = 34 ∨ c.toNat = 92 then .ok c.toNat else if c.toNat = 110 then .ok 10 else .error 4
theorem escaped_c (c : UInt8) (w : World) : Calls Tryz.prog 87 #[.int .u8 (c.toNat : Int)] w fun e w' => EndN (escR c) (fun n => .int .u8 n) e ∧ w' = w := by
  unfold escR
  obtain ⟨n, hn⟩ : ∃ n, n = c.toNat := ⟨_, rfl⟩
  rw [← hn]
  clear hn
  by_cases h1 : n = 34
  · subst h1
    go_enter Tryz.func87, Tryz.ntmps87
    go_wp2_with fail
    go_ret
    exact ⟨EndN.ok (n := 34) (by simp) rfl, rfl⟩
  by_cases h2 : n = 92
  · subst h2
    go_enter Tryz.func87, Tryz.ntmps87
    go_wp2_with fail
    go_ret
    exact ⟨EndN.ok (n := 92) (by simp) rfl, rfl⟩
  have b1 : ((n : Int) == 34) = false := by simp; omega
  have b2 : ((n : Int) == 92) = false := by simp; omega
  by_cases h3 : n = 110
  · subst h3
    go_enter Tryz.func87, Tryz.ntmps87
    go_wp2_with fail
    go_ret
    exact ⟨EndN.ok (n := 10) (by simp) rfl, rfl⟩
  have b3 : ((n : Int) == 110) = false := by simp; omega
  rw [if_neg (by omega), if_neg h3]
  clear h1 h2 h3
  go_enter Tryz.func87, Tryz.ntmps87
  go_wp2_with fail
  exact ⟨rfl, EndN.err rfl, rfl⟩
end Go.Proofs.YtcmipgonogbolaaGreatDoor
