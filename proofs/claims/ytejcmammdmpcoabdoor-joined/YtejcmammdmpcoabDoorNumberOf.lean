/-
  Contract of the answer NumberOf of the document: a value as number, or ErrRange; nothing that was in memory turns.
-/
import Derived.Test.YtejcmammdmpcoabDoorNum
namespace Go.Proofs.YtejcmammdmpcoabDoor
open Go.ChangeShapes Go.WideShapes Go.ChangeAt Go.RowKit Go.Joins

theorem lead_of {l d : List UInt8} (h : Lib.trimLeftB l 32 = d) : lead l = if Lib.hasPrefix d [45] then -acc 0 (Lib.trimPrefix d [45]) else acc 0 (Lib.trimPrefix d [45]) := by
  unfold lead; rw [h]
theorem lead_none {l : List UInt8} (h : Lib.trimLeftB l 32 = []) : lead l = 0 := by rw [lead_of h]; rfl
theorem lead_minus {l r : List UInt8} {c : UInt8} (h : Lib.trimLeftB l 32 = c :: r) (hc : (c.toNat : Int) = 45) : lead l = -acc 0 r := by
  obtain rfl : c = 45 := by rw [← UInt8.toNat_inj]; have : (45 : UInt8).toNat = 45 := rfl; omega
  rw [lead_of h]; simp [Lib.hasPrefix, Lib.trimPrefix]
theorem lead_plus {l r : List UInt8} {c : UInt8} (h : Lib.trimLeftB l 32 = c :: r) (hc : ¬ (c.toNat : Int) = 45) : lead l = acc 0 (c :: r) := by
  have hb : ¬ 45 = c := by rintro rfl; exact hc rfl
  rw [lead_of h]; simp [Lib.hasPrefix, Lib.trimPrefix, hb]
theorem trim_blank {l r : List UInt8} {c : UInt8} (h : l = c :: r) (hc : (c.toNat : Int) = 32) : Lib.trimLeftB l 32 = Lib.trimLeftB r 32 := by
  obtain rfl : c = 32 := by rw [← UInt8.toNat_inj]; have : (32 : UInt8).toNat = 32 := rfl; omega
  rw [h]; simp [Lib.trimLeftB]
theorem trim_other {l r : List UInt8} {c : UInt8} (h : l = c :: r) (hc : ¬ (c.toNat : Int) = 32) : Lib.trimLeftB l 32 = c :: r := by
  have hb : (c == 32) = false := by
    rw [beq_eq_false_iff_ne]; rintro rfl; exact hc rfl
  rw [h]; simp [Lib.trimLeftB, hb]

/-- P1.2: what Num answers: the number, and the error. -/
def numV (t : Bool) (n : Int) (s : ByteArray) : Int := if -1099511627776 ≤ numOf t n s ∧ numOf t n s ≤ 1099511627776 then numOf t n s else 0
def numE (t : Bool) (n : Int) (s : ByteArray) : Int := if -1099511627776 ≤ numOf t n s ∧ numOf t n s ≤ 1099511627776 then 0 else 2
theorem ret_ok {t : Bool} {n x : Int} {s : ByteArray} (h : numOf t n s = x) (h1 : -1099511627776 ≤ x) (h2 : x ≤ 1099511627776) :
    Ending.returned (.tuple #[.int .i64 x, .int .i64 0]) = .returned (.tuple #[.int .i64 (numV t n s), .int .i64 (numE t n s)]) := by
  unfold numV numE; rw [h, if_pos ⟨h1, h2⟩, if_pos ⟨h1, h2⟩]
theorem ret_bad {t : Bool} {n : Int} {s : ByteArray} (h : numOf t n s < -1099511627776 ∨ 1099511627776 < numOf t n s) :
    Ending.returned (.tuple #[.int .i64 0, .int .i64 2]) = .returned (.tuple #[.int .i64 (numV t n s), .int .i64 (numE t n s)]) := by
  unfold numV numE; rw [if_neg (by omega), if_neg (by omega)]

theorem num_c (t : Bool) (n : Int) (s : ByteArray) (w : World) (hs : s.size ≤ 200) :
    Calls Tryd.prog 14 #[.agg #[.bool t, .int .i64 n, .string s]] w fun e w' => e = .returned (.tuple #[.int .i64 (numV t n s), .int .i64 (numE t n s)]) ∧ Below w.heap.size w w' := by
  by_cases h : -1099511627776 ≤ numOf t n s ∧ numOf t n s ≤ 1099511627776
  · exact (num_ok t n s w hs h.1 h.2).mono fun e w' ⟨he, hb⟩ => ⟨he.trans (ret_ok rfl h.1 h.2), hb⟩
  · exact (num_bad t n s w hs (by omega)).mono fun e w' ⟨he, hb⟩ => ⟨he.trans (ret_bad (by omega)), hb⟩

set_option maxHeartbeats 400000 in
theorem numberOf_n (n : Int) (s : ByteArray) (w : World) (h0 : -1099511627776 ≤ n) (h1 : n ≤ 1099511627776) :
    Calls Tryd.prog 31 #[.agg #[.bool false, .int .i64 n, .string s]] w fun e w' => e = .returned (.tuple #[.int .i64 (numV false n s), .int .i64 (numE false n s)]) ∧ Below w.heap.size w w' := by
  go_enter Tryd.func31, Tryd.ntmps31
  go_wp2
  go_ret2
  exact ⟨ret_ok rfl h0 h1, (Below.refl _ _).alloc (Nat.le_refl _) _⟩

set_option maxRecDepth 100000 in
set_option maxHeartbeats 1000000 in
theorem numberOf_t (n : Int) (s : ByteArray) (w : World) (hs : s.size ≤ 200) :
    Calls Tryd.prog 31 #[.agg #[.bool true, .int .i64 n, .string s]] w fun e w' => e = .returned (.tuple #[.int .i64 (numV true n s), .int .i64 (numE true n s)]) ∧ Below w.heap.size w w' := by
  go_enter Tryd.func31, Tryd.ntmps31
  go_wp2_with fail
  go_loop [4] (fun i => ∃ (k : Nat), k ≤ s.size ∧ i = .int .i64 k ∧ Hid (Lib.trimLeftB s.data.toList 32 = Lib.trimLeftB (s.data.toList.drop k) 32)) (fun i => s.size - (intOf i).toNat)
  case atStart => exact ⟨0, Nat.zero_le _, rfl, rfl⟩
  case round =>
    obtain ⟨k, hk, rfl, HT⟩ := hrel
    by_cases hlt : k < s.size
    · have HD0 : Hid (s.data.toList.drop k = s[k] :: s.data.toList.drop (k + 1)) := drop_cons s k hlt
      by_cases h32 : (s[k].toNat : Int) = 32
      · have hbl : ((s[k].toNat : Int) == 32) = true := by simp [h32]
        have HT' : Hid (Lib.trimLeftB s.data.toList 32 = Lib.trimLeftB (s.data.toList.drop (k + 1)) 32) := HT.out.trans (trim_blank HD0.out h32)
        clear h32
        go_wp2
        go_round
        case rel => exact ⟨k + 1, by omega, by go_num, HT'⟩
        case measure => simp [intOf]; omega
      · have hbl : ((s[k].toNat : Int) == 32) = false := by simp [h32]
        have HTO : Hid (Lib.trimLeftB s.data.toList 32 = s[k] :: s.data.toList.drop (k + 1)) := HT.out.trans (trim_other HD0.out h32)
        clear h32
        by_cases h45 : (s[k].toNat : Int) = 45
        · have hmi : ((s[k].toNat : Int) == 45) = true := by simp [h45]
          have HJ : Hid (lead s.data.toList = -acc 0 (s.data.toList.drop (k + 1))) := lead_minus HTO.out h45
          clear h45 HT HD0 HTO
          go_wp2_with fail
          go_loop [4, 6] (fun i n => ∃ (q : Nat) (m : Int), q ≤ s.size ∧ 0 ≤ m ∧ m ≤ 1099511627776 ∧ i = .int .i64 q ∧ n = .int .i64 m ∧ Hid (acc m (s.data.toList.drop q) = acc 0 (s.data.toList.drop (k + 1)))) (fun i _ => s.size - (intOf i).toNat)
          case atStart => exact ⟨k + 1, 0, by omega, by omega, by omega, by go_num, rfl, rfl⟩
          case round =>
            obtain ⟨q, m, hq, hm0, hm1, rfl, rfl, HA⟩ := hrel
            by_cases hlq : q < s.size
            · have HD : Hid (s.data.toList.drop q = s[q] :: s.data.toList.drop (q + 1)) := drop_cons s q hlq
              have hb : (s[q].toNat : Int) < 256 := by have := s[q].toNat_lt; omega
              by_cases hc : 48 ≤ (s[q].toNat : Int) ∧ (s[q].toNat : Int) ≤ 57
              · obtain ⟨hc1, hc2⟩ := hc
                have HA' : Hid (acc (m * 10 + ((s[q].toNat : Int) - 48)) (s.data.toList.drop (q + 1)) = acc 0 (s.data.toList.drop (k + 1))) := by
                  have h1 := HA.out; rw [HD.out, acc_step hc1 hc2 hm1] at h1; exact h1
                by_cases hbig : m * 10 + ((s[q].toNat : Int) - 48) ≤ 1099511627776
                · go_wp2
                  go_round
                  case rel => exact ⟨q + 1, m * 10 + ((s[q].toNat : Int) - 48), by omega, by omega, by omega, by go_num, by go_num, HA'⟩
                  case measure => simp [intOf]; omega
                · go_wp2
                  go_ret2
                  have hx : acc 0 (s.data.toList.drop (k + 1)) = m * 10 + ((s[q].toNat : Int) - 48) := by
                    have h1 := HA'.out
                    rw [acc_big _ (by omega)] at h1
                    exact h1.symm
                  exact ⟨ret_bad (by rw [numOf_t, HJ.out, hx]; omega), (Below.refl _ _).alloc (Nat.le_refl _) _⟩
              · have HS : Hid (acc 0 (s.data.toList.drop (k + 1)) = m) := by
                  have h1 := HA.out
                  rw [HD.out, acc_stop (by omega)] at h1
                  exact h1.symm
                by_cases ha : (s[q].toNat : Int) < 48
                · have ha' : ¬ 48 ≤ (s[q].toNat : Int) := by omega
                  clear hc
                  go_wp2
                  go_ret2
                  exact ⟨ret_ok (by rw [numOf_t, HJ.out, HS.out]) (by omega) (by omega), (Below.refl _ _).alloc (Nat.le_refl _) _⟩
                · have ha' : 48 ≤ (s[q].toNat : Int) := by omega
                  have hd : decide ((s[q].toNat : Int) ≤ 57) = false := by simp; omega
                  clear hc
                  go_wp2
                  go_ret2
                  exact ⟨ret_ok (by rw [numOf_t, HJ.out, HS.out]) (by omega) (by omega), (Below.refl _ _).alloc (Nat.le_refl _) _⟩
            · have HS : Hid (acc 0 (s.data.toList.drop (k + 1)) = m) := by
                have h1 := HA.out
                rw [drop_all s q hlq, acc_nil] at h1
                exact h1.symm
              go_wp2
              go_ret2
              exact ⟨ret_ok (by rw [numOf_t, HJ.out, HS.out]) (by omega) (by omega), (Below.refl _ _).alloc (Nat.le_refl _) _⟩
        · have hmi : ((s[k].toNat : Int) == 45) = false := by simp [h45]
          have HJ : Hid (lead s.data.toList = acc 0 (s.data.toList.drop (k))) := (lead_plus HTO.out h45).trans (by rw [HD0.out])
          clear h45 HT HD0 HTO
          go_wp2_with fail
          go_loop [4, 6] (fun i n => ∃ (q : Nat) (m : Int), q ≤ s.size ∧ 0 ≤ m ∧ m ≤ 1099511627776 ∧ i = .int .i64 q ∧ n = .int .i64 m ∧ Hid (acc m (s.data.toList.drop q) = acc 0 (s.data.toList.drop (k)))) (fun i _ => s.size - (intOf i).toNat)
          case atStart => exact ⟨k, 0, by omega, by omega, by omega, by go_num, rfl, rfl⟩
          case round =>
            obtain ⟨q, m, hq, hm0, hm1, rfl, rfl, HA⟩ := hrel
            by_cases hlq : q < s.size
            · have HD : Hid (s.data.toList.drop q = s[q] :: s.data.toList.drop (q + 1)) := drop_cons s q hlq
              have hb : (s[q].toNat : Int) < 256 := by have := s[q].toNat_lt; omega
              by_cases hc : 48 ≤ (s[q].toNat : Int) ∧ (s[q].toNat : Int) ≤ 57
              · obtain ⟨hc1, hc2⟩ := hc
                have HA' : Hid (acc (m * 10 + ((s[q].toNat : Int) - 48)) (s.data.toList.drop (q + 1)) = acc 0 (s.data.toList.drop (k))) := by
                  have h1 := HA.out; rw [HD.out, acc_step hc1 hc2 hm1] at h1; exact h1
                by_cases hbig : m * 10 + ((s[q].toNat : Int) - 48) ≤ 1099511627776
                · go_wp2
                  go_round
                  case rel => exact ⟨q + 1, m * 10 + ((s[q].toNat : Int) - 48), by omega, by omega, by omega, by go_num, by go_num, HA'⟩
                  case measure => simp [intOf]; omega
                · go_wp2
                  go_ret2
                  have hx : acc 0 (s.data.toList.drop (k)) = m * 10 + ((s[q].toNat : Int) - 48) := by
                    have h1 := HA'.out
                    rw [acc_big _ (by omega)] at h1
                    exact h1.symm
                  exact ⟨ret_bad (by rw [numOf_t, HJ.out, hx]; omega), (Below.refl _ _).alloc (Nat.le_refl _) _⟩
              · have HS : Hid (acc 0 (s.data.toList.drop (k)) = m) := by
                  have h1 := HA.out
                  rw [HD.out, acc_stop (by omega)] at h1
                  exact h1.symm
                by_cases ha : (s[q].toNat : Int) < 48
                · have ha' : ¬ 48 ≤ (s[q].toNat : Int) := by omega
                  clear hc
                  go_wp2
                  go_ret2
                  exact ⟨ret_ok (by rw [numOf_t, HJ.out, HS.out]) (by omega) (by omega), (Below.refl _ _).alloc (Nat.le_refl _) _⟩
                · have ha' : 48 ≤ (s[q].toNat : Int) := by omega
                  have hd : decide ((s[q].toNat : Int) ≤ 57) = false := by simp; omega
                  clear hc
                  go_wp2
                  go_ret2
                  exact ⟨ret_ok (by rw [numOf_t, HJ.out, HS.out]) (by omega) (by omega), (Below.refl _ _).alloc (Nat.le_refl _) _⟩
            · have HS : Hid (acc 0 (s.data.toList.drop (k)) = m) := by
                have h1 := HA.out
                rw [drop_all s q hlq, acc_nil] at h1
                exact h1.symm
              go_wp2
              go_ret2
              exact ⟨ret_ok (by rw [numOf_t, HJ.out, HS.out]) (by omega) (by omega), (Below.refl _ _).alloc (Nat.le_refl _) _⟩
    · have HJ : Hid (lead s.data.toList = acc 0 (s.data.toList.drop (k))) := by
        have e := drop_all s k hlt
        have h1 := HT.out
        rw [e] at h1 ⊢
        exact lead_none h1
      clear HT
      go_wp2_with fail
      go_loop [4, 6] (fun i n => ∃ (q : Nat) (m : Int), q ≤ s.size ∧ 0 ≤ m ∧ m ≤ 1099511627776 ∧ i = .int .i64 q ∧ n = .int .i64 m ∧ Hid (acc m (s.data.toList.drop q) = acc 0 (s.data.toList.drop (k)))) (fun i _ => s.size - (intOf i).toNat)
      case atStart => exact ⟨k, 0, by omega, by omega, by omega, by go_num, rfl, rfl⟩
      case round =>
        obtain ⟨q, m, hq, hm0, hm1, rfl, rfl, HA⟩ := hrel
        by_cases hlq : q < s.size
        · have HD : Hid (s.data.toList.drop q = s[q] :: s.data.toList.drop (q + 1)) := drop_cons s q hlq
          have hb : (s[q].toNat : Int) < 256 := by have := s[q].toNat_lt; omega
          by_cases hc : 48 ≤ (s[q].toNat : Int) ∧ (s[q].toNat : Int) ≤ 57
          · obtain ⟨hc1, hc2⟩ := hc
            have HA' : Hid (acc (m * 10 + ((s[q].toNat : Int) - 48)) (s.data.toList.drop (q + 1)) = acc 0 (s.data.toList.drop (k))) := by
              have h1 := HA.out; rw [HD.out, acc_step hc1 hc2 hm1] at h1; exact h1
            by_cases hbig : m * 10 + ((s[q].toNat : Int) - 48) ≤ 1099511627776
            · go_wp2
              go_round
              case rel => exact ⟨q + 1, m * 10 + ((s[q].toNat : Int) - 48), by omega, by omega, by omega, by go_num, by go_num, HA'⟩
              case measure => simp [intOf]; omega
            · go_wp2
              go_ret2
              have hx : acc 0 (s.data.toList.drop (k)) = m * 10 + ((s[q].toNat : Int) - 48) := by
                have h1 := HA'.out
                rw [acc_big _ (by omega)] at h1
                exact h1.symm
              exact ⟨ret_bad (by rw [numOf_t, HJ.out, hx]; omega), (Below.refl _ _).alloc (Nat.le_refl _) _⟩
          · have HS : Hid (acc 0 (s.data.toList.drop (k)) = m) := by
              have h1 := HA.out
              rw [HD.out, acc_stop (by omega)] at h1
              exact h1.symm
            by_cases ha : (s[q].toNat : Int) < 48
            · have ha' : ¬ 48 ≤ (s[q].toNat : Int) := by omega
              clear hc
              go_wp2
              go_ret2
              exact ⟨ret_ok (by rw [numOf_t, HJ.out, HS.out]) (by omega) (by omega), (Below.refl _ _).alloc (Nat.le_refl _) _⟩
            · have ha' : 48 ≤ (s[q].toNat : Int) := by omega
              have hd : decide ((s[q].toNat : Int) ≤ 57) = false := by simp; omega
              clear hc
              go_wp2
              go_ret2
              exact ⟨ret_ok (by rw [numOf_t, HJ.out, HS.out]) (by omega) (by omega), (Below.refl _ _).alloc (Nat.le_refl _) _⟩
        · have HS : Hid (acc 0 (s.data.toList.drop (k)) = m) := by
            have h1 := HA.out
            rw [drop_all s q hlq, acc_nil] at h1
            exact h1.symm
          go_wp2
          go_ret2
          exact ⟨ret_ok (by rw [numOf_t, HJ.out, HS.out]) (by omega) (by omega), (Below.refl _ _).alloc (Nat.le_refl _) _⟩

/-- NumberOf, at every value that may be. -/
theorem numberOf_c (t : Bool) (n : Int) (s : ByteArray) (w : World) (hs : s.size ≤ 200) (h0 : -1099511627776 ≤ n) (h1 : n ≤ 1099511627776) :
    Calls Tryd.prog 31 #[.agg #[.bool t, .int .i64 n, .string s]] w fun e w' => e = .returned (.tuple #[.int .i64 (numV t n s), .int .i64 (numE t n s)]) ∧ Below w.heap.size w w' := by
  cases t
  · exact numberOf_n n s w h0 h1
  · exact numberOf_t n s w hs
end Go.Proofs.YtejcmammdmpcoabDoor
