/-
  Contract of value.leadingNumber: of a text the number that it begins with; the world stays as it was.
-/
import Derived.Test.YtejcmammdmpcoabDoorBase
import Derived.Test.YtejcmammdmpcoabDoorShelf
import Derived.Test.YtejcmammdmpcoabDoorNumSpec
namespace Go.Proofs.YtejcmammdmpcoabDoor
open Go.ChangeShapes Go.WideShapes Go.ChangeAt Go.RowKit Go.Joins

theorem cut_ex (l : List UInt8) : ∃ (dg : ByteArray) (mi : Bool), dg.data.toList = Lib.trimPrefix l [45] ∧ mi = Lib.hasPrefix l [45] ∧
    ∀ w : World, Calls Tryd.prog 45 #[.string ⟨l.toArray⟩, .string ⟨#[45]⟩] w fun e w' => e = .returned (.tuple #[.string dg, .bool mi]) ∧ w' = w :=
  ⟨⟨(Lib.trimPrefix l [45]).toArray⟩, _, rfl, rfl, fun w => Tryd.strings_CutPrefix ⟨l.toArray⟩ ⟨#[45]⟩ w⟩

set_option maxHeartbeats 400000 in
theorem lead_c (s : ByteArray) (w : World) (hs : s.size ≤ 200) :
    Calls Tryd.prog 36 #[.string s] w fun e w' => e = .returned (.int .i64 (lead s.data.toList)) ∧ w' = w := by
  obtain ⟨dg, mi, hdg, hmi, hcut⟩ := cut_ex (Lib.trimLeftB s.data.toList 32)
  have hsz : dg.size ≤ 200 := by
    have h1 := trimmed_len s.data.toList 32 [45]
    have h2 : dg.data.toList.length = dg.size := by simp
    have h3 : s.data.toList.length = s.size := by simp
    rw [hdg] at h2
    omega
  have HF : Hid (lead s.data.toList = if mi then -acc 0 dg.data.toList else acc 0 dg.data.toList) := by
    show _ = _
    rw [hdg, hmi]; rfl
  have HC : Hid _ := hcut
  clear hcut hdg hmi hs
  go_enter Tryd.func36, Tryd.ntmps36
  go_wp2_with fail
  refine (Tryd.strings_TrimLeft_one s 32 (by decide) _).mono ?_
  rintro e w1 ⟨rfl, rfl⟩
  go_wp2_with fail
  refine (HC.out _).mono ?_
  rintro e w1 ⟨rfl, rfl⟩
  go_wp2_with fail
  go_loop [5, 6] (fun n i => ∃ (k : Nat) (m : Int), k ≤ dg.size ∧ 0 ≤ m ∧ m ≤ 10995116277769 ∧ i = .int .i64 k ∧ n = .int .i64 m ∧ Hid (acc m (dg.data.toList.drop k) = acc 0 dg.data.toList)) (fun _ i => dg.size - (intOf i).toNat)
  case atStart => exact ⟨0, 0, Nat.zero_le _, by omega, by omega, rfl, rfl, rfl⟩
  case round =>
    obtain ⟨k, m, hk, hm0, hm1, rfl, rfl, HA⟩ := hrel
    by_cases hlt : k < dg.size
    · have HD : Hid (dg.data.toList.drop k = dg[k] :: dg.data.toList.drop (k + 1)) := drop_cons dg k hlt
      by_cases hc : (48 ≤ (dg[k].toNat : Int) ∧ (dg[k].toNat : Int) ≤ 57) ∧ m ≤ 1099511627776
      · obtain ⟨⟨hc1, hc2⟩, hc3⟩ := hc
        have hc0 : -1099511627776 ≤ m := by omega
        go_wp2
        go_round
        case rel => exact ⟨k + 1, m * 10 + ((dg[k].toNat : Int) - 48), by omega, by omega, by omega, by go_num, by go_num, by
          have h1 := HA.out; rw [HD.out, acc_step hc1 hc2 hc3] at h1; exact h1⟩
        case measure => simp [intOf]; omega
      · have HS : Hid (acc 0 dg.data.toList = m) := by
          have h1 := HA.out
          rw [HD.out, acc_stop (by omega)] at h1
          exact h1.symm
        by_cases ha : (dg[k].toNat : Int) < 48
        · have hb : ¬ 48 ≤ (dg[k].toNat : Int) := by omega
          clear hc
          cases mi
          · go_wp2
            go_ret
            exact ⟨ret_int (by rw [HF.out, HS.out]; rfl), rfl⟩
          · go_wp2
            go_ret
            exact ⟨ret_int (by rw [HF.out, HS.out]; rfl), rfl⟩
        · by_cases hb : 57 < (dg[k].toNat : Int)
          · have ha' : 48 ≤ (dg[k].toNat : Int) := by omega
            have hd : decide ((dg[k].toNat : Int) ≤ 57) = false := by simp; omega
            clear hc
            cases mi
            · go_wp2
              go_ret
              exact ⟨ret_int (by rw [HF.out, HS.out]; rfl), rfl⟩
            · go_wp2
              go_ret
              exact ⟨ret_int (by rw [HF.out, HS.out]; rfl), rfl⟩
          · have ha' : 48 ≤ (dg[k].toNat : Int) := by omega
            have hb' : (dg[k].toNat : Int) ≤ 57 := by omega
            have hq : 1099511627776 < m := by omega
            have hq0 : -1099511627776 ≤ m := by omega
            have hd : decide (m ≤ 1099511627776) = false := by simp; omega
            clear hc
            cases mi
            · go_wp2
              go_ret
              exact ⟨ret_int (by rw [HF.out, HS.out]; rfl), rfl⟩
            · go_wp2
              go_ret
              exact ⟨ret_int (by rw [HF.out, HS.out]; rfl), rfl⟩
    · have HS : Hid (acc 0 dg.data.toList = m) := by
        have h1 := HA.out
        rw [drop_all dg k hlt, acc_nil] at h1
        exact h1.symm
      cases mi
      · go_wp2
        go_ret
        exact ⟨ret_int (by rw [HF.out, HS.out]; rfl), rfl⟩
      · go_wp2
        go_ret
        exact ⟨ret_int (by rw [HF.out, HS.out]; rfl), rfl⟩
end Go.Proofs.YtejcmammdmpcoabDoor
