/-
  Contract of the answer product of the document (by halves): the product of two numbers that may be, or BadSize where it is too great.
-/
import Derived.Test.YtejcmammdmpcoabDoorProd
namespace Go.Proofs.YtejcmammdmpcoabDoor
open Go.ChangeShapes Go.WideShapes Go.ChangeAt Go.RowKit Go.Joins

theorem mul_half (a b : Int) : a * b = 2 * (a * (b / 2)) + a * (b % 2) := by
  have h := Int.emod_add_mul_ediv b 2
  have e : a * (b % 2 + 2 * (b / 2)) = a * (b % 2) + 2 * (a * (b / 2)) := by rw [Int.mul_add, Int.mul_left_comm]
  rw [h] at e
  omega
theorem mul_sgn (a q : Int) (hq : 0 ≤ q) : (0 ≤ a → 0 ≤ a * q) ∧ (a ≤ 0 → a * q ≤ 0) :=
  ⟨fun h => Int.mul_nonneg h hq, fun h => Int.mul_nonpos_of_nonpos_of_nonneg h hq⟩
theorem mul_gt (a q : Int) (hq : 0 < q) : (0 ≤ a → a ≤ a * q) ∧ (a ≤ 0 → a * q ≤ a) := by
  obtain ⟨h1, h2⟩ := mul_sgn a (q - 1) (by omega)
  have e : a * (q - 1) = a * q - a := by rw [Int.mul_sub, Int.mul_one]
  rw [e] at h1 h2
  exact ⟨fun h => by have := h1 h; omega, fun h => by have := h2 h; omega⟩

set_option maxRecDepth 100000 in
set_option maxHeartbeats 1000000 in
theorem rproduct_pos (m n P : Int) (w : World) (h1 : -1099511627776 ≤ m) (h2 : m ≤ 1099511627776) (h3 : 0 ≤ n) (h4 : n ≤ 1099511627776) (HP0 : Hid (m * n = P)) :
    Calls Tryd.prog 33 #[.int .i64 m, .int .i64 n] w fun e w' => e = .returned (vt (bnd P)) ∧ Below w.heap.size w w' := by
  have hn : ¬ n < 0 := by omega
  go_enter Tryd.func33, Tryd.ntmps33
  go_wp2
  go_loop [0, 1, 6] (fun va vb vs => ∃ a b s : Int, 0 ≤ b ∧ b ≤ 1099511627776 ∧ -4398046511104 ≤ a ∧ a ≤ 4398046511104 ∧ (0 < b → -2199023255552 ≤ a ∧ a ≤ 2199023255552) ∧ -1099511627776 ≤ s ∧ s ≤ 1099511627776 ∧ ((0 ≤ a ∧ 0 ≤ s) ∨ (a ≤ 0 ∧ s ≤ 0)) ∧ va = .int .i64 a ∧ vb = .int .i64 b ∧ vs = .int .i64 s ∧ Hid (s + a * b = P)) (fun _ vb _ => (intOf vb).toNat)
  case atStart => exact ⟨m, n, 0, by omega, by omega, by omega, by omega, by omega, by omega, by omega, by omega, rfl, rfl, rfl, by have := HP0.out; show _ = _; omega⟩
  case round =>
    obtain ⟨a, b, s, hb0, hb1, ha3, ha4, hab, hs3, hs4, hsg, rfl, rfl, rfl, HP⟩ := hrel
    by_cases hb : 0 < b
    · obtain ⟨ha5, ha6⟩ := hab hb
      clear ha3 ha4
      by_cases hp : b % 2 = 1
      · have HPp : Hid (b % 2 = 1) := hp
        have hpar : (b % 2 == 1) = true := by simp; omega
        have HX : Hid ((s + a) + 2 * (a * (b / 2)) = P) := by
          have h1 := HP.out
          have h2 := mul_half a b
          rw [show b % 2 = 1 from by omega] at h2
          show _ = _
          omega
        have hq0 : 0 ≤ b / 2 := by omega
        have hqb : b / 2 ≤ 1099511627776 := by omega
        by_cases hs1 : (s + a) < -1099511627776
        · have HB : Hid (P < -1099511627776 ∨ 1099511627776 < P) := by
            have h1 := HX.out; have h2 := mul_sgn a (b / 2) hq0
            show _ ∨ _
            omega
          first
            | (exfalso; omega)
            | (go_wp2
               go_returns
               exact ⟨ret_rE 3 (bnd_bad (HB.out)), by go_grown⟩)
        · by_cases hs2 : 1099511627776 < (s + a)
          · have HB : Hid (P < -1099511627776 ∨ 1099511627776 < P) := by
              have h1 := HX.out; have h2 := mul_sgn a (b / 2) hq0
              show _ ∨ _
              omega
            have hs1' : -1099511627776 ≤ (s + a) := by omega
            have hd : decide ((s + a) ≤ 1099511627776) = false := by simp; omega
            first
              | (exfalso; omega)
              | (go_wp2
                 go_returns
                 exact ⟨ret_rE 3 (bnd_bad (HB.out)), by go_grown⟩)
          · have hs1' : -1099511627776 ≤ (s + a) := by omega
            have hs2' : (s + a) ≤ 1099511627776 := by omega
            by_cases hq : 0 < b / 2
            · have HG := mul_gt a (b / 2) hq
              have HG' : Hid _ := HG
              clear HG
              by_cases ha1 : a < -1099511627776
              · have HB : Hid (P < -1099511627776 ∨ 1099511627776 < P) := by
                  have h1 := HX.out; have h2 := HG'.out
                  show _ ∨ _
                  omega
                first
                  | (exfalso; omega)
                  | (go_wp2
                     go_returns
                     exact ⟨ret_rE 3 (bnd_bad (HB.out)), by go_grown⟩)
              · by_cases ha2 : 1099511627776 < a
                · have HB : Hid (P < -1099511627776 ∨ 1099511627776 < P) := by
                    have h1 := HX.out; have h2 := HG'.out
                    show _ ∨ _
                    omega
                  have ha1' : -1099511627776 ≤ a := by omega
                  have hd : decide (a ≤ 1099511627776) = false := by simp; omega
                  first
                    | (exfalso; omega)
                    | (go_wp2
                       go_returns
                       exact ⟨ret_rE 3 (bnd_bad (HB.out)), by go_grown⟩)
                · have ha1' : -1099511627776 ≤ a := by omega
                  have ha2' : a ≤ 1099511627776 := by omega
                  go_wp2
                  go_round
                  case rel => exact ⟨2 * a, b / 2, (s + a), by omega, by omega, by omega, by omega, by omega, by omega, by omega, by omega, by go_num, by go_num, by go_num, by
                    have h1 := HX.out; rw [Int.mul_assoc]; exact h1⟩
                  case measure => simp [intOf]; omega
            · have hq' : b / 2 = 0 := by omega
              have hd0 : decide (0 < b / 2) = false := by simp; omega
              have HQ : Hid (b / 2 = 0) := hq'
              clear hq'
              go_wp2
              go_round
              case rel => exact ⟨2 * a, b / 2, (s + a), by omega, by omega, by omega, by omega, by have := HQ.out; omega, by omega, by omega, by omega, by go_num, by go_num, by go_num, by
                have h1 := HX.out; rw [Int.mul_assoc]; exact h1⟩
              case measure => simp [intOf]; omega
      · 
        have hpar : (b % 2 == 1) = false := by simp; omega
        have HX : Hid (s + 2 * (a * (b / 2)) = P) := by
          have h1 := HP.out
          have h2 := mul_half a b
          rw [show b % 2 = 0 from by omega] at h2
          show _ = _
          omega
        have hq0 : 0 ≤ b / 2 := by omega
        have hqb : b / 2 ≤ 1099511627776 := by omega
        by_cases hs1 : s < -1099511627776
        · have HB : Hid (P < -1099511627776 ∨ 1099511627776 < P) := by
            have h1 := HX.out; have h2 := mul_sgn a (b / 2) hq0
            show _ ∨ _
            omega
          first
            | (exfalso; omega)
            | (go_wp2
               go_returns
               exact ⟨ret_rE 3 (bnd_bad (HB.out)), by go_grown⟩)
        · by_cases hs2 : 1099511627776 < s
          · have HB : Hid (P < -1099511627776 ∨ 1099511627776 < P) := by
              have h1 := HX.out; have h2 := mul_sgn a (b / 2) hq0
              show _ ∨ _
              omega
            have hs1' : -1099511627776 ≤ s := by omega
            have hd : decide (s ≤ 1099511627776) = false := by simp; omega
            first
              | (exfalso; omega)
              | (go_wp2
                 go_returns
                 exact ⟨ret_rE 3 (bnd_bad (HB.out)), by go_grown⟩)
          · have hs1' : -1099511627776 ≤ s := by omega
            have hs2' : s ≤ 1099511627776 := by omega
            by_cases hq : 0 < b / 2
            · have HG := mul_gt a (b / 2) hq
              have HG' : Hid _ := HG
              clear HG
              by_cases ha1 : a < -1099511627776
              · have HB : Hid (P < -1099511627776 ∨ 1099511627776 < P) := by
                  have h1 := HX.out; have h2 := HG'.out
                  show _ ∨ _
                  omega
                first
                  | (exfalso; omega)
                  | (go_wp2
                     go_returns
                     exact ⟨ret_rE 3 (bnd_bad (HB.out)), by go_grown⟩)
              · by_cases ha2 : 1099511627776 < a
                · have HB : Hid (P < -1099511627776 ∨ 1099511627776 < P) := by
                    have h1 := HX.out; have h2 := HG'.out
                    show _ ∨ _
                    omega
                  have ha1' : -1099511627776 ≤ a := by omega
                  have hd : decide (a ≤ 1099511627776) = false := by simp; omega
                  first
                    | (exfalso; omega)
                    | (go_wp2
                       go_returns
                       exact ⟨ret_rE 3 (bnd_bad (HB.out)), by go_grown⟩)
                · have ha1' : -1099511627776 ≤ a := by omega
                  have ha2' : a ≤ 1099511627776 := by omega
                  go_wp2
                  go_round
                  case rel => exact ⟨2 * a, b / 2, s, by omega, by omega, by omega, by omega, by omega, by omega, by omega, by omega, by go_num, by go_num, by go_num, by
                    have h1 := HX.out; rw [Int.mul_assoc]; exact h1⟩
                  case measure => simp [intOf]; omega
            · have hq' : b / 2 = 0 := by omega
              have hd0 : decide (0 < b / 2) = false := by simp; omega
              have HQ : Hid (b / 2 = 0) := hq'
              clear hq'
              exfalso
              have := HQ.out
              omega
    · have HZ : Hid (P = s) := by
        have h1 := HP.out
        rw [show b = 0 from by omega, Int.mul_zero] at h1
        show _ = _
        omega
      have hb0' : b ≤ 0 := by omega
      clear hab hsg
      go_wp2
      go_returns
      exact ⟨ret_rN s (by rw [HZ.out]; exact bnd_ok hs3 hs4), by go_grown⟩

set_option maxRecDepth 100000 in
set_option maxHeartbeats 1000000 in
theorem rproduct_neg (m n P : Int) (w : World) (h1 : -1099511627776 ≤ m) (h2 : m ≤ 1099511627776) (h3 : n < 0) (h4 : -1099511627776 ≤ n) (HP0 : Hid (-m * -n = P)) :
    Calls Tryd.prog 33 #[.int .i64 m, .int .i64 n] w fun e w' => e = .returned (vt (bnd P)) ∧ Below w.heap.size w w' := by
  go_enter Tryd.func33, Tryd.ntmps33
  go_wp2
  go_loop [0, 1, 6] (fun va vb vs => ∃ a b s : Int, 0 ≤ b ∧ b ≤ 1099511627776 ∧ -4398046511104 ≤ a ∧ a ≤ 4398046511104 ∧ (0 < b → -2199023255552 ≤ a ∧ a ≤ 2199023255552) ∧ -1099511627776 ≤ s ∧ s ≤ 1099511627776 ∧ ((0 ≤ a ∧ 0 ≤ s) ∨ (a ≤ 0 ∧ s ≤ 0)) ∧ va = .int .i64 a ∧ vb = .int .i64 b ∧ vs = .int .i64 s ∧ Hid (s + a * b = P)) (fun _ vb _ => (intOf vb).toNat)
  case atStart => exact ⟨-m, -n, 0, by omega, by omega, by omega, by omega, by omega, by omega, by omega, by omega, rfl, rfl, rfl, by have := HP0.out; show _ = _; omega⟩
  case round =>
    obtain ⟨a, b, s, hb0, hb1, ha3, ha4, hab, hs3, hs4, hsg, rfl, rfl, rfl, HP⟩ := hrel
    by_cases hb : 0 < b
    · obtain ⟨ha5, ha6⟩ := hab hb
      clear ha3 ha4
      by_cases hp : b % 2 = 1
      · have HPp : Hid (b % 2 = 1) := hp
        have hpar : (b % 2 == 1) = true := by simp; omega
        have HX : Hid ((s + a) + 2 * (a * (b / 2)) = P) := by
          have h1 := HP.out
          have h2 := mul_half a b
          rw [show b % 2 = 1 from by omega] at h2
          show _ = _
          omega
        have hq0 : 0 ≤ b / 2 := by omega
        have hqb : b / 2 ≤ 1099511627776 := by omega
        by_cases hs1 : (s + a) < -1099511627776
        · have HB : Hid (P < -1099511627776 ∨ 1099511627776 < P) := by
            have h1 := HX.out; have h2 := mul_sgn a (b / 2) hq0
            show _ ∨ _
            omega
          first
            | (exfalso; omega)
            | (go_wp2
               go_returns
               exact ⟨ret_rE 3 (bnd_bad (HB.out)), by go_grown⟩)
        · by_cases hs2 : 1099511627776 < (s + a)
          · have HB : Hid (P < -1099511627776 ∨ 1099511627776 < P) := by
              have h1 := HX.out; have h2 := mul_sgn a (b / 2) hq0
              show _ ∨ _
              omega
            have hs1' : -1099511627776 ≤ (s + a) := by omega
            have hd : decide ((s + a) ≤ 1099511627776) = false := by simp; omega
            first
              | (exfalso; omega)
              | (go_wp2
                 go_returns
                 exact ⟨ret_rE 3 (bnd_bad (HB.out)), by go_grown⟩)
          · have hs1' : -1099511627776 ≤ (s + a) := by omega
            have hs2' : (s + a) ≤ 1099511627776 := by omega
            by_cases hq : 0 < b / 2
            · have HG := mul_gt a (b / 2) hq
              have HG' : Hid _ := HG
              clear HG
              by_cases ha1 : a < -1099511627776
              · have HB : Hid (P < -1099511627776 ∨ 1099511627776 < P) := by
                  have h1 := HX.out; have h2 := HG'.out
                  show _ ∨ _
                  omega
                first
                  | (exfalso; omega)
                  | (go_wp2
                     go_returns
                     exact ⟨ret_rE 3 (bnd_bad (HB.out)), by go_grown⟩)
              · by_cases ha2 : 1099511627776 < a
                · have HB : Hid (P < -1099511627776 ∨ 1099511627776 < P) := by
                    have h1 := HX.out; have h2 := HG'.out
                    show _ ∨ _
                    omega
                  have ha1' : -1099511627776 ≤ a := by omega
                  have hd : decide (a ≤ 1099511627776) = false := by simp; omega
                  first
                    | (exfalso; omega)
                    | (go_wp2
                       go_returns
                       exact ⟨ret_rE 3 (bnd_bad (HB.out)), by go_grown⟩)
                · have ha1' : -1099511627776 ≤ a := by omega
                  have ha2' : a ≤ 1099511627776 := by omega
                  go_wp2
                  go_round
                  case rel => exact ⟨2 * a, b / 2, (s + a), by omega, by omega, by omega, by omega, by omega, by omega, by omega, by omega, by go_num, by go_num, by go_num, by
                    have h1 := HX.out; rw [Int.mul_assoc]; exact h1⟩
                  case measure => simp [intOf]; omega
            · have hq' : b / 2 = 0 := by omega
              have hd0 : decide (0 < b / 2) = false := by simp; omega
              have HQ : Hid (b / 2 = 0) := hq'
              clear hq'
              go_wp2
              go_round
              case rel => exact ⟨2 * a, b / 2, (s + a), by omega, by omega, by omega, by omega, by have := HQ.out; omega, by omega, by omega, by omega, by go_num, by go_num, by go_num, by
                have h1 := HX.out; rw [Int.mul_assoc]; exact h1⟩
              case measure => simp [intOf]; omega
      · 
        have hpar : (b % 2 == 1) = false := by simp; omega
        have HX : Hid (s + 2 * (a * (b / 2)) = P) := by
          have h1 := HP.out
          have h2 := mul_half a b
          rw [show b % 2 = 0 from by omega] at h2
          show _ = _
          omega
        have hq0 : 0 ≤ b / 2 := by omega
        have hqb : b / 2 ≤ 1099511627776 := by omega
        by_cases hs1 : s < -1099511627776
        · have HB : Hid (P < -1099511627776 ∨ 1099511627776 < P) := by
            have h1 := HX.out; have h2 := mul_sgn a (b / 2) hq0
            show _ ∨ _
            omega
          first
            | (exfalso; omega)
            | (go_wp2
               go_returns
               exact ⟨ret_rE 3 (bnd_bad (HB.out)), by go_grown⟩)
        · by_cases hs2 : 1099511627776 < s
          · have HB : Hid (P < -1099511627776 ∨ 1099511627776 < P) := by
              have h1 := HX.out; have h2 := mul_sgn a (b / 2) hq0
              show _ ∨ _
              omega
            have hs1' : -1099511627776 ≤ s := by omega
            have hd : decide (s ≤ 1099511627776) = false := by simp; omega
            first
              | (exfalso; omega)
              | (go_wp2
                 go_returns
                 exact ⟨ret_rE 3 (bnd_bad (HB.out)), by go_grown⟩)
          · have hs1' : -1099511627776 ≤ s := by omega
            have hs2' : s ≤ 1099511627776 := by omega
            by_cases hq : 0 < b / 2
            · have HG := mul_gt a (b / 2) hq
              have HG' : Hid _ := HG
              clear HG
              by_cases ha1 : a < -1099511627776
              · have HB : Hid (P < -1099511627776 ∨ 1099511627776 < P) := by
                  have h1 := HX.out; have h2 := HG'.out
                  show _ ∨ _
                  omega
                first
                  | (exfalso; omega)
                  | (go_wp2
                     go_returns
                     exact ⟨ret_rE 3 (bnd_bad (HB.out)), by go_grown⟩)
              · by_cases ha2 : 1099511627776 < a
                · have HB : Hid (P < -1099511627776 ∨ 1099511627776 < P) := by
                    have h1 := HX.out; have h2 := HG'.out
                    show _ ∨ _
                    omega
                  have ha1' : -1099511627776 ≤ a := by omega
                  have hd : decide (a ≤ 1099511627776) = false := by simp; omega
                  first
                    | (exfalso; omega)
                    | (go_wp2
                       go_returns
                       exact ⟨ret_rE 3 (bnd_bad (HB.out)), by go_grown⟩)
                · have ha1' : -1099511627776 ≤ a := by omega
                  have ha2' : a ≤ 1099511627776 := by omega
                  go_wp2
                  go_round
                  case rel => exact ⟨2 * a, b / 2, s, by omega, by omega, by omega, by omega, by omega, by omega, by omega, by omega, by go_num, by go_num, by go_num, by
                    have h1 := HX.out; rw [Int.mul_assoc]; exact h1⟩
                  case measure => simp [intOf]; omega
            · have hq' : b / 2 = 0 := by omega
              have hd0 : decide (0 < b / 2) = false := by simp; omega
              have HQ : Hid (b / 2 = 0) := hq'
              clear hq'
              exfalso
              have := HQ.out
              omega
    · have HZ : Hid (P = s) := by
        have h1 := HP.out
        rw [show b = 0 from by omega, Int.mul_zero] at h1
        show _ = _
        omega
      have hb0' : b ≤ 0 := by omega
      clear hab hsg
      go_wp2
      go_returns
      exact ⟨ret_rN s (by rw [HZ.out]; exact bnd_ok hs3 hs4), by go_grown⟩

theorem rproduct_c (m n : Int) (w : World) (h1 : -1099511627776 ≤ m) (h2 : m ≤ 1099511627776) (h3 : -1099511627776 ≤ n) (h4 : n ≤ 1099511627776) :
    Calls Tryd.prog 33 #[.int .i64 m, .int .i64 n] w fun e w' => e = .returned (vt (bnd (m * n))) ∧ Below w.heap.size w w' := by
  by_cases h : n < 0
  · exact rproduct_neg m n (m * n) w h1 h2 h h3 (by show _ = _; rw [Int.neg_mul_neg])
  · exact rproduct_pos m n (m * n) w h1 h2 (by omega) h4 rfl
end Go.Proofs.YtejcmammdmpcoabDoor
