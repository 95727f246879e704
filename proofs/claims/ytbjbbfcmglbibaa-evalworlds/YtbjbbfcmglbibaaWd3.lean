/-
  Contract of the document's WorldFault: it answers the same.
-/
import Derived.Test.YtbjbbfcmglbibaaWd2
namespace Go.Proofs.Ytbjbbfcmglbibaa
open Go.ChangeShapes Go.WideShapes Go.ChangeAt Go.RowKit Go.Joins
set_option linter.unusedVariables false
set_option maxRecDepth 100000

theorem cont_f {s : ByteArray} (h : ∀ q, (hq : q < s.size) → ¬ s[q] = 10) : s.data.toList.contains 10 = false := by
  cases hc : s.data.toList.contains 10 with
  | false => rfl
  | true =>
    rw [List.contains_iff_mem] at hc
    obtain ⟨q, hq, e⟩ := List.getElem_of_mem hc
    have e2 : s.data[q]'(by simpa using hq) = 10 := by simpa using e
    exact absurd e2 (h q (by simpa using hq))
theorem cont_t {s : ByteArray} {q : Nat} (hq : q < s.size) (h : s[q] = 10) : s.data.toList.contains 10 = true := by
  rw [List.contains_iff_mem]
  have h' : s.data[q]'(by simpa using hq) = 10 := h
  have : s.data.toList[q]'(by simpa using hq) = 10 := by simpa using h'
  exact this ▸ List.getElem_mem _

set_option maxHeartbeats 1000000 in
theorem lineMay_c (s : ByteArray) (w : World) (hs : s.size ≤ maxLen) :
    Calls Try.prog 8 #[.string s] w fun e w' => e = .returned (.bool (lineB s)) ∧ w' = w := by
  unfold maxLen at hs
  go_enter Try.func8, Try.ntmps8
  go_wp2_with fail
  go_loop [3] (fun v => ∃ k : Nat, k ≤ s.size ∧ v = .int .i64 k ∧ Hid (∀ q, (hq : q < s.size) → q < k → ¬ s[q] = 10)) (fun v => s.size - (intOf v).toNat)
  case atStart => exact ⟨0, by omega, rfl, fun q _ hq => absurd hq (Nat.not_lt_zero _)⟩
  case round =>
    obtain ⟨k, hk, rfl, HQ⟩ := hrel
    by_cases hlt : k < s.size
    · have i1 : (k : Int) < (s.size : Int) := by omega
      have i2 : (0 : Int) ≤ (k : Int) := by omega
      by_cases ht : s[k] = 10
      · have HL : Hid (lineB s = false) := lineB_ten (cont_t hlt ht)
        have hn : ((s[k].toNat : Int) == 10) = true := by rw [ht]; rfl
        go_wp2_with fail
        go_ret
        exact ⟨ret_bool HL.out.symm, rfl⟩
      · have R2 : Hid (∀ q, (hq : q < s.size) → q < k + 1 → ¬ s[q] = 10) := fun q hq hq2 => by
          by_cases e : q = k
          · subst e; exact ht
          · exact HQ.out q hq (by omega)
        have hn : ((s[k].toNat : Int) == 10) = false := by
          rw [beq_eq_false_iff_ne]
          intro h
          exact ht (UInt8.toNat_inj.1 (by simp; omega))
        go_wp2_with fail
        go_round
        case rel => exact ⟨k + 1, by omega, by go_num, R2⟩
        case measure => simp [intOf]; omega
    · have i1 : ¬ (k : Int) < (s.size : Int) := by omega
      have hc : s.data.toList.contains 10 = false := cont_f fun q hq => HQ.out q hq (by omega)
      have HL : Hid (lineB s = decide ((s.size : Int) ≤ 200)) := by
        have e : decide ((s.size : Int) ≤ 200) = decide (s.size ≤ 200) := by rw [decide_eq_decide]; omega
        simp only [Hid, lineB, hc, e]; simp
      clear hc HQ
      go_wp2_with fail
      go_ret
      exact ⟨ret_bool HL.out.symm, rfl⟩

theorem fileR_twice {x : Fl} {l : List Fl} (h1 : ¬ 100 < x.lines.length) (h2 : ¬ 200 < x.name.size) {n : Nat} (h : anyN l n x.name = true) : fileR x (l.take n) = 9 := by
  rw [fileR, if_neg (by omega)]; exact if_pos h
theorem fileR_once {x : Fl} {l : List Fl} (h1 : ¬ 100 < x.lines.length) (h2 : ¬ 200 < x.name.size) {n : Nat} (h : anyN l n x.name = false) : fileR x (l.take n) = linesR x.lines := by
  rw [fileR, if_neg (by omega)]; exact if_neg (by rw [← anyN, h]; simp)

set_option maxHeartbeats 2000000 in
theorem worldFault_c (B : Nat) (fs : List Fl) (ls : List ByteArray) (v u : Value) (w : World) (hv : FlL w B v fs) (hu : TxL w B u ls) (hB : B ≤ w.heap.size) :
    Calls Try.prog 5 #[v, u] w fun e w' => e = .returned (.int .i64 (worldR fs ls)) ∧ Below w.heap.size w w' := by
  obtain ⟨-, a, cap, rfl, hl, hsl⟩ := hv
  obtain ⟨a2, cap2, rfl, hl2, hsl2⟩ := hu
  unfold maxLen at hl hl2
  have HSL : Hid _ := hsl
  have HSL2 : Hid _ := hsl2
  clear hsl hsl2
  by_cases h8 : 8 < fs.length
  · have HF : Hid (worldR fs ls = 1) := worldR_big (.inl h8)
    have i1 : 8 < (fs.length : Int) := by omega
    clear h8
    go_enter Try.func5, Try.ntmps5
    go_wp2_with fail
    go_ret
    exact ⟨ret_int HF.out.symm, Below.refl _ _⟩
  by_cases h200 : 200 < ls.length
  · have HF : Hid (worldR fs ls = 1) := worldR_big (.inr h200)
    have i1 : ¬ 8 < (fs.length : Int) := by omega
    have i2 : 200 < (ls.length : Int) := by omega
    clear h8 h200
    go_enter Try.func5, Try.ntmps5
    go_wp2_with fail
    go_ret
    exact ⟨ret_int HF.out.symm, Below.refl _ _⟩
  have HW : Hid (¬ (8 < fs.length ∨ 200 < ls.length)) := by intro h; omega
  have i1 : ¬ 8 < (fs.length : Int) := by omega
  have i2 : ¬ 200 < (ls.length : Int) := by omega
  clear h8 h200
  go_enter Try.func5, Try.ntmps5
  go_wp2_with fail
  go_loopw [5] (fun v wr => ∃ k : Nat, k ≤ fs.length ∧ v = .int .i64 k ∧ Hid (Below w.heap.size w wr ∧ ∀ q, q < k → fileR (fs.getD q default) (fs.take q) = 0)) (fun v _ => fs.length - (intOf v).toNat)
  case atStart => exact ⟨0, by omega, rfl, Below.refl _ _, fun q hq => absurd hq (Nat.not_lt_zero _)⟩
  case round =>
    obtain ⟨k, hk, rfl, HQ⟩ := hrel
    by_cases hlt : k < fs.length
    · obtain ⟨b, off, rfl, hb, hi⟩ := HSL.out (by omega)
      obtain ⟨a1, cap1, c0, c1, z0, z1, ht⟩ := flAt hi k _ rfl hlt
      obtain ⟨x, hx⟩ : ∃ x, x = fs.getD k default := ⟨_, rfl⟩
      rw [← hx] at c0 c1 z0 z1 ht
      have hbw : b < w.heap.size := by omega
      have d0 := (HQ.out.1.cell (p := ⟨b, off + k * 2, none⟩) hbw).trans c0
      have d1 := (HQ.out.1.cell (p := ⟨b, off + k * 2 + 1, none⟩) hbw).trans c1
      have j1 : (k : Int) < (fs.length : Int) := by omega
      have j2 : (0 : Int) ≤ (k : Int) := by omega
      have HX : Hid (x = fs.getD k default) := hx
      have HI : Hid _ := hi
      obtain ⟨nm, hnm⟩ : ∃ nm, nm = x.name := ⟨_, rfl⟩
      obtain ⟨n1, hn1⟩ : ∃ n1, n1 = x.lines.length := ⟨_, rfl⟩
      rw [← hnm] at d0 z0
      rw [← hn1] at d1 z1
      have HNM : Hid (nm = x.name) := hnm
      have HN1 : Hid (n1 = x.lines.length) := hn1
      have hbad : fileR x (fs.take k) ≠ 0 → worldR fs ls = fileR x (fs.take k) := fun h => by
        rw [HX.out] at h ⊢
        exact worldR_bad HW.out hlt HQ.out.2 h
      have HBAD : Hid _ := hbad
      clear hx hi c0 c1 hnm hn1 hbad
      unfold maxLen at z0 z1
      by_cases h100 : 100 < n1
      · have HR : Hid (worldR fs ls = 1) := by
          have : fileR x (fs.take k) = 1 := by rw [fileR, if_pos (.inl (by rw [← HN1.out]; exact h100))]
          have h2 := HBAD.out (by rw [this]; decide)
          rw [this] at h2; exact h2
        have k1 : 100 < (n1 : Int) := by omega
        have HB2 : Hid (Below w.heap.size w _) := HQ.out.1
        clear h100 HQ
        go_wp2_with fail
        go_ret
        exact ⟨ret_int HR.out.symm, HB2.out⟩
      have k1 : ¬ 100 < (n1 : Int) := by omega
      by_cases h200 : 200 < nm.size
      · have HR : Hid (worldR fs ls = 1) := by
          have : fileR x (fs.take k) = 1 := by rw [fileR, if_pos (.inr (by rw [← HNM.out]; exact h200))]
          have h2 := HBAD.out (by rw [this]; decide)
          rw [this] at h2; exact h2
        have k2 : 200 < (nm.size : Int) := by omega
        have HB2 : Hid (Below w.heap.size w _) := HQ.out.1
        clear h100 h200 HQ
        go_wp2_with fail
        go_ret
        exact ⟨ret_int HR.out.symm, HB2.out⟩
      have k2 : ¬ 200 < (nm.size : Int) := by omega
      have g1 : ¬ 100 < x.lines.length := by rw [← HN1.out]; exact h100
      have g2 : ¬ 200 < x.name.size := by rw [← HNM.out]; exact h200
      have G1 : Hid _ := g1
      have G2 : Hid _ := g2
      clear h100 h200 g1 g2
      go_wp2_with fail
      go_loopw [6] (fun v wq => ∃ j : Nat, j ≤ k ∧ v = .int .i64 j ∧ Hid (Below w.heap.size w wq ∧ ∀ q, q < j → ((fs.getD q default).name.toList == nm.toList) = false)) (fun v _ => k - (intOf v).toNat)
      case atStart => exact ⟨0, by omega, rfl, HQ.out.1, fun q hq => absurd hq (Nat.not_lt_zero _)⟩
      case round =>
        obtain ⟨j, hj, rfl, HJ⟩ := hrel
        by_cases hjk : j < k
        · obtain ⟨a3, cap3, e0, e1, y0, y1, ht3⟩ := flAt HI.out j _ rfl (by omega)
          obtain ⟨nj, hnj⟩ : ∃ nj, nj = (fs.getD j default).name := ⟨_, rfl⟩
          rw [← hnj] at e0
          have HNJ : Hid (nj = (fs.getD j default).name) := hnj
          have f0 := cell_regrown ((HJ.out.1.cell (p := ⟨b, off + j * 2, none⟩) hbw).trans e0)
          have d00 : w.cell? ⟨b, off + k * 2, none⟩ = some (.string nm) := (HQ.out.1.cell (p := ⟨b, off + k * 2, none⟩) hbw).symm.trans d0
          have f1 := cell_regrown ((HJ.out.1.cell (p := ⟨b, off + k * 2, none⟩) hbw).trans d00)
          have l1 : (j : Int) < (k : Int) := by omega
          have l2 : (0 : Int) ≤ (j : Int) := by omega
          have l3 : (j : Int) < (fs.length : Int) := by omega
          clear e0 e1 y0 y1 ht3 hnj d0 d1 d00
          go_wp2_with fail
          refine wp_region_quiet_below (by kernel_rfl) (by kernel_rfl) ?_
          repeat (go_big_quiet_step (fail))
          refine wpQuiet_nil ?_
          intro _ hw'
          obtain ⟨⟨dq, osq⟩, hw''⟩ := hw'
          subst hw''
          have HB2 : Hid (Below w.heap.size w (Sort.grow (redrawn _ dq) osq)) := bl_trans HJ.out.1 (below_regrown _ _ _)
          clear f0 f1
          cases hs : (nj.toList == nm.toList) with
          | true =>
            have HR : Hid (worldR fs ls = 9) := by
              have : fileR x (fs.take k) = 9 := fileR_twice G1.out G2.out (anyN_t (by omega) hjk (by rw [← HNJ.out, ← HNM.out]; exact hs))
              have h2 := HBAD.out (by rw [this]; decide)
              rw [this] at h2; exact h2
            go_wp2_with fail
            go_ret
            exact ⟨ret_int HR.out.symm, HB2.out⟩
          | false =>
            have R2 : Hid (∀ q, q < j + 1 → ((fs.getD q default).name.toList == nm.toList) = false) := fun q hq => by
              by_cases e : q = j
              · subst e; rw [← HNJ.out]; exact hs
              · exact HJ.out.2 q (by omega)
            go_wp2_with fail
            go_roundw
            case rel => exact ⟨j + 1, by omega, by go_num, HB2.out, R2.out⟩
            case measure => simp [intOf]; omega
        · have l1 : ¬ (j : Int) < (k : Int) := by omega
          have HF : Hid (fileR x (fs.take k) = linesR x.lines) := fileR_once G1.out G2.out (anyN_f (by omega) fun q hq => by rw [← HNM.out]; exact HJ.out.2 q (by omega))
          have d00 : w.cell? ⟨b, off + k * 2 + 1, none⟩ = some (.slice a1 n1 cap1) := (HQ.out.1.cell (p := ⟨b, off + k * 2 + 1, none⟩) hbw).symm.trans d1
          have D00 : Hid _ := d00
          have HB2 : Hid (Below w.heap.size w _) := HJ.out.1
          have HTL : Hid (TxL w B (.slice a1 n1 cap1) x.lines) := by rw [HN1.out]; exact ht.out
          clear d0 d1 d00 HJ ht
          go_wp2_with fail
          go_loopw [7] (fun v wq => ∃ j : Nat, j ≤ n1 ∧ v = .int .i64 j ∧ Hid (Below w.heap.size w wq ∧ ∀ q, q < j → lineB (x.lines.getD q default) = true)) (fun v _ => n1 - (intOf v).toNat)
          case atStart => exact ⟨0, by omega, rfl, HB2.out, fun q hq => absurd hq (Nat.not_lt_zero _)⟩
          case round =>
            obtain ⟨j2, hj2, rfl, HJ2⟩ := hrel
            have f1 := (HJ2.out.1.cell (p := ⟨b, off + k * 2 + 1, none⟩) hbw).trans D00.out
            by_cases hjn : j2 < n1
            · obtain ⟨a4, cap4, hv4, hl4, hs4⟩ := HTL.out
              simp only [Value.slice.injEq] at hv4
              obtain ⟨rfl, hn4, rfl⟩ := hv4
              obtain ⟨b5, off5, rfl, hb5, hi5⟩ := hs4 (by omega)
              obtain ⟨e0, y0⟩ := txAt hi5 j2 (by omega)
              obtain ⟨s, hs⟩ : ∃ s, s = x.lines.getD j2 default := ⟨_, rfl⟩
              rw [← hs] at e0 y0
              have hb5w : b5 < w.heap.size := by omega
              have f2 := (HJ2.out.1.cell (p := ⟨b5, off5 + j2, none⟩) hb5w).trans e0
              have HS : Hid (s = x.lines.getD j2 default) := hs
              have HL : Hid _ := lineMay_c s
              have l3 : (j2 : Int) < (n1 : Int) := by omega
              have l4 : (0 : Int) ≤ (j2 : Int) := by omega
              have HLEN : Hid (j2 < x.lines.length) := by rw [← HN1.out]; exact hjn
              clear hn4 hl4 hs4 hi5 e0 hs
              cases hlb : lineB s with
              | true =>
                rw [hlb] at HL
                have R2 : Hid (Below w.heap.size w _ ∧ ∀ q, q < j2 + 1 → lineB (x.lines.getD q default) = true) := ⟨HJ2.out.1, fun q hq => by
                  by_cases e : q = j2
                  · subst e; rw [← HS.out]; exact hlb
                  · exact HJ2.out.2 q (by omega)⟩
                clear HJ2 hlb
                go_wp2_with fail
                refine (HL.out _ y0).mono ?_
                rintro e w2 ⟨rfl, rfl⟩
                go_wp2_with fail
                go_roundw
                case rel => exact ⟨j2 + 1, by omega, by go_num, R2.out⟩
                case measure => simp [intOf]; omega
              | false =>
                rw [hlb] at HL
                have HR : Hid (worldR fs ls = 4) := by
                  have : fileR x (fs.take k) = 4 := by rw [HF.out]; exact linesR_bad HLEN.out (by rw [← HS.out]; exact hlb)
                  have h2 := HBAD.out (by rw [this]; decide)
                  rw [this] at h2; exact h2
                have HB3 : Hid (Below w.heap.size w _) := HJ2.out.1
                clear HJ2 hlb
                go_wp2_with fail
                refine (HL.out _ y0).mono ?_
                rintro e w2 ⟨rfl, rfl⟩
                go_wp2_with fail
                go_ret
                exact ⟨ret_int HR.out.symm, HB3.out⟩
            · have l3 : ¬ (j2 : Int) < (n1 : Int) := by omega
              have R2 : Hid (Below w.heap.size w _ ∧ ∀ q, q < k + 1 → fileR (fs.getD q default) (fs.take q) = 0) := ⟨HJ2.out.1, fun q hq => by
                by_cases e : q = k
                · subst e
                  rw [← HX.out, HF.out]
                  exact linesR_ok fun q hq => HJ2.out.2 q (by have := HN1.out; omega)
                · exact HQ.out.2 q (by omega)⟩
              clear HJ2 HQ
              go_wp2_with fail
              go_roundw
              case rel => exact ⟨k + 1, by omega, by go_num, R2.out⟩
              case measure => simp [intOf]; omega
    · have j1 : ¬ (k : Int) < (fs.length : Int) := by omega
      have HR : Hid (worldR fs ls = linesR ls) := worldR_ok HW.out fun q hq => HQ.out.2 q (by omega)
      have HB2 : Hid (Below w.heap.size w _) := HQ.out.1
      clear HQ
      go_wp2_with fail
      go_loopw [8] (fun v wq => ∃ j : Nat, j ≤ ls.length ∧ v = .int .i64 j ∧ Hid (Below w.heap.size w wq ∧ ∀ q, q < j → lineB (ls.getD q default) = true)) (fun v _ => ls.length - (intOf v).toNat)
      case atStart => exact ⟨0, by omega, rfl, HB2.out, fun q hq => absurd hq (Nat.not_lt_zero _)⟩
      case round =>
        obtain ⟨j2, hj2, rfl, HJ2⟩ := hrel
        by_cases hjn : j2 < ls.length
        · obtain ⟨b5, off5, rfl, hb5, hi5⟩ := HSL2.out (by omega)
          obtain ⟨e0, y0⟩ := txAt hi5 j2 (by omega)
          obtain ⟨s, hs⟩ : ∃ s, s = ls.getD j2 default := ⟨_, rfl⟩
          rw [← hs] at e0 y0
          have hb5w : b5 < w.heap.size := by omega
          have f2 := (HJ2.out.1.cell (p := ⟨b5, off5 + j2, none⟩) hb5w).trans e0
          have HS : Hid (s = ls.getD j2 default) := hs
          have HL : Hid _ := lineMay_c s
          have l3 : (j2 : Int) < (ls.length : Int) := by omega
          have l4 : (0 : Int) ≤ (j2 : Int) := by omega
          clear hi5 e0 hs
          cases hlb : lineB s with
          | true =>
            rw [hlb] at HL
            have R2 : Hid (Below w.heap.size w _ ∧ ∀ q, q < j2 + 1 → lineB (ls.getD q default) = true) := ⟨HJ2.out.1, fun q hq => by
              by_cases e : q = j2
              · subst e; rw [← HS.out]; exact hlb
              · exact HJ2.out.2 q (by omega)⟩
            clear HJ2 hlb
            go_wp2_with fail
            refine (HL.out _ y0).mono ?_
            rintro e w2 ⟨rfl, rfl⟩
            go_wp2_with fail
            go_roundw
            case rel => exact ⟨j2 + 1, by omega, by go_num, R2.out⟩
            case measure => simp [intOf]; omega
          | false =>
            rw [hlb] at HL
            have HR2 : Hid (worldR fs ls = 4) := by rw [Hid, HR.out]; exact linesR_bad hjn (by rw [← HS.out]; exact hlb)
            have HB3 : Hid (Below w.heap.size w _) := HJ2.out.1
            clear HJ2 hlb
            go_wp2_with fail
            refine (HL.out _ y0).mono ?_
            rintro e w2 ⟨rfl, rfl⟩
            go_wp2_with fail
            go_ret
            exact ⟨ret_int HR2.out.symm, HB3.out⟩
        · have l3 : ¬ (j2 : Int) < (ls.length : Int) := by omega
          have HR2 : Hid (worldR fs ls = 0) := by rw [Hid, HR.out]; exact linesR_ok fun q hq => HJ2.out.2 q (by omega)
          have HB3 : Hid (Below w.heap.size w _) := HJ2.out.1
          clear HJ2
          go_wp2_with fail
          go_ret
          exact ⟨ret_int HR2.out.symm, HB3.out⟩
end Go.Proofs.Ytbjbbfcmglbibaa
