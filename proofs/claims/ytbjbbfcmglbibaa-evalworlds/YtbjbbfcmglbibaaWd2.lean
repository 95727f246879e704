/-
  Contract of eval.CheckWorld.
-/
import Derived.Test.YtbjbbfcmglbibaaWd1
namespace Go.Proofs.Ytbjbbfcmglbibaa
open Go.ChangeShapes Go.WideShapes Go.ChangeAt Go.RowKit Go.Joins
set_option linter.unusedVariables false
set_option maxRecDepth 100000

set_option maxHeartbeats 1000000 in
theorem checkWorld_c (B : Nat) (fs : List Fl) (ls : List ByteArray) (v u : Value) (w : World) (hv : FlL w B v fs) (hu : TxL w B u ls) (hB : B ≤ w.heap.size) :
    Calls Try.prog 4 #[v, u] w fun e w' => e = .returned (.int .i64 (worldR fs ls)) ∧ Below w.heap.size w w' := by
  have HV : Hid (FlL w B v fs) := hv
  have HU : Hid (TxL w B u ls) := hu
  obtain ⟨⟨a, n0, cap, rfl, hcap⟩, a', cap', h0, hl, hsl⟩ := hv
  simp only [Value.slice.injEq] at h0
  obtain ⟨rfl, rfl, rfl⟩ := h0
  obtain ⟨a2, cap2, rfl, hl2, _⟩ := hu
  unfold maxLen at hl hl2
  by_cases h8 : 8 < fs.length
  · have HF : Hid (worldR fs ls = 1) := worldR_big (.inl h8)
    have i1 : 8 < (fs.length : Int) := by omega
    clear h8
    go_enter Try.func4, Try.ntmps4
    go_wp2_with fail
    go_ret
    exact ⟨ret_int HF.out.symm, Below.refl _ _⟩
  by_cases h200 : 200 < ls.length
  · have HF : Hid (worldR fs ls = 1) := worldR_big (.inr h200)
    have i1 : ¬ 8 < (fs.length : Int) := by omega
    have i2 : 200 < (ls.length : Int) := by omega
    clear h8 h200
    go_enter Try.func4, Try.ntmps4
    go_wp2_with fail
    go_ret
    exact ⟨ret_int HF.out.symm, Below.refl _ _⟩
  have HW : Hid (¬ (8 < fs.length ∨ 200 < ls.length)) := by intro h; omega
  have i1 : ¬ 8 < (fs.length : Int) := by omega
  have i2 : ¬ 200 < (ls.length : Int) := by omega
  clear h8 h200
  go_enter Try.func4, Try.ntmps4
  go_wp2_with fail
  go_loopw [18] (fun v wr => ∃ k : Nat, k ≤ fs.length ∧ v = .int .i64 k ∧ Hid (Below w.heap.size w wr ∧ ∀ q, q < k → fileR (fs.getD q default) (fs.take q) = 0)) (fun v _ => fs.length - (intOf v).toNat)
  case atStart => exact ⟨0, by omega, rfl, Below.refl _ _, fun q hq => absurd hq (Nat.not_lt_zero _)⟩
  case round =>
    obtain ⟨k, hk, rfl, HQ⟩ := hrel
    by_cases hlt : k < fs.length
    · obtain ⟨b, off, rfl, hb, hi⟩ := hsl (by omega)
      obtain ⟨a1, cap1, c0, c1, z0, z1, ht⟩ := flAt hi k _ rfl hlt
      obtain ⟨x, hx⟩ : ∃ x, x = fs.getD k default := ⟨_, rfl⟩
      rw [← hx] at c0 c1
      have hbw : b < w.heap.size := by omega
      have d0 := (HQ.out.1.cell (p := ⟨b, off + k * 2, none⟩) hbw).trans c0
      have d1 := (HQ.out.1.cell (p := ⟨b, off + k * 2 + 1, none⟩) hbw).trans c1
      have j1 : (k : Int) < (fs.length : Int) := by omega
      have j2 : (0 : Int) ≤ (k : Int) := by omega
      have hfa : FlA B w [.string x.name, .slice a1 x.lines.length cap1] x := ⟨_, rfl, by rw [hx]; exact z0, by rw [hx]; exact ht.out⟩
      have HFA : Hid (FlA B w [.string x.name, .slice a1 x.lines.length cap1] x) := hfa
      have HX : Hid (x = fs.getD k default) := hx
      obtain ⟨nm, hnm⟩ : ∃ nm, nm = x.name := ⟨_, rfl⟩
      obtain ⟨n1, hn1⟩ : ∃ n1, n1 = x.lines.length := ⟨_, rfl⟩
      rw [← hnm, ← hn1] at HFA
      rw [← hnm] at d0
      rw [← hn1] at d1
      have j3 : (k : Int) ≤ (cap : Int) := by omega
      obtain ⟨o, ho⟩ : ∃ o, o = Obj.cells #[Value.string nm, Value.slice a1 n1 cap1] 28 := ⟨_, rfl⟩
      have HWR : Hid (Below wr.heap.size wr (wr.alloc o)) := (Below.refl _ _).alloc (Nat.le_refl _) o
      have HWA : Hid (Below w.heap.size w (wr.alloc o)) := bl_trans HQ.out.1 HWR.out
      have hc0 : (wr.alloc o).cell? ⟨wr.heap.size, 0, none⟩ = some (.string nm) := by rw [ho]; simp [go_sem]
      have hc1 : (wr.alloc o).cell? ⟨wr.heap.size, 1, none⟩ = some (.slice a1 n1 cap1) := by rw [ho]; simp [go_sem]
      have r0 := cell_regrown hc0
      have r1 := cell_regrown hc1
      have cF : ∀ (d : Nat) (os : Array Obj), Calls Try.prog 6 #[.agg #[.string nm, .slice a1 n1 cap1], .slice (some ⟨b, off, none⟩) k cap] (Sort.grow (redrawn (wr.alloc o) d) os) fun e w'' => e = .returned (.int .i64 (fileR x (fs.take k))) ∧ ∃ p : Regrown, w'' = Sort.grow (redrawn (wr.alloc o) p.d) p.os := by
        intro d os
        have hb2 : Below w.heap.size w (Sort.grow (redrawn (wr.alloc o) d) os) := bl_trans HWA.out (below_regrown _ d os)
        exact Calls.regrown_of (checkFile_c B fs k _ cap cap _ x _ (HV.out.below (hb2.mono hB)) (Nat.le_trans hB hb2.size) (by omega) (HFA.out.below (hb2.mono hB)))
      obtain ⟨fr, hfr⟩ : ∃ fr, fr = fileR x (fs.take k) := ⟨_, rfl⟩
      rw [← hfr] at cF
      have HFR : Hid (fr = fileR x (fs.take k)) := hfr
      clear hi c0 c1 hfa hx ht z0 z1 hsl HFA hnm hn1 hc0 hc1 hfr hcap
      go_wp2_with fail
      rw [← ho]
      clear ho
      refine wp_region_quiet_below (by kernel_rfl) (by kernel_rfl) ?_
      repeat (go_big_quiet_step (first | with_reducible exact cF _ _))
      refine wpQuiet_nil ?_
      intro _ hw'
      obtain ⟨⟨dq, osq⟩, hw''⟩ := hw'
      subst hw''
      have HB2 : Hid (Below w.heap.size w (Sort.grow (redrawn (wr.alloc o) dq) osq)) := bl_trans HWA.out (below_regrown _ _ _)
      clear r0 r1 cF
      by_cases hz : fr = 0
      · subst hz
        have R2 : Hid (∀ q, q < k + 1 → fileR (fs.getD q default) (fs.take q) = 0) := fun q hq => by
          by_cases e : q = k
          · subst e; rw [← HX.out]; exact HFR.out.symm
          · exact HQ.out.2 q (by omega)
        go_wp2_with fail
        go_roundw
        case rel => exact ⟨k + 1, by omega, by go_num, HB2.out, R2.out⟩
        case measure => simp [intOf]; omega
      · have HR : Hid (worldR fs ls = fr) := by
          rw [Hid, HFR.out, HX.out]
          exact worldR_bad HW.out hlt HQ.out.2 (by rw [← HX.out, ← HFR.out]; exact hz)
        have hz1 : (fr == 0) = false := by simpa using hz
        go_wp2_with fail
        go_ret
        exact ⟨ret_int HR.out.symm, HB2.out⟩
    · have j1 : ¬ (k : Int) < (fs.length : Int) := by omega
      have HR : Hid (worldR fs ls = linesR ls) := worldR_ok HW.out fun q hq => HQ.out.2 q (by omega)
      have HB2 : Hid (Below w.heap.size w wr) := HQ.out.1
      have HCL : Hid _ := checkLines_c B ls _ wr (HU.out.below (HB2.out.mono hB))
      clear hsl HQ
      go_wp2_with fail
      refine Calls.mono HCL.out ?_
      rintro e w2 ⟨rfl, rfl⟩
      go_wp2_with fail
      go_ret
      exact ⟨ret_int HR.out.symm, HB2.out⟩
end Go.Proofs.Ytbjbbfcmglbibaa
