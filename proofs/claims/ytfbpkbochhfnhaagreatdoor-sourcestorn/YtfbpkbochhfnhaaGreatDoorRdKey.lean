/-
  Contract of the reader's key.
-/
import Derived.Test.YtfbpkbochhfnhaaGreatDoorRdE0
namespace Go.Proofs.YtfbpkbochhfnhaaGreatDoor
open Go.ChangeShapes Go.WideShapes Go.ChangeAt Go.RowKit Go.Joins Go.Maps
set_option linter.unusedVariables false

set_option maxHeartbeats 2000000 in
theorem key_of {m : Nat} (hX : WholeC m) : KeyC (m + 1) := by
  intro r o ps w h hm
  have HX : Hid (WholeC m) := hX
  have hlt := h.lt
  have hne : ¬ r = w.heap.size := by omega
  obtain ⟨W, hW⟩ : ∃ W, W = w.alloc (.cells #[.int .i64 0, .int .i64 0, .string ⟨#[]⟩, .slice none 0 0] 57) := ⟨_, rfl⟩
  have HA : Hid (Below w.heap.size w W) := by rw [hW]; exact (Below.refl _ _).alloc (Nat.le_refl _) _
  have HG : Hid (Bx w.heap.size [.int .i64 0, .int .i64 0, .string ⟨#[]⟩, .slice none 0 0] 57 W) := by rw [hW]; exact Bx.new w _ _
  have HSZ : Hid (W.heap.size = w.heap.size + 1) := by rw [hW]; simp [Hid]
  have HWW : Hid (W = _) := hW
  have HN : Hid _ := need_c r o [91] ps W (h.below HA.out)
  clear hX hW h
  go_enter Tryz.func114, Tryz.ntmps114
  go_wp2_with fail
  rw [← HWW.out]
  clear HWW
  refine Calls.mono HN.out ?_
  rintro e w1 ⟨hb1, hr⟩
  cases hN : needR [91] ps with
  | error er =>
    rw [hN] at hr
    have HE : Hid (keyR (m + 1) o ps = .error er) := by unfold Hid; rw [keyR]; simp only [hN]
    obtain ⟨rfl, hop⟩ := hr
    have HB : Hid (But r r w w1 ∧ Opn r w1 o) := ⟨hb1.below' HA.out, hop⟩
    clear hb1 hop hN HN
    go_wp2_with fail
    refine ⟨rfl, HB.out.1, ?_⟩
    rw [HE.out]
    exact ⟨rfl, HB.out.2⟩
  | ok q =>
    obtain ⟨u, p1⟩ := q
    have hl1 := needR_len hN
    rw [hN] at hr
    have E1 : Hid (needR [91] ps = .ok (u, p1)) := hN
    obtain ⟨v, rfl, h1, rfl⟩ := hr
    have HB1 : Hid (But r r W w1) := hb1
    have HP : Hid _ := HX.out r o p1 w1 h1 (by omega)
    clear hb1 hN HN h1
    go_wp2_with fail
    refine Calls.mono HP.out ?_
    rintro e w2 ⟨hb2, hr⟩
    cases hN : wholeR m o p1 with
    | error er =>
      rw [hN] at hr
      have HE : Hid (keyR (m + 1) o ps = .error er) := by unfold Hid; rw [keyR]; simp only [E1.out, hN]
      obtain ⟨rfl, hop⟩ := hr
      have HB : Hid (But r r w w2 ∧ Opn r w2 o) := ⟨(HB1.out.trans hb2).below' HA.out, hop⟩
      clear hb2 hop hN HP
      go_wp2_with fail
      refine ⟨rfl, HB.out.1, ?_⟩
      rw [HE.out]
      exact ⟨rfl, HB.out.2⟩
    | ok q =>
      obtain ⟨x, p2⟩ := q
      rw [hN] at hr
      obtain ⟨v, rfl, h2, hl2, cs, rfl, hx⟩ := hr
      obtain ⟨k1, n1, s1, a1, len1, cap1, rfl⟩ := hx.shape
      have HX1 : Hid (ExP (fun b => w1.heap.size ≤ b) w2 (p1.length - p2.length) [.int .i64 k1, .int .i64 n1, .string s1, .slice a1 len1 cap1] x) := hx
      have HB2 : Hid (But r r W w2) := HB1.out.trans hb2
      have HS1 : Hid (w1.heap.size ≤ w2.heap.size ∧ W.heap.size ≤ w1.heap.size ∧ p2.length < p1.length ∧ p1.length + 1 = ps.length) := ⟨hb2.size, HB1.out.size, hl2, hl1⟩
      obtain ⟨W2, hW2⟩ : ∃ W2, W2 = w2.alloc (.cells #[.int .i64 k1, .int .i64 n1, .string s1, .slice a1 len1 cap1] 57) := ⟨_, rfl⟩
      have HA2 : Hid (Below w2.heap.size w2 W2) := by rw [hW2]; exact (Below.refl _ _).alloc (Nat.le_refl _) _
      have HG2 : Hid (Bx w2.heap.size [.int .i64 k1, .int .i64 n1, .string s1, .slice a1 len1 cap1] 57 W2) := by rw [hW2]; exact Bx.new w2 _ _
      have HWW : Hid (W2 = _) := hW2
      have HQ : Hid _ := need_c r o [93] p2 W2 (h2.below HA2.out)
      clear hb2 hx h2 hW2 HP hl1 hl2
      go_wp2_with fail
      rw [← HWW.out]
      clear HWW
      refine Calls.mono HQ.out ?_
      rintro e w3 ⟨hb3, hr⟩
      cases hN2 : needR [93] p2 with
      | error er =>
        rw [hN2] at hr
        have HE : Hid (keyR (m + 1) o ps = .error er) := by unfold Hid; rw [keyR]; simp only [E1.out, hN, hN2]
        obtain ⟨rfl, hop⟩ := hr
        have HB : Hid (But r r w w3 ∧ Opn r w3 o) := ⟨((HB2.out.more HA2.out).trans hb3).below' HA.out, hop⟩
        clear hb3 hop hN hN2 HQ
        go_wp2_with fail
        refine ⟨rfl, HB.out.1, ?_⟩
        rw [HE.out]
        exact ⟨rfl, HB.out.2⟩
      | ok q =>
        obtain ⟨u, p3⟩ := q
        have hl3 := needR_len hN2
        rw [hN2] at hr
        have HE : Hid (keyR (m + 1) o ps = .ok (x, p3)) := by unfold Hid; rw [keyR]; simp only [E1.out, hN, hN2]
        obtain ⟨v, rfl, h3, rfl⟩ := hr
        have HB3 : Hid (But r r W w3) := (HB2.out.more HA2.out).trans hb3
        have HG3 : Hid (Bx w2.heap.size [.int .i64 k1, .int .i64 n1, .string s1, .slice a1 len1 cap1] 57 w3) := HG2.out.but hb3 (by have := HS1.out; have := HSZ.out; omega)
        have HG0 : Hid (Bx w.heap.size [.int .i64 0, .int .i64 0, .string ⟨#[]⟩, .slice none 0 0] 57 w3) := HG.out.but HB3.out hlt
        obtain ⟨q0, q1, q2, q3, -⟩ := HG3.out.four
        obtain ⟨g0, g1, g2, g3, z0, z1, z2, z3⟩ := HG0.out.four
        clear hN hN2 HQ
        have HX3 : Hid (ExP (fun b => w.heap.size + 1 ≤ b) w3 (p1.length - p2.length) [.int .i64 k1, .int .i64 n1, .string s1, .slice a1 len1 cap1] x) := HX1.out.same ((Same.below HA2.out).trans (Same.but hb3 (by have := HS1.out; have := HSZ.out; omega))) (by have := HS1.out; have := HSZ.out; omega) (Nat.le_refl _)
        have HR3 : Hid (Rdr r w3 o p3) := h3
        have HL3 : Hid (p3.length < ps.length ∧ p1.length - p2.length ≤ ps.length - p3.length) := by have := HS1.out; unfold Hid; omega
        clear hb3 h3 hl3
        go_wp2_with fail
        refine bodyPost_ret (v := .agg #[.int .i64 k1, .int .i64 n1, .string s1, .slice a1 len1 cap1]) (by simp [results, Tryz.results114, go_sem, g0, g1, g2, g3]) rfl ?_
        exact outE HE.out (HB3.out.below' HA.out) hlt HR3.out HL3.out.1 HX3.out HL3.out.2
end Go.Proofs.YtfbpkbochhfnhaaGreatDoor
