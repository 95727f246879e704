/-
  Contracts of the program's elemText and exprsText, given exprText's.
-/
import Derived.Test.YtjconmohifaliaaDoorPrKid
import Derived.Deep.OwnRows
import Derived.BigQuiet
namespace Go.Proofs.YtjconmohifaliaaDoor
open Go.ChangeShapes Go.WideShapes Go.ChangeAt Go.RowKit Go.Joins
set_option linter.unusedVariables false
set_option maxRecDepth 100000

theorem joinTail_is (x : List UInt8) (r : List (List UInt8)) : joinL (x :: r) = x ++ Lib.joinTail [44, 32] r := by
  induction r generalizing x with
  | nil => simp [joinL, Lib.joinTail]
  | cons y r ih => rw [joinL, ih y]; simp [Lib.joinTail]

theorem join_is (l : List (List UInt8)) : Lib.join l [44, 32] = joinL l := by
  cases l with
  | nil => rfl
  | cons x r => rw [Lib.join_cons, joinTail_is]

set_option maxHeartbeats 2000000 in
theorem elemText_c {m : Nat} (hX : TextE 18 m) (B : Nat) (s : ByteArray) (x : Ex) (cs : List Value) (w : World) (hx : ExA B w m cs x) (hB : B ≤ w.heap.size) (hok : okE m x) (hlen : (exT m x).length ≤ 100000000) (hs : s.size ≤ 200) (hP : Pow w) :
    Calls Tryd.prog 34 #[.string s, .agg cs.toArray] w fun e w' => e = .returned (.string (bs (s.toList ++ [91] ++ exT m x ++ [93]))) ∧ Below w.heap.size w w' := by
  obtain ⟨k0, n0, s0, a0, len0, cap0, rfl⟩ := hx.shape
  obtain ⟨W, hW⟩ : ∃ W, W = w.alloc (.cells #[.int .i64 k0, .int .i64 n0, .string s0, .slice a0 len0 cap0] 36) := ⟨_, rfl⟩
  have HW : Hid (Below w.heap.size w W) := by rw [hW]; exact (Below.refl _ _).alloc (Nat.le_refl _) _
  have HX : Hid (ExA B W m [.int .i64 k0, .int .i64 n0, .string s0, .slice a0 len0 cap0] x) := hx.below (HW.out.mono hB)
  have HP : Hid (Pow W) := hP.stays HW.out
  obtain ⟨T0, hT0⟩ : ∃ T, T = bs (exT m x) := ⟨_, rfl⟩
  have t0 : T0.size = (exT m x).length := by rw [hT0, bs_size]
  have HE : Hid (s ++ ⟨#[91]⟩ ++ T0 ++ ⟨#[93]⟩ = bs (s.toList ++ [91] ++ exT m x ++ [93])) := bs_of (by rw [hT0]; simp only [toL_append, bs_list, toL_mk])
  have z1 : ¬ 9223372036854775807 < s.size + 1 := by omega
  have z2 : ¬ 9223372036854775807 < s.size + 1 + T0.size := by omega
  have z3 : ¬ 9223372036854775807 < s.size + 1 + T0.size + 1 := by omega
  have HB : Hid (B ≤ W.heap.size) := Nat.le_trans hB HW.out.size
  have hc := hX B x _ W HX.out HB.out hok hlen HP.out
  rw [← hT0] at hc
  have HC : Hid _ := hc
  have HWW : Hid (W = _) := hW
  clear hW hc hX hx hP t0 hT0 hlen hs
  go_enter Tryd.func34, Tryd.ntmps34
  go_wp2_with fail
  rw [← HWW.out]
  clear HWW
  refine Calls.mono HC.out ?_
  rintro e w1 ⟨rfl, hb1⟩
  have HB1 : Hid (Below w.heap.size w w1) := bl_trans HW.out hb1
  clear hb1 HC
  go_wp2_with fail
  go_ret
  exact ⟨ret_str HE.out, HB1.out⟩

/-- The texts that were made so far. -/
def Made (w : World) (g : Nat) (m : Nat) (l : List Ex) (i : Nat) (wr : World) : Prop :=
  Below g w wr ∧ ∃ cs : Array Value, wr.heap[g]? = some (.cells cs 9 (0, 0)) ∧ cs.size = l.length ∧ ∀ j, j < i → cs[j]? = some (.string (bs (exT m (l.getD j default))))

set_option maxHeartbeats 4000000 in
theorem exprsText_c {m : Nat} (hX : TextE 18 m) (B : Nat) (l : List Ex) (v : Value) (w : World) (hv : Sl w B 4 v l.length (fun i c => ∃ x, l[i]? = some x ∧ ExA B w m c x)) (hB : B ≤ w.heap.size) (hok : ∀ x ∈ l, okE m x) (hlen : (joinL (l.map (exT m))).length ≤ 100000000) (hl2 : l.length ≤ 100000000) (hl0 : 0 < l.length) (hP : Pow w) :
    Calls Tryd.prog 35 #[v] w fun e w' => e = .returned (.string (bs (joinL (l.map (exT m))))) ∧ Below w.heap.size w w' := by
  obtain ⟨a, cap, rfl, hmax, hsl⟩ := hv
  obtain ⟨b, off, rfl, hb, hi⟩ := hsl hl0
  have hbw : b < w.heap.size := by omega
  have HI : Hid (∀ i, i < l.length → ∃ cs : List Value, cs.length = 4 ∧ (∀ j, j < 4 → w.cell? ⟨b, off + i * 4 + j, none⟩ = cs[j]?) ∧ ∃ x, l[i]? = some x ∧ ExA B w m cs x) := hi
  have HX : Hid (TextE 18 m) := hX
  have HOK : Hid (∀ x ∈ l, okE m x) := hok
  have HL : Hid ((joinL (l.map (exT m))).length ≤ 100000000) := hlen
  have HP : Hid (Pow w) := hP
  have hmk := run_make_row' (P := Tryd.prog) 56 9 (.string ⟨#[]⟩) 16 Tryd.underlying56 infoS rfl .i64 .i64 l.length (by omega) (by omega)
  obtain ⟨W, hW⟩ : ∃ W, W = w.alloc (.cells (madeCells #[.string ⟨#[]⟩] l.length) 9) := ⟨_, rfl⟩
  have HM0 : Hid (Made w w.heap.size m l 0 W) := by
    rw [hW]
    exact ⟨(Below.refl _ _).alloc (Nat.le_refl _) _, _, by show (w.heap.push _)[w.heap.size]? = _; rw [Array.getElem?_push_size], size_madeCells _ _, fun j hj => absurd hj (Nat.not_lt_zero j)⟩
  have HWW : Hid (W = _) := hW
  clear hi hX hok hP hsl hW hlen
  go_enter Tryd.func35, Tryd.ntmps35
  go_wp2_with fail
  rw [← HWW.out]
  clear HWW hmk
  go_loopw [11] (fun v wr => ∃ i : Nat, i ≤ l.length ∧ v = .int .i64 i ∧ Hid (Made w w.heap.size m l i wr)) (fun v _ => l.length - (intOf v).toNat)
  case atStart => exact ⟨0, by omega, rfl, HM0.out⟩
  case round =>
    obtain ⟨i, hil, rfl, HR⟩ := hrel
    clear HM0
    by_cases hlt : i < l.length
    · have i1 : (i : Int) < (l.length : Int) := by omega
      have i2 : (0 : Int) ≤ (i : Int) := by omega
      obtain ⟨k0, n0, s0, a0, len0, cap0, p0, p1, p2, p3, hx0, hm0⟩ := kid HI.out i (off + i * 4) rfl hlt
      obtain ⟨hbr, cs, hg, hcs, hj⟩ := HR.out
      have HBR : Hid (Below w.heap.size w wr) := hbr
      have q0 : wr.cell? ⟨b, off + i * 4, none⟩ = some (.int .i64 k0) := (HBR.out.cell (p := ⟨b, off + i * 4, none⟩) hbw).trans p0
      have q1 : wr.cell? ⟨b, off + i * 4 + 1, none⟩ = some (.int .i64 n0) := (HBR.out.cell (p := ⟨b, off + i * 4 + 1, none⟩) hbw).trans p1
      have q2 : wr.cell? ⟨b, off + i * 4 + 2, none⟩ = some (.string s0) := (HBR.out.cell (p := ⟨b, off + i * 4 + 2, none⟩) hbw).trans p2
      have q3 : wr.cell? ⟨b, off + i * 4 + 3, none⟩ = some (.slice a0 len0 cap0) := (HBR.out.cell (p := ⟨b, off + i * 4 + 3, none⟩) hbw).trans p3
      have HG : Hid (wr.heap[w.heap.size]? = some (.cells cs 9 (0, 0)) ∧ cs.size = l.length ∧ ∀ j, j < i → cs[j]? = some (.string (bs (exT m (l.getD j default))))) := ⟨hg, hcs, hj⟩
      have HGL : Hid (w.heap.size < wr.heap.size) := by
        show w.heap.size < wr.heap.size
        rcases Nat.lt_or_ge w.heap.size wr.heap.size with h' | h'
        · exact h'
        · simp [Array.getElem?_eq_none h'] at hg
      have HM : Hid (l.getD i default ∈ l) := hm0
      clear hg hcs hj hbr p0 p1 p2 p3 hm0
      have HB1 : Hid (Below wr.heap.size wr (wr.alloc (.cells #[.int .i64 k0, .int .i64 n0, .string s0, .slice a0 len0 cap0] 36))) := (Below.refl _ _).alloc (Nat.le_refl _) _
      have HSZ : Hid ((exT m (l.getD i default)).length ≤ 100000000) := Nat.le_trans (joinL_mem_len (List.mem_map.2 ⟨_, HM.out, rfl⟩)) HL.out
      obtain ⟨W1, hW1⟩ : ∃ W1, W1 = wr.alloc (.cells #[.int .i64 k0, .int .i64 n0, .string s0, .slice a0 len0 cap0] 36) := ⟨_, rfl⟩
      rw [← hW1] at HB1
      have HWW : Hid (W1 = _) := hW1
      clear hW1
      go_wp2_with fail
      rw [← HWW.out]
      clear HWW q0 q1 q2 q3
      have HB2 : Hid (Below w.heap.size w W1) := bl_trans HBR.out HB1.out
      refine (HX.out B (l.getD i default) [.int .i64 k0, .int .i64 n0, .string s0, .slice a0 len0 cap0] W1 (hx0.out.below (HB2.out.mono hB)) (Nat.le_trans hB HB2.out.size) (HOK.out _ HM.out) HSZ.out (HP.out.stays HB2.out)).mono ?_
      rintro e w2 ⟨rfl, hb2⟩
      have HB3 : Hid (Below wr.heap.size wr w2) := bl_trans HB1.out hb2
      have HG2 : Hid (w2.heap[w.heap.size]? = some (.cells cs 9 (0, 0))) := by
        show w2.heap[w.heap.size]? = _
        rw [HB3.out.block _ HGL.out]
        exact HG.out.1
      have q4 : w2.cell? ⟨w.heap.size, i, none⟩ = cs[i]? := Lib.cell_of_heap HG2.out i
      rw [Array.getElem?_eq_getElem (by rw [HG.out.2.1]; exact hlt)] at q4
      have q5 : w2.frozen? ⟨w.heap.size, i, none⟩ = false := Lib.frozen_of_heap HG2.out i
      have HN : Hid (Made w w.heap.size m l (i + 1) (w2.setCell ⟨w.heap.size, i, none⟩ (.string (bs (exT m (l.getD i default)))))) := by
        refine ⟨(bl_trans HBR.out HB3.out).setCell (p := ⟨w.heap.size, i, none⟩) (Nat.le_refl _) _, cs.setIfInBounds i (.string (bs (exT m (l.getD i default)))), ?_, by simp [HG.out.2.1], ?_⟩
        · simp [World.setCell, Array.getElem?_modify, HG2.out]
        · intro j hj
          by_cases hji : j = i
          · subst hji
            simp [HG.out.2.1, hlt]
          · rw [Array.getElem?_setIfInBounds_ne (by omega)]
            exact HG.out.2.2 j (by omega)
      clear hb2
      obtain ⟨T0, hT0⟩ : ∃ T, T = bs (exT m (l.getD i default)) := ⟨_, rfl⟩
      rw [← hT0] at HN ⊢
      clear hT0
      go_wp2_with fail
      go_roundw
      case rel => exact ⟨i + 1, by omega, by go_num, HN⟩
      case measure => simp [intOf]; omega
    · have i1 : ¬ (i : Int) < (l.length : Int) := by omega
      obtain ⟨hbr, cs, hg, hcs, hj⟩ := HR.out
      have HBR : Hid (Below w.heap.size w wr) := hbr
      have HC : Hid (Calls Tryd.prog 51 #[.slice (some ⟨w.heap.size, 0, none⟩) l.length l.length, .string ⟨#[44, 32]⟩] wr fun e w' => e = .returned (.string (bs (joinL (l.map (exT m))))) ∧ Below wr.heap.size wr w') := by
        have hgl : w.heap.size < wr.heap.size := by
          rcases Nat.lt_or_ge w.heap.size wr.heap.size with h' | h'
          · exact h'
          · simp [Array.getElem?_eq_none h'] at hg
        have e1 : (l.map fun x => bs (exT m x)).map (·.data.toList) = l.map (exT m) := by
          rw [List.map_map]
          exact List.map_congr_left fun x _ => by simp [bs]
        have e2 : (⟨#[44, 32]⟩ : ByteArray).data.toList = [44, 32] := rfl
        have h := Tryd.strings_Join w.heap.size 0 l.length (l.map fun x => bs (exT m x)) ⟨#[44, 32]⟩ wr (fun j x hx => by
            rw [Lib.cell_of_heap hg]
            have hjl : j < l.length := by have := (List.getElem?_eq_some_iff.1 hx).1; simpa using this
            rw [Nat.zero_add, hj j (by omega)]
            simp only [List.getElem?_map, List.getElem?_eq_getElem hjl, Option.map_some, Option.some.injEq] at hx
            rw [List.getD_eq_getElem?_getD, List.getElem?_eq_getElem hjl, Option.getD_some, hx]) hgl (by simp; omega) (by simp) (by rw [e1, e2, join_is]; have := HL.out; omega)
        rw [e1, e2, join_is, List.length_map] at h
        exact h
      clear hg hcs hj hbr
      go_wp2_with fail
      refine Calls.mono HC.out ?_
      rintro e w3 ⟨rfl, hw3⟩
      have HW3 : Hid (Below w.heap.size w w3) := bl_trans HBR.out hw3
      clear hw3
      go_wp2_with fail
      go_ret
      exact ⟨rfl, HW3.out⟩
end Go.Proofs.YtjconmohifaliaaDoor
