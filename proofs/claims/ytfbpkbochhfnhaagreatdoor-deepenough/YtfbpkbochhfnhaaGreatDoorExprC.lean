/-
  Contracts of the checker's expr and exprs, by the height of what they look at.
-/
import Derived.Test.YtfbpkbochhfnhaaGreatDoorExprT
import Derived.Test.YtfbpkbochhfnhaaGreatDoorParts
namespace Go.Proofs.YtfbpkbochhfnhaaGreatDoor
open Go.ChangeShapes Go.WideShapes Go.ChangeAt Go.RowKit Go.Joins
set_option linter.unusedVariables false

/-- What expr does, at expressions of height below m. -/
def ExprC (m : Nat) : Prop := ∀ (B bc bm : Nat) (when : Int) (x : Ex) (cs : List Value) (d : Int) (st : St) (w : World), ExA B w m cs x → Chk bc bm when w st 0 → Tb B w → B ≤ bc → B ≤ bm → 1 ≤ d → d ≤ 21 →
  Calls Tryz.prog 66 #[.pointer (some ⟨bc, 0, none⟩), .agg cs.toArray, .int .i64 d] w (Out bc bm when 0 w (ckE m x d st))

def ExprsC (m : Nat) : Prop := ∀ (B bc bm : Nat) (when : Int) (l : List Ex) (v : Value) (d : Int) (st : St) (w : World), Sl w B 4 v l.length (fun i c => ∃ x, l[i]? = some x ∧ ExA B w m c x) → Chk bc bm when w st 0 → Tb B w → B ≤ bc → B ≤ bm → 1 ≤ d → d ≤ 21 →
  Calls Tryz.prog 99 #[.pointer (some ⟨bc, 0, none⟩), v, .int .i64 d] w (Out bc bm when 0 w (runL (fun x => ckE m x d) l st))

theorem ExA.shape {B : Nat} {w : World} {m : Nat} {cs : List Value} {x : Ex} (h : ExA B w m cs x) : ∃ (k n : Int) (s : ByteArray) (a : Option Addr) (len cap : Nat), cs = [.int .i64 k, .int .i64 n, .string s, .slice a len cap] := by
  cases m with
  | zero => exact h.elim
  | succ m =>
    cases x with
    | mk k n s l =>
      obtain ⟨v, rfl, _, _, _, a, cap, rfl, _⟩ := h
      exact ⟨k, n, s, a, _, cap, rfl⟩

theorem four {cs : List Value} (h : cs.length = 4) : ∃ c0 c1 c2 c3, cs = [c0, c1, c2, c3] := by
  match cs, h with
  | [c0, c1, c2, c3], _ => exact ⟨c0, c1, c2, c3, rfl⟩

set_option maxHeartbeats 4000000 in
theorem exprs_of {m : Nat} (hE : ExprC m) : ExprsC m := by
  intro B bc bm when l v d st w hv hc hT hB1 hB2 hd1 hd2
  obtain ⟨a, cap, rfl, hl, hs⟩ := hv
  have HE : Hid (ExprC m) := hE
  have H : Hid (Chk bc bm when w st 0) := hc
  have HT : Hid (Tb B w) := hT
  have HBL : Hid (B ≤ w.heap.size) := by have := hc.lt; unfold Hid; omega
  unfold maxLen at hl
  clear hE hc hT
  by_cases h0 : 0 < l.length
  · obtain ⟨b, off, rfl, hb, hi⟩ := hs h0
    have HI : Hid (∀ i, i < l.length → ∃ cs : List Value, cs.length = 4 ∧ (∀ j, j < 4 → w.cell? ⟨b, off + i * 4 + j, none⟩ = cs[j]?) ∧ ∃ x, l[i]? = some x ∧ ExA B w m cs x) := hi
    clear hi hs h0
    go_enter Tryz.func99, Tryz.ntmps99
    go_wp2_with fail
    go_loopw [10] (fun v wr => ∃ (i : Nat) (s : St), i ≤ l.length ∧ v = .int .i64 i ∧ Hid (But bc bm w wr ∧ Chk bc bm when wr s 0 ∧ runL (fun x => ckE m x d) (l.take i) st = .ok s)) (fun v _ => l.length - (intOf v).toNat)
    case atStart => exact ⟨0, st, by omega, rfl, But.refl _ _ _, H.out, rfl⟩
    case round =>
      obtain ⟨i, s, hil, rfl, HR⟩ := hrel
      by_cases hlt : i < l.length
      · have i1 : (i : Int) < (l.length : Int) := by omega
        have i2 : (0 : Int) ≤ (i : Int) := by omega
        obtain ⟨cs, hcl, hcell, x, hx, hex⟩ := HI.out i hlt
        obtain ⟨k0, n0, s0, a0, len0, cap0, rfl⟩ := hex.shape
        have HBW : Hid (Below B w wr) := HR.out.1.below HBL.out hB1 hB2
        have q0 : wr.cell? ⟨b, off + i * 4, none⟩ = some (.int .i64 k0) := by rw [HBW.out.cell (p := ⟨b, off + i * 4, none⟩) hb]; simpa using hcell 0 (by omega)
        have q1 : wr.cell? ⟨b, off + i * 4 + 1, none⟩ = some (.int .i64 n0) := by rw [HBW.out.cell (p := ⟨b, off + i * 4 + 1, none⟩) hb]; simpa using hcell 1 (by omega)
        have q2 : wr.cell? ⟨b, off + i * 4 + 2, none⟩ = some (.string s0) := by rw [HBW.out.cell (p := ⟨b, off + i * 4 + 2, none⟩) hb]; simpa using hcell 2 (by omega)
        have q3 : wr.cell? ⟨b, off + i * 4 + 3, none⟩ = some (.slice a0 len0 cap0) := by rw [HBW.out.cell (p := ⟨b, off + i * 4 + 3, none⟩) hb]; simpa using hcell 3 (by omega)
        have HX : Hid (l[i] = x) := by rw [List.getElem?_eq_getElem hlt] at hx; exact Option.some.inj hx
        have HEX : Hid (ExA B w m [.int .i64 k0, .int .i64 n0, .string s0, .slice a0 len0 cap0] x) := hex
        clear hcell hx hex hcl
        go_wp2_with fail
        refine (HE.out B bc bm when x [.int .i64 k0, .int .i64 n0, .string s0, .slice a0 len0 cap0] d s _ ((HEX.out.below HBW.out).below ((Below.refl _ _).alloc (by have := HBW.out.size; have := HBL.out; omega) _)) (HR.out.2.1.alloc _) ((HT.out.below HBW.out).below ((Below.refl _ _).alloc (by have := HBW.out.size; have := HBL.out; omega) _)) hB1 hB2 hd1 hd2).mono ?_
        rintro e w1 ⟨hb1, hr⟩
        have HO : Hid (But bc bm w w1) := HR.out.1.trans ((But.of_below ((Below.refl _ _).alloc (Nat.le_refl _) _)).trans hb1)
        clear hb1 q0 q1 q2 q3
        cases hR : ckE m x d s with
        | ok s' =>
          rw [hR] at hr
          obtain ⟨rfl, hc1⟩ := hr
          have HN : Hid (But bc bm w w1 ∧ Chk bc bm when w1 s' 0 ∧ runL (fun x => ckE m x d) (l.take (i + 1)) st = .ok s') := ⟨HO.out, hc1, runL_step hlt HR.out.2.2 (by rw [HX.out]; exact hR)⟩
          clear hc1 hR
          go_wp2_with fail
          go_roundw
          case rel => exact ⟨i + 1, s', by omega, by go_num, HN⟩
          case measure => simp [intOf]; omega
        | error er =>
          rw [hR] at hr
          subst hr
          have HN : Hid (runL (fun x => ckE m x d) l st = .error er) := runL_stop hlt HR.out.2.2 (by rw [HX.out]; exact hR)
          clear hR
          go_wp2_with fail
          refine ⟨rfl, ?_⟩
          rw [HN.out]
          exact out_error HO.out
      · have i1 : ¬ (i : Int) < (l.length : Int) := by omega
        have HN : Hid (runL (fun x => ckE m x d) l st = .ok s) := runL_all hlt HR.out.2.2
        go_wp2_with fail
        go_end0
        rw [HN.out]
        exact out_ok HR.out.1 HR.out.2.1
  · have hl0 : l = [] := List.eq_nil_of_length_eq_zero (by omega)
    subst hl0
    have HN : Hid (runL (fun x => ckE m x d) [] st = .ok st) := rfl
    clear hs h0
    go_enter Tryz.func99, Tryz.ntmps99
    go_wp2_with fail
    go_loop [10] (fun v => v = .int .i64 0) (fun _ => 0)
    case atStart => rfl
    case round =>
      subst hrel
      go_wp2_with fail
      go_end0
      rw [HN.out]
      exact out_ok (But.refl _ _ _) H.out
end Go.Proofs.YtfbpkbochhfnhaaGreatDoor
