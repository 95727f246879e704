/-
  Contracts of the checker's stmts and stmt, by the height of what they look at.
-/
import Derived.Test.YtfbpkbochhfnhaaGreatDoorStmtT
import Derived.Test.YtfbpkbochhfnhaaGreatDoorPartsS
namespace Go.Proofs.YtfbpkbochhfnhaaGreatDoor
open Go.ChangeShapes Go.WideShapes Go.ChangeAt Go.RowKit Go.Joins
set_option linter.unusedVariables false

def StmtC (m : Nat) : Prop := ∀ (B bc bm : Nat) (when : Int) (x : Sm) (cs : List Value) (d : Int) (st : St) (w : World), SmA B w m cs x → Chk bc bm when w st 0 → Tb B w → B ≤ bc → B ≤ bm → 1 ≤ d → d ≤ 21 →
  Calls Tryz.prog 100 #[.pointer (some ⟨bc, 0, none⟩), .agg cs.toArray, .int .i64 d] w (Out bc bm when 0 w (ckS when m x d st))

def StmtsC (m : Nat) : Prop := ∀ (B bc bm : Nat) (when : Int) (l : List Sm) (v : Value) (d : Int) (st : St) (w : World), Sl w B 6 v l.length (fun i c => ∃ x, l[i]? = some x ∧ SmA B w m c x) → Chk bc bm when w st 0 → Tb B w → B ≤ bc → B ≤ bm → 1 ≤ d → d ≤ 21 →
  Calls Tryz.prog 68 #[.pointer (some ⟨bc, 0, none⟩), v, .int .i64 d] w (Out bc bm when 0 w (runL (fun x => ckS when m x d) l st))

theorem SmA.shape {B : Nat} {w : World} {m : Nat} {cs : List Value} {x : Sm} (h : SmA B w m cs x) : ∃ (k : Int) (s t : ByteArray) (a0 : Option Addr) (len0 cap0 : Nat) (a1 : Option Addr) (len1 cap1 : Nat) (a2 : Option Addr) (len2 cap2 : Nat),
    cs = [.int .i64 k, .string s, .string t, .slice a0 len0 cap0, .slice a1 len1 cap1, .slice a2 len2 cap2] := by
  cases m with
  | zero => exact h.elim
  | succ m =>
    cases x with
    | mk k s t es b e =>
      obtain ⟨v1, v2, v3, rfl, _, _, _, ⟨a0, cap0, rfl, _⟩, ⟨a1, cap1, rfl, _⟩, ⟨a2, cap2, rfl, _⟩⟩ := h
      exact ⟨k, s, t, a0, _, cap0, a1, _, cap1, a2, _, cap2, rfl⟩

set_option maxHeartbeats 4000000 in
theorem stmts_of {m : Nat} (hE : StmtC m) : StmtsC m := by
  intro B bc bm when l v d st w hv hc hT hB1 hB2 hd1 hd2
  obtain ⟨a, cap, rfl, hl, hs⟩ := hv
  have HE : Hid (StmtC m) := hE
  have H : Hid (Chk bc bm when w st 0) := hc
  have HT : Hid (Tb B w) := hT
  have HBL : Hid (B ≤ w.heap.size) := by have := hc.lt; unfold Hid; omega
  unfold maxLen at hl
  clear hE hc hT
  by_cases h0 : 0 < l.length
  · obtain ⟨b, off, rfl, hb, hi⟩ := hs h0
    have HI : Hid (∀ i, i < l.length → ∃ cs : List Value, cs.length = 6 ∧ (∀ j, j < 6 → w.cell? ⟨b, off + i * 6 + j, none⟩ = cs[j]?) ∧ ∃ x, l[i]? = some x ∧ SmA B w m cs x) := hi
    clear hi hs h0
    go_enter Tryz.func68, Tryz.ntmps68
    go_wp2_with fail
    go_loopw [10] (fun v wr => ∃ (i : Nat) (s : St), i ≤ l.length ∧ v = .int .i64 i ∧ Hid (But bc bm w wr ∧ Chk bc bm when wr s 0 ∧ runL (fun x => ckS when m x d) (l.take i) st = .ok s)) (fun v _ => l.length - (intOf v).toNat)
    case atStart => exact ⟨0, st, by omega, rfl, But.refl _ _ _, H.out, rfl⟩
    case round =>
      obtain ⟨i, s, hil, rfl, HR⟩ := hrel
      by_cases hlt : i < l.length
      · have i1 : (i : Int) < (l.length : Int) := by omega
        have i2 : (0 : Int) ≤ (i : Int) := by omega
        obtain ⟨cs, hcl, hcell, x, hx, hex⟩ := HI.out i hlt
        obtain ⟨k0, s0, t0, a0, len0, cap0, a1, len1, cap1, a2, len2, cap2, rfl⟩ := hex.shape
        have HBW : Hid (Below B w wr) := HR.out.1.below HBL.out hB1 hB2
        have q0 : wr.cell? ⟨b, off + i * 6, none⟩ = some (.int .i64 k0) := by rw [HBW.out.cell (p := ⟨b, off + i * 6, none⟩) hb]; simpa using hcell 0 (by omega)
        have q1 : wr.cell? ⟨b, off + i * 6 + 1, none⟩ = some (.string s0) := by rw [HBW.out.cell (p := ⟨b, off + i * 6 + 1, none⟩) hb]; simpa using hcell 1 (by omega)
        have q2 : wr.cell? ⟨b, off + i * 6 + 2, none⟩ = some (.string t0) := by rw [HBW.out.cell (p := ⟨b, off + i * 6 + 2, none⟩) hb]; simpa using hcell 2 (by omega)
        have q3 : wr.cell? ⟨b, off + i * 6 + 3, none⟩ = some (.slice a0 len0 cap0) := by rw [HBW.out.cell (p := ⟨b, off + i * 6 + 3, none⟩) hb]; simpa using hcell 3 (by omega)
        have q4 : wr.cell? ⟨b, off + i * 6 + 4, none⟩ = some (.slice a1 len1 cap1) := by rw [HBW.out.cell (p := ⟨b, off + i * 6 + 4, none⟩) hb]; simpa using hcell 4 (by omega)
        have q5 : wr.cell? ⟨b, off + i * 6 + 5, none⟩ = some (.slice a2 len2 cap2) := by rw [HBW.out.cell (p := ⟨b, off + i * 6 + 5, none⟩) hb]; simpa using hcell 5 (by omega)
        have HX : Hid (l[i] = x) := by rw [List.getElem?_eq_getElem hlt] at hx; exact Option.some.inj hx
        have HEX : Hid (SmA B w m [.int .i64 k0, .string s0, .string t0, .slice a0 len0 cap0, .slice a1 len1 cap1, .slice a2 len2 cap2] x) := hex
        clear hcell hx hex hcl
        go_wp2_with fail
        refine (HE.out B bc bm when x [.int .i64 k0, .string s0, .string t0, .slice a0 len0 cap0, .slice a1 len1 cap1, .slice a2 len2 cap2] d s _ ((HEX.out.below HBW.out).below ((Below.refl _ _).alloc (by have := HBW.out.size; have := HBL.out; omega) _)) (HR.out.2.1.alloc _) ((HT.out.below HBW.out).below ((Below.refl _ _).alloc (by have := HBW.out.size; have := HBL.out; omega) _)) hB1 hB2 hd1 hd2).mono ?_
        rintro e w1 ⟨hb1, hr⟩
        have HO : Hid (But bc bm w w1) := HR.out.1.trans ((But.of_below ((Below.refl _ _).alloc (Nat.le_refl _) _)).trans hb1)
        clear hb1 q0 q1 q2 q3 q4 q5
        cases hR : ckS when m x d s with
        | ok s' =>
          rw [hR] at hr
          obtain ⟨rfl, hc1⟩ := hr
          have HN : Hid (But bc bm w w1 ∧ Chk bc bm when w1 s' 0 ∧ runL (fun x => ckS when m x d) (l.take (i + 1)) st = .ok s') := ⟨HO.out, hc1, runL_step hlt HR.out.2.2 (by rw [HX.out]; exact hR)⟩
          clear hc1 hR
          go_wp2_with fail
          go_roundw
          case rel => exact ⟨i + 1, s', by omega, by go_num, HN⟩
          case measure => simp [intOf]; omega
        | error er =>
          rw [hR] at hr
          subst hr
          have HN : Hid (runL (fun x => ckS when m x d) l st = .error er) := runL_stop hlt HR.out.2.2 (by rw [HX.out]; exact hR)
          clear hR
          go_wp2_with fail
          refine ⟨rfl, ?_⟩
          rw [HN.out]
          exact out_error HO.out
      · have i1 : ¬ (i : Int) < (l.length : Int) := by omega
        have HN : Hid (runL (fun x => ckS when m x d) l st = .ok s) := runL_all hlt HR.out.2.2
        go_wp2_with fail
        go_end0
        rw [HN.out]
        exact out_ok HR.out.1 HR.out.2.1
  · have hl0 : l = [] := List.eq_nil_of_length_eq_zero (by omega)
    subst hl0
    have HN : Hid (runL (fun x => ckS when m x d) [] st = .ok st) := rfl
    clear hs h0
    go_enter Tryz.func68, Tryz.ntmps68
    go_wp2_with fail
    go_loop [10] (fun v => v = .int .i64 0) (fun _ => 0)
    case atStart => rfl
    case round =>
      subst hrel
      go_wp2_with fail
      go_end0
      rw [HN.out]
      exact out_ok (But.refl _ _ _) H.out
end Go.Proofs.YtfbpkbochhfnhaaGreatDoor
