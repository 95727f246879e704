/-
  The census' block, whatever the height.
-/
import Derived.Test.YtjconmohifaliaaDoorRefS
namespace Go.Proofs.YtjconmohifaliaaDoor
open Go.ChangeShapes Go.WideShapes Go.ChangeAt Go.RowKit Go.Joins
set_option linter.unusedVariables false

set_option maxHeartbeats 8000000 in
theorem blockR_of {m : Nat} (hS : StmtR m) : BlockR m := by
  intro B cb when l v d R w c hv hc hB hd1 hd2
  obtain ⟨a, cap, rfl, hlen, hsl⟩ := hv
  obtain ⟨xs0, ys0, n0', e0', hcn0⟩ := hc.cn
  have HX : Hid (StmtR m) := hS
  have HSL : Hid (0 < l.length → ∃ b off, a = some ⟨b, off, none⟩ ∧ b < B ∧ ∀ i, i < l.length → ∃ cs : List Value, cs.length = 6 ∧ (∀ j, j < 6 → w.cell? ⟨b, off + i * 6 + j, none⟩ = cs[j]?) ∧ ∃ x, l[i]? = some x ∧ SmA B w m cs x) := hsl
  have HCN : Hid (Cn cb w c xs0 ys0 n0' when e0') := hcn0
  have HCL : Hid (CenA cb when w c 0 R) := hc
  unfold maxLen at hlen
  clear hS hc hsl hcn0
  go_enter Tryd.func22, Tryd.ntmps22
  go_wp2_with fail
  go_loopw [6] (fun v wr => ∃ (i : Nat) (ci : Value × Value), i ≤ l.length ∧ v = .int .i64 i ∧ Hid (Fr cb w c wr ci ∧ CenA cb when wr ci 0 (bindR R (runL (fun x => ckS when m x d) (l.take i))))) (fun v _ => l.length - (intOf v).toNat)
  case atStart => exact ⟨0, c, by omega, rfl, Fr.refl _ _ _, by cases R <;> exact HCL.out⟩
  case round =>
    obtain ⟨i, ci, hil, rfl, HR⟩ := hrel
    cases hRi : bindR R (runL (fun x => ckS when m x d) (l.take i)) with
    | error x =>
      have HCX : Hid (CenA cb when wr ci 0 (.error x)) := by have := HR.out.2; rw [hRi] at this; exact this
      obtain ⟨hx0, xs9, ys9, n9, hcn9⟩ := HCX.out
      have e4 := hcn9.c4
      have bx : (x == 0) = false := by simpa using hx0
      have HE : Hid (bindR R (runL (fun x => ckS when m x d) l) = .error x) := by
        cases R with
        | error y => exact hRi
        | ok st2 =>
          have h1 := runL_err (r := l.drop i) (show runL (fun x => ckS when m x d) (l.take i) st2 = .error x from hRi)
          rw [List.take_append_drop] at h1
          exact h1
      clear hcn9 hx0 hRi
      by_cases hlt : i < l.length
      · have i1 : (i : Int) < (l.length : Int) := by omega
        go_wp2_with fail
        go_end0
        rw [HE.out]
        exact ⟨rfl, ci, HR.out.1, HCX.out⟩
      · have i1 : ¬ (i : Int) < (l.length : Int) := by omega
        go_wp2_with fail
        go_end0
        rw [HE.out]
        exact ⟨rfl, ci, HR.out.1, HCX.out⟩
    | ok s9 =>
      have HCX : Hid (CenA cb when wr ci 0 (.ok s9)) := by have := HR.out.2; rw [hRi] at this; exact this
      obtain ⟨xs9, ys9, hcn9, _⟩ := (show CenA cb when wr ci 0 (.ok s9) from HCX.out)
      have e4 := hcn9.c4
      have HR4 : Hid (∃ st2, R = .ok st2 ∧ runL (fun x => ckS when m x d) (l.take i) st2 = .ok s9) := by
        cases R with
        | error y => simp [bindR] at hRi
        | ok st2 => exact ⟨st2, rfl, hRi⟩
      clear hcn9 hRi
      by_cases hlt : i < l.length
      · have i1 : (i : Int) < (l.length : Int) := by omega
        have i2 : (0 : Int) ≤ (i : Int) := by omega
        obtain ⟨b, off, rfl, hb, hi⟩ := HSL.out (by omega)
        obtain ⟨cs, hcl, hcell, x, hx, hex⟩ := hi i hlt
        obtain ⟨k0, s0, t0, a0, len0, cap0, a1, len1, cap1, a2, len2, cap2, rfl⟩ := hex.shape
        have HBW : Hid (Below B w wr) := HR.out.1.below HCN.out hB
        have p0 : wr.cell? ⟨b, off + i * 6, none⟩ = some (.int .i64 k0) := by rw [HBW.out.cell (p := ⟨b, off + i * 6, none⟩) hb]; simpa using hcell 0 (by omega)
        have p1 : wr.cell? ⟨b, off + i * 6 + 1, none⟩ = some (.string s0) := by rw [HBW.out.cell (p := ⟨b, off + i * 6 + 1, none⟩) hb]; simpa using hcell 1 (by omega)
        have p2 : wr.cell? ⟨b, off + i * 6 + 2, none⟩ = some (.string t0) := by rw [HBW.out.cell (p := ⟨b, off + i * 6 + 2, none⟩) hb]; simpa using hcell 2 (by omega)
        have p3 : wr.cell? ⟨b, off + i * 6 + 3, none⟩ = some (.slice a0 len0 cap0) := by rw [HBW.out.cell (p := ⟨b, off + i * 6 + 3, none⟩) hb]; simpa using hcell 3 (by omega)
        have p4 : wr.cell? ⟨b, off + i * 6 + 4, none⟩ = some (.slice a1 len1 cap1) := by rw [HBW.out.cell (p := ⟨b, off + i * 6 + 4, none⟩) hb]; simpa using hcell 4 (by omega)
        have p5 : wr.cell? ⟨b, off + i * 6 + 5, none⟩ = some (.slice a2 len2 cap2) := by rw [HBW.out.cell (p := ⟨b, off + i * 6 + 5, none⟩) hb]; simpa using hcell 5 (by omega)
        have HXX : Hid (l[i] = x) := by rw [List.getElem?_eq_getElem hlt] at hx; exact Option.some.inj hx
        have HEX : Hid (SmA B wr m [.int .i64 k0, .string s0, .string t0, .slice a0 len0 cap0, .slice a1 len1 cap1, .slice a2 len2 cap2] x) := hex.below HBW.out
        clear hcell hx hex hcl hi
        go_wp2_with fail
        refine (HX.out B cb when x [.int .i64 k0, .string s0, .string t0, .slice a0 len0 cap0, .slice a1 len1 cap1, .slice a2 len2 cap2] d s9 _ ci HEX.out HCX.out hB hd1 hd2).mono ?_
        rintro e w9 ⟨rfl, c9, hf9, hc9⟩
        have HN9 : Hid (Fr cb w c w9 c9 ∧ CenA cb when w9 c9 0 (bindR R (runL (fun x => ckS when m x d) (l.take (i + 1))))) := by
          refine ⟨HR.out.1.trans hf9, ?_⟩
          obtain ⟨st2, h1, h2⟩ := HR4.out
          rw [h1]
          show CenA cb when w9 c9 0 (runL (fun x => ckS when m x d) (l.take (i + 1)) st2)
          rw [List.take_succ_eq_append_getElem hlt, runL_snoc h2, HXX.out]
          exact hc9
        clear hf9 hc9 p0 p1 p2 p3 p4 p5 e4
        go_wp2_with fail
        go_roundw
        case rel => exact ⟨i + 1, c9, by omega, by go_num, HN9⟩
        case measure => simp [intOf]; omega
      · have i1 : ¬ (i : Int) < (l.length : Int) := by omega
        have HE : Hid (bindR R (runL (fun x => ckS when m x d) l) = .ok s9) := by
          obtain ⟨st2, h1, h2⟩ := HR4.out
          rw [h1]
          exact runL_all hlt h2
        go_wp2_with fail
        go_end0
        rw [HE.out]
        exact ⟨rfl, ci, HR.out.1, HCX.out⟩

theorem stmtR_all : ∀ m, StmtR m
  | 0 => fun _ _ _ _ _ _ _ _ _ h => h.elim
  | m + 1 => stmtR_of (exprR_all m) (blockR_of (stmtR_all m))
theorem blockR_all (m : Nat) : BlockR m := blockR_of (stmtR_all m)
end Go.Proofs.YtjconmohifaliaaDoor
