/-
  Contracts of blocks' and statements' texts, the program's and the document's.
-/
import Derived.Test.YtjconmohifaliaaDoorPrS
import Derived.Test.YtjconmohifaliaaDoorPrT
import Derived.Test.YtjconmohifaliaaDoorPrD
namespace Go.Proofs.YtjconmohifaliaaDoor
open Go.ChangeShapes Go.WideShapes Go.ChangeAt Go.RowKit Go.Joins
set_option linter.unusedVariables false
set_option maxRecDepth 100000

/-- An element of a list of statements. -/
theorem kidS {B m b off : Nat} {w : World} {l : List Sm} (hi : ∀ i, i < l.length → ∃ cs : List Value, cs.length = 6 ∧ (∀ j, j < 6 → w.cell? ⟨b, off + i * 6 + j, none⟩ = cs[j]?) ∧ ∃ x, l[i]? = some x ∧ SmA B w m cs x) (i : Nat) (h : i < l.length) :
    ∃ (c0 : Int) (c1 c2 : ByteArray) (c3 : Option Addr) (c4 c5 : Nat) (c6 : Option Addr) (c7 c8 : Nat) (c9 : Option Addr) (ca cb : Nat), w.cell? ⟨b, off + i * 6, none⟩ = some (.int .i64 c0) ∧ w.cell? ⟨b, off + i * 6 + 1, none⟩ = some (.string c1) ∧ w.cell? ⟨b, off + i * 6 + 2, none⟩ = some (.string c2) ∧ w.cell? ⟨b, off + i * 6 + 3, none⟩ = some (.slice c3 c4 c5) ∧ w.cell? ⟨b, off + i * 6 + 4, none⟩ = some (.slice c6 c7 c8) ∧ w.cell? ⟨b, off + i * 6 + 5, none⟩ = some (.slice c9 ca cb) ∧ Hid (SmA B w m [.int .i64 c0, .string c1, .string c2, .slice c3 c4 c5, .slice c6 c7 c8, .slice c9 ca cb] l[i]) := by
  obtain ⟨cs, hcl, hcell, x, hx, hex⟩ := hi i h
  obtain ⟨c0, c1, c2, c3, c4, c5, c6, c7, c8, c9, ca, cb, rfl⟩ := hex.shape
  rw [List.getElem?_eq_getElem h] at hx
  cases hx
  exact ⟨c0, c1, c2, c3, c4, c5, c6, c7, c8, c9, ca, cb, hcell 0 (by omega), hcell 1 (by omega), hcell 2 (by omega), hcell 3 (by omega), hcell 4 (by omega), hcell 5 (by omega), hex⟩

/-- The statements up to k. -/
def upto (m : Nat) (l : List Sm) (k : Nat) : List UInt8 := [123, 32] ++ (l.take k).flatMap (fun x => smT m x ++ [32])
theorem upto_len (m : Nat) (l : List Sm) (k : Nat) : (upto m l k).length + 1 ≤ (blL (smT m) l).length := by
  have := flat_take_len (fun x => smT m x ++ [32]) l k
  simp only [upto, blL, List.length_append, List.length_cons, List.length_nil]
  omega
theorem upto_succ (m : Nat) (l : List Sm) (k : Nat) (h : k < l.length) : upto m l (k + 1) = upto m l k ++ smT m l[k] ++ [32] := by
  simp only [upto, flat_take_succ _ l k h, List.append_assoc]
theorem upto_all (m : Nat) (l : List Sm) (k : Nat) (h : ¬ k < l.length) : upto m l k ++ [125] = blL (smT m) l := by
  simp only [upto, blL, List.take_of_length_le (show l.length ≤ k by omega)]
theorem upto_mem (m : Nat) (l : List Sm) (k : Nat) (h : k < l.length) : (smT m l[k]).length ≤ (blL (smT m) l).length := by
  have := flat_mem_len (fun x => smT m x ++ [32]) (List.getElem_mem h)
  simp only [blL, List.length_append, List.length_cons, List.length_nil] at this ⊢
  omega

set_option maxHeartbeats 4000000 in
theorem blockText_of {m : Nat} (hX : TextS 31 m) : TextB 17 m := by
  intro B l v w hv hB hok hlen hP
  obtain ⟨a, cap, rfl, hmax, hsl⟩ := hv
  have HSL : Hid _ := hsl
  have HX : Hid (TextS 31 m) := hX
  have HOK : Hid (∀ x ∈ l, okS m x) := hok
  have HL : Hid ((blL (smT m) l).length ≤ 100000000) := hlen
  have HP : Hid (Pow w) := hP
  unfold maxLen at hmax
  obtain ⟨o, ho⟩ : ∃ o, o = Obj.cells #[.pointer none, .slice none 0 0] 33 := ⟨_, rfl⟩
  have HB0 : Hid (Bd w.heap.size w.heap.size [] (w.alloc o)) := by rw [ho]; exact Bd.new w
  have HW0 : Hid (Below w.heap.size w (w.alloc o)) := (Below.refl _ _).alloc (Nat.le_refl _) o
  clear hsl hX hok hlen hP
  go_enter Tryd.func17, Tryd.ntmps17
  go_wp2_with fail
  rw [← ho]
  clear ho
  refine (HB0.out.write ⟨#[123, 32]⟩ (by have e : (⟨#[123, 32]⟩ : ByteArray).size = 2 := rfl; rw [e]; simp) (by simp)).mono ?_
  rintro e w1 ⟨rfl, hb1, hw1⟩
  have HB1 : Hid (Bd w.heap.size w.heap.size (upto m l 0) w1) := by
    rw [toL_mk [123, 32]] at hb1
    exact hb1
  have HW1 : Hid (Below w.heap.size w w1) := HW0.out.trans hw1
  clear hb1 hw1 HB0 HW0
  go_wp2_with fail
  go_loopw [9] (fun v wr => ∃ k : Nat, k ≤ l.length ∧ v = .int .i64 k ∧ Hid (Bd w.heap.size w.heap.size (upto m l k) wr ∧ Below w.heap.size w wr)) (fun v _ => l.length - (intOf v).toNat)
  case atStart => exact ⟨0, by omega, rfl, HB1.out, HW1.out⟩
  case round =>
    obtain ⟨i, hil, rfl, HR⟩ := hrel
    clear HB1 HW1
    have HLK : Hid ((upto m l i).length ≤ 100000000) := by have := upto_len m l i; have := HL.out; unfold Hid; omega
    by_cases hk2 : i < l.length
    · have i1 : (i : Int) < (l.length : Int) := by omega
      have i2 : (0 : Int) ≤ (i : Int) := by omega
      obtain ⟨b, off, rfl, hb, hi⟩ := HSL.out (by omega)
      have hbw : b < w.heap.size := by omega
      obtain ⟨c0, c1, c2, c3, c4, c5, c6, c7, c8, c9, ca, cb, p0, p1, p2, p3, p4, p5, hx0⟩ := kidS hi i hk2
      have q0 : wr.cell? ⟨b, off + i * 6, none⟩ = some (.int .i64 c0) := (HR.out.2.cell (p := ⟨b, off + i * 6, none⟩) hbw).trans p0
      have q1 : wr.cell? ⟨b, off + i * 6 + 1, none⟩ = some (.string c1) := (HR.out.2.cell (p := ⟨b, off + i * 6 + 1, none⟩) hbw).trans p1
      have q2 : wr.cell? ⟨b, off + i * 6 + 2, none⟩ = some (.string c2) := (HR.out.2.cell (p := ⟨b, off + i * 6 + 2, none⟩) hbw).trans p2
      have q3 : wr.cell? ⟨b, off + i * 6 + 3, none⟩ = some (.slice c3 c4 c5) := (HR.out.2.cell (p := ⟨b, off + i * 6 + 3, none⟩) hbw).trans p3
      have q4 : wr.cell? ⟨b, off + i * 6 + 4, none⟩ = some (.slice c6 c7 c8) := (HR.out.2.cell (p := ⟨b, off + i * 6 + 4, none⟩) hbw).trans p4
      have q5 : wr.cell? ⟨b, off + i * 6 + 5, none⟩ = some (.slice c9 ca cb) := (HR.out.2.cell (p := ⟨b, off + i * 6 + 5, none⟩) hbw).trans p5
      obtain ⟨W1, hW1⟩ : ∃ W1, W1 = wr.alloc (.cells #[.int .i64 c0, .string c1, .string c2, .slice c3 c4 c5, .slice c6 c7 c8, .slice c9 ca cb] 66) := ⟨_, rfl⟩
      have HW1 : Hid (Below wr.heap.size wr W1) := by rw [hW1]; exact (Below.refl _ _).alloc (Nat.le_refl _) _
      have HWW : Hid (W1 = _) := hW1
      have HB2 : Hid (Below w.heap.size w W1) := bl_trans HR.out.2 HW1.out
      have HSZ : Hid ((smT m l[i]).length ≤ 100000000) := Nat.le_trans (upto_mem m l i hk2) HL.out
      have HC : Hid _ := HX.out B l[i] [.int .i64 c0, .string c1, .string c2, .slice c3 c4 c5, .slice c6 c7 c8, .slice c9 ca cb] W1 (hx0.out.below (HB2.out.mono hB)) (Nat.le_trans hB HB2.out.size) (HOK.out _ (List.getElem_mem hk2)) HSZ.out (HP.out.stays HB2.out)
      have HUP : Hid (upto m l (i + 1) = upto m l i ++ smT m l[i] ++ [32]) := upto_succ m l i hk2
      clear hW1 hi p0 p1 p2 p3 p4 p5 hx0
      obtain ⟨x, hx⟩ : ∃ x, x = l[i] := ⟨_, rfl⟩
      rw [← hx] at HC HUP HSZ
      clear hx
      go_wp2_with fail
      rw [← HWW.out]
      clear HWW q0 q1 q2 q3 q4 q5
      refine Calls.mono HC.out ?_
      rintro e w2 ⟨rfl, hb2⟩
      have HD2 : Hid (Bd w.heap.size w.heap.size (upto m l i) w2) := HR.out.1.below (bl_trans HW1.out hb2)
      have HB3 : Hid (Below w.heap.size w w2) := bl_trans HB2.out hb2
      have HTS : Hid ((bs (smT m x)).size ≤ 100000000) := by unfold Hid; rw [bs_size]; exact HSZ.out
      have HTL : Hid ((bs (smT m x)).toList = smT m x) := bs_list _
      obtain ⟨T, hT⟩ : ∃ T, T = bs (smT m x) := ⟨_, rfl⟩
      rw [← hT] at HTS HTL ⊢
      clear hb2 HC HR HB2 HW1 hT
      go_wp2_with fail
      refine (HD2.out.write T (by have := HLK.out; have := HTS.out; omega) HB3.out.size).mono ?_
      rintro e w3 ⟨rfl, hb3, hw3⟩
      have HD3 : Hid (Bd w.heap.size w.heap.size (upto m l i ++ smT m x) w3) := by rw [HTL.out] at hb3; exact hb3
      have HB4 : Hid (Below w.heap.size w w3) := HB3.out.trans hw3
      clear hb3 hw3
      go_wp2_with fail
      refine (HD3.out.write ⟨#[32]⟩ (by have e : (⟨#[32]⟩ : ByteArray).size = 1 := rfl; rw [e, List.length_append]; have := HLK.out; have := HSZ.out; omega) HB4.out.size).mono ?_
      rintro e w4 ⟨rfl, hb4, hw4⟩
      have HN : Hid (Bd w.heap.size w.heap.size (upto m l (i + 1)) w4 ∧ Below w.heap.size w w4) := ⟨by rw [HUP.out]; rw [toL_mk [32]] at hb4; exact hb4, HB4.out.trans hw4⟩
      clear hb4 hw4
      go_wp2_with fail
      go_roundw
      case rel => exact ⟨i + 1, by omega, by go_num, HN⟩
      case measure => simp [intOf]; omega
    · have i1 : ¬ (i : Int) < (l.length : Int) := by omega
      have HUA : Hid (upto m l i ++ [125] = blL (smT m) l) := upto_all m l i hk2
      go_wp2_with fail
      refine (HR.out.1.write ⟨#[125]⟩ (by have e : (⟨#[125]⟩ : ByteArray).size = 1 := rfl; rw [e]; have := HLK.out; omega) HR.out.2.size).mono ?_
      rintro e w2 ⟨rfl, hb2, hw2⟩
      have HD2 : Hid (Bd w.heap.size w.heap.size (blL (smT m) l) w2) := by rw [← HUA.out]; rw [toL_mk [125]] at hb2; exact hb2
      have HB2 : Hid (Below w.heap.size w w2) := HR.out.2.trans hw2
      clear hb2 hw2
      go_wp2_with fail
      refine (HD2.out.string HB2.out.size).mono ?_
      rintro e w3 ⟨rfl, hw3⟩
      have HB3 : Hid (Below w.heap.size w w3) := HB2.out.trans hw3
      clear hw3
      go_wp2_with fail
      go_ret
      exact ⟨rfl, HB3.out⟩

set_option maxHeartbeats 4000000 in
theorem blockRef_of {m : Nat} (hX : TextS 26 m) : TextB 12 m := by
  intro B l v w hv hB hok hlen hP
  obtain ⟨a, cap, rfl, hmax, hsl⟩ := hv
  have HSL : Hid _ := hsl
  have HX : Hid (TextS 26 m) := hX
  have HOK : Hid (∀ x ∈ l, okS m x) := hok
  have HL : Hid ((blL (smT m) l).length ≤ 100000000) := hlen
  have HP : Hid (Pow w) := hP
  unfold maxLen at hmax
  clear hsl hX hok hlen hP
  go_enter Tryd.func12, Tryd.ntmps12
  go_wp2_with fail
  go_loopw [3, 4] (fun v3 v4 wr => ∃ (k : Nat) (O : ByteArray), k ≤ l.length ∧ v3 = .string O ∧ v4 = .int .i64 k ∧ Hid (O.toList = upto m l k) ∧ Hid (Below w.heap.size w wr)) (fun _ v4 _ => l.length - (intOf v4).toNat)
  case atStart => exact ⟨0, _, by omega, rfl, rfl, by unfold Hid; rw [toL_mk [123, 32]]; rfl, Below.refl _ _⟩
  case round =>
    obtain ⟨i, O, hil, rfl, rfl, HO, HR⟩ := hrel
    have HLK : Hid (O.size ≤ 100000000) := by have := upto_len m l i; have := HL.out; have h3 := congrArg List.length HO.out; rw [toL_len] at h3; unfold Hid; omega
    by_cases hk2 : i < l.length
    · have i1 : (i : Int) < (l.length : Int) := by omega
      have i2 : (0 : Int) ≤ (i : Int) := by omega
      obtain ⟨b, off, rfl, hb, hi⟩ := HSL.out (by omega)
      have hbw : b < w.heap.size := by omega
      obtain ⟨c0, c1, c2, c3, c4, c5, c6, c7, c8, c9, ca, cb, p0, p1, p2, p3, p4, p5, hx0⟩ := kidS hi i hk2
      have q0 : wr.cell? ⟨b, off + i * 6, none⟩ = some (.int .i64 c0) := (HR.out.cell (p := ⟨b, off + i * 6, none⟩) hbw).trans p0
      have q1 : wr.cell? ⟨b, off + i * 6 + 1, none⟩ = some (.string c1) := (HR.out.cell (p := ⟨b, off + i * 6 + 1, none⟩) hbw).trans p1
      have q2 : wr.cell? ⟨b, off + i * 6 + 2, none⟩ = some (.string c2) := (HR.out.cell (p := ⟨b, off + i * 6 + 2, none⟩) hbw).trans p2
      have q3 : wr.cell? ⟨b, off + i * 6 + 3, none⟩ = some (.slice c3 c4 c5) := (HR.out.cell (p := ⟨b, off + i * 6 + 3, none⟩) hbw).trans p3
      have q4 : wr.cell? ⟨b, off + i * 6 + 4, none⟩ = some (.slice c6 c7 c8) := (HR.out.cell (p := ⟨b, off + i * 6 + 4, none⟩) hbw).trans p4
      have q5 : wr.cell? ⟨b, off + i * 6 + 5, none⟩ = some (.slice c9 ca cb) := (HR.out.cell (p := ⟨b, off + i * 6 + 5, none⟩) hbw).trans p5
      have HSZ : Hid ((smT m l[i]).length ≤ 100000000) := Nat.le_trans (upto_mem m l i hk2) HL.out
      have HC : Hid _ := HX.out B l[i] [.int .i64 c0, .string c1, .string c2, .slice c3 c4 c5, .slice c6 c7 c8, .slice c9 ca cb] wr (hx0.out.below (HR.out.mono hB)) (Nat.le_trans hB HR.out.size) (HOK.out _ (List.getElem_mem hk2)) HSZ.out (HP.out.stays HR.out)
      have HUP : Hid (upto m l (i + 1) = upto m l i ++ smT m l[i] ++ [32]) := upto_succ m l i hk2
      clear hi p0 p1 p2 p3 p4 p5 hx0
      obtain ⟨x, hx⟩ : ∃ x, x = l[i] := ⟨_, rfl⟩
      rw [← hx] at HC HUP HSZ
      clear hx
      obtain ⟨T, hT⟩ : ∃ T, T = bs (smT m x) := ⟨_, rfl⟩
      rw [← hT] at HC
      have HTS : Hid (T.size ≤ 100000000) := by unfold Hid; rw [hT, bs_size]; exact HSZ.out
      have HN : Hid ((O ++ T ++ ⟨#[32]⟩).toList = upto m l (i + 1)) := by
        unfold Hid
        rw [HUP.out]
        simp only [toL_append, toL_mk, HO.out, hT, bs_list]
      have z1 : ¬ 9223372036854775807 < O.size + T.size := by have := HLK.out; have := HTS.out; omega
      have z2 : ¬ 9223372036854775807 < O.size + T.size + 1 := by have := HLK.out; have := HTS.out; omega
      clear hT
      go_wp2_with fail
      clear q0 q1 q2 q3 q4 q5
      refine Calls.mono HC.out ?_
      rintro e w2 ⟨rfl, hb2⟩
      have HB2 : Hid (Below w.heap.size w w2) := bl_trans HR.out hb2
      clear hb2 HC HR
      go_wp2_with fail
      go_roundw
      case rel => exact ⟨i + 1, _, by omega, rfl, by go_num, HN, HB2⟩
      case measure => simp [intOf]; omega
    · have i1 : ¬ (i : Int) < (l.length : Int) := by omega
      have z1 : ¬ 9223372036854775807 < O.size + 1 := by have := HLK.out; omega
      have HE : Hid (O ++ ⟨#[125]⟩ = bs (blL (smT m) l)) := bs_of (by
        rw [← upto_all m l i hk2]
        simp only [toL_append, toL_mk, HO.out])
      go_wp2_with fail
      go_ret
      exact ⟨ret_str HE.out, HR.out⟩

theorem stmtText_c : ∀ m, TextS 31 m := by
  intro m
  induction m with
  | zero => intro B x cs w hx; exact hx.elim
  | succ m ih =>
    intro B x cs w hx hB hok hlen hP
    cases x with
    | mk k s t es bd el =>
      have h1 := hok.1
      have h2 := hok.2.1
      obtain rfl | rfl | rfl | rfl | rfl | rfl | rfl | rfl | rfl | rfl : k = 1 ∨ k = 2 ∨ k = 3 ∨ k = 4 ∨ k = 5 ∨ k = 6 ∨ k = 7 ∨ k = 8 ∨ k = 9 ∨ k = 10 := by omega
      · exact prS_1 (blockText_of ih) B s t es bd el cs w hx hB hok hlen hP
      · exact prS_2 (blockText_of ih) B s t es bd el cs w hx hB hok hlen hP
      · exact prS_3 (blockText_of ih) B s t es bd el cs w hx hB hok hlen hP
      · exact prS_4 (blockText_of ih) B s t es bd el cs w hx hB hok hlen hP
      · exact prS_5 (blockText_of ih) B s t es bd el cs w hx hB hok hlen hP
      · exact prS_6 (blockText_of ih) B s t es bd el cs w hx hB hok hlen hP
      · exact prS_7 (blockText_of ih) B s t es bd el cs w hx hB hok hlen hP
      · exact prS_8 (blockText_of ih) B s t es bd el cs w hx hB hok hlen hP
      · exact prS_9 (blockText_of ih) B s t es bd el cs w hx hB hok hlen hP
      · exact prS_10 (blockText_of ih) B s t es bd el cs w hx hB hok hlen hP

theorem stmtRef_c : ∀ m, TextS 26 m := by
  intro m
  induction m with
  | zero => intro B x cs w hx; exact hx.elim
  | succ m ih =>
    intro B x cs w hx hB hok hlen hP
    cases x with
    | mk k s t es bd el =>
      have h1 := hok.1
      have h2 := hok.2.1
      obtain rfl | rfl | rfl | rfl | rfl | rfl | rfl | rfl | rfl | rfl : k = 1 ∨ k = 2 ∨ k = 3 ∨ k = 4 ∨ k = 5 ∨ k = 6 ∨ k = 7 ∨ k = 8 ∨ k = 9 ∨ k = 10 := by omega
      · exact rfS_1 (blockRef_of ih) (exprRef_c m) B s t es bd el cs w hx hB hok hlen hP
      · exact rfS_2 (blockRef_of ih) (exprRef_c m) B s t es bd el cs w hx hB hok hlen hP
      · exact rfS_3 (blockRef_of ih) (exprRef_c m) B s t es bd el cs w hx hB hok hlen hP
      · exact rfS_4 (blockRef_of ih) (exprRef_c m) B s t es bd el cs w hx hB hok hlen hP
      · exact rfS_5 (blockRef_of ih) (exprRef_c m) B s t es bd el cs w hx hB hok hlen hP
      · exact rfS_6 (blockRef_of ih) (exprRef_c m) B s t es bd el cs w hx hB hok hlen hP
      · exact rfS_7 (blockRef_of ih) (exprRef_c m) B s t es bd el cs w hx hB hok hlen hP
      · exact rfS_8 (blockRef_of ih) (exprRef_c m) B s t es bd el cs w hx hB hok hlen hP
      · exact rfS_9 (blockRef_of ih) (exprRef_c m) B s t es bd el cs w hx hB hok hlen hP
      · exact rfS_10 (blockRef_of ih) (exprRef_c m) B s t es bd el cs w hx hB hok hlen hP

theorem blockText_c (m : Nat) : TextB 17 m := blockText_of (stmtText_c m)
theorem blockRef_c (m : Nat) : TextB 12 m := blockRef_of (stmtRef_c m)
end Go.Proofs.YtjconmohifaliaaDoor
