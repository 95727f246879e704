/-
  Blocks and rules as text; contracts of syntax.Print and of the document's ProgramText.
-/
import Derived.Test.YtfbpkbochhfnhaaGreatDoorPrS
import Derived.BigQuiet
import Derived.Test.YtfbpkbochhfnhaaGreatDoorCheckC
namespace Go.Proofs.YtfbpkbochhfnhaaGreatDoor
open Go.ChangeShapes Go.WideShapes Go.ChangeAt Go.RowKit Go.Joins
set_option linter.unusedVariables false
set_option maxRecDepth 100000

/-- An element of a list of statements. -/
theorem kidS {B m b off : Nat} {w : World} {l : List Sm} (hi : ∀ i, i < l.length → ∃ cs : List Value, cs.length = 6 ∧ (∀ j, j < 6 → w.cell? ⟨b, off + i * 6 + j, none⟩ = cs[j]?) ∧ ∃ x, l[i]? = some x ∧ SmA B w m cs x) (i : Nat) (h : i < l.length) :
    ∃ (c0 : Int) (c1 c2 : ByteArray) (c3 : Option Addr) (c4 c5 : Nat) (c6 : Option Addr) (c7 c8 : Nat) (c9 : Option Addr) (ca cb : Nat), w.cell? ⟨b, off + i * 6, none⟩ = some (.int .i64 c0) ∧ w.cell? ⟨b, off + i * 6 + 1, none⟩ = some (.string c1) ∧ w.cell? ⟨b, off + i * 6 + 2, none⟩ = some (.string c2) ∧ w.cell? ⟨b, off + i * 6 + 3, none⟩ = some (.slice c3 c4 c5) ∧ w.cell? ⟨b, off + i * 6 + 4, none⟩ = some (.slice c6 c7 c8) ∧ w.cell? ⟨b, off + i * 6 + 5, none⟩ = some (.slice c9 ca cb) ∧ Hid (SmA B w m [.int .i64 c0, .string c1, .string c2, .slice c3 c4 c5, .slice c6 c7 c8, .slice c9 ca cb] l[i]) := by
  obtain ⟨cs, hcl, hcell, x, hx, hex⟩ := hi i h
  obtain ⟨c0, c1, c2, c3, c4, c5, c6, c7, c8, c9, ca, cb, rfl⟩ := hex.shape
  rw [List.getElem?_eq_getElem h] at hx
  cases hx
  exact ⟨c0, c1, c2, c3, c4, c5, c6, c7, c8, c9, ca, cb, hcell 0 (by omega), hcell 1 (by omega), hcell 2 (by omega), hcell 3 (by omega), hcell 4 (by omega), hcell 5 (by omega), hex⟩

/-- The statements up to k. -/
def upto (m : Nat) (l : List Sm) (k : Nat) : List UInt8 := [123, 32] ++ (l.take k).flatMap (fun x => smT m x ++ [32])
theorem upto_len (m : Nat) (l : List Sm) (k : Nat) : (upto m l k).length + 1 ≤ (blL (smT m) l).length := by
  have := flat_take_len (fun x => smT m x ++ [32]) l k
  simp only [upto, blL, List.length_append, List.length_cons, List.length_nil]
  omega
theorem upto_succ (m : Nat) (l : List Sm) (k : Nat) (h : k < l.length) : upto m l (k + 1) = upto m l k ++ smT m l[k] ++ [32] := by
  simp only [upto, flat_take_succ _ l k h, List.append_assoc]
theorem upto_all (m : Nat) (l : List Sm) (k : Nat) (h : ¬ k < l.length) : upto m l k ++ [125] = blL (smT m) l := by
  simp only [upto, blL, List.take_of_length_le (show l.length ≤ k by omega)]
theorem upto_mem (m : Nat) (l : List Sm) (k : Nat) (h : k < l.length) : (smT m l[k]).length ≤ (blL (smT m) l).length := by
  have := flat_mem_len (fun x => smT m x ++ [32]) (List.getElem_mem h)
  simp only [blL, List.length_append, List.length_cons, List.length_nil] at this ⊢
  omega

set_option maxHeartbeats 4000000 in
theorem blockText_of {m : Nat} (hX : TextS 71 m) : TextB 49 m := by
  intro B l v w hv hB hok hlen hP
  obtain ⟨a, cap, rfl, hmax, hsl⟩ := hv
  have HSL : Hid _ := hsl
  have HX : Hid (TextS 71 m) := hX
  have HOK : Hid (∀ x ∈ l, okS m x) := hok
  have HL : Hid ((blL (smT m) l).length ≤ 100000000) := hlen
  have HP : Hid (Pow w) := hP
  unfold maxLen at hmax
  obtain ⟨o, ho⟩ : ∃ o, o = Obj.cells #[.pointer none, .slice none 0 0] 69 := ⟨_, rfl⟩
  have HB0 : Hid (Bd w.heap.size w.heap.size [] (w.alloc o)) := by rw [ho]; exact Bd.new w
  have HW0 : Hid (Below w.heap.size w (w.alloc o)) := (Below.refl _ _).alloc (Nat.le_refl _) o
  clear hsl hX hok hlen hP
  go_enter Tryz.func49, Tryz.ntmps49
  go_wp2_with fail
  rw [← ho]
  clear ho
  refine (HB0.out.write ⟨#[123, 32]⟩ (by have e : (⟨#[123, 32]⟩ : ByteArray).size = 2 := rfl; rw [e]; simp) (by simp)).mono ?_
  rintro e w1 ⟨rfl, hb1, hw1⟩
  have HB1 : Hid (Bd w.heap.size w.heap.size (upto m l 0) w1) := by
    rw [toL_mk [123, 32]] at hb1
    exact hb1
  have HW1 : Hid (Below w.heap.size w w1) := HW0.out.trans hw1
  clear hb1 hw1 HB0 HW0
  go_wp2_with fail
  go_loopw [9] (fun v wr => ∃ k : Nat, k ≤ l.length ∧ v = .int .i64 k ∧ Hid (Bd w.heap.size w.heap.size (upto m l k) wr ∧ Below w.heap.size w wr)) (fun v _ => l.length - (intOf v).toNat)
  case atStart => exact ⟨0, by omega, rfl, HB1.out, HW1.out⟩
  case round =>
    obtain ⟨i, hil, rfl, HR⟩ := hrel
    clear HB1 HW1
    have HLK : Hid ((upto m l i).length ≤ 100000000) := by have := upto_len m l i; have := HL.out; unfold Hid; omega
    by_cases hk2 : i < l.length
    · have i1 : (i : Int) < (l.length : Int) := by omega
      have i2 : (0 : Int) ≤ (i : Int) := by omega
      obtain ⟨b, off, rfl, hb, hi⟩ := HSL.out (by omega)
      have hbw : b < w.heap.size := by omega
      obtain ⟨c0, c1, c2, c3, c4, c5, c6, c7, c8, c9, ca, cb, p0, p1, p2, p3, p4, p5, hx0⟩ := kidS hi i hk2
      have q0 : wr.cell? ⟨b, off + i * 6, none⟩ = some (.int .i64 c0) := (HR.out.2.cell (p := ⟨b, off + i * 6, none⟩) hbw).trans p0
      have q1 : wr.cell? ⟨b, off + i * 6 + 1, none⟩ = some (.string c1) := (HR.out.2.cell (p := ⟨b, off + i * 6 + 1, none⟩) hbw).trans p1
      have q2 : wr.cell? ⟨b, off + i * 6 + 2, none⟩ = some (.string c2) := (HR.out.2.cell (p := ⟨b, off + i * 6 + 2, none⟩) hbw).trans p2
      have q3 : wr.cell? ⟨b, off + i * 6 + 3, none⟩ = some (.slice c3 c4 c5) := (HR.out.2.cell (p := ⟨b, off + i * 6 + 3, none⟩) hbw).trans p3
      have q4 : wr.cell? ⟨b, off + i * 6 + 4, none⟩ = some (.slice c6 c7 c8) := (HR.out.2.cell (p := ⟨b, off + i * 6 + 4, none⟩) hbw).trans p4
      have q5 : wr.cell? ⟨b, off + i * 6 + 5, none⟩ = some (.slice c9 ca cb) := (HR.out.2.cell (p := ⟨b, off + i * 6 + 5, none⟩) hbw).trans p5
      obtain ⟨W1, hW1⟩ : ∃ W1, W1 = wr.alloc (.cells #[.int .i64 c0, .string c1, .string c2, .slice c3 c4 c5, .slice c6 c7 c8, .slice c9 ca cb] 111) := ⟨_, rfl⟩
      have HW1 : Hid (Below wr.heap.size wr W1) := by rw [hW1]; exact (Below.refl _ _).alloc (Nat.le_refl _) _
      have HWW : Hid (W1 = _) := hW1
      have HB2 : Hid (Below w.heap.size w W1) := bl_trans HR.out.2 HW1.out
      have HSZ : Hid ((smT m l[i]).length ≤ 100000000) := Nat.le_trans (upto_mem m l i hk2) HL.out
      have HC : Hid _ := HX.out B l[i] [.int .i64 c0, .string c1, .string c2, .slice c3 c4 c5, .slice c6 c7 c8, .slice c9 ca cb] W1 (hx0.out.below (HB2.out.mono hB)) (Nat.le_trans hB HB2.out.size) (HOK.out _ (List.getElem_mem hk2)) HSZ.out (HP.out.stays HB2.out)
      have HUP : Hid (upto m l (i + 1) = upto m l i ++ smT m l[i] ++ [32]) := upto_succ m l i hk2
      clear hW1 hi p0 p1 p2 p3 p4 p5 hx0
      obtain ⟨x, hx⟩ : ∃ x, x = l[i] := ⟨_, rfl⟩
      rw [← hx] at HC HUP HSZ
      clear hx
      go_wp2_with fail
      rw [← HWW.out]
      clear HWW q0 q1 q2 q3 q4 q5
      refine Calls.mono HC.out ?_
      rintro e w2 ⟨rfl, hb2⟩
      have HD2 : Hid (Bd w.heap.size w.heap.size (upto m l i) w2) := HR.out.1.below (bl_trans HW1.out hb2)
      have HB3 : Hid (Below w.heap.size w w2) := bl_trans HB2.out hb2
      have HTS : Hid ((bs (smT m x)).size ≤ 100000000) := by unfold Hid; rw [bs_size]; exact HSZ.out
      have HTL : Hid ((bs (smT m x)).toList = smT m x) := bs_list _
      obtain ⟨T, hT⟩ : ∃ T, T = bs (smT m x) := ⟨_, rfl⟩
      rw [← hT] at HTS HTL ⊢
      clear hb2 HC HR HB2 HW1 hT
      go_wp2_with fail
      refine (HD2.out.write T (by have := HLK.out; have := HTS.out; omega) HB3.out.size).mono ?_
      rintro e w3 ⟨rfl, hb3, hw3⟩
      have HD3 : Hid (Bd w.heap.size w.heap.size (upto m l i ++ smT m x) w3) := by rw [HTL.out] at hb3; exact hb3
      have HB4 : Hid (Below w.heap.size w w3) := HB3.out.trans hw3
      clear hb3 hw3
      go_wp2_with fail
      refine (HD3.out.write ⟨#[32]⟩ (by have e : (⟨#[32]⟩ : ByteArray).size = 1 := rfl; rw [e, List.length_append]; have := HLK.out; have := HSZ.out; omega) HB4.out.size).mono ?_
      rintro e w4 ⟨rfl, hb4, hw4⟩
      have HN : Hid (Bd w.heap.size w.heap.size (upto m l (i + 1)) w4 ∧ Below w.heap.size w w4) := ⟨by rw [HUP.out]; rw [toL_mk [32]] at hb4; exact hb4, HB4.out.trans hw4⟩
      clear hb4 hw4
      go_wp2_with fail
      go_roundw
      case rel => exact ⟨i + 1, by omega, by go_num, HN⟩
      case measure => simp [intOf]; omega
    · have i1 : ¬ (i : Int) < (l.length : Int) := by omega
      have HUA : Hid (upto m l i ++ [125] = blL (smT m) l) := upto_all m l i hk2
      go_wp2_with fail
      refine (HR.out.1.write ⟨#[125]⟩ (by have e : (⟨#[125]⟩ : ByteArray).size = 1 := rfl; rw [e]; have := HLK.out; omega) HR.out.2.size).mono ?_
      rintro e w2 ⟨rfl, hb2, hw2⟩
      have HD2 : Hid (Bd w.heap.size w.heap.size (blL (smT m) l) w2) := by rw [← HUA.out]; rw [toL_mk [125]] at hb2; exact hb2
      have HB2 : Hid (Below w.heap.size w w2) := HR.out.2.trans hw2
      clear hb2 hw2
      go_wp2_with fail
      refine (HD2.out.string HB2.out.size).mono ?_
      rintro e w3 ⟨rfl, hw3⟩
      have HB3 : Hid (Below w.heap.size w w3) := HB2.out.trans hw3
      clear hw3
      go_wp2_with fail
      go_ret
      exact ⟨rfl, HB3.out⟩


theorem stmtText_c : ∀ m, TextS 71 m := by
  intro m
  induction m with
  | zero => intro B x cs w hx; exact hx.elim
  | succ m ih =>
    intro B x cs w hx hB hok hlen hP
    cases x with
    | mk k s t es bd el =>
      have h1 := hok.1
      have h2 := hok.2.1
      obtain rfl | rfl | rfl | rfl | rfl | rfl | rfl | rfl | rfl | rfl : k = 1 ∨ k = 2 ∨ k = 3 ∨ k = 4 ∨ k = 5 ∨ k = 6 ∨ k = 7 ∨ k = 8 ∨ k = 9 ∨ k = 10 := by omega
      · exact prS_1 (blockText_of ih) B s t es bd el cs w hx hB hok hlen hP
      · exact prS_2 (blockText_of ih) B s t es bd el cs w hx hB hok hlen hP
      · exact prS_3 (blockText_of ih) B s t es bd el cs w hx hB hok hlen hP
      · exact prS_4 (blockText_of ih) B s t es bd el cs w hx hB hok hlen hP
      · exact prS_5 (blockText_of ih) B s t es bd el cs w hx hB hok hlen hP
      · exact prS_6 (blockText_of ih) B s t es bd el cs w hx hB hok hlen hP
      · exact prS_7 (blockText_of ih) B s t es bd el cs w hx hB hok hlen hP
      · exact prS_8 (blockText_of ih) B s t es bd el cs w hx hB hok hlen hP
      · exact prS_9 (blockText_of ih) B s t es bd el cs w hx hB hok hlen hP
      · exact prS_10 (blockText_of ih) B s t es bd el cs w hx hB hok hlen hP


theorem blockText_c (m : Nat) : TextB 49 m := blockText_of (stmtText_c m)
end Go.Proofs.YtfbpkbochhfnhaaGreatDoor

namespace Go.Proofs.YtfbpkbochhfnhaaGreatDoor
open Go.ChangeShapes Go.WideShapes Go.ChangeAt Go.RowKit Go.Joins
set_option linter.unusedVariables false
set_option maxRecDepth 100000

set_option maxHeartbeats 2000000 in
theorem ruleText_a (m B : Nat) (pat : Ex) (body : List Sm) (k1 n1 : Int) (s1 : ByteArray) (a1 : Option Addr) (len1 cap1 : Nat) (a2 : Option Addr) (len2 cap2 : Nat) (w : World) (hx : ExA B w m [.int .i64 k1, .int .i64 n1, .string s1, .slice a1 len1 cap1] pat) (hv : SmL B w m (.slice a2 len2 cap2) body) (hB : B ≤ w.heap.size) (hok : false = true → okE m pat) (hall : ∀ x ∈ body, okS m x) (hlen : ([66, 69, 71, 73, 78, 32] ++ blL (smT m) body).length ≤ 100000000) (hP : Pow w) :
    Calls Tryz.prog 30 #[.agg #[.int .i64 0, .bool false, .int .i64 k1, .int .i64 n1, .string s1, .slice a1 len1 cap1, .slice a2 len2 cap2]] w fun e w' => e = .returned (.string (bs ([66, 69, 71, 73, 78, 32] ++ blL (smT m) body))) ∧ Below w.heap.size w w' := by
  have HW : Hid (Below w.heap.size w (w.alloc (.cells #[.int .i64 0, .bool false, .int .i64 k1, .int .i64 n1, .string s1, .slice a1 len1 cap1, .slice a2 len2 cap2] 60))) := (Below.refl _ _).alloc (Nat.le_refl _) _
  have HR : Hid (RowAt (w.alloc (.cells #[.int .i64 0, .bool false, .int .i64 k1, .int .i64 n1, .string s1, .slice a1 len1 cap1, .slice a2 len2 cap2] 60)) w.heap.size #[.int .i64 0, .bool false, .int .i64 k1, .int .i64 n1, .string s1, .slice a1 len1 cap1, .slice a2 len2 cap2]) := RowAt.new w _ _
  obtain ⟨W, hW⟩ : ∃ W, W = w.alloc (.cells #[.int .i64 0, .bool false, .int .i64 k1, .int .i64 n1, .string s1, .slice a1 len1 cap1, .slice a2 len2 cap2] 60) := ⟨_, rfl⟩
  rw [← hW] at HW HR
  have HWW : Hid (W = _) := hW
  clear hW
  simp only [List.length_append, List.length_cons, List.length_nil] at hlen
  obtain ⟨TB, hTB⟩ : ∃ T, T = bs (blL (smT m) body) := ⟨_, rfl⟩
  have tB : TB.size = (blL (smT m) body).length := by rw [hTB, bs_size]
  have HC : Hid (Calls Tryz.prog 49 #[.slice a2 len2 cap2] W fun e w' => e = .returned (.string TB) ∧ Below W.heap.size W w') := by
    rw [hTB]
    exact blockText_c m B body _ W (hv.below (HW.out.mono hB)) (Nat.le_trans hB HW.out.size) hall (by omega) (hP.stays HW.out)
  have HE : Hid (⟨#[66, 69, 71, 73, 78, 32]⟩ ++ TB = bs ([66, 69, 71, 73, 78, 32] ++ blL (smT m) body)) := bs_of (by rw [hTB]; simp only [toL_append, bs_list, toL_mk])
  have z1 : ¬ 9223372036854775807 < 6 + TB.size := by omega
  clear hx hv hok hall hlen hP hTB tB HR
  go_enter Tryz.func30, Tryz.ntmps30
  go_wp2_with fail
  rw [← HWW.out]
  clear HWW
  refine Calls.mono HC.out ?_
  rintro e w1 ⟨rfl, hb1⟩
  have HB1 : Hid (Below w.heap.size w w1) := bl_trans HW.out hb1
  clear hb1 HC
  go_wp2_with fail
  go_ret
  exact ⟨ret_str HE.out, HB1.out⟩

set_option maxHeartbeats 2000000 in
theorem ruleText_b (m B : Nat) (pat : Ex) (body : List Sm) (k1 n1 : Int) (s1 : ByteArray) (a1 : Option Addr) (len1 cap1 : Nat) (a2 : Option Addr) (len2 cap2 : Nat) (w : World) (hx : ExA B w m [.int .i64 k1, .int .i64 n1, .string s1, .slice a1 len1 cap1] pat) (hv : SmL B w m (.slice a2 len2 cap2) body) (hB : B ≤ w.heap.size) (hok : false = true → okE m pat) (hall : ∀ x ∈ body, okS m x) (hlen : ([69, 78, 68, 32] ++ blL (smT m) body).length ≤ 100000000) (hP : Pow w) :
    Calls Tryz.prog 30 #[.agg #[.int .i64 2, .bool false, .int .i64 k1, .int .i64 n1, .string s1, .slice a1 len1 cap1, .slice a2 len2 cap2]] w fun e w' => e = .returned (.string (bs ([69, 78, 68, 32] ++ blL (smT m) body))) ∧ Below w.heap.size w w' := by
  have HW : Hid (Below w.heap.size w (w.alloc (.cells #[.int .i64 2, .bool false, .int .i64 k1, .int .i64 n1, .string s1, .slice a1 len1 cap1, .slice a2 len2 cap2] 60))) := (Below.refl _ _).alloc (Nat.le_refl _) _
  have HR : Hid (RowAt (w.alloc (.cells #[.int .i64 2, .bool false, .int .i64 k1, .int .i64 n1, .string s1, .slice a1 len1 cap1, .slice a2 len2 cap2] 60)) w.heap.size #[.int .i64 2, .bool false, .int .i64 k1, .int .i64 n1, .string s1, .slice a1 len1 cap1, .slice a2 len2 cap2]) := RowAt.new w _ _
  obtain ⟨W, hW⟩ : ∃ W, W = w.alloc (.cells #[.int .i64 2, .bool false, .int .i64 k1, .int .i64 n1, .string s1, .slice a1 len1 cap1, .slice a2 len2 cap2] 60) := ⟨_, rfl⟩
  rw [← hW] at HW HR
  have HWW : Hid (W = _) := hW
  clear hW
  simp only [List.length_append, List.length_cons, List.length_nil] at hlen
  obtain ⟨TB, hTB⟩ : ∃ T, T = bs (blL (smT m) body) := ⟨_, rfl⟩
  have tB : TB.size = (blL (smT m) body).length := by rw [hTB, bs_size]
  have HC : Hid (Calls Tryz.prog 49 #[.slice a2 len2 cap2] W fun e w' => e = .returned (.string TB) ∧ Below W.heap.size W w') := by
    rw [hTB]
    exact blockText_c m B body _ W (hv.below (HW.out.mono hB)) (Nat.le_trans hB HW.out.size) hall (by omega) (hP.stays HW.out)
  have HE : Hid (⟨#[69, 78, 68, 32]⟩ ++ TB = bs ([69, 78, 68, 32] ++ blL (smT m) body)) := bs_of (by rw [hTB]; simp only [toL_append, bs_list, toL_mk])
  have z1 : ¬ 9223372036854775807 < 4 + TB.size := by omega
  clear hx hv hok hall hlen hP hTB tB HR
  go_enter Tryz.func30, Tryz.ntmps30
  go_wp2_with fail
  rw [← HWW.out]
  clear HWW
  refine Calls.mono HC.out ?_
  rintro e w1 ⟨rfl, hb1⟩
  have HB1 : Hid (Below w.heap.size w w1) := bl_trans HW.out hb1
  clear hb1 HC
  go_wp2_with fail
  go_ret
  exact ⟨ret_str HE.out, HB1.out⟩

set_option maxHeartbeats 2000000 in
theorem ruleText_d (m B : Nat) (pat : Ex) (body : List Sm) (k1 n1 : Int) (s1 : ByteArray) (a1 : Option Addr) (len1 cap1 : Nat) (a2 : Option Addr) (len2 cap2 : Nat) (w : World) (hx : ExA B w m [.int .i64 k1, .int .i64 n1, .string s1, .slice a1 len1 cap1] pat) (hv : SmL B w m (.slice a2 len2 cap2) body) (hB : B ≤ w.heap.size) (hok : false = true → okE m pat) (hall : ∀ x ∈ body, okS m x) (hlen : (blL (smT m) body).length ≤ 100000000) (hP : Pow w) :
    Calls Tryz.prog 30 #[.agg #[.int .i64 1, .bool false, .int .i64 k1, .int .i64 n1, .string s1, .slice a1 len1 cap1, .slice a2 len2 cap2]] w fun e w' => e = .returned (.string (bs (blL (smT m) body))) ∧ Below w.heap.size w w' := by
  have HW : Hid (Below w.heap.size w (w.alloc (.cells #[.int .i64 1, .bool false, .int .i64 k1, .int .i64 n1, .string s1, .slice a1 len1 cap1, .slice a2 len2 cap2] 60))) := (Below.refl _ _).alloc (Nat.le_refl _) _
  have HR : Hid (RowAt (w.alloc (.cells #[.int .i64 1, .bool false, .int .i64 k1, .int .i64 n1, .string s1, .slice a1 len1 cap1, .slice a2 len2 cap2] 60)) w.heap.size #[.int .i64 1, .bool false, .int .i64 k1, .int .i64 n1, .string s1, .slice a1 len1 cap1, .slice a2 len2 cap2]) := RowAt.new w _ _
  obtain ⟨W, hW⟩ : ∃ W, W = w.alloc (.cells #[.int .i64 1, .bool false, .int .i64 k1, .int .i64 n1, .string s1, .slice a1 len1 cap1, .slice a2 len2 cap2] 60) := ⟨_, rfl⟩
  rw [← hW] at HW HR
  have HWW : Hid (W = _) := hW
  clear hW
  obtain ⟨TB, hTB⟩ : ∃ T, T = bs (blL (smT m) body) := ⟨_, rfl⟩
  have tB : TB.size = (blL (smT m) body).length := by rw [hTB, bs_size]
  have HC : Hid (Calls Tryz.prog 49 #[.slice a2 len2 cap2] W fun e w' => e = .returned (.string TB) ∧ Below W.heap.size W w') := by
    rw [hTB]
    exact blockText_c m B body _ W (hv.below (HW.out.mono hB)) (Nat.le_trans hB HW.out.size) hall (by omega) (hP.stays HW.out)
  have HE : Hid (TB = bs (blL (smT m) body)) := bs_of (by rw [hTB]; simp only [bs_list])
  clear hx hv hok hall hlen hP hTB tB HR
  go_enter Tryz.func30, Tryz.ntmps30
  go_wp2_with fail
  rw [← HWW.out]
  clear HWW
  refine Calls.mono HC.out ?_
  rintro e w1 ⟨rfl, hb1⟩
  have HB1 : Hid (Below w.heap.size w w1) := bl_trans HW.out hb1
  clear hb1 HC
  go_wp2_with fail
  go_ret
  exact ⟨ret_str HE.out, HB1.out⟩

set_option maxHeartbeats 2000000 in
theorem ruleText_e (m B : Nat) (pat : Ex) (body : List Sm) (k1 n1 : Int) (s1 : ByteArray) (a1 : Option Addr) (len1 cap1 : Nat) (a2 : Option Addr) (len2 cap2 : Nat) (w : World) (hx : ExA B w m [.int .i64 k1, .int .i64 n1, .string s1, .slice a1 len1 cap1] pat) (hv : SmL B w m (.slice a2 len2 cap2) body) (hB : B ≤ w.heap.size) (hok : true = true → okE m pat) (hall : ∀ x ∈ body, okS m x) (hlen : (exT m pat ++ [32] ++ blL (smT m) body).length ≤ 100000000) (hP : Pow w) :
    Calls Tryz.prog 30 #[.agg #[.int .i64 1, .bool true, .int .i64 k1, .int .i64 n1, .string s1, .slice a1 len1 cap1, .slice a2 len2 cap2]] w fun e w' => e = .returned (.string (bs (exT m pat ++ [32] ++ blL (smT m) body))) ∧ Below w.heap.size w w' := by
  have HW : Hid (Below w.heap.size w (w.alloc (.cells #[.int .i64 1, .bool true, .int .i64 k1, .int .i64 n1, .string s1, .slice a1 len1 cap1, .slice a2 len2 cap2] 60))) := (Below.refl _ _).alloc (Nat.le_refl _) _
  have HR : Hid (RowAt (w.alloc (.cells #[.int .i64 1, .bool true, .int .i64 k1, .int .i64 n1, .string s1, .slice a1 len1 cap1, .slice a2 len2 cap2] 60)) w.heap.size #[.int .i64 1, .bool true, .int .i64 k1, .int .i64 n1, .string s1, .slice a1 len1 cap1, .slice a2 len2 cap2]) := RowAt.new w _ _
  obtain ⟨W, hW⟩ : ∃ W, W = w.alloc (.cells #[.int .i64 1, .bool true, .int .i64 k1, .int .i64 n1, .string s1, .slice a1 len1 cap1, .slice a2 len2 cap2] 60) := ⟨_, rfl⟩
  rw [← hW] at HW HR
  have HWW : Hid (W = _) := hW
  clear hW
  simp only [List.length_append, List.length_cons, List.length_nil] at hlen
  obtain ⟨TB, hTB⟩ : ∃ T, T = bs (blL (smT m) body) := ⟨_, rfl⟩
  have tB : TB.size = (blL (smT m) body).length := by rw [hTB, bs_size]
  obtain ⟨TE, hTE⟩ : ∃ T, T = bs (exT m pat) := ⟨_, rfl⟩
  have tE : TE.size = (exT m pat).length := by rw [hTE, bs_size]
  have q0 := HR.out.cell 0
  have q1 := HR.out.cell 1
  have q2 := HR.out.cell 2
  have q3 := HR.out.cell 3
  have q4 := HR.out.cell 4
  have q5 := HR.out.cell 5
  have q6 := HR.out.cell 6
  simp only [List.getElem?_toArray, List.getElem?_cons_zero, List.getElem?_cons_succ] at q0 q1 q2 q3 q4 q5 q6
  have Q2 := cell_regrown q2
  have Q3 := cell_regrown q3
  have Q4 := cell_regrown q4
  have Q5 := cell_regrown q5
  have Q6 := cell_regrown q6
  have cE := kid_c (exprText_c m) hx HW.out hB (hok rfl) (by omega) hP hTE
  have cB := blk_k (blockText_c m) hv HW.out hB hall (by omega) hP hTB
  have HE : Hid (TE ++ ⟨#[32]⟩ ++ TB = bs (exT m pat ++ [32] ++ blL (smT m) body)) := bs_of (by rw [hTE, hTB]; simp only [toL_append, bs_list, toL_mk])
  have z1 : ¬ 9223372036854775807 < TE.size + 1 := by omega
  have z2 : ¬ 9223372036854775807 < TE.size + 1 + TB.size := by omega
  clear hx hv hok hall hlen hP hTB tB hTE tE q0 q1 q2 q3 q4 q5 q6 HR
  go_enter Tryz.func30, Tryz.ntmps30
  go_wp2_with fail
  rw [← HWW.out]
  clear HWW
  refine wp_region_quiet_below (by kernel_rfl) (by kernel_rfl) ?_
  repeat (go_big_quiet_step (first | with_reducible exact cE _ _ | with_reducible exact cB _ _))
  refine wpQuiet_nil ?_
  intro _ hw'
  obtain ⟨⟨dq, osq⟩, hw''⟩ := hw'
  subst hw''
  go_wp2
  go_ret
  exact ⟨ret_str HE.out, bl_trans HW.out (below_regrown W dq osq)⟩

/-- Contract of the program's ruleText. -/
theorem ruleText_c (m B : Nat) (r : Ru) (cs : List Value) (w : World) (hx : RuA B w m cs r) (hB : B ≤ w.heap.size) (hok : okR m r) (hlen : (ruT m r).length ≤ 100000000) (hP : Pow w) :
    Calls Tryz.prog 30 #[.agg cs.toArray] w fun e w' => e = .returned (.string (bs (ruT m r))) ∧ Below w.heap.size w w' := by
  cases r with
  | mk wh has pat body =>
    obtain ⟨c0, c1, c2, c3, v, rfl, _, hpat, hbody⟩ := hx
    obtain ⟨hw0, hw2, hh, hall⟩ := hok
    simp only at hw0 hw2 hh hall hpat hbody
    obtain ⟨k1, n1, s1, a1, len1, cap1, he⟩ := hpat.shape
    injection he with e0 he
    injection he with e1 he
    injection he with e2 he
    injection he with e3 he
    subst e0 e1 e2 e3
    have hbl : SmL B w m v body := hbody
    obtain ⟨a2, cap2, rfl, _, _⟩ := hbody
    obtain rfl | rfl | rfl : wh = 0 ∨ wh = 2 ∨ wh = 1 := by omega
    · have hf : has = false := by cases has with | false => rfl | true => exact absurd (hh rfl).1 (by decide)
      subst hf
      have e : ruT m ⟨0, false, pat, body⟩ = [66, 69, 71, 73, 78, 32] ++ blL (smT m) body := by simp [ruT]
      rw [e] at hlen ⊢
      exact ruleText_a m B pat body k1 n1 s1 a1 len1 cap1 a2 _ cap2 w hpat hbl hB (fun h => by cases h) hall hlen hP
    · have hf : has = false := by cases has with | false => rfl | true => exact absurd (hh rfl).1 (by decide)
      subst hf
      have e : ruT m ⟨2, false, pat, body⟩ = [69, 78, 68, 32] ++ blL (smT m) body := by simp [ruT]
      rw [e] at hlen ⊢
      exact ruleText_b m B pat body k1 n1 s1 a1 len1 cap1 a2 _ cap2 w hpat hbl hB (fun h => by cases h) hall hlen hP
    · cases has with
      | false =>
        have e : ruT m ⟨1, false, pat, body⟩ = blL (smT m) body := by simp [ruT]
        rw [e] at hlen ⊢
        exact ruleText_d m B pat body k1 n1 s1 a1 len1 cap1 a2 _ cap2 w hpat hbl hB (fun h => by cases h) hall hlen hP
      | true =>
        have e : ruT m ⟨1, true, pat, body⟩ = exT m pat ++ [32] ++ blL (smT m) body := by simp [ruT]
        rw [e] at hlen ⊢
        exact ruleText_e m B pat body k1 n1 s1 a1 len1 cap1 a2 _ cap2 w hpat hbl hB (fun _ => (hh rfl).2) hall hlen hP

/-- An element of a list of rules. -/
theorem kidR {B m b off : Nat} {w : World} {l : List Ru} (hi : ∀ i, i < l.length → ∃ cs : List Value, cs.length = 7 ∧ (∀ j, j < 7 → w.cell? ⟨b, off + i * 7 + j, none⟩ = cs[j]?) ∧ ∃ x, l[i]? = some x ∧ RuA B w m cs x) (i : Nat) (h : i < l.length) :
    ∃ (k : Int) (h1 : Bool) (k1 n1 : Int) (s1 : ByteArray) (a1 : Option Addr) (len1 cap1 : Nat) (a2 : Option Addr) (len2 cap2 : Nat), w.cell? ⟨b, off + i * 7, none⟩ = some (.int .i64 k) ∧ w.cell? ⟨b, off + i * 7 + 1, none⟩ = some (.bool h1) ∧ w.cell? ⟨b, off + i * 7 + 2, none⟩ = some (.int .i64 k1) ∧ w.cell? ⟨b, off + i * 7 + 3, none⟩ = some (.int .i64 n1) ∧ w.cell? ⟨b, off + i * 7 + 4, none⟩ = some (.string s1) ∧ w.cell? ⟨b, off + i * 7 + 5, none⟩ = some (.slice a1 len1 cap1) ∧ w.cell? ⟨b, off + i * 7 + 6, none⟩ = some (.slice a2 len2 cap2) ∧ Hid (RuA B w m [.int .i64 k, .bool h1, .int .i64 k1, .int .i64 n1, .string s1, .slice a1 len1 cap1, .slice a2 len2 cap2] l[i]) := by
  obtain ⟨cs, hcl, hcell, x, hx, hex⟩ := hi i h
  obtain ⟨k, h1, k1, n1, s1, a1, len1, cap1, a2, len2, cap2, rfl⟩ := hex.shape
  rw [List.getElem?_eq_getElem h] at hx
  cases hx
  exact ⟨k, h1, k1, n1, s1, a1, len1, cap1, a2, len2, cap2, hcell 0 (by omega), hcell 1 (by omega), hcell 2 (by omega), hcell 3 (by omega), hcell 4 (by omega), hcell 5 (by omega), hcell 6 (by omega), hex⟩

/-- The rules up to k. -/
def rup (m : Nat) (l : List Ru) (k : Nat) : List UInt8 := (l.take k).flatMap fun r => ruT m r ++ [10]
theorem rup_len (m : Nat) (l : List Ru) (k : Nat) : (rup m l k).length ≤ (prT m l).length := flat_take_len _ l k
theorem rup_succ (m : Nat) (l : List Ru) (k : Nat) (h : k < l.length) : rup m l (k + 1) = rup m l k ++ ruT m l[k] ++ [10] := by
  simp only [rup, flat_take_succ _ l k h, List.append_assoc]
theorem rup_all (m : Nat) (l : List Ru) (k : Nat) (h : ¬ k < l.length) : rup m l k = prT m l := by
  simp only [rup, prT, List.take_of_length_le (show l.length ≤ k by omega)]
theorem rup_mem (m : Nat) (l : List Ru) (k : Nat) (h : k < l.length) : (ruT m l[k]).length ≤ (prT m l).length := by
  have := flat_mem_len (fun r => ruT m r ++ [10]) (List.getElem_mem h)
  simp only [prT, List.length_append, List.length_cons, List.length_nil] at this ⊢
  omega
end Go.Proofs.YtfbpkbochhfnhaaGreatDoor

namespace Go.Proofs.YtfbpkbochhfnhaaGreatDoor
open Go.ChangeShapes Go.WideShapes Go.ChangeAt Go.RowKit Go.Joins
set_option linter.unusedVariables false
set_option maxRecDepth 100000

/-- What is printed: the text, where nothing is wrong. -/
def txP (m : Nat) (l : List Ru) : ByteArray := if ckP m l = 0 then bs (prT m l) else ⟨#[]⟩

theorem ret_two {a b : ByteArray} {c d : Int} (h1 : a = b) (h2 : c = d) : Ending.returned (.tuple #[.string a, .int .i64 c]) = .returned (.tuple #[.string b, .int .i64 d]) := by rw [h1, h2]

set_option maxHeartbeats 4000000 in
theorem print_c (m B : Nat) (l : List Ru) (v : Value) (w : World) (hv : Sl w B 7 v l.length (fun i c => ∃ x, l[i]? = some x ∧ RuA B w m c x)) (hB : B ≤ w.heap.size) (hP : Pow w) (hT : Tb B w) :
    Calls Tryz.prog 11 #[.agg #[v]] w fun e w' => e = .returned (.tuple #[.string (txP m l), .int .i64 (ckP m l)]) ∧ Below w.heap.size w w' := by
  have HV : Hid (Sl w B 7 v l.length (fun i c => ∃ x, l[i]? = some x ∧ RuA B w m c x)) := hv
  obtain ⟨a, cap, rfl, hmax, hsl⟩ := hv
  have HSL : Hid _ := hsl
  have HP : Hid (Pow w) := hP
  have HBB : Hid (B ≤ w.heap.size) := hB
  unfold maxLen at hmax
  obtain ⟨W, hW⟩ : ∃ W, W = w.alloc (.cells #[.slice a l.length cap] 28) := ⟨_, rfl⟩
  have HW : Hid (Below w.heap.size w W) := by rw [hW]; exact (Below.refl _ _).alloc (Nat.le_refl _) _
  have HR : Hid (RowAt W w.heap.size #[.slice a l.length cap]) := by rw [hW]; exact RowAt.new w _ _
  have HWW : Hid (W = _) := hW
  have HC : Hid _ := check_c m B l (.slice a l.length cap) W (HV.out.below (HW.out.mono hB) fun i c ⟨x, hx, he⟩ => ⟨x, hx, he.below (HW.out.mono hB)⟩) (hT.below (HW.out.mono hB)) (Nat.le_trans hB HW.out.size)
  clear hsl hP hW hT
  go_enter Tryz.func11, Tryz.ntmps11
  go_wp2_with fail
  rw [← HWW.out]
  clear HWW
  refine Calls.mono HC.out ?_
  rintro e w1 ⟨rfl, hb1⟩
  have HB1 : Hid (Below w.heap.size w w1) := bl_trans HW.out hb1
  have HR1 : Hid (RowAt w1 w.heap.size #[.slice a l.length cap]) := HR.out.below hb1
  clear hb1 HC HR
  by_cases hck : ckP m l = 0
  · obtain ⟨hall0, hlen0, h20⟩ := ckP_fit HV.out hck
    have HOK : Hid (∀ r ∈ l, okR m r) := hall0
    have HL : Hid ((prT m l).length ≤ 10000000) := hlen0
    have HTX : Hid (txP m l = bs (prT m l)) := by unfold txP Hid; rw [if_pos hck]
    rw [hck]
    have q0 := HR1.out.cell 0
    simp only [List.getElem?_toArray, List.getElem?_cons_zero] at q0
    obtain ⟨o, ho⟩ : ∃ o, o = Obj.cells #[.pointer none, .slice none 0 0] 69 := ⟨_, rfl⟩
    have HD0 : Hid (Bd w1.heap.size w1.heap.size [] (w1.alloc o)) := by rw [ho]; exact Bd.new w1
    have HW0 : Hid (Below w1.heap.size w1 (w1.alloc o)) := (Below.refl _ _).alloc (Nat.le_refl _) o
    have HCK : Hid (ckP m l = 0) := hck
    have q9 : (w1.alloc (.cells #[.pointer none, .slice none 0 0] 69)).cell? ⟨w.heap.size, 0, none⟩ = some (.slice a l.length cap) := by
      rw [← ho]
      exact (HW0.out.cell (p := ⟨w.heap.size, 0, none⟩) HR1.out.lt).trans q0
    clear hall0 hlen0 hck HV HW q0
    go_wp2_with fail
    rw [← ho]
    clear ho q9
    go_loopw [16] (fun v wr => ∃ k : Nat, k ≤ l.length ∧ v = .int .i64 k ∧ Hid (Bd w1.heap.size w1.heap.size (rup m l k) wr ∧ Below w1.heap.size w1 wr)) (fun v _ => l.length - (intOf v).toNat)
    case atStart => exact ⟨0, by omega, rfl, HD0.out, HW0.out⟩
    case round =>
      obtain ⟨i, hil, rfl, HR⟩ := hrel
      clear HD0 HW0
      have HLK : Hid ((rup m l i).length ≤ 10000000) := Nat.le_trans (rup_len m l i) HL.out
      by_cases hk2 : i < l.length
      · have i1 : (i : Int) < (l.length : Int) := by omega
        have i2 : (0 : Int) ≤ (i : Int) := by omega
        obtain ⟨b, off, rfl, hb, hi⟩ := HSL.out (by omega)
        have hbw : b < w.heap.size := by have := HBB.out; omega
        obtain ⟨k, h1, k1, n1, s1, a1, len1, cap1, a2, len2, cap2, p0, p1, p2, p3, p4, p5, p6, hx0⟩ := kidR hi i hk2
        have HBR : Hid (Below w.heap.size w wr) := bl_trans HB1.out HR.out.2
        have q0 : wr.cell? ⟨b, off + i * 7, none⟩ = _ := (HBR.out.cell (p := ⟨b, off + i * 7, none⟩) hbw).trans p0
        have q1 : wr.cell? ⟨b, off + i * 7 + 1, none⟩ = _ := (HBR.out.cell (p := ⟨b, off + i * 7 + 1, none⟩) hbw).trans p1
        have q2 : wr.cell? ⟨b, off + i * 7 + 2, none⟩ = _ := (HBR.out.cell (p := ⟨b, off + i * 7 + 2, none⟩) hbw).trans p2
        have q3 : wr.cell? ⟨b, off + i * 7 + 3, none⟩ = _ := (HBR.out.cell (p := ⟨b, off + i * 7 + 3, none⟩) hbw).trans p3
        have q4 : wr.cell? ⟨b, off + i * 7 + 4, none⟩ = _ := (HBR.out.cell (p := ⟨b, off + i * 7 + 4, none⟩) hbw).trans p4
        have q5 : wr.cell? ⟨b, off + i * 7 + 5, none⟩ = _ := (HBR.out.cell (p := ⟨b, off + i * 7 + 5, none⟩) hbw).trans p5
        have q6 : wr.cell? ⟨b, off + i * 7 + 6, none⟩ = _ := (HBR.out.cell (p := ⟨b, off + i * 7 + 6, none⟩) hbw).trans p6
        obtain ⟨W1, hW1⟩ : ∃ W1, W1 = wr.alloc (.cells #[.int .i64 k, .bool h1, .int .i64 k1, .int .i64 n1, .string s1, .slice a1 len1 cap1, .slice a2 len2 cap2] 60) := ⟨_, rfl⟩
        have HW1 : Hid (Below wr.heap.size wr W1) := by rw [hW1]; exact (Below.refl _ _).alloc (Nat.le_refl _) _
        have HWW : Hid (W1 = _) := hW1
        have HB2 : Hid (Below w.heap.size w W1) := bl_trans HBR.out HW1.out
        have HSZ : Hid ((ruT m l[i]).length ≤ 10000000) := Nat.le_trans (rup_mem m l i hk2) HL.out
        have HC : Hid _ := ruleText_c m B l[i] _ W1 (hx0.out.below (HB2.out.mono HBB.out)) (Nat.le_trans HBB.out HB2.out.size) (HOK.out _ (List.getElem_mem hk2)) (Nat.le_trans HSZ.out (by decide)) (HP.out.stays HB2.out)
        have HUP : Hid (rup m l (i + 1) = rup m l i ++ ruT m l[i] ++ [10]) := rup_succ m l i hk2
        clear hW1 hi p0 p1 p2 p3 p4 p5 p6 hx0
        obtain ⟨x, hx⟩ : ∃ x, x = l[i] := ⟨_, rfl⟩
        rw [← hx] at HC HUP HSZ
        clear hx
        go_wp2_with fail
        rw [← HWW.out]
        clear HWW q0 q1 q2 q3 q4 q5 q6
        refine Calls.mono HC.out ?_
        rintro e w2 ⟨rfl, hb2⟩
        have HD2 : Hid (Bd w1.heap.size w1.heap.size (rup m l i) w2) := HR.out.1.below (bl_trans HW1.out hb2)
        have HB3 : Hid (Below w1.heap.size w1 w2) := bl_trans HR.out.2 (bl_trans HW1.out hb2)
        have HTS : Hid ((bs (ruT m x)).size ≤ 10000000) := by unfold Hid; rw [bs_size]; exact HSZ.out
        have HTL : Hid ((bs (ruT m x)).toList = ruT m x) := bs_list _
        obtain ⟨T, hT⟩ : ∃ T, T = bs (ruT m x) := ⟨_, rfl⟩
        rw [← hT] at HTS HTL ⊢
        clear hb2 HC HR HB2 HW1 hT HBR
        go_wp2_with fail
        refine (HD2.out.write T (by have := HLK.out; have := HTS.out; omega) HB3.out.size).mono ?_
        rintro e w3 ⟨rfl, hb3, hw3⟩
        have HD3 : Hid (Bd w1.heap.size w1.heap.size (rup m l i ++ ruT m x) w3) := by rw [HTL.out] at hb3; exact hb3
        have HB4 : Hid (Below w1.heap.size w1 w3) := HB3.out.trans hw3
        clear hb3 hw3
        go_wp2_with fail
        refine (HD3.out.write ⟨#[10]⟩ (by have e : (⟨#[10]⟩ : ByteArray).size = 1 := rfl; rw [e, List.length_append]; have := HLK.out; have := HSZ.out; omega) HB4.out.size).mono ?_
        rintro e w4 ⟨rfl, hb4, hw4⟩
        have HN : Hid (Bd w1.heap.size w1.heap.size (rup m l (i + 1)) w4 ∧ Below w1.heap.size w1 w4) := ⟨by rw [HUP.out]; rw [toL_mk [10]] at hb4; exact hb4, HB4.out.trans hw4⟩
        clear hb4 hw4
        go_wp2_with fail
        go_roundw
        case rel => exact ⟨i + 1, by omega, by go_num, HN⟩
        case measure => simp [intOf]; omega
      · have i1 : ¬ (i : Int) < (l.length : Int) := by omega
        have HUA : Hid (rup m l i = prT m l) := rup_all m l i hk2
        go_wp2_with fail
        refine (HR.out.1.string HR.out.2.size).mono ?_
        rintro e w3 ⟨rfl, hw3⟩
        have HB3 : Hid (Below w.heap.size w w3) := bl_trans HB1.out (HR.out.2.trans hw3)
        clear hw3
        rw [HUA.out, ← HTX.out]
        go_wp2_with fail
        go_ret2
        exact ⟨ret_two rfl HCK.out.symm, HB3.out⟩
  · have HTX : Hid (txP m l = ⟨#[]⟩) := by unfold txP Hid; rw [if_neg hck]
    have hck2 : (ckP m l == 0) = false := by simpa using hck
    go_wp2_with fail
    go_ret2
    exact ⟨ret_two HTX.out.symm rfl, HB1.out⟩

end Go.Proofs.YtfbpkbochhfnhaaGreatDoor
