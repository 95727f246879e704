/-
  Contract of the program's ruleText.
-/
import Derived.Test.YtjconmohifaliaaDoorPrB
import Derived.BigQuiet
namespace Go.Proofs.YtjconmohifaliaaDoor
open Go.ChangeShapes Go.WideShapes Go.ChangeAt Go.RowKit Go.Joins
set_option linter.unusedVariables false
set_option maxRecDepth 100000

set_option maxHeartbeats 2000000 in
theorem ruleText_a (m B : Nat) (pat : Ex) (body : List Sm) (k1 n1 : Int) (s1 : ByteArray) (a1 : Option Addr) (len1 cap1 : Nat) (a2 : Option Addr) (len2 cap2 : Nat) (w : World) (hx : ExA B w m [.int .i64 k1, .int .i64 n1, .string s1, .slice a1 len1 cap1] pat) (hv : SmL B w m (.slice a2 len2 cap2) body) (hB : B ≤ w.heap.size) (hok : false = true → okE m pat) (hall : ∀ x ∈ body, okS m x) (hlen : ([66, 69, 71, 73, 78, 32] ++ blL (smT m) body).length ≤ 100000000) (hP : Pow w) :
    Calls Tryd.prog 8 #[.agg #[.int .i64 0, .bool false, .int .i64 k1, .int .i64 n1, .string s1, .slice a1 len1 cap1, .slice a2 len2 cap2]] w fun e w' => e = .returned (.string (bs ([66, 69, 71, 73, 78, 32] ++ blL (smT m) body))) ∧ Below w.heap.size w w' := by
  have HW : Hid (Below w.heap.size w (w.alloc (.cells #[.int .i64 0, .bool false, .int .i64 k1, .int .i64 n1, .string s1, .slice a1 len1 cap1, .slice a2 len2 cap2] 39))) := (Below.refl _ _).alloc (Nat.le_refl _) _
  have HR : Hid (RowAt (w.alloc (.cells #[.int .i64 0, .bool false, .int .i64 k1, .int .i64 n1, .string s1, .slice a1 len1 cap1, .slice a2 len2 cap2] 39)) w.heap.size #[.int .i64 0, .bool false, .int .i64 k1, .int .i64 n1, .string s1, .slice a1 len1 cap1, .slice a2 len2 cap2]) := RowAt.new w _ _
  obtain ⟨W, hW⟩ : ∃ W, W = w.alloc (.cells #[.int .i64 0, .bool false, .int .i64 k1, .int .i64 n1, .string s1, .slice a1 len1 cap1, .slice a2 len2 cap2] 39) := ⟨_, rfl⟩
  rw [← hW] at HW HR
  have HWW : Hid (W = _) := hW
  clear hW
  simp only [List.length_append, List.length_cons, List.length_nil] at hlen
  obtain ⟨TB, hTB⟩ : ∃ T, T = bs (blL (smT m) body) := ⟨_, rfl⟩
  have tB : TB.size = (blL (smT m) body).length := by rw [hTB, bs_size]
  have HC : Hid (Calls Tryd.prog 17 #[.slice a2 len2 cap2] W fun e w' => e = .returned (.string TB) ∧ Below W.heap.size W w') := by
    rw [hTB]
    exact blockText_c m B body _ W (hv.below (HW.out.mono hB)) (Nat.le_trans hB HW.out.size) hall (by omega) (hP.stays HW.out)
  have HE : Hid (⟨#[66, 69, 71, 73, 78, 32]⟩ ++ TB = bs ([66, 69, 71, 73, 78, 32] ++ blL (smT m) body)) := bs_of (by rw [hTB]; simp only [toL_append, bs_list, toL_mk])
  have z1 : ¬ 9223372036854775807 < 6 + TB.size := by omega
  clear hx hv hok hall hlen hP hTB tB HR
  go_enter Tryd.func8, Tryd.ntmps8
  go_wp2_with fail
  rw [← HWW.out]
  clear HWW
  refine Calls.mono HC.out ?_
  rintro e w1 ⟨rfl, hb1⟩
  have HB1 : Hid (Below w.heap.size w w1) := bl_trans HW.out hb1
  clear hb1 HC
  go_wp2_with fail
  go_ret
  exact ⟨ret_str HE.out, HB1.out⟩

set_option maxHeartbeats 2000000 in
theorem ruleText_b (m B : Nat) (pat : Ex) (body : List Sm) (k1 n1 : Int) (s1 : ByteArray) (a1 : Option Addr) (len1 cap1 : Nat) (a2 : Option Addr) (len2 cap2 : Nat) (w : World) (hx : ExA B w m [.int .i64 k1, .int .i64 n1, .string s1, .slice a1 len1 cap1] pat) (hv : SmL B w m (.slice a2 len2 cap2) body) (hB : B ≤ w.heap.size) (hok : false = true → okE m pat) (hall : ∀ x ∈ body, okS m x) (hlen : ([69, 78, 68, 32] ++ blL (smT m) body).length ≤ 100000000) (hP : Pow w) :
    Calls Tryd.prog 8 #[.agg #[.int .i64 2, .bool false, .int .i64 k1, .int .i64 n1, .string s1, .slice a1 len1 cap1, .slice a2 len2 cap2]] w fun e w' => e = .returned (.string (bs ([69, 78, 68, 32] ++ blL (smT m) body))) ∧ Below w.heap.size w w' := by
  have HW : Hid (Below w.heap.size w (w.alloc (.cells #[.int .i64 2, .bool false, .int .i64 k1, .int .i64 n1, .string s1, .slice a1 len1 cap1, .slice a2 len2 cap2] 39))) := (Below.refl _ _).alloc (Nat.le_refl _) _
  have HR : Hid (RowAt (w.alloc (.cells #[.int .i64 2, .bool false, .int .i64 k1, .int .i64 n1, .string s1, .slice a1 len1 cap1, .slice a2 len2 cap2] 39)) w.heap.size #[.int .i64 2, .bool false, .int .i64 k1, .int .i64 n1, .string s1, .slice a1 len1 cap1, .slice a2 len2 cap2]) := RowAt.new w _ _
  obtain ⟨W, hW⟩ : ∃ W, W = w.alloc (.cells #[.int .i64 2, .bool false, .int .i64 k1, .int .i64 n1, .string s1, .slice a1 len1 cap1, .slice a2 len2 cap2] 39) := ⟨_, rfl⟩
  rw [← hW] at HW HR
  have HWW : Hid (W = _) := hW
  clear hW
  simp only [List.length_append, List.length_cons, List.length_nil] at hlen
  obtain ⟨TB, hTB⟩ : ∃ T, T = bs (blL (smT m) body) := ⟨_, rfl⟩
  have tB : TB.size = (blL (smT m) body).length := by rw [hTB, bs_size]
  have HC : Hid (Calls Tryd.prog 17 #[.slice a2 len2 cap2] W fun e w' => e = .returned (.string TB) ∧ Below W.heap.size W w') := by
    rw [hTB]
    exact blockText_c m B body _ W (hv.below (HW.out.mono hB)) (Nat.le_trans hB HW.out.size) hall (by omega) (hP.stays HW.out)
  have HE : Hid (⟨#[69, 78, 68, 32]⟩ ++ TB = bs ([69, 78, 68, 32] ++ blL (smT m) body)) := bs_of (by rw [hTB]; simp only [toL_append, bs_list, toL_mk])
  have z1 : ¬ 9223372036854775807 < 4 + TB.size := by omega
  clear hx hv hok hall hlen hP hTB tB HR
  go_enter Tryd.func8, Tryd.ntmps8
  go_wp2_with fail
  rw [← HWW.out]
  clear HWW
  refine Calls.mono HC.out ?_
  rintro e w1 ⟨rfl, hb1⟩
  have HB1 : Hid (Below w.heap.size w w1) := bl_trans HW.out hb1
  clear hb1 HC
  go_wp2_with fail
  go_ret
  exact ⟨ret_str HE.out, HB1.out⟩

set_option maxHeartbeats 2000000 in
theorem ruleText_d (m B : Nat) (pat : Ex) (body : List Sm) (k1 n1 : Int) (s1 : ByteArray) (a1 : Option Addr) (len1 cap1 : Nat) (a2 : Option Addr) (len2 cap2 : Nat) (w : World) (hx : ExA B w m [.int .i64 k1, .int .i64 n1, .string s1, .slice a1 len1 cap1] pat) (hv : SmL B w m (.slice a2 len2 cap2) body) (hB : B ≤ w.heap.size) (hok : false = true → okE m pat) (hall : ∀ x ∈ body, okS m x) (hlen : (blL (smT m) body).length ≤ 100000000) (hP : Pow w) :
    Calls Tryd.prog 8 #[.agg #[.int .i64 1, .bool false, .int .i64 k1, .int .i64 n1, .string s1, .slice a1 len1 cap1, .slice a2 len2 cap2]] w fun e w' => e = .returned (.string (bs (blL (smT m) body))) ∧ Below w.heap.size w w' := by
  have HW : Hid (Below w.heap.size w (w.alloc (.cells #[.int .i64 1, .bool false, .int .i64 k1, .int .i64 n1, .string s1, .slice a1 len1 cap1, .slice a2 len2 cap2] 39))) := (Below.refl _ _).alloc (Nat.le_refl _) _
  have HR : Hid (RowAt (w.alloc (.cells #[.int .i64 1, .bool false, .int .i64 k1, .int .i64 n1, .string s1, .slice a1 len1 cap1, .slice a2 len2 cap2] 39)) w.heap.size #[.int .i64 1, .bool false, .int .i64 k1, .int .i64 n1, .string s1, .slice a1 len1 cap1, .slice a2 len2 cap2]) := RowAt.new w _ _
  obtain ⟨W, hW⟩ : ∃ W, W = w.alloc (.cells #[.int .i64 1, .bool false, .int .i64 k1, .int .i64 n1, .string s1, .slice a1 len1 cap1, .slice a2 len2 cap2] 39) := ⟨_, rfl⟩
  rw [← hW] at HW HR
  have HWW : Hid (W = _) := hW
  clear hW
  obtain ⟨TB, hTB⟩ : ∃ T, T = bs (blL (smT m) body) := ⟨_, rfl⟩
  have tB : TB.size = (blL (smT m) body).length := by rw [hTB, bs_size]
  have HC : Hid (Calls Tryd.prog 17 #[.slice a2 len2 cap2] W fun e w' => e = .returned (.string TB) ∧ Below W.heap.size W w') := by
    rw [hTB]
    exact blockText_c m B body _ W (hv.below (HW.out.mono hB)) (Nat.le_trans hB HW.out.size) hall (by omega) (hP.stays HW.out)
  have HE : Hid (TB = bs (blL (smT m) body)) := bs_of (by rw [hTB]; simp only [bs_list])
  clear hx hv hok hall hlen hP hTB tB HR
  go_enter Tryd.func8, Tryd.ntmps8
  go_wp2_with fail
  rw [← HWW.out]
  clear HWW
  refine Calls.mono HC.out ?_
  rintro e w1 ⟨rfl, hb1⟩
  have HB1 : Hid (Below w.heap.size w w1) := bl_trans HW.out hb1
  clear hb1 HC
  go_wp2_with fail
  go_ret
  exact ⟨ret_str HE.out, HB1.out⟩

set_option maxHeartbeats 2000000 in
theorem ruleText_e (m B : Nat) (pat : Ex) (body : List Sm) (k1 n1 : Int) (s1 : ByteArray) (a1 : Option Addr) (len1 cap1 : Nat) (a2 : Option Addr) (len2 cap2 : Nat) (w : World) (hx : ExA B w m [.int .i64 k1, .int .i64 n1, .string s1, .slice a1 len1 cap1] pat) (hv : SmL B w m (.slice a2 len2 cap2) body) (hB : B ≤ w.heap.size) (hok : true = true → okE m pat) (hall : ∀ x ∈ body, okS m x) (hlen : (exT m pat ++ [32] ++ blL (smT m) body).length ≤ 100000000) (hP : Pow w) :
    Calls Tryd.prog 8 #[.agg #[.int .i64 1, .bool true, .int .i64 k1, .int .i64 n1, .string s1, .slice a1 len1 cap1, .slice a2 len2 cap2]] w fun e w' => e = .returned (.string (bs (exT m pat ++ [32] ++ blL (smT m) body))) ∧ Below w.heap.size w w' := by
  have HW : Hid (Below w.heap.size w (w.alloc (.cells #[.int .i64 1, .bool true, .int .i64 k1, .int .i64 n1, .string s1, .slice a1 len1 cap1, .slice a2 len2 cap2] 39))) := (Below.refl _ _).alloc (Nat.le_refl _) _
  have HR : Hid (RowAt (w.alloc (.cells #[.int .i64 1, .bool true, .int .i64 k1, .int .i64 n1, .string s1, .slice a1 len1 cap1, .slice a2 len2 cap2] 39)) w.heap.size #[.int .i64 1, .bool true, .int .i64 k1, .int .i64 n1, .string s1, .slice a1 len1 cap1, .slice a2 len2 cap2]) := RowAt.new w _ _
  obtain ⟨W, hW⟩ : ∃ W, W = w.alloc (.cells #[.int .i64 1, .bool true, .int .i64 k1, .int .i64 n1, .string s1, .slice a1 len1 cap1, .slice a2 len2 cap2] 39) := ⟨_, rfl⟩
  rw [← hW] at HW HR
  have HWW : Hid (W = _) := hW
  clear hW
  simp only [List.length_append, List.length_cons, List.length_nil] at hlen
  obtain ⟨TB, hTB⟩ : ∃ T, T = bs (blL (smT m) body) := ⟨_, rfl⟩
  have tB : TB.size = (blL (smT m) body).length := by rw [hTB, bs_size]
  obtain ⟨TE, hTE⟩ : ∃ T, T = bs (exT m pat) := ⟨_, rfl⟩
  have tE : TE.size = (exT m pat).length := by rw [hTE, bs_size]
  have q0 := HR.out.cell 0
  have q1 := HR.out.cell 1
  have q2 := HR.out.cell 2
  have q3 := HR.out.cell 3
  have q4 := HR.out.cell 4
  have q5 := HR.out.cell 5
  have q6 := HR.out.cell 6
  simp only [List.getElem?_toArray, List.getElem?_cons_zero, List.getElem?_cons_succ] at q0 q1 q2 q3 q4 q5 q6
  have Q2 := cell_regrown q2
  have Q3 := cell_regrown q3
  have Q4 := cell_regrown q4
  have Q5 := cell_regrown q5
  have Q6 := cell_regrown q6
  have cE := kid_c (exprText_c m) hx HW.out hB (hok rfl) (by omega) hP hTE
  have cB := blk_k (blockText_c m) hv HW.out hB hall (by omega) hP hTB
  have HE : Hid (TE ++ ⟨#[32]⟩ ++ TB = bs (exT m pat ++ [32] ++ blL (smT m) body)) := bs_of (by rw [hTE, hTB]; simp only [toL_append, bs_list, toL_mk])
  have z1 : ¬ 9223372036854775807 < TE.size + 1 := by omega
  have z2 : ¬ 9223372036854775807 < TE.size + 1 + TB.size := by omega
  clear hx hv hok hall hlen hP hTB tB hTE tE q0 q1 q2 q3 q4 q5 q6 HR
  go_enter Tryd.func8, Tryd.ntmps8
  go_wp2_with fail
  rw [← HWW.out]
  clear HWW
  refine wp_region_quiet_below (by kernel_rfl) (by kernel_rfl) ?_
  repeat (go_big_quiet_step (first | with_reducible exact cE _ _ | with_reducible exact cB _ _))
  refine wpQuiet_nil ?_
  intro _ hw'
  obtain ⟨⟨dq, osq⟩, hw''⟩ := hw'
  subst hw''
  go_wp2
  go_ret
  exact ⟨ret_str HE.out, bl_trans HW.out (below_regrown W dq osq)⟩

/-- Contract of the program's ruleText. -/
theorem ruleText_c (m B : Nat) (r : Ru) (cs : List Value) (w : World) (hx : RuA B w m cs r) (hB : B ≤ w.heap.size) (hok : okR m r) (hlen : (ruT m r).length ≤ 100000000) (hP : Pow w) :
    Calls Tryd.prog 8 #[.agg cs.toArray] w fun e w' => e = .returned (.string (bs (ruT m r))) ∧ Below w.heap.size w w' := by
  cases r with
  | mk wh has pat body =>
    obtain ⟨c0, c1, c2, c3, v, rfl, _, hpat, hbody⟩ := hx
    obtain ⟨hw0, hw2, hh, hall⟩ := hok
    simp only at hw0 hw2 hh hall hpat hbody
    obtain ⟨k1, n1, s1, a1, len1, cap1, he⟩ := hpat.shape
    injection he with e0 he
    injection he with e1 he
    injection he with e2 he
    injection he with e3 he
    subst e0 e1 e2 e3
    have hbl : SmL B w m v body := hbody
    obtain ⟨a2, cap2, rfl, _, _⟩ := hbody
    obtain rfl | rfl | rfl : wh = 0 ∨ wh = 2 ∨ wh = 1 := by omega
    · have hf : has = false := by cases has with | false => rfl | true => exact absurd (hh rfl).1 (by decide)
      subst hf
      have e : ruT m ⟨0, false, pat, body⟩ = [66, 69, 71, 73, 78, 32] ++ blL (smT m) body := by simp [ruT]
      rw [e] at hlen ⊢
      exact ruleText_a m B pat body k1 n1 s1 a1 len1 cap1 a2 _ cap2 w hpat hbl hB (fun h => by cases h) hall hlen hP
    · have hf : has = false := by cases has with | false => rfl | true => exact absurd (hh rfl).1 (by decide)
      subst hf
      have e : ruT m ⟨2, false, pat, body⟩ = [69, 78, 68, 32] ++ blL (smT m) body := by simp [ruT]
      rw [e] at hlen ⊢
      exact ruleText_b m B pat body k1 n1 s1 a1 len1 cap1 a2 _ cap2 w hpat hbl hB (fun h => by cases h) hall hlen hP
    · cases has with
      | false =>
        have e : ruT m ⟨1, false, pat, body⟩ = blL (smT m) body := by simp [ruT]
        rw [e] at hlen ⊢
        exact ruleText_d m B pat body k1 n1 s1 a1 len1 cap1 a2 _ cap2 w hpat hbl hB (fun h => by cases h) hall hlen hP
      | true =>
        have e : ruT m ⟨1, true, pat, body⟩ = exT m pat ++ [32] ++ blL (smT m) body := by simp [ruT]
        rw [e] at hlen ⊢
        exact ruleText_e m B pat body k1 n1 s1 a1 len1 cap1 a2 _ cap2 w hpat hbl hB (fun _ => (hh rfl).2) hall hlen hP

/-- An element of a list of rules. -/
theorem kidR {B m b off : Nat} {w : World} {l : List Ru} (hi : ∀ i, i < l.length → ∃ cs : List Value, cs.length = 7 ∧ (∀ j, j < 7 → w.cell? ⟨b, off + i * 7 + j, none⟩ = cs[j]?) ∧ ∃ x, l[i]? = some x ∧ RuA B w m cs x) (i : Nat) (h : i < l.length) :
    ∃ (k : Int) (h1 : Bool) (k1 n1 : Int) (s1 : ByteArray) (a1 : Option Addr) (len1 cap1 : Nat) (a2 : Option Addr) (len2 cap2 : Nat), w.cell? ⟨b, off + i * 7, none⟩ = some (.int .i64 k) ∧ w.cell? ⟨b, off + i * 7 + 1, none⟩ = some (.bool h1) ∧ w.cell? ⟨b, off + i * 7 + 2, none⟩ = some (.int .i64 k1) ∧ w.cell? ⟨b, off + i * 7 + 3, none⟩ = some (.int .i64 n1) ∧ w.cell? ⟨b, off + i * 7 + 4, none⟩ = some (.string s1) ∧ w.cell? ⟨b, off + i * 7 + 5, none⟩ = some (.slice a1 len1 cap1) ∧ w.cell? ⟨b, off + i * 7 + 6, none⟩ = some (.slice a2 len2 cap2) ∧ Hid (RuA B w m [.int .i64 k, .bool h1, .int .i64 k1, .int .i64 n1, .string s1, .slice a1 len1 cap1, .slice a2 len2 cap2] l[i]) := by
  obtain ⟨cs, hcl, hcell, x, hx, hex⟩ := hi i h
  obtain ⟨k, h1, k1, n1, s1, a1, len1, cap1, a2, len2, cap2, rfl⟩ := hex.shape
  rw [List.getElem?_eq_getElem h] at hx
  cases hx
  exact ⟨k, h1, k1, n1, s1, a1, len1, cap1, a2, len2, cap2, hcell 0 (by omega), hcell 1 (by omega), hcell 2 (by omega), hcell 3 (by omega), hcell 4 (by omega), hcell 5 (by omega), hcell 6 (by omega), hex⟩

/-- The rules up to k. -/
def rup (m : Nat) (l : List Ru) (k : Nat) : List UInt8 := (l.take k).flatMap fun r => ruT m r ++ [10]
theorem rup_len (m : Nat) (l : List Ru) (k : Nat) : (rup m l k).length ≤ (prT m l).length := flat_take_len _ l k
theorem rup_succ (m : Nat) (l : List Ru) (k : Nat) (h : k < l.length) : rup m l (k + 1) = rup m l k ++ ruT m l[k] ++ [10] := by
  simp only [rup, flat_take_succ _ l k h, List.append_assoc]
theorem rup_all (m : Nat) (l : List Ru) (k : Nat) (h : ¬ k < l.length) : rup m l k = prT m l := by
  simp only [rup, prT, List.take_of_length_le (show l.length ≤ k by omega)]
theorem rup_mem (m : Nat) (l : List Ru) (k : Nat) (h : k < l.length) : (ruT m l[k]).length ≤ (prT m l).length := by
  have := flat_mem_len (fun r => ruT m r ++ [10]) (List.getElem_mem h)
  simp only [prT, List.length_append, List.length_cons, List.length_nil] at this ⊢
  omega
end Go.Proofs.YtjconmohifaliaaDoor
