/-
  Contracts of the document's asks, levelOf and argsOf.
-/
import Derived.Test.YtjconmohifaliaaDoorRefV
namespace Go.Proofs.YtjconmohifaliaaDoor
open Go.ChangeShapes Go.WideShapes Go.ChangeAt Go.RowKit Go.Joins
set_option linter.unusedVariables false

set_option maxHeartbeats 4000000 in
theorem asksRef_c (s : ByteArray) (w : World) : Calls Tryd.prog 41 #[.string s] w fun e w' => e = .returned (.int .i64 (asksN s)) ∧ w' = w := by
  by_cases h0 : s.toList = [108, 101, 110, 103, 116, 104]
  · have HN : Hid (asksN s = 1) := by simp [Hid, asksN, h0]
    have b0 : (s.toList == [108, 101, 110, 103, 116, 104]) = true := by simp [h0]
    clear h0
    go_enter Tryd.func41, Tryd.ntmps41
    go_wp2_with fail
    go_ret
    exact ⟨ret_int HN.out.symm, rfl⟩
  have b0 : (s.toList == [108, 101, 110, 103, 116, 104]) = false := by simpa using h0
  by_cases h1 : s.toList = [105, 110, 100, 101, 120]
  · have HN : Hid (asksN s = 2) := by simp [Hid, asksN, h1]
    have b1 : (s.toList == [105, 110, 100, 101, 120]) = true := by simp [h1]
    clear h1
    go_enter Tryd.func41, Tryd.ntmps41
    go_wp2_with fail
    go_ret
    exact ⟨ret_int HN.out.symm, rfl⟩
  have b1 : (s.toList == [105, 110, 100, 101, 120]) = false := by simpa using h1
  by_cases h2 : s.toList = [115, 117, 98, 115, 116, 114]
  · have HN : Hid (asksN s = 3) := by simp [Hid, asksN, h2]
    have b2 : (s.toList == [115, 117, 98, 115, 116, 114]) = true := by simp [h2]
    clear h2
    go_enter Tryd.func41, Tryd.ntmps41
    go_wp2_with fail
    go_ret
    exact ⟨ret_int HN.out.symm, rfl⟩
  have b2 : (s.toList == [115, 117, 98, 115, 116, 114]) = false := by simpa using h2
  have HN : Hid (asksN s = 0) := by simp [Hid, asksN, h0, h1, h2]
  clear h0 h1 h2
  go_enter Tryd.func41, Tryd.ntmps41
  go_wp2_with fail
  go_ret
  exact ⟨ret_int HN.out.symm, rfl⟩

set_option maxHeartbeats 4000000 in
theorem levelOf_c (s : ByteArray) (w : World) : Calls Tryd.prog 40 #[.string s] w fun e w' => e = .returned (.int .i64 (lvl s)) ∧ w' = w := by
  by_cases h0 : s.toList = [124, 124]
  · have HN : Hid (lvl s = 1) := by simp [Hid, lvl, h0]
    have b0 : (s.toList == [124, 124]) = true := by simp [h0]
    clear h0
    go_enter Tryd.func40, Tryd.ntmps40
    go_wp2_with fail
    go_ret
    exact ⟨ret_int HN.out.symm, rfl⟩
  have b0 : (s.toList == [124, 124]) = false := by simpa using h0
  by_cases h1 : s.toList = [38, 38]
  · have HN : Hid (lvl s = 2) := by simp [Hid, lvl, h1]
    have b1 : (s.toList == [38, 38]) = true := by simp [h1]
    clear h1
    go_enter Tryd.func40, Tryd.ntmps40
    go_wp2_with fail
    go_ret
    exact ⟨ret_int HN.out.symm, rfl⟩
  have b1 : (s.toList == [38, 38]) = false := by simpa using h1
  by_cases h2 : s.toList = [60]
  · have HN : Hid (lvl s = 3) := by simp [Hid, lvl, h2]
    have b2 : (s.toList == [60]) = true := by simp [h2]
    clear h2
    go_enter Tryd.func40, Tryd.ntmps40
    go_wp2_with fail
    go_ret
    exact ⟨ret_int HN.out.symm, rfl⟩
  have b2 : (s.toList == [60]) = false := by simpa using h2
  by_cases h3 : s.toList = [60, 61]
  · have HN : Hid (lvl s = 3) := by simp [Hid, lvl, h3]
    have b3 : (s.toList == [60, 61]) = true := by simp [h3]
    clear h3
    go_enter Tryd.func40, Tryd.ntmps40
    go_wp2_with fail
    go_ret
    exact ⟨ret_int HN.out.symm, rfl⟩
  have b3 : (s.toList == [60, 61]) = false := by simpa using h3
  by_cases h4 : s.toList = [61, 61]
  · have HN : Hid (lvl s = 3) := by simp [Hid, lvl, h4]
    have b4 : (s.toList == [61, 61]) = true := by simp [h4]
    clear h4
    go_enter Tryd.func40, Tryd.ntmps40
    go_wp2_with fail
    go_ret
    exact ⟨ret_int HN.out.symm, rfl⟩
  have b4 : (s.toList == [61, 61]) = false := by simpa using h4
  by_cases h5 : s.toList = [33, 61]
  · have HN : Hid (lvl s = 3) := by simp [Hid, lvl, h5]
    have b5 : (s.toList == [33, 61]) = true := by simp [h5]
    clear h5
    go_enter Tryd.func40, Tryd.ntmps40
    go_wp2_with fail
    go_ret
    exact ⟨ret_int HN.out.symm, rfl⟩
  have b5 : (s.toList == [33, 61]) = false := by simpa using h5
  by_cases h6 : s.toList = [62]
  · have HN : Hid (lvl s = 3) := by simp [Hid, lvl, h6]
    have b6 : (s.toList == [62]) = true := by simp [h6]
    clear h6
    go_enter Tryd.func40, Tryd.ntmps40
    go_wp2_with fail
    go_ret
    exact ⟨ret_int HN.out.symm, rfl⟩
  have b6 : (s.toList == [62]) = false := by simpa using h6
  by_cases h7 : s.toList = [62, 61]
  · have HN : Hid (lvl s = 3) := by simp [Hid, lvl, h7]
    have b7 : (s.toList == [62, 61]) = true := by simp [h7]
    clear h7
    go_enter Tryd.func40, Tryd.ntmps40
    go_wp2_with fail
    go_ret
    exact ⟨ret_int HN.out.symm, rfl⟩
  have b7 : (s.toList == [62, 61]) = false := by simpa using h7
  by_cases h8 : s.toList = [46, 46]
  · have HN : Hid (lvl s = 4) := by simp [Hid, lvl, h8]
    have b8 : (s.toList == [46, 46]) = true := by simp [h8]
    clear h8
    go_enter Tryd.func40, Tryd.ntmps40
    go_wp2_with fail
    go_ret
    exact ⟨ret_int HN.out.symm, rfl⟩
  have b8 : (s.toList == [46, 46]) = false := by simpa using h8
  by_cases h9 : s.toList = [43]
  · have HN : Hid (lvl s = 5) := by simp [Hid, lvl, h9]
    have b9 : (s.toList == [43]) = true := by simp [h9]
    clear h9
    go_enter Tryd.func40, Tryd.ntmps40
    go_wp2_with fail
    go_ret
    exact ⟨ret_int HN.out.symm, rfl⟩
  have b9 : (s.toList == [43]) = false := by simpa using h9
  by_cases h10 : s.toList = [45]
  · have HN : Hid (lvl s = 5) := by simp [Hid, lvl, h10]
    have b10 : (s.toList == [45]) = true := by simp [h10]
    clear h10
    go_enter Tryd.func40, Tryd.ntmps40
    go_wp2_with fail
    go_ret
    exact ⟨ret_int HN.out.symm, rfl⟩
  have b10 : (s.toList == [45]) = false := by simpa using h10
  by_cases h11 : s.toList = [42]
  · have HN : Hid (lvl s = 6) := by simp [Hid, lvl, h11]
    have b11 : (s.toList == [42]) = true := by simp [h11]
    clear h11
    go_enter Tryd.func40, Tryd.ntmps40
    go_wp2_with fail
    go_ret
    exact ⟨ret_int HN.out.symm, rfl⟩
  have b11 : (s.toList == [42]) = false := by simpa using h11
  by_cases h12 : s.toList = [47]
  · have HN : Hid (lvl s = 6) := by simp [Hid, lvl, h12]
    have b12 : (s.toList == [47]) = true := by simp [h12]
    clear h12
    go_enter Tryd.func40, Tryd.ntmps40
    go_wp2_with fail
    go_ret
    exact ⟨ret_int HN.out.symm, rfl⟩
  have b12 : (s.toList == [47]) = false := by simpa using h12
  by_cases h13 : s.toList = [37]
  · have HN : Hid (lvl s = 6) := by simp [Hid, lvl, h13]
    have b13 : (s.toList == [37]) = true := by simp [h13]
    clear h13
    go_enter Tryd.func40, Tryd.ntmps40
    go_wp2_with fail
    go_ret
    exact ⟨ret_int HN.out.symm, rfl⟩
  have b13 : (s.toList == [37]) = false := by simpa using h13
  have HN : Hid (lvl s = 0) := by simp [Hid, lvl, h0, h1, h2, h3, h4, h5, h6, h7, h8, h9, h10, h11, h12, h13]
  clear h0 h1 h2 h3 h4 h5 h6 h7 h8 h9 h10 h11 h12 h13
  go_enter Tryd.func40, Tryd.ntmps40
  go_wp2_with fail
  go_ret
  exact ⟨ret_int HN.out.symm, rfl⟩

set_option maxHeartbeats 4000000 in
theorem argsRef_c (k n : Int) (s : ByteArray) (v : Value) (w : World) : Calls Tryd.prog 37 #[.agg #[.int .i64 k, .int .i64 n, .string s, v]] w fun e w' => e = .returned (.int .i64 (argsN k s)) ∧ Below w.heap.size w w' := by
  by_cases e4 : k = 4
  · subst e4
    have HN : Hid (argsN 4 s = 1) := rfl
    go_enter Tryd.func37, Tryd.ntmps37
    go_wp2_with fail
    go_ret
    exact ⟨ret_int HN.out.symm, (Below.refl _ _).alloc (Nat.le_refl _) _⟩
  by_cases e5 : k = 5
  · subst e5
    have HN : Hid (argsN 5 s = 1) := rfl
    go_enter Tryd.func37, Tryd.ntmps37
    go_wp2_with fail
    go_ret
    exact ⟨ret_int HN.out.symm, (Below.refl _ _).alloc (Nat.le_refl _) _⟩
  by_cases e7 : k = 7
  · subst e7
    have HN : Hid (argsN 7 s = 1) := rfl
    go_enter Tryd.func37, Tryd.ntmps37
    go_wp2_with fail
    go_ret
    exact ⟨ret_int HN.out.symm, (Below.refl _ _).alloc (Nat.le_refl _) _⟩
  by_cases e8 : k = 8
  · subst e8
    have HN : Hid (argsN 8 s = 1) := rfl
    go_enter Tryd.func37, Tryd.ntmps37
    go_wp2_with fail
    go_ret
    exact ⟨ret_int HN.out.symm, (Below.refl _ _).alloc (Nat.le_refl _) _⟩
  by_cases e9 : k = 9
  · subst e9
    have HN : Hid (argsN 9 s = 1) := rfl
    go_enter Tryd.func37, Tryd.ntmps37
    go_wp2_with fail
    go_ret
    exact ⟨ret_int HN.out.symm, (Below.refl _ _).alloc (Nat.le_refl _) _⟩
  by_cases e6 : k = 6
  · subst e6
    have HN : Hid (argsN 6 s = 2) := rfl
    go_enter Tryd.func37, Tryd.ntmps37
    go_wp2_with fail
    go_ret
    exact ⟨ret_int HN.out.symm, (Below.refl _ _).alloc (Nat.le_refl _) _⟩
  by_cases e10 : k = 10
  · subst e10
    have HN : Hid (argsN 10 s = 3) := rfl
    go_enter Tryd.func37, Tryd.ntmps37
    go_wp2_with fail
    go_ret
    exact ⟨ret_int HN.out.symm, (Below.refl _ _).alloc (Nat.le_refl _) _⟩
  by_cases e11 : k = 11
  · subst e11
    have HN : Hid (argsN 11 s = asksN s) := rfl
    go_enter Tryd.func37, Tryd.ntmps37
    go_wp2_with fail
    refine (asksRef_c s _).mono ?_
    rintro e w1 ⟨rfl, he1⟩
    rw [he1]
    go_wp2_with fail
    go_ret
    exact ⟨ret_int HN.out.symm, (Below.refl _ _).alloc (Nat.le_refl _) _⟩
  have f4 : (k == 4) = false := by simpa using e4
  have f5 : (k == 5) = false := by simpa using e5
  have f7 : (k == 7) = false := by simpa using e7
  have f8 : (k == 8) = false := by simpa using e8
  have f9 : (k == 9) = false := by simpa using e9
  have f6 : (k == 6) = false := by simpa using e6
  have f10 : (k == 10) = false := by simpa using e10
  have f11 : (k == 11) = false := by simpa using e11
  have HN : Hid (argsN k s = 0) := by
    simp only [Hid, argsN]
    rw [if_neg e11, if_neg (by omega), if_neg e6, if_neg e10]
  clear e4 e5 e7 e8 e9 e6 e10 e11
  go_enter Tryd.func37, Tryd.ntmps37
  go_wp2_with fail
  go_ret
  exact ⟨ret_int HN.out.symm, (Below.refl _ _).alloc (Nat.le_refl _) _⟩
end Go.Proofs.YtjconmohifaliaaDoor
