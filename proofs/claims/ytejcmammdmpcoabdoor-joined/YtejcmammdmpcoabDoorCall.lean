/-
  Contract of value.Call: length, index, substr of values that may be; all else is BadSize (P1.5).
-/
import Derived.Test.YtejcmammdmpcoabDoorPiece
import Derived.Test.YtejcmammdmpcoabDoorOpJoin
import Derived.Test.YtejcmammdmpcoabDoorOpNum
import Derived.Lib.Index
import Derived.PlainAid
import Derived.Lib.IndexBytes
namespace Go.Proofs.YtejcmammdmpcoabDoor
open Go.ChangeShapes Go.WideShapes Go.ChangeAt Go.RowKit Go.Joins
set_option linter.unusedVariables false

/-- A value that lies in memory, from a place on. -/
def LiesAt (w : World) (b o : Nat) (t : Bool) (n : Int) (s : ByteArray) : Prop :=
  b < w.heap.size ∧ w.cell? ⟨b, o, none⟩ = some (.bool t) ∧ w.cell? ⟨b, o + 1, none⟩ = some (.int .i64 n) ∧ w.cell? ⟨b, o + 2, none⟩ = some (.string s)
theorem LiesAt.below {w w' : World} {b o : Nat} {t : Bool} {n : Int} {s : ByteArray} (h : LiesAt w b o t n s) (hb : Below w.heap.size w w') : LiesAt w' b o t n s :=
  ⟨Nat.lt_of_lt_of_le h.1 hb.size, (hb.cell (p := ⟨b, o, none⟩) h.1).trans h.2.1, (hb.cell (p := ⟨b, o + 1, none⟩) h.1).trans h.2.2.1, (hb.cell (p := ⟨b, o + 2, none⟩) h.1).trans h.2.2.2⟩


/-- The variable MaxLen of internal/bytealg holds some int. -/
def Mx (w : World) : Prop := ∃ m, 0 < w.heap.size ∧ w.cell? ⟨0, 0, none⟩ = some (.int .i64 m)
theorem Mx.stays {w w' : World} (h : Mx w) (hb : Below w.heap.size w w') : Mx w' := by
  obtain ⟨m, h1, h2⟩ := h
  exact ⟨m, Nat.lt_of_lt_of_le h1 hb.size, (hb.cell (p := ⟨0, 0, none⟩) h1).trans h2⟩

theorem wrap_id {z : Int} (h1 : -1099511627776 ≤ z) (h2 : z ≤ 1099511627776) : IntKind.i64.wrap z = z := by
  rw [Go.PlainAid.i64_is]; unfold wrap64; omega

theorem index_at (A B : ByteArray) (w : World) (hA : A.size ≤ 200) (h : Mx w) :
    Calls Tryd.prog 34 #[.string A, .string B] w fun e w' => e = .returned (.int .i64 (Lib.index A.data.toList B.data.toList)) ∧ w' = w := by
  obtain ⟨m, _, hm⟩ := h
  exact Tryd.strings_Index A B m w (by omega) hm

set_option maxHeartbeats 1000000 in
theorem call_length (b off cap : Nat) (t1 : Bool) (n1 : Int) (s1 : ByteArray) (w : World) (z1 : s1.size ≤ 200) (h1 : -1099511627776 ≤ n1) (h2 : n1 ≤ 1099511627776) (hp : Hid (Pow w)) (hL : LiesAt w b off t1 n1 s1) (A : ByteArray) (HA : Hid (strOf t1 n1 s1 = A)) (zA : A.size ≤ 200) :
    Calls Tryd.prog 12 #[.string ⟨#[108, 101, 110, 103, 116, 104]⟩, .slice (some ⟨b, off, none⟩) 1 cap] w fun e w' => e = .returned (vt (rN (A.size : Int))) ∧ Below w.heap.size w w' := by
  obtain ⟨hb0, c0, c1, c2⟩ := hL
  have hne : ¬ b = w.heap.size := by omega
  go_enter Tryd.func12, Tryd.ntmps12
  go_wp2_with fail
  refine (str_c t1 n1 s1 _ h1 h2 (hp.out.stays (by go_grown))).mono ?_
  rintro e w1 ⟨rfl, hb⟩
  rw [HA.out]
  obtain ⟨hc, hf⟩ := bcell hb
  have hz : w.heap.size < w1.heap.size := by have := hb.size; simp at this; omega
  have HB1 : Hid (Below w.heap.size w w1) := bl_trans (by go_grown) hb
  go_wp2_with fail
  refine (number_c (A.size : Int) _).mono ?_
  rintro e w2 ⟨rfl, hb2⟩
  obtain ⟨hc2, hf2⟩ := bcell hb2
  go_wp2
  exact bodyPost_ret (v := .tuple #[.agg #[.bool false, .int .i64 (A.size : Int), .string ⟨#[]⟩], .int .i64 0]) (by simp [results, Tryd.results12, go_sem, hc, hc2, hz]) rfl ⟨rfl, below_set3 (bl_trans HB1.out hb2) (Nat.le_refl _) _ _ _⟩

set_option maxHeartbeats 2000000 in
theorem call_index (b off cap : Nat) (t1 : Bool) (n1 : Int) (s1 : ByteArray) (t2 : Bool) (n2 : Int) (s2 : ByteArray) (w : World) (z1 : s1.size ≤ 200) (h1 : -1099511627776 ≤ n1) (h2 : n1 ≤ 1099511627776) (z2 : s2.size ≤ 200) (h3 : -1099511627776 ≤ n2) (h4 : n2 ≤ 1099511627776) (hp : Hid (Pow w)) (hm : Hid (Mx w)) (hL1 : LiesAt w b off t1 n1 s1) (hL2 : LiesAt w b (off + 3) t2 n2 s2)
    (A B : ByteArray) (HA : Hid (strOf t1 n1 s1 = A)) (HB : Hid (strOf t2 n2 s2 = B)) (zA : A.size ≤ 200) (zB : B.size ≤ 200) (j : Int) (HJ : Hid (Lib.index A.data.toList B.data.toList = j)) (j1 : -1 ≤ j) (j2 : j ≤ 200) :
    Calls Tryd.prog 12 #[.string ⟨#[105, 110, 100, 101, 120]⟩, .slice (some ⟨b, off, none⟩) 2 cap] w fun e w' => e = .returned (vt (rN (j + 1))) ∧ Below w.heap.size w w' := by
  obtain ⟨hb0, c0, c1, c2⟩ := hL1
  obtain ⟨_, d0, d1, d2⟩ := hL2
  simp only [Nat.add_assoc] at d1 d2
  have hne : ¬ b = w.heap.size := by omega
  have hne2 : ¬ w.heap.size = b := by omega
  have hlt : b < w.heap.size + 1 := by omega
  have hwr : IntKind.i64.wrap (j + 1) = j + 1 := wrap_id (by omega) (by omega)
  go_enter Tryd.func12, Tryd.ntmps12
  go_wp2_with fail
  go_region_held3 (fun w' => w'.cell? ⟨b, off, none⟩ = some (.bool t1) ∧ w'.cell? ⟨b, off + 1, none⟩ = some (.int .i64 n1) ∧ w'.cell? ⟨b, off + 2, none⟩ = some (.string s1) ∧ w'.cell? ⟨b, off + 3, none⟩ = some (.bool t2) ∧ w'.cell? ⟨b, off + 4, none⟩ = some (.int .i64 n2) ∧ w'.cell? ⟨b, off + 5, none⟩ = some (.string s2)) (go_keep) (first
    | (go_at_call_of 16 (Value.string s1); refine (str_c _ n1 s1 _ h1 h2 ?_).mono ?_; exact hp.out.stays (by go_grown); rintro e w1 ⟨rfl, hb⟩; rw [HA.out]; obtain ⟨hc, hf⟩ := bcell hb; have HB1 : Hid (Below w.heap.size w w1) := bl_trans (by go_grown) hb; have hz : w.heap.size < w1.heap.size := (by have := hb.size; simp at this; omega); have hzb : b < w1.heap.size := (by omega))
    | (go_at_call_of 16 (Value.string s2); refine (str_c _ n2 s2 _ h3 h4 ?_).mono ?_; exact hp.out.stays HB1.out; rintro e w2 ⟨rfl, hb2⟩; rw [HB.out]; obtain ⟨hc2, hf2⟩ := bcell hb2; have HB2 : Hid (Below w.heap.size w w2) := bl_trans HB1.out hb2; have hy : w.heap.size < w2.heap.size := (by have := hb2.size; omega); have hyb : b < w2.heap.size := (by omega))
    | (go_at_call 34; refine (index_at A B _ (by omega) (hm.out.stays HB2.out)).mono ?_; rintro e w3 ⟨rfl, rfl⟩; rw [HJ.out])
    | (go_at_call 17; refine (number_c (j + 1) _).mono ?_; rintro e w4 ⟨rfl, hb4⟩; obtain ⟨hc4, hf4⟩ := bcell hb4; have HB4 : Hid (Below w.heap.size w w4) := bl_trans HB2.out hb4))
  go_wp2
  exact bodyPost_ret (v := .tuple #[.agg #[.bool false, .int .i64 (j + 1), .string ⟨#[]⟩], .int .i64 0]) (by simp [results, Tryd.results12, go_sem, hc, hc2, hc4, hz, hy]) rfl ⟨rfl, below_set3 HB4.out (Nat.le_refl _) _ _ _⟩

set_option maxHeartbeats 2000000 in
theorem call_substr (b off cap : Nat) (t1 : Bool) (n1 : Int) (s1 : ByteArray) (t2 : Bool) (n2 : Int) (s2 : ByteArray) (t3 : Bool) (n3 : Int) (s3 : ByteArray) (w : World) (z1 : s1.size ≤ 200) (h1 : -1099511627776 ≤ n1) (h2 : n1 ≤ 1099511627776) (z2 : s2.size ≤ 200) (h3 : -1099511627776 ≤ n2) (h4 : n2 ≤ 1099511627776) (z3 : s3.size ≤ 200) (h5 : -1099511627776 ≤ n3) (h6 : n3 ≤ 1099511627776) (hp : Hid (Pow w)) (hL1 : LiesAt w b off t1 n1 s1) (hL2 : LiesAt w b (off + 3) t2 n2 s2) (hL3 : LiesAt w b (off + 6) t3 n3 s3)
    (A : ByteArray) (HA : Hid (strOf t1 n1 s1 = A)) (zA : A.size ≤ 200) (rt : Bool) (rn : Int) (rs : ByteArray) (re : Int) (HR : Hid (pieceR A t2 n2 s2 t3 n3 s3 = (rt, rn, rs, re))) :
    Calls Tryd.prog 12 #[.string ⟨#[115, 117, 98, 115, 116, 114]⟩, .slice (some ⟨b, off, none⟩) 3 cap] w fun e w' => e = .returned (.tuple #[.agg #[.bool rt, .int .i64 rn, .string rs], .int .i64 re]) ∧ Below w.heap.size w w' := by
  obtain ⟨hb0, c0, c1, c2⟩ := hL1
  obtain ⟨_, d0, d1, d2⟩ := hL2
  obtain ⟨_, e0, e1, e2⟩ := hL3
  simp only [Nat.add_assoc] at d1 d2 e1 e2
  have hne : ¬ b = w.heap.size := by omega
  have hne2 : ¬ w.heap.size = b := by omega
  have hlt : b < w.heap.size + 1 := by omega
  go_enter Tryd.func12, Tryd.ntmps12
  go_wp2_with fail
  go_region_held3 (fun w' => w'.cell? ⟨b, off, none⟩ = some (.bool t1) ∧ w'.cell? ⟨b, off + 1, none⟩ = some (.int .i64 n1) ∧ w'.cell? ⟨b, off + 2, none⟩ = some (.string s1) ∧ w'.cell? ⟨b, off + 3, none⟩ = some (.bool t2) ∧ w'.cell? ⟨b, off + 4, none⟩ = some (.int .i64 n2) ∧ w'.cell? ⟨b, off + 5, none⟩ = some (.string s2) ∧ w'.cell? ⟨b, off + 6, none⟩ = some (.bool t3) ∧ w'.cell? ⟨b, off + 7, none⟩ = some (.int .i64 n3) ∧ w'.cell? ⟨b, off + 8, none⟩ = some (.string s3)) (go_keep) (first
    | (go_at_call 16; refine (str_c _ n1 s1 _ h1 h2 ?_).mono ?_; exact hp.out.stays (by go_grown); rintro e w1 ⟨rfl, hb⟩; rw [HA.out]; obtain ⟨hc, hf⟩ := bcell hb; have HB1 : Hid (Below w.heap.size w w1) := bl_trans (by go_grown) hb; have hz : w.heap.size < w1.heap.size := (by have := hb.size; simp at this; omega); have hzb : b < w1.heap.size := (by omega))
    | (go_at_call 35; refine (piece_c A t2 n2 s2 t3 n3 s3 _ z2 z3 zA).mono ?_; rintro e w2 ⟨rfl, hb2⟩; rw [HR.out]; obtain ⟨hc2, hf2⟩ := bcell hb2; have HB2 : Hid (Below w.heap.size w w2) := bl_trans HB1.out hb2; simp only [vt]))
  all_goals go_wp2
  all_goals exact bodyPost_ret (v := .tuple #[.agg #[.bool rt, .int .i64 rn, .string rs], .int .i64 re]) (by simp [results, Tryd.results12, go_sem, hc, hc2, hz]) rfl ⟨rfl, below_set3 HB2.out (Nat.le_refl _) _ _ _⟩

set_option maxHeartbeats 1000000 in
theorem call_other (nm : ByteArray) (a : Option Addr) (len cap : Nat) (w : World)
    (h : ((nm.toList == [108, 101, 110, 103, 116, 104]) = true ∧ ((len : Int) == 1) = false ∧ (nm.toList == [105, 110, 100, 101, 120]) = false ∧ (nm.toList == [115, 117, 98, 115, 116, 114]) = false) ∨
      ((nm.toList == [108, 101, 110, 103, 116, 104]) = false ∧ (nm.toList == [105, 110, 100, 101, 120]) = true ∧ ((len : Int) == 2) = false ∧ (nm.toList == [115, 117, 98, 115, 116, 114]) = false) ∨
      ((nm.toList == [108, 101, 110, 103, 116, 104]) = false ∧ (nm.toList == [105, 110, 100, 101, 120]) = false ∧ (nm.toList == [115, 117, 98, 115, 116, 114]) = true ∧ ((len : Int) == 3) = false) ∨
      ((nm.toList == [108, 101, 110, 103, 116, 104]) = false ∧ (nm.toList == [105, 110, 100, 101, 120]) = false ∧ (nm.toList == [115, 117, 98, 115, 116, 114]) = false)) :
    Calls Tryd.prog 12 #[.string nm, .slice a len cap] w fun e w' => e = .returned (vt (rEnd 3)) ∧ Below w.heap.size w w' := by
  obtain ⟨k1, k2, k3, k4⟩ | ⟨k1, k2, k3, k4⟩ | ⟨k1, k2, k3, k4⟩ | ⟨k1, k2, k3⟩ := h
  all_goals go_enter Tryd.func12, Tryd.ntmps12
  all_goals go_wp2
  all_goals go_returns
  all_goals exact ⟨rfl, by go_grown⟩
end Go.Proofs.YtejcmammdmpcoabDoor
