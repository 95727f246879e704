/-
  samePrograms on two programs of the same rules: true.
-/
import Derived.Test.YtffnilcihneniaaGreatDoorRunC
import Derived.Deep.RegionHeld3
namespace Go.Proofs.YtffnilcihneniaaGreatDoor
open Go.ChangeShapes Go.WideShapes Go.ChangeAt Go.RowKit Go.Joins
set_option maxHeartbeats 4000000
set_option linter.unusedVariables false
set_option maxRecDepth 100000
def YesC (w : World) (e : Ending) (w' : World) : Prop := e = .returned (.bool true) /\ Below w.heap.size w w'
theorem two_allocs {w wr : World} (h : Below w.heap.size w wr) (o p : Obj) : Below w.heap.size w ((wr.alloc o).alloc p) /\ w.heap.size <= ((wr.alloc o).alloc p).heap.size := by
 have h2 := (h.alloc h.size o).alloc (h.alloc h.size o).size p
 exact ⟨h2, h2.size⟩
def RowE (w : World) (B m : Nat) (v : Value) (l : List Ex) : Prop := Sl w B 4 v l.length (fun i c => ∃ x, l[i]? = some x /\ ExA B w m c x)
theorem equalE_c (B m : Nat) (l : List Ex) (v1 v2 : Value) (w : World) (h1 : RowE w B m v1 l) (h2 : RowE w B m v2 l) (hB : B <= w.heap.size)
 (hC : ∀ (W : World) (x : Ex) (c1 c2 : List Value), Below w.heap.size w W -> ExA B w m c1 x -> ExA B w m c2 x -> Calls Tryz.prog 51 #[.agg c1.toArray, .agg c2.toArray] W (YesC W)) :
 Calls Tryz.prog 50 #[v1, v2, .func (.func 51) #[] #[]] w (YesC w) := by
 obtain ⟨a1, c1, rfl, hm1, hs1⟩ := h1
 obtain ⟨a2, c2, rfl, hm2, hs2⟩ := h2
 unfold maxLen at hm1 hm2
 have HS1 : Hid _ := hs1
 have HS2 : Hid _ := hs2
 have HB : Hid (B <= w.heap.size) := hB
 have HC : Hid _ := hC
 obtain ⟨n, hn⟩ : ∃ n, n = l.length := ⟨_, rfl⟩
 have HN : Hid (n = l.length) := hn
 rw [<- hn] at hm1 ⊢
 have HM1 : Hid ((n : Int) <= 9223372036854775807) := by unfold Hid; omega
 clear hs1 hs2 hm1 hm2 hB hC hn
 go_enter Tryz.func50, Tryz.ntmps50
 go_wp2_with fail
 go_loopw [17] (fun v17 wr => ∃ i : Nat, i <= n /\ v17 = .int .i64 i /\ Hid (Below w.heap.size w wr)) (fun v17 _ => n - (intOf v17).toNat)
 case atStart => exact ⟨0, Nat.zero_le _, rfl, Below.refl _ _⟩
 case round =>
  obtain ⟨i, hil, rfl, HV⟩ := hrel
  by_cases hlt : i < n
  . have i1 : (i : Int) < (n : Int) := by omega
    have i2 : (0 : Int) <= (i : Int) := by omega
    have i3 : -9223372036854775808 <= (i : Int) + 1 := by omega
    have i4 : (i : Int) + 1 <= 9223372036854775807 := by have := HM1.out; omega
    have hl : i < l.length := by rw [<- HN.out]; exact hlt
    obtain ⟨b1, o1, rfl, hb1, hc1⟩ := HS1.out (by omega)
    obtain ⟨b2, o2, rfl, hb2, hc2⟩ := HS2.out (by omega)
    obtain ⟨cs1, -, hq1, x, hx1, he1⟩ := hc1 i hl
    obtain ⟨cs2, -, hq2, x2, hx2, he2⟩ := hc2 i hl
    obtain rfl : x = x2 := Option.some.inj (hx1.symm.trans hx2)
    have HE1 : Hid (ExA B w m cs1 x) := he1
    have HE2 : Hid (ExA B w m cs2 x) := he2
    obtain ⟨fk1, fn1, fs1, fa1, fal1, faq1, rfl⟩ := he1.shape
    obtain ⟨fk2, fn2, fs2, fa2, fal2, faq2, rfl⟩ := he2.shape
    have hbw1 : b1 < w.heap.size := Nat.lt_of_lt_of_le hb1 HB.out
    have hbw2 : b2 < w.heap.size := Nat.lt_of_lt_of_le hb2 HB.out
    have z10 : wr.cell? ⟨b1, o1 + i * 4, none⟩ = some (.int .i64 fk1) := (HV.out.cell (p := ⟨b1, o1 + i * 4, none⟩) hbw1).trans (hq1 0 (by omega))
    have z11 : wr.cell? ⟨b1, o1 + i * 4 + 1, none⟩ = some (.int .i64 fn1) := (HV.out.cell (p := ⟨b1, o1 + i * 4 + 1, none⟩) hbw1).trans (hq1 1 (by omega))
    have z12 : wr.cell? ⟨b1, o1 + i * 4 + 2, none⟩ = some (.string fs1) := (HV.out.cell (p := ⟨b1, o1 + i * 4 + 2, none⟩) hbw1).trans (hq1 2 (by omega))
    have z13 : wr.cell? ⟨b1, o1 + i * 4 + 3, none⟩ = some (.slice fa1 fal1 faq1) := (HV.out.cell (p := ⟨b1, o1 + i * 4 + 3, none⟩) hbw1).trans (hq1 3 (by omega))
    have z20 : wr.cell? ⟨b2, o2 + i * 4, none⟩ = some (.int .i64 fk2) := (HV.out.cell (p := ⟨b2, o2 + i * 4, none⟩) hbw2).trans (hq2 0 (by omega))
    have z21 : wr.cell? ⟨b2, o2 + i * 4 + 1, none⟩ = some (.int .i64 fn2) := (HV.out.cell (p := ⟨b2, o2 + i * 4 + 1, none⟩) hbw2).trans (hq2 1 (by omega))
    have z22 : wr.cell? ⟨b2, o2 + i * 4 + 2, none⟩ = some (.string fs2) := (HV.out.cell (p := ⟨b2, o2 + i * 4 + 2, none⟩) hbw2).trans (hq2 2 (by omega))
    have z23 : wr.cell? ⟨b2, o2 + i * 4 + 3, none⟩ = some (.slice fa2 fal2 faq2) := (HV.out.cell (p := ⟨b2, o2 + i * 4 + 3, none⟩) hbw2).trans (hq2 3 (by omega))
    have hw2 : b2 < wr.heap.size := Nat.lt_of_lt_of_le hbw2 HV.out.size
    have hne : ¬ b2 = wr.heap.size := by omega
    clear hq1 hq2 hx1 hx2 hc1 hc2 he1 he2 hl hlt hil HS1 HS2
    go_wp2_with fail
    refine Calls.mono (HC.out _ x [.int .i64 fk1, .int .i64 fn1, .string fs1, .slice fa1 fal1 faq1] [.int .i64 fk2, .int .i64 fn2, .string fs2, .slice fa2 fal2 faq2] (two_allocs HV.out _ _).1 HE1.out HE2.out) ?_
    rintro e w2 ⟨rfl, hw2b⟩
    have HV2 : Hid (Below w.heap.size w w2) := (two_allocs HV.out _ _).1.trans (hw2b.mono (two_allocs HV.out _ _).2)
    clear hw2b HV z10 z11 z12 z13 z20 z21 z22 z23 hw2 hne HE1 HE2
    go_wp2_with fail
    exact ⟨⟨i + 1, by omega, by simp, HV2⟩, by simp [intOf]; omega⟩
  . have i1 : ¬ (i : Int) < (n : Int) := by omega
    have HBD : Hid (Below w.heap.size w wr) := HV.out
    clear HV
    go_wp2_with fail
    go_ret
    exact ⟨rfl, HBD.out⟩
theorem sameE_c (B m : Nat) (w : World) (l : List Ex) (v1 v2 : Value) (h1 : RowE w B m v1 l) (h2 : RowE w B m v2 l)
 (hC : Calls Tryz.prog 50 #[v1, v2, .func (.func 51) #[] #[]] w (YesC w)) :
 Calls Tryz.prog 28 #[v1, v2] w (YesC w) := by
 have HC : Hid _ := hC
 obtain ⟨a1, q1, rfl, -, -⟩ := h1
 obtain ⟨a2, q2, rfl, -, -⟩ := h2
 clear hC
 go_enter Tryz.func28, Tryz.ntmps28
 go_wp2_with fail
 refine Calls.mono HC.out ?_
 rintro e w2 ⟨rfl, hw⟩
 have HW : Hid (Below w.heap.size w w2) := hw
 clear hw HC
 go_wp2_with fail
 go_ret
 exact ⟨rfl, HW.out⟩
theorem clE_c (B m : Nat) (w : World) (x : Ex) (c1 c2 : List Value) (h1 : ExA B w (m + 1) c1 x) (h2 : ExA B w (m + 1) c2 x) (hB : B <= w.heap.size)
 (hC : ∀ (W : World) (l : List Ex) (v1 v2 : Value), Below w.heap.size w W -> RowE w B m v1 l -> RowE w B m v2 l -> Calls Tryz.prog 28 #[v1, v2] W (YesC W)) :
 Calls Tryz.prog 51 #[.agg c1.toArray, .agg c2.toArray] w (YesC w) := by
 cases x with
 | mk k n s l =>
  obtain ⟨v1, rfl, -, -, -, hv1⟩ := h1
  obtain ⟨v2, rfl, -, -, -, hv2⟩ := h2
  have HV1 : Hid (RowE w B m v1 l) := hv1
  have HV2 : Hid (RowE w B m v2 l) := hv2
  have HC : Hid _ := hC
  obtain ⟨a1, q1, rfl, -, -⟩ := hv1
  obtain ⟨a2, q2, rfl, -, -⟩ := hv2
  clear hC hB
  go_enter Tryz.func51, Tryz.ntmps51
  go_wp2_with fail
  refine Calls.mono (HC.out _ l _ _ (two_allocs (Below.refl _ _) _ _).1 HV1.out HV2.out) ?_
  rintro e w2 ⟨rfl, hw⟩
  have HW : Hid (Below w.heap.size w w2) := (two_allocs (Below.refl _ _) _ _).1.trans (hw.mono (two_allocs (Below.refl _ _) _ _).2)
  clear hw HC HV1 HV2
  go_wp2_with fail
  go_ret
  exact ⟨rfl, HW.out⟩
theorem rowE_below {w W : World} {B m : Nat} {v : Value} {l : List Ex} (h : RowE w B m v l) (hB : B <= w.heap.size) (hb : Below w.heap.size w W) : RowE W B m v l :=
 Sl.below h (hb.mono hB) fun i cs ⟨x, hx, he⟩ => ⟨x, hx, ExA.below (hb.mono hB) he⟩
theorem exprs_c : ∀ (m B : Nat) (w : World) (l : List Ex) (v1 v2 : Value), RowE w B m v1 l -> RowE w B m v2 l -> B <= w.heap.size -> Calls Tryz.prog 28 #[v1, v2] w (YesC w) := by
 intro m
 induction m with
 | zero => intro B w l v1 v2 h1 h2 hB; exact sameE_c B 0 w l v1 v2 h1 h2 (equalE_c B 0 l v1 v2 w h1 h2 hB fun W x c1 c2 _ h _ => (by unfold ExA at h; exact h.elim))
 | succ m ih =>
  intro B w l v1 v2 h1 h2 hB
  refine sameE_c B _ w l v1 v2 h1 h2 (equalE_c B _ l v1 v2 w h1 h2 hB fun W x c1 c2 hW he1 he2 => ?_)
  refine clE_c B m W x c1 c2 (ExA.below (hW.mono hB) he1) (ExA.below (hW.mono hB) he2) (Nat.le_trans hB hW.size) fun W2 l2 u1 u2 hW2 g1 g2 => ?_
  exact ih B W2 l2 u1 u2 (rowE_below g1 (Nat.le_trans hB hW.size) hW2) (rowE_below g2 (Nat.le_trans hB hW.size) hW2) (Nat.le_trans (Nat.le_trans hB hW.size) hW2.size)
def RowS (w : World) (B m : Nat) (v : Value) (l : List Sm) : Prop := Sl w B 6 v l.length (fun i c => ∃ x, l[i]? = some x /\ SmA B w m c x)
theorem equalS_c (B m : Nat) (l : List Sm) (v1 v2 : Value) (w : World) (h1 : RowS w B m v1 l) (h2 : RowS w B m v2 l) (hB : B <= w.heap.size)
 (hC : ∀ (W : World) (x : Sm) (c1 c2 : List Value), Below w.heap.size w W -> SmA B w m c1 x -> SmA B w m c2 x -> Calls Tryz.prog 53 #[.agg c1.toArray, .agg c2.toArray] W (YesC W)) :
 Calls Tryz.prog 52 #[v1, v2, .func (.func 53) #[] #[]] w (YesC w) := by
 obtain ⟨a1, c1, rfl, hm1, hs1⟩ := h1
 obtain ⟨a2, c2, rfl, hm2, hs2⟩ := h2
 unfold maxLen at hm1 hm2
 have HS1 : Hid _ := hs1
 have HS2 : Hid _ := hs2
 have HB : Hid (B <= w.heap.size) := hB
 have HC : Hid _ := hC
 obtain ⟨n, hn⟩ : ∃ n, n = l.length := ⟨_, rfl⟩
 have HN : Hid (n = l.length) := hn
 rw [<- hn] at hm1 ⊢
 have HM1 : Hid ((n : Int) <= 9223372036854775807) := by unfold Hid; omega
 clear hs1 hs2 hm1 hm2 hB hC hn
 go_enter Tryz.func52, Tryz.ntmps52
 go_wp2_with fail
 go_loopw [17] (fun v17 wr => ∃ i : Nat, i <= n /\ v17 = .int .i64 i /\ Hid (Below w.heap.size w wr)) (fun v17 _ => n - (intOf v17).toNat)
 case atStart => exact ⟨0, Nat.zero_le _, rfl, Below.refl _ _⟩
 case round =>
  obtain ⟨i, hil, rfl, HV⟩ := hrel
  by_cases hlt : i < n
  . have i1 : (i : Int) < (n : Int) := by omega
    have i2 : (0 : Int) <= (i : Int) := by omega
    have i3 : -9223372036854775808 <= (i : Int) + 1 := by omega
    have i4 : (i : Int) + 1 <= 9223372036854775807 := by have := HM1.out; omega
    have hl : i < l.length := by rw [<- HN.out]; exact hlt
    obtain ⟨b1, o1, rfl, hb1, hc1⟩ := HS1.out (by omega)
    obtain ⟨b2, o2, rfl, hb2, hc2⟩ := HS2.out (by omega)
    obtain ⟨cs1, -, hq1, x, hx1, he1⟩ := hc1 i hl
    obtain ⟨cs2, -, hq2, x2, hx2, he2⟩ := hc2 i hl
    obtain rfl : x = x2 := Option.some.inj (hx1.symm.trans hx2)
    have HE1 : Hid (SmA B w m cs1 x) := he1
    have HE2 : Hid (SmA B w m cs2 x) := he2
    obtain ⟨fk1, fs1, ft1, fa1, fal1, faq1, fb1, fbl1, fbq1, fc1, fcl1, fcq1, rfl⟩ := he1.shape
    obtain ⟨fk2, fs2, ft2, fa2, fal2, faq2, fb2, fbl2, fbq2, fc2, fcl2, fcq2, rfl⟩ := he2.shape
    have hbw1 : b1 < w.heap.size := Nat.lt_of_lt_of_le hb1 HB.out
    have hbw2 : b2 < w.heap.size := Nat.lt_of_lt_of_le hb2 HB.out
    have z10 : wr.cell? ⟨b1, o1 + i * 6, none⟩ = some (.int .i64 fk1) := (HV.out.cell (p := ⟨b1, o1 + i * 6, none⟩) hbw1).trans (hq1 0 (by omega))
    have z11 : wr.cell? ⟨b1, o1 + i * 6 + 1, none⟩ = some (.string fs1) := (HV.out.cell (p := ⟨b1, o1 + i * 6 + 1, none⟩) hbw1).trans (hq1 1 (by omega))
    have z12 : wr.cell? ⟨b1, o1 + i * 6 + 2, none⟩ = some (.string ft1) := (HV.out.cell (p := ⟨b1, o1 + i * 6 + 2, none⟩) hbw1).trans (hq1 2 (by omega))
    have z13 : wr.cell? ⟨b1, o1 + i * 6 + 3, none⟩ = some (.slice fa1 fal1 faq1) := (HV.out.cell (p := ⟨b1, o1 + i * 6 + 3, none⟩) hbw1).trans (hq1 3 (by omega))
    have z14 : wr.cell? ⟨b1, o1 + i * 6 + 4, none⟩ = some (.slice fb1 fbl1 fbq1) := (HV.out.cell (p := ⟨b1, o1 + i * 6 + 4, none⟩) hbw1).trans (hq1 4 (by omega))
    have z15 : wr.cell? ⟨b1, o1 + i * 6 + 5, none⟩ = some (.slice fc1 fcl1 fcq1) := (HV.out.cell (p := ⟨b1, o1 + i * 6 + 5, none⟩) hbw1).trans (hq1 5 (by omega))
    have z20 : wr.cell? ⟨b2, o2 + i * 6, none⟩ = some (.int .i64 fk2) := (HV.out.cell (p := ⟨b2, o2 + i * 6, none⟩) hbw2).trans (hq2 0 (by omega))
    have z21 : wr.cell? ⟨b2, o2 + i * 6 + 1, none⟩ = some (.string fs2) := (HV.out.cell (p := ⟨b2, o2 + i * 6 + 1, none⟩) hbw2).trans (hq2 1 (by omega))
    have z22 : wr.cell? ⟨b2, o2 + i * 6 + 2, none⟩ = some (.string ft2) := (HV.out.cell (p := ⟨b2, o2 + i * 6 + 2, none⟩) hbw2).trans (hq2 2 (by omega))
    have z23 : wr.cell? ⟨b2, o2 + i * 6 + 3, none⟩ = some (.slice fa2 fal2 faq2) := (HV.out.cell (p := ⟨b2, o2 + i * 6 + 3, none⟩) hbw2).trans (hq2 3 (by omega))
    have z24 : wr.cell? ⟨b2, o2 + i * 6 + 4, none⟩ = some (.slice fb2 fbl2 fbq2) := (HV.out.cell (p := ⟨b2, o2 + i * 6 + 4, none⟩) hbw2).trans (hq2 4 (by omega))
    have z25 : wr.cell? ⟨b2, o2 + i * 6 + 5, none⟩ = some (.slice fc2 fcl2 fcq2) := (HV.out.cell (p := ⟨b2, o2 + i * 6 + 5, none⟩) hbw2).trans (hq2 5 (by omega))
    have hw2 : b2 < wr.heap.size := Nat.lt_of_lt_of_le hbw2 HV.out.size
    have hne : ¬ b2 = wr.heap.size := by omega
    clear hq1 hq2 hx1 hx2 hc1 hc2 he1 he2 hl hlt hil HS1 HS2
    go_wp2_with fail
    refine Calls.mono (HC.out _ x [.int .i64 fk1, .string fs1, .string ft1, .slice fa1 fal1 faq1, .slice fb1 fbl1 fbq1, .slice fc1 fcl1 fcq1] [.int .i64 fk2, .string fs2, .string ft2, .slice fa2 fal2 faq2, .slice fb2 fbl2 fbq2, .slice fc2 fcl2 fcq2] (two_allocs HV.out _ _).1 HE1.out HE2.out) ?_
    rintro e w2 ⟨rfl, hw2b⟩
    have HV2 : Hid (Below w.heap.size w w2) := (two_allocs HV.out _ _).1.trans (hw2b.mono (two_allocs HV.out _ _).2)
    clear hw2b HV z10 z11 z12 z13 z14 z15 z20 z21 z22 z23 z24 z25 hw2 hne HE1 HE2
    go_wp2_with fail
    exact ⟨⟨i + 1, by omega, by simp, HV2⟩, by simp [intOf]; omega⟩
  . have i1 : ¬ (i : Int) < (n : Int) := by omega
    have HBD : Hid (Below w.heap.size w wr) := HV.out
    clear HV
    go_wp2_with fail
    go_ret
    exact ⟨rfl, HBD.out⟩
theorem sameS_c (B m : Nat) (w : World) (l : List Sm) (v1 v2 : Value) (h1 : RowS w B m v1 l) (h2 : RowS w B m v2 l)
 (hC : Calls Tryz.prog 52 #[v1, v2, .func (.func 53) #[] #[]] w (YesC w)) :
 Calls Tryz.prog 29 #[v1, v2] w (YesC w) := by
 have HC : Hid _ := hC
 obtain ⟨a1, q1, rfl, -, -⟩ := h1
 obtain ⟨a2, q2, rfl, -, -⟩ := h2
 clear hC
 go_enter Tryz.func29, Tryz.ntmps29
 go_wp2_with fail
 refine Calls.mono HC.out ?_
 rintro e w2 ⟨rfl, hw⟩
 have HW : Hid (Below w.heap.size w w2) := hw
 clear hw HC
 go_wp2_with fail
 go_ret
 exact ⟨rfl, HW.out⟩
theorem rowS_below {w W : World} {B m : Nat} {v : Value} {l : List Sm} (h : RowS w B m v l) (hB : B <= w.heap.size) (hb : Below w.heap.size w W) : RowS W B m v l :=
 Sl.below h (hb.mono hB) fun i cs ⟨x, hx, he⟩ => ⟨x, hx, SmA.below (hb.mono hB) he⟩
theorem clS_c (B m : Nat) (w : World) (x : Sm) (c1 c2 : List Value) (h1 : SmA B w (m + 1) c1 x) (h2 : SmA B w (m + 1) c2 x) (hB : B <= w.heap.size)
 (hC : ∀ (W : World) (l : List Sm) (v1 v2 : Value), Below w.heap.size w W -> RowS w B m v1 l -> RowS w B m v2 l -> Calls Tryz.prog 29 #[v1, v2] W (YesC W)) :
 Calls Tryz.prog 53 #[.agg c1.toArray, .agg c2.toArray] w (YesC w) := by
 cases x with
 | mk k s t es bo el =>
  obtain ⟨v1, v2, v3, rfl, -, -, -, hv1, hv2, hv3⟩ := h1
  obtain ⟨u1, u2, u3, rfl, -, -, -, hu1, hu2, hu3⟩ := h2
  have HX1 : Hid (RowE w B m v1 es /\ RowE w B m u1 es) := ⟨hv1, hu1⟩
  have HX2 : Hid (RowS w B m v2 bo /\ RowS w B m u2 bo) := ⟨hv2, hu2⟩
  have HX3 : Hid (RowS w B m v3 el /\ RowS w B m u3 el) := ⟨hv3, hu3⟩
  have HC : Hid _ := hC
  have HB : Hid (B <= w.heap.size) := hB
  obtain ⟨a1, q1, rfl, -, -⟩ := hv1
  obtain ⟨a2, q2, rfl, -, -⟩ := hv2
  obtain ⟨a3, q3, rfl, -, -⟩ := hv3
  obtain ⟨a4, q4, rfl, -, -⟩ := hu1
  obtain ⟨a5, q5, rfl, -, -⟩ := hu2
  obtain ⟨a6, q6, rfl, -, -⟩ := hu3
  clear hC hB
  go_enter Tryz.func53, Tryz.ntmps53
  go_wp2_with fail
  obtain ⟨W0, hW0⟩ : ∃ W0, W0 = (w.alloc (.cells #[.int .i64 k, .string s, .string t, .slice a1 es.length q1, .slice a2 bo.length q2, .slice a3 el.length q3] 107)).alloc (.cells #[.int .i64 k, .string s, .string t, .slice a4 es.length q4, .slice a5 bo.length q5, .slice a6 el.length q6] 107) := ⟨_, rfl⟩
  have HW0 : Hid (Below w.heap.size w W0 /\ W0.heap.size = w.heap.size + 1 + 1) := by
   rw [hW0]; exact ⟨(two_allocs (Below.refl _ _) _ _).1, by simp⟩
  have HZ : Hid (W0.cell? ⟨w.heap.size, 4, none⟩ = some (.slice a2 bo.length q2) /\ W0.cell? ⟨w.heap.size, 5, none⟩ = some (.slice a3 el.length q3) /\ W0.cell? ⟨w.heap.size + 1, 4, none⟩ = some (.slice a5 bo.length q5) /\ W0.cell? ⟨w.heap.size + 1, 5, none⟩ = some (.slice a6 el.length q6)) := by
   rw [hW0]; exact ⟨by simp [go_sem], by simp [go_sem], by simp [go_sem], by simp [go_sem]⟩
  rw [<- hW0]
  clear hW0
  refine Calls.mono (exprs_c m B W0 es _ _ (rowE_below HX1.out.1 HB.out HW0.out.1) (rowE_below HX1.out.2 HB.out HW0.out.1) (Nat.le_trans HB.out HW0.out.1.size)) ?_
  rintro e w2 ⟨rfl, hw2⟩
  have HW2 : Hid (Below W0.heap.size W0 w2) := hw2
  have z1 : w2.cell? ⟨w.heap.size, 4, none⟩ = some (.slice a2 bo.length q2) := (hw2.cell (p := ⟨w.heap.size, 4, none⟩) (by show w.heap.size < _; rw [HW0.out.2]; omega)).trans HZ.out.1
  have z2 : w2.cell? ⟨w.heap.size + 1, 4, none⟩ = some (.slice a5 bo.length q5) := (hw2.cell (p := ⟨w.heap.size + 1, 4, none⟩) (by show w.heap.size + 1 < _; rw [HW0.out.2]; omega)).trans HZ.out.2.2.1
  clear hw2
  go_wp2_with fail
  refine Calls.mono (HC.out w2 bo _ _ (HW0.out.1.trans (HW2.out.mono HW0.out.1.size)) HX2.out.1 HX2.out.2) ?_
  rintro e w3 ⟨rfl, hw3⟩
  have HW3 : Hid (Below W0.heap.size W0 w3) := HW2.out.trans (hw3.mono HW2.out.size)
  have z3 : w3.cell? ⟨w.heap.size, 5, none⟩ = some (.slice a3 el.length q3) := (HW3.out.cell (p := ⟨w.heap.size, 5, none⟩) (by show w.heap.size < _; rw [HW0.out.2]; omega)).trans HZ.out.2.1
  have z4 : w3.cell? ⟨w.heap.size + 1, 5, none⟩ = some (.slice a6 el.length q6) := (HW3.out.cell (p := ⟨w.heap.size + 1, 5, none⟩) (by show w.heap.size + 1 < _; rw [HW0.out.2]; omega)).trans HZ.out.2.2.2
  clear hw3 z1 z2 HW2
  go_wp2_with fail
  refine Calls.mono (HC.out w3 el _ _ (HW0.out.1.trans (HW3.out.mono HW0.out.1.size)) HX3.out.1 HX3.out.2) ?_
  rintro e w4 ⟨rfl, hw4⟩
  have HW4 : Hid (Below w.heap.size w w4) := HW0.out.1.trans ((HW3.out.trans (hw4.mono HW3.out.size)).mono HW0.out.1.size)
  clear hw4 z3 z4 HW3 HW0 HZ
  go_wp2_with fail
  go_ret
  exact ⟨rfl, HW4.out⟩
theorem stmts_c : ∀ (m B : Nat) (w : World) (l : List Sm) (v1 v2 : Value), RowS w B m v1 l -> RowS w B m v2 l -> B <= w.heap.size -> Calls Tryz.prog 29 #[v1, v2] w (YesC w) := by
 intro m
 induction m with
 | zero => intro B w l v1 v2 h1 h2 hB; exact sameS_c B 0 w l v1 v2 h1 h2 (equalS_c B 0 l v1 v2 w h1 h2 hB fun W x c1 c2 _ h _ => (by unfold SmA at h; exact h.elim))
 | succ m ih =>
  intro B w l v1 v2 h1 h2 hB
  refine sameS_c B _ w l v1 v2 h1 h2 (equalS_c B _ l v1 v2 w h1 h2 hB fun W x c1 c2 hW he1 he2 => ?_)
  refine clS_c B m W x c1 c2 (SmA.below (hW.mono hB) he1) (SmA.below (hW.mono hB) he2) (Nat.le_trans hB hW.size) fun W2 l2 u1 u2 hW2 g1 g2 => ?_
  exact ih B W2 l2 u1 u2 (rowS_below g1 (Nat.le_trans hB hW.size) hW2) (rowS_below g2 (Nat.le_trans hB hW.size) hW2) (Nat.le_trans (Nat.le_trans hB hW.size) hW2.size)
def RowR (w : World) (B m : Nat) (v : Value) (l : List Ru) : Prop := Sl w B 7 v l.length (fun i c => ∃ x, l[i]? = some x /\ RuA B w m c x)
theorem equalR_c (B m : Nat) (l : List Ru) (v1 v2 : Value) (w : World) (h1 : RowR w B m v1 l) (h2 : RowR w B m v2 l) (hB : B <= w.heap.size)
 (hC : ∀ (W : World) (x : Ru) (c1 c2 : List Value), Below w.heap.size w W -> RuA B w m c1 x -> RuA B w m c2 x -> Calls Tryz.prog 27 #[.agg c1.toArray, .agg c2.toArray] W (YesC W)) :
 Calls Tryz.prog 26 #[v1, v2, .func (.func 27) #[] #[]] w (YesC w) := by
 obtain ⟨a1, c1, rfl, hm1, hs1⟩ := h1
 obtain ⟨a2, c2, rfl, hm2, hs2⟩ := h2
 unfold maxLen at hm1 hm2
 have HS1 : Hid _ := hs1
 have HS2 : Hid _ := hs2
 have HB : Hid (B <= w.heap.size) := hB
 have HC : Hid _ := hC
 obtain ⟨n, hn⟩ : ∃ n, n = l.length := ⟨_, rfl⟩
 have HN : Hid (n = l.length) := hn
 rw [<- hn] at hm1 ⊢
 have HM1 : Hid ((n : Int) <= 9223372036854775807) := by unfold Hid; omega
 clear hs1 hs2 hm1 hm2 hB hC hn
 go_enter Tryz.func26, Tryz.ntmps26
 go_wp2_with fail
 go_loopw [17] (fun v17 wr => ∃ i : Nat, i <= n /\ v17 = .int .i64 i /\ Hid (Below w.heap.size w wr)) (fun v17 _ => n - (intOf v17).toNat)
 case atStart => exact ⟨0, Nat.zero_le _, rfl, Below.refl _ _⟩
 case round =>
  obtain ⟨i, hil, rfl, HV⟩ := hrel
  by_cases hlt : i < n
  . have i1 : (i : Int) < (n : Int) := by omega
    have i2 : (0 : Int) <= (i : Int) := by omega
    have i3 : -9223372036854775808 <= (i : Int) + 1 := by omega
    have i4 : (i : Int) + 1 <= 9223372036854775807 := by have := HM1.out; omega
    have hl : i < l.length := by rw [<- HN.out]; exact hlt
    obtain ⟨b1, o1, rfl, hb1, hc1⟩ := HS1.out (by omega)
    obtain ⟨b2, o2, rfl, hb2, hc2⟩ := HS2.out (by omega)
    obtain ⟨cs1, -, hq1, x, hx1, he1⟩ := hc1 i hl
    obtain ⟨cs2, -, hq2, x2, hx2, he2⟩ := hc2 i hl
    obtain rfl : x = x2 := Option.some.inj (hx1.symm.trans hx2)
    have HE1 : Hid (RuA B w m cs1 x) := he1
    have HE2 : Hid (RuA B w m cs2 x) := he2
    obtain ⟨fk1, fh1, fj1, fn1, fs1, fa1, fal1, faq1, fb1, fbl1, fbq1, rfl⟩ := he1.shape
    obtain ⟨fk2, fh2, fj2, fn2, fs2, fa2, fal2, faq2, fb2, fbl2, fbq2, rfl⟩ := he2.shape
    have hbw1 : b1 < w.heap.size := Nat.lt_of_lt_of_le hb1 HB.out
    have hbw2 : b2 < w.heap.size := Nat.lt_of_lt_of_le hb2 HB.out
    have z10 : wr.cell? ⟨b1, o1 + i * 7, none⟩ = some (.int .i64 fk1) := (HV.out.cell (p := ⟨b1, o1 + i * 7, none⟩) hbw1).trans (hq1 0 (by omega))
    have z11 : wr.cell? ⟨b1, o1 + i * 7 + 1, none⟩ = some (.bool fh1) := (HV.out.cell (p := ⟨b1, o1 + i * 7 + 1, none⟩) hbw1).trans (hq1 1 (by omega))
    have z12 : wr.cell? ⟨b1, o1 + i * 7 + 2, none⟩ = some (.int .i64 fj1) := (HV.out.cell (p := ⟨b1, o1 + i * 7 + 2, none⟩) hbw1).trans (hq1 2 (by omega))
    have z13 : wr.cell? ⟨b1, o1 + i * 7 + 3, none⟩ = some (.int .i64 fn1) := (HV.out.cell (p := ⟨b1, o1 + i * 7 + 3, none⟩) hbw1).trans (hq1 3 (by omega))
    have z14 : wr.cell? ⟨b1, o1 + i * 7 + 4, none⟩ = some (.string fs1) := (HV.out.cell (p := ⟨b1, o1 + i * 7 + 4, none⟩) hbw1).trans (hq1 4 (by omega))
    have z15 : wr.cell? ⟨b1, o1 + i * 7 + 5, none⟩ = some (.slice fa1 fal1 faq1) := (HV.out.cell (p := ⟨b1, o1 + i * 7 + 5, none⟩) hbw1).trans (hq1 5 (by omega))
    have z16 : wr.cell? ⟨b1, o1 + i * 7 + 6, none⟩ = some (.slice fb1 fbl1 fbq1) := (HV.out.cell (p := ⟨b1, o1 + i * 7 + 6, none⟩) hbw1).trans (hq1 6 (by omega))
    have z20 : wr.cell? ⟨b2, o2 + i * 7, none⟩ = some (.int .i64 fk2) := (HV.out.cell (p := ⟨b2, o2 + i * 7, none⟩) hbw2).trans (hq2 0 (by omega))
    have z21 : wr.cell? ⟨b2, o2 + i * 7 + 1, none⟩ = some (.bool fh2) := (HV.out.cell (p := ⟨b2, o2 + i * 7 + 1, none⟩) hbw2).trans (hq2 1 (by omega))
    have z22 : wr.cell? ⟨b2, o2 + i * 7 + 2, none⟩ = some (.int .i64 fj2) := (HV.out.cell (p := ⟨b2, o2 + i * 7 + 2, none⟩) hbw2).trans (hq2 2 (by omega))
    have z23 : wr.cell? ⟨b2, o2 + i * 7 + 3, none⟩ = some (.int .i64 fn2) := (HV.out.cell (p := ⟨b2, o2 + i * 7 + 3, none⟩) hbw2).trans (hq2 3 (by omega))
    have z24 : wr.cell? ⟨b2, o2 + i * 7 + 4, none⟩ = some (.string fs2) := (HV.out.cell (p := ⟨b2, o2 + i * 7 + 4, none⟩) hbw2).trans (hq2 4 (by omega))
    have z25 : wr.cell? ⟨b2, o2 + i * 7 + 5, none⟩ = some (.slice fa2 fal2 faq2) := (HV.out.cell (p := ⟨b2, o2 + i * 7 + 5, none⟩) hbw2).trans (hq2 5 (by omega))
    have z26 : wr.cell? ⟨b2, o2 + i * 7 + 6, none⟩ = some (.slice fb2 fbl2 fbq2) := (HV.out.cell (p := ⟨b2, o2 + i * 7 + 6, none⟩) hbw2).trans (hq2 6 (by omega))
    have hw2 : b2 < wr.heap.size := Nat.lt_of_lt_of_le hbw2 HV.out.size
    have hne : ¬ b2 = wr.heap.size := by omega
    clear hq1 hq2 hx1 hx2 hc1 hc2 he1 he2 hl hlt hil HS1 HS2
    go_wp2_with fail
    refine Calls.mono (HC.out _ x [.int .i64 fk1, .bool fh1, .int .i64 fj1, .int .i64 fn1, .string fs1, .slice fa1 fal1 faq1, .slice fb1 fbl1 fbq1] [.int .i64 fk2, .bool fh2, .int .i64 fj2, .int .i64 fn2, .string fs2, .slice fa2 fal2 faq2, .slice fb2 fbl2 fbq2] (two_allocs HV.out _ _).1 HE1.out HE2.out) ?_
    rintro e w2 ⟨rfl, hw2b⟩
    have HV2 : Hid (Below w.heap.size w w2) := (two_allocs HV.out _ _).1.trans (hw2b.mono (two_allocs HV.out _ _).2)
    clear hw2b HV z10 z11 z12 z13 z14 z15 z16 z20 z21 z22 z23 z24 z25 z26 hw2 hne HE1 HE2
    go_wp2_with fail
    exact ⟨⟨i + 1, by omega, by simp, HV2⟩, by simp [intOf]; omega⟩
  . have i1 : ¬ (i : Int) < (n : Int) := by omega
    have HBD : Hid (Below w.heap.size w wr) := HV.out
    clear HV
    go_wp2_with fail
    go_ret
    exact ⟨rfl, HBD.out⟩
theorem clR_c (B m : Nat) (w : World) (x : Ru) (c1 c2 : List Value) (h1 : RuA B w m c1 x) (h2 : RuA B w m c2 x) (hB : B <= w.heap.size)
 (hC : ∀ (W : World) (l : List Sm) (v1 v2 : Value), Below w.heap.size w W -> RowS w B m v1 l -> RowS w B m v2 l -> Calls Tryz.prog 29 #[v1, v2] W (YesC W)) :
 Calls Tryz.prog 27 #[.agg c1.toArray, .agg c2.toArray] w (YesC w) := by
 cases x with
 | mk k h p bo =>
  obtain ⟨d0, d1, d2, d3, v1, rfl, -, hp1, hv1⟩ := h1
  obtain ⟨e0, e1, e2, e3, u1, rfl, -, hp2, hu1⟩ := h2
  have HP1 : Hid (ExA B w m [d0, d1, d2, d3] p) := hp1
  have HP2 : Hid (ExA B w m [e0, e1, e2, e3] p) := hp2
  have HX2 : Hid (RowS w B m v1 bo /\ RowS w B m u1 bo) := ⟨hv1, hu1⟩
  have HC : Hid _ := hC
  have HB : Hid (B <= w.heap.size) := hB
  obtain ⟨k1, n1, s1, a1, l1, q1, hh1⟩ := hp1.shape
  obtain ⟨k2, n2, s2, a2, l2, q2, hh2⟩ := hp2.shape
  simp at hh1 hh2
  obtain ⟨rfl, rfl, rfl, rfl⟩ := hh1
  obtain ⟨rfl, rfl, rfl, rfl⟩ := hh2
  obtain ⟨a3, q3, rfl, -, -⟩ := hv1
  obtain ⟨a4, q4, rfl, -, -⟩ := hu1
  clear hC hB hp1 hp2
  go_enter Tryz.func27, Tryz.ntmps27
  go_wp2_with fail
  obtain ⟨W0, hW0⟩ : ∃ W0, W0 = (((w.alloc (.cells #[.int .i64 k, .bool h, .int .i64 k1, .int .i64 n1, .string s1, .slice a1 l1 q1, .slice a3 bo.length q3] 61)).alloc (.cells #[.int .i64 k, .bool h, .int .i64 k2, .int .i64 n2, .string s2, .slice a2 l2 q2, .slice a4 bo.length q4] 61)).alloc (.cells #[.int .i64 k1, .int .i64 n1, .string s1, .slice a1 l1 q1] 58)).alloc (.cells #[.int .i64 k2, .int .i64 n2, .string s2, .slice a2 l2 q2] 58) := ⟨_, rfl⟩
  have HW0 : Hid (Below w.heap.size w W0 /\ W0.heap.size = w.heap.size + 1 + 1 + 1 + 1) := by
   rw [hW0]; exact ⟨(two_allocs (two_allocs (Below.refl _ _) _ _).1 _ _).1, by simp⟩
  have HZ : Hid (W0.cell? ⟨w.heap.size, 6, none⟩ = some (.slice a3 bo.length q3) /\ W0.cell? ⟨w.heap.size + 1, 6, none⟩ = some (.slice a4 bo.length q4)) := by
   rw [hW0]; exact ⟨by simp [go_sem], by simp [go_sem]⟩
  have HR1 : Hid (RowE W0 W0.heap.size m (.slice (some ⟨w.heap.size + 1 + 1, 0, none⟩) 1 1) [p]) := by
   refine ⟨some ⟨w.heap.size + 1 + 1, 0, none⟩, 1, rfl, by unfold maxLen; simp, fun _ => ⟨w.heap.size + 1 + 1, 0, rfl, by rw [HW0.out.2]; omega, fun i hi => ?_⟩⟩
   obtain rfl : i = 0 := by simp at hi; omega
   refine ⟨[.int .i64 k1, .int .i64 n1, .string s1, .slice a1 l1 q1], rfl, fun j hj => ?_, p, rfl, ExA.up HW0.out.1.size (HB.out |> fun hB => ExA.up hB (ExA.below (HW0.out.1.mono hB) HP1.out))⟩
   rw [hW0]
   rcases j with _ | _ | _ | _ | j
   . simp [go_sem]
   . simp [go_sem]
   . simp [go_sem]
   . simp [go_sem]
   . omega
  have HR2 : Hid (RowE W0 W0.heap.size m (.slice (some ⟨w.heap.size + 1 + 1 + 1, 0, none⟩) 1 1) [p]) := by
   refine ⟨some ⟨w.heap.size + 1 + 1 + 1, 0, none⟩, 1, rfl, by unfold maxLen; simp, fun _ => ⟨w.heap.size + 1 + 1 + 1, 0, rfl, by rw [HW0.out.2]; omega, fun i hi => ?_⟩⟩
   obtain rfl : i = 0 := by simp at hi; omega
   refine ⟨[.int .i64 k2, .int .i64 n2, .string s2, .slice a2 l2 q2], rfl, fun j hj => ?_, p, rfl, ExA.up HW0.out.1.size (HB.out |> fun hB => ExA.up hB (ExA.below (HW0.out.1.mono hB) HP2.out))⟩
   rw [hW0]
   rcases j with _ | _ | _ | _ | j
   . simp [go_sem]
   . simp [go_sem]
   . simp [go_sem]
   . simp [go_sem]
   . omega
  rw [<- hW0]
  clear hW0
  refine Calls.mono (exprs_c m W0.heap.size W0 [p] _ _ HR1.out HR2.out (Nat.le_refl _)) ?_
  rintro e w2 ⟨rfl, hw2⟩
  have HW2 : Hid (Below W0.heap.size W0 w2) := hw2
  have z1 : w2.cell? ⟨w.heap.size, 6, none⟩ = some (.slice a3 bo.length q3) := (hw2.cell (p := ⟨w.heap.size, 6, none⟩) (by show w.heap.size < _; rw [HW0.out.2]; omega)).trans HZ.out.1
  have z2 : w2.cell? ⟨w.heap.size + 1, 6, none⟩ = some (.slice a4 bo.length q4) := (hw2.cell (p := ⟨w.heap.size + 1, 6, none⟩) (by show w.heap.size + 1 < _; rw [HW0.out.2]; omega)).trans HZ.out.2
  clear hw2 HR1 HR2
  go_wp2_with fail
  refine Calls.mono (HC.out w2 bo _ _ (HW0.out.1.trans (HW2.out.mono HW0.out.1.size)) HX2.out.1 HX2.out.2) ?_
  rintro e w4 ⟨rfl, hw4⟩
  have HW4 : Hid (Below w.heap.size w w4) := HW0.out.1.trans ((HW2.out.trans (hw4.mono HW2.out.size)).mono HW0.out.1.size)
  clear hw4 z1 z2 HW2 HW0 HZ
  go_wp2_with fail
  go_ret
  exact ⟨rfl, HW4.out⟩
theorem same_c (w : World) (l : List Ru) (v1 v2 : Value) (h1 : PrgA w v1 l) (h2 : PrgA w v2 l) :
 Calls Tryz.prog 12 #[.agg #[v1], .agg #[v2]] w (YesC w) := by
 have HQ : Hid (∀ W, Below w.heap.size w W -> Calls Tryz.prog 26 #[v1, v2, .func (.func 27) #[] #[]] W (YesC W)) := by
  intro W hw
  exact equalR_c W.heap.size 6000 l v1 v2 W (h1.stays hw) (h2.stays hw) (Nat.le_refl _) fun W1 x c1 c2 hW he1 he2 =>
   clR_c W.heap.size 6000 W1 x c1 c2 (RuA.below hW he1) (RuA.below hW he2) hW.size fun W2 l2 u1 u2 hW2 g1 g2 =>
    stmts_c 6000 W.heap.size W2 l2 u1 u2 (rowS_below g1 hW.size hW2) (rowS_below g2 hW.size hW2) (Nat.le_trans hW.size hW2.size)
 obtain ⟨a1, q1, rfl, -, -⟩ := h1
 obtain ⟨a2, q2, rfl, -, -⟩ := h2
 go_enter Tryz.func12, Tryz.ntmps12
 go_wp2_with fail
 refine Calls.mono (HQ.out _ (two_allocs (Below.refl _ _) _ _).1) ?_
 rintro e w2 ⟨rfl, hw⟩
 have HW : Hid (Below w.heap.size w w2) := (two_allocs (Below.refl _ _) _ _).1.trans (hw.mono (two_allocs (Below.refl _ _) _ _).2)
 clear hw HQ
 go_wp2_with fail
 go_ret
 exact ⟨rfl, HW.out⟩
end Go.Proofs.YtffnilcihneniaaGreatDoor
