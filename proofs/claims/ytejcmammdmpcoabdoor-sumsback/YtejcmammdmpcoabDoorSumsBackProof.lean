/-
  SumsBack: for every two ints the law returns true: what is added is taken away again, what is divided is put together; what was in memory stays. The row lists the tables that the library names, tied to the text of the program; the call reads none of them.
-/
import Derived.Test.YtejcmammdmpcoabDoorOpNum
import Derived.Test.YtejcmammdmpcoabDoorTie
import Derived.Test.YtejcmammdmpcoabDoorCards
import Derived.Lay
import Derived.LaidMore
import Derived.SevenTiedAt
import Derived.Stop.Joined
import Derived.Stop.LaidErr
namespace Go.Proofs.YtejcmammdmpcoabDoor.sumsBack
open Go.ChangeShapes Go.WideShapes Go.ChangeAt Go.RowKit Go.Joins
open Go.ChangeMaps (open_string shut_string)
set_option linter.unusedVariables false

theorem tdivmul_bd' (x y : Int) (h1 : -274877906943 ≤ x) (h2 : x ≤ 274877906943) : -1099511627776 ≤ x.tdiv y * y ∧ x.tdiv y * y ≤ 1099511627776 := by
  have h := tmod_eq x y
  have k : (x.tmod y).natAbs ≤ x.natAbs := by rw [Int.natAbs_tmod]; exact Nat.mod_le _ _
  omega
theorem tmod38 (a : Int) : -274877906943 ≤ a.tmod 274877906944 ∧ a.tmod 274877906944 ≤ 274877906943 := by
  have h := Int.natAbs_tmod a 274877906944
  have k : a.natAbs % 274877906944 < 274877906944 := Nat.mod_lt _ (by decide)
  have e : (274877906944 : Int).natAbs = 274877906944 := rfl
  rw [e] at h
  omega

set_option maxRecDepth 100000 in
set_option maxHeartbeats 2000000 in
theorem walk (a : Int) (wa : (Lit.int .i64 a).wf = true) (b : Int) (wb : (Lit.int .i64 b).wf = true) (w : World) :
    Calls Tryd.prog 6 #[.int .i64 a, .int .i64 b] w fun e w' => e = .returned (.bool true) ∧ Below w.heap.size w w' := by
  obtain ⟨x, hx⟩ : ∃ x, a.tmod 274877906944 = x := ⟨_, rfl⟩
  obtain ⟨y, hyeq⟩ : ∃ y, b.tmod 274877906944 = y := ⟨_, rfl⟩
  have x12 := tmod38 a
  have y12 := tmod38 b
  rw [hx] at x12
  rw [hyeq] at y12
  obtain ⟨x1, x2⟩ := x12
  obtain ⟨y1, y2⟩ := y12
  clear wa wb
  by_cases hy0 : y = 0
  · subst hy0
    go_enter Tryd.func6, Tryd.ntmps6
    go_wp2_with fail
    refine (number_c x _).mono ?_
    rintro e w1 ⟨rfl, hb⟩
    have B1 : Hid (Below w.heap.size w w1) := by exact hb
    clear hb
    go_wp2_with fail
    refine (number_c 0 _).mono ?_
    rintro e w2 ⟨rfl, hb⟩
    have B2 : Hid (Below w.heap.size w w2) := bl_trans (B1.out.alloc B1.out.size _) hb
    have L_x : Hid (Lies w2 (w1.heap.size) false x ⟨#[]⟩) := (Lies.new _ false x ⟨#[]⟩ 23).below hb
    clear hb
    obtain ⟨l_x, c0_x, c1_x, c2_x⟩ := L_x.out
    go_wp2_with fail
    refine (op_add x 0 x _ (by omega) (by omega) (by omega) (by omega) (by omega) (by omega) (by omega)).mono ?_
    rintro e w3 ⟨rfl, hb⟩
    have B3 : Hid (Below w.heap.size w w3) := bl_trans (B2.out.alloc B2.out.size _) hb
    clear l_x c0_x c1_x c2_x
    have L_x : Hid (Lies w3 (w1.heap.size) false x ⟨#[]⟩) := (L_x.out.over _).below hb
    have L_y : Hid (Lies w3 (w2.heap.size) false 0 ⟨#[]⟩) := (Lies.new _ false 0 ⟨#[]⟩ 23).below hb
    clear hb
    obtain ⟨l_x, c0_x, c1_x, c2_x⟩ := L_x.out
    obtain ⟨l_y, c0_y, c1_y, c2_y⟩ := L_y.out
    go_wp2_with fail
    refine (op_sub x 0 x _ (by omega) (by omega) (by omega) (by omega) (by omega) (by omega) (by omega)).mono ?_
    rintro e w4 ⟨rfl, hb⟩
    have B4 : Hid (Below w.heap.size w w4) := bl_trans (B3.out.alloc B3.out.size _) hb
    clear l_x c0_x c1_x c2_x l_y c0_y c1_y c2_y
    have L_x : Hid (Lies w4 (w1.heap.size) false x ⟨#[]⟩) := (L_x.out.over _).below hb
    have L_y : Hid (Lies w4 (w2.heap.size) false 0 ⟨#[]⟩) := (L_y.out.over _).below hb
    have L_s : Hid (Lies w4 (w3.heap.size) false x ⟨#[]⟩) := (Lies.new _ false x ⟨#[]⟩ 23).below hb
    clear hb
    obtain ⟨l_x, c0_x, c1_x, c2_x⟩ := L_x.out
    obtain ⟨l_y, c0_y, c1_y, c2_y⟩ := L_y.out
    obtain ⟨l_s, c0_s, c1_s, c2_s⟩ := L_s.out
    go_wp2_with fail
    refine (op_div0 x _ (by omega) (by omega)).mono ?_
    rintro e w5 ⟨rfl, hb⟩
    have B5 : Hid (Below w.heap.size w w5) := bl_trans (B4.out.alloc B4.out.size _) hb
    clear l_x c0_x c1_x c2_x l_y c0_y c1_y c2_y l_s c0_s c1_s c2_s
    have L_x : Hid (Lies w5 (w1.heap.size) false x ⟨#[]⟩) := (L_x.out.over _).below hb
    have L_y : Hid (Lies w5 (w2.heap.size) false 0 ⟨#[]⟩) := (L_y.out.over _).below hb
    have L_s : Hid (Lies w5 (w3.heap.size) false x ⟨#[]⟩) := (L_s.out.over _).below hb
    have L_d : Hid (Lies w5 (w4.heap.size) false x ⟨#[]⟩) := (Lies.new _ false x ⟨#[]⟩ 23).below hb
    clear hb
    obtain ⟨l_x, c0_x, c1_x, c2_x⟩ := L_x.out
    obtain ⟨l_y, c0_y, c1_y, c2_y⟩ := L_y.out
    obtain ⟨l_s, c0_s, c1_s, c2_s⟩ := L_s.out
    obtain ⟨l_d, c0_d, c1_d, c2_d⟩ := L_d.out
    go_wp2_with fail
    refine (op_rem0 x _ (by omega) (by omega)).mono ?_
    rintro e w6 ⟨rfl, hb⟩
    have B6 : Hid (Below w.heap.size w w6) := bl_trans (B5.out.alloc B5.out.size _) hb
    clear l_x c0_x c1_x c2_x l_y c0_y c1_y c2_y l_s c0_s c1_s c2_s l_d c0_d c1_d c2_d
    have L_x : Hid (Lies w6 (w1.heap.size) false x ⟨#[]⟩) := (L_x.out.over _).below hb
    have L_y : Hid (Lies w6 (w2.heap.size) false 0 ⟨#[]⟩) := (L_y.out.over _).below hb
    have L_s : Hid (Lies w6 (w3.heap.size) false x ⟨#[]⟩) := (L_s.out.over _).below hb
    have L_d : Hid (Lies w6 (w4.heap.size) false x ⟨#[]⟩) := (L_d.out.over _).below hb
    have L_q : Hid (Lies w6 (w5.heap.size) false 0 ⟨#[]⟩) := (Lies.new _ false 0 ⟨#[]⟩ 23).below hb
    clear hb
    obtain ⟨l_x, c0_x, c1_x, c2_x⟩ := L_x.out
    obtain ⟨l_y, c0_y, c1_y, c2_y⟩ := L_y.out
    obtain ⟨l_s, c0_s, c1_s, c2_s⟩ := L_s.out
    obtain ⟨l_d, c0_d, c1_d, c2_d⟩ := L_d.out
    obtain ⟨l_q, c0_q, c1_q, c2_q⟩ := L_q.out
    go_wp2_with fail
    go_ret
    exact ⟨rfl, B6.out.alloc B6.out.size _⟩
  · have hyb : (y == 0) = false := by simp [hy0]
    obtain ⟨q, hq⟩ : ∃ q, x.tdiv y = q := ⟨_, rfl⟩
    obtain ⟨m, hm⟩ : ∃ m, x.tmod y = m := ⟨_, rfl⟩
    obtain ⟨p, hp⟩ : ∃ p, q * y = p := ⟨_, rfl⟩
    have q12 := tdiv_bd x y (by omega) (by omega)
    have m12 := tmod_bd x y (by omega) (by omega)
    have p12 := tdivmul_bd' x y x1 x2
    have pm := tmod_eq x y
    rw [hq] at q12 p12 pm
    rw [hm] at m12 pm
    rw [hp] at p12 pm
    obtain ⟨q1, q2⟩ := q12
    obtain ⟨m1, m2⟩ := m12
    obtain ⟨p1, p2⟩ := p12
    have pm' : p + m ≤ x := by omega
    have pm2 : x ≤ p + m := by omega
    clear pm
    have HQ : Hid (x.tdiv y = q) := hq
    have HM : Hid (x.tmod y = m) := hm
    have HPp : Hid (q * y = p) := hp
    clear hq hm hp
    have hy : ¬ y = 0 := hy0
    clear hy0
    go_enter Tryd.func6, Tryd.ntmps6
    go_wp2_with fail
    refine (number_c x _).mono ?_
    rintro e w1 ⟨rfl, hb⟩
    have B1 : Hid (Below w.heap.size w w1) := by exact hb
    clear hb
    go_wp2_with fail
    refine (number_c y _).mono ?_
    rintro e w2 ⟨rfl, hb⟩
    have B2 : Hid (Below w.heap.size w w2) := bl_trans (B1.out.alloc B1.out.size _) hb
    have L_x : Hid (Lies w2 (w1.heap.size) false x ⟨#[]⟩) := (Lies.new _ false x ⟨#[]⟩ 23).below hb
    clear hb
    obtain ⟨l_x, c0_x, c1_x, c2_x⟩ := L_x.out
    go_wp2_with fail
    refine (op_add x y (x + y) _ (by omega) (by omega) (by omega) (by omega) (by omega) (by omega) (by omega)).mono ?_
    rintro e w3 ⟨rfl, hb⟩
    have B3 : Hid (Below w.heap.size w w3) := bl_trans (B2.out.alloc B2.out.size _) hb
    clear l_x c0_x c1_x c2_x
    have L_x : Hid (Lies w3 (w1.heap.size) false x ⟨#[]⟩) := (L_x.out.over _).below hb
    have L_y : Hid (Lies w3 (w2.heap.size) false y ⟨#[]⟩) := (Lies.new _ false y ⟨#[]⟩ 23).below hb
    clear hb
    obtain ⟨l_x, c0_x, c1_x, c2_x⟩ := L_x.out
    obtain ⟨l_y, c0_y, c1_y, c2_y⟩ := L_y.out
    go_wp2_with fail
    refine (op_sub (x + y) y x _ (by omega) (by omega) (by omega) (by omega) (by omega) (by omega) (by omega)).mono ?_
    rintro e w4 ⟨rfl, hb⟩
    have B4 : Hid (Below w.heap.size w w4) := bl_trans (B3.out.alloc B3.out.size _) hb
    clear l_x c0_x c1_x c2_x l_y c0_y c1_y c2_y
    have L_x : Hid (Lies w4 (w1.heap.size) false x ⟨#[]⟩) := (L_x.out.over _).below hb
    have L_y : Hid (Lies w4 (w2.heap.size) false y ⟨#[]⟩) := (L_y.out.over _).below hb
    have L_s : Hid (Lies w4 (w3.heap.size) false (x + y) ⟨#[]⟩) := (Lies.new _ false (x + y) ⟨#[]⟩ 23).below hb
    clear hb
    obtain ⟨l_x, c0_x, c1_x, c2_x⟩ := L_x.out
    obtain ⟨l_y, c0_y, c1_y, c2_y⟩ := L_y.out
    obtain ⟨l_s, c0_s, c1_s, c2_s⟩ := L_s.out
    go_wp2_with fail
    refine (op_div x y q _ (by omega) (by omega) (by omega) (by omega) hy HQ.out).mono ?_
    rintro e w5 ⟨rfl, hb⟩
    have B5 : Hid (Below w.heap.size w w5) := bl_trans (B4.out.alloc B4.out.size _) hb
    clear l_x c0_x c1_x c2_x l_y c0_y c1_y c2_y l_s c0_s c1_s c2_s
    have L_x : Hid (Lies w5 (w1.heap.size) false x ⟨#[]⟩) := (L_x.out.over _).below hb
    have L_y : Hid (Lies w5 (w2.heap.size) false y ⟨#[]⟩) := (L_y.out.over _).below hb
    have L_s : Hid (Lies w5 (w3.heap.size) false (x + y) ⟨#[]⟩) := (L_s.out.over _).below hb
    have L_d : Hid (Lies w5 (w4.heap.size) false x ⟨#[]⟩) := (Lies.new _ false x ⟨#[]⟩ 23).below hb
    clear hb
    obtain ⟨l_x, c0_x, c1_x, c2_x⟩ := L_x.out
    obtain ⟨l_y, c0_y, c1_y, c2_y⟩ := L_y.out
    obtain ⟨l_s, c0_s, c1_s, c2_s⟩ := L_s.out
    obtain ⟨l_d, c0_d, c1_d, c2_d⟩ := L_d.out
    go_wp2_with fail
    refine (op_rem x y m _ (by omega) (by omega) (by omega) (by omega) hy HM.out).mono ?_
    rintro e w6 ⟨rfl, hb⟩
    have B6 : Hid (Below w.heap.size w w6) := bl_trans (B5.out.alloc B5.out.size _) hb
    clear l_x c0_x c1_x c2_x l_y c0_y c1_y c2_y l_s c0_s c1_s c2_s l_d c0_d c1_d c2_d
    have L_x : Hid (Lies w6 (w1.heap.size) false x ⟨#[]⟩) := (L_x.out.over _).below hb
    have L_y : Hid (Lies w6 (w2.heap.size) false y ⟨#[]⟩) := (L_y.out.over _).below hb
    have L_s : Hid (Lies w6 (w3.heap.size) false (x + y) ⟨#[]⟩) := (L_s.out.over _).below hb
    have L_d : Hid (Lies w6 (w4.heap.size) false x ⟨#[]⟩) := (L_d.out.over _).below hb
    have L_q : Hid (Lies w6 (w5.heap.size) false q ⟨#[]⟩) := (Lies.new _ false q ⟨#[]⟩ 23).below hb
    clear hb
    obtain ⟨l_x, c0_x, c1_x, c2_x⟩ := L_x.out
    obtain ⟨l_y, c0_y, c1_y, c2_y⟩ := L_y.out
    obtain ⟨l_s, c0_s, c1_s, c2_s⟩ := L_s.out
    obtain ⟨l_d, c0_d, c1_d, c2_d⟩ := L_d.out
    obtain ⟨l_q, c0_q, c1_q, c2_q⟩ := L_q.out
    go_wp2_with fail
    refine (op_mul q y p _ (by omega) (by omega) (by omega) (by omega) HPp.out (by omega) (by omega)).mono ?_
    rintro e w7 ⟨rfl, hb⟩
    have B7 : Hid (Below w.heap.size w w7) := bl_trans (B6.out.alloc B6.out.size _) hb
    clear l_x c0_x c1_x c2_x l_y c0_y c1_y c2_y l_s c0_s c1_s c2_s l_d c0_d c1_d c2_d l_q c0_q c1_q c2_q
    have L_x : Hid (Lies w7 (w1.heap.size) false x ⟨#[]⟩) := (L_x.out.over _).below hb
    have L_y : Hid (Lies w7 (w2.heap.size) false y ⟨#[]⟩) := (L_y.out.over _).below hb
    have L_s : Hid (Lies w7 (w3.heap.size) false (x + y) ⟨#[]⟩) := (L_s.out.over _).below hb
    have L_d : Hid (Lies w7 (w4.heap.size) false x ⟨#[]⟩) := (L_d.out.over _).below hb
    have L_q : Hid (Lies w7 (w5.heap.size) false q ⟨#[]⟩) := (L_q.out.over _).below hb
    have L_m : Hid (Lies w7 (w6.heap.size) false m ⟨#[]⟩) := (Lies.new _ false m ⟨#[]⟩ 23).below hb
    clear hb
    obtain ⟨l_x, c0_x, c1_x, c2_x⟩ := L_x.out
    obtain ⟨l_y, c0_y, c1_y, c2_y⟩ := L_y.out
    obtain ⟨l_s, c0_s, c1_s, c2_s⟩ := L_s.out
    obtain ⟨l_d, c0_d, c1_d, c2_d⟩ := L_d.out
    obtain ⟨l_q, c0_q, c1_q, c2_q⟩ := L_q.out
    obtain ⟨l_m, c0_m, c1_m, c2_m⟩ := L_m.out
    go_wp2_with fail
    refine (op_add p m x _ (by omega) (by omega) (by omega) (by omega) (by omega) (by omega) (by omega)).mono ?_
    rintro e w8 ⟨rfl, hb⟩
    have B8 : Hid (Below w.heap.size w w8) := bl_trans (B7.out.alloc B7.out.size _) hb
    clear l_x c0_x c1_x c2_x l_y c0_y c1_y c2_y l_s c0_s c1_s c2_s l_d c0_d c1_d c2_d l_q c0_q c1_q c2_q l_m c0_m c1_m c2_m
    have L_x : Hid (Lies w8 (w1.heap.size) false x ⟨#[]⟩) := (L_x.out.over _).below hb
    have L_y : Hid (Lies w8 (w2.heap.size) false y ⟨#[]⟩) := (L_y.out.over _).below hb
    have L_s : Hid (Lies w8 (w3.heap.size) false (x + y) ⟨#[]⟩) := (L_s.out.over _).below hb
    have L_d : Hid (Lies w8 (w4.heap.size) false x ⟨#[]⟩) := (L_d.out.over _).below hb
    have L_q : Hid (Lies w8 (w5.heap.size) false q ⟨#[]⟩) := (L_q.out.over _).below hb
    have L_m : Hid (Lies w8 (w6.heap.size) false m ⟨#[]⟩) := (L_m.out.over _).below hb
    have L_p : Hid (Lies w8 (w7.heap.size) false p ⟨#[]⟩) := (Lies.new _ false p ⟨#[]⟩ 23).below hb
    clear hb
    obtain ⟨l_x, c0_x, c1_x, c2_x⟩ := L_x.out
    obtain ⟨l_y, c0_y, c1_y, c2_y⟩ := L_y.out
    obtain ⟨l_s, c0_s, c1_s, c2_s⟩ := L_s.out
    obtain ⟨l_d, c0_d, c1_d, c2_d⟩ := L_d.out
    obtain ⟨l_q, c0_q, c1_q, c2_q⟩ := L_q.out
    obtain ⟨l_m, c0_m, c1_m, c2_m⟩ := L_m.out
    obtain ⟨l_p, c0_p, c1_p, c2_p⟩ := L_p.out
    go_wp2_with fail
    go_ret
    exact ⟨rfl, B8.out.alloc B8.out.size _⟩

set_option maxRecDepth 100000 in
theorem lifted (os : Os) (started : os.Started) (H : Type) (enc : TypeId × Value → H) :
    ReturnsInHanded {} Tryd.checked os 6 .any (fun w args => (Rows.sumsBackSpec.pre enc Tryd.prog Tryd.f6 Rows.sumsBackRow.domain false w args ∧ laidMetH Tryd.prog Rows.sumsBackRow.laid w) ∧ sizedMet enc Tryd.prog Tryd.f6 (OpenSpec.ofChange Rows.sumsBackSpec) false w args)
      (Rows.sumsBackSpec.post enc Tryd.prog Tryd.f6 false true false false) := by
  refine returnsInHanded_of_change_and (C := Tryd.checked) (X := fun w _ => laidMetH Tryd.prog Rows.sumsBackRow.laid w) (fun _ _ _ hh h => h.of_heap hh) own started (by kernel_rfl) Tryd.func6
    (ChangeSpec.witness_shaped (enc := enc) (C := Tryd.checked) (os := os) (X := fun w _ => laidMetH Tryd.prog Rows.sumsBackRow.laid w) false (World.laidAll Tryd.prog os Rows.sumsBackRow.laid) #[.int .i64 0, .int .i64 0] 8 (World.laidAll_os _ _ _)
      (World.shaped_of_ZipB (by kernel_rfl) (by kernel_rfl)) (by kernel_rfl) (by kernel_rfl) (by kernel_rfl)
      (by rw [MakeChecks.laidMetH_plain _ _ _ (by kernel_rfl)]; exact laidMet_laidAll _ (by kernel_rfl) (by kernel_rfl))) ?_
  intro W base args ds gs before hval0 hW hcnd hsz hL _
  rw [MakeChecks.laidMetH_plain _ _ _ (by kernel_rfl)] at hL
  have hval : ∀ (j : Nat) t v, Tryd.f6.params[j]? = some t → args[j]? = some v → Value.okWide Tryd.prog W .any base t v := hval0
  have hW' := hW
  obtain ⟨p, q, hA0, hV, rfl, hfz, hnd⟩ := hW
  have hA : DataW.TrodAll enc Tryd.prog W 0 (fun _ => true) true Tryd.f6.params.toList args.toList ds p := hA0
  rw [Tryd.params6] at hA hval
  obtain ⟨v0, vs0, d0, ds0, p0, q0, hargs, rfl, rfl, h0, r0⟩ := trodAll_cons hA
  obtain ⟨v1, vs1, d1, ds1, p1, q1, rfl, rfl, rfl, h1, r1⟩ := trodAll_cons r0
  obtain ⟨rfl, rfl, rfl⟩ := trodAll_nil r1
  obtain rfl : args = #[v0, v1] := by cases args; simp_all
  obtain ⟨rfl, rfl⟩ := trodVars_none hV
  have k0 := h0
  have lt0 : ∀ x ∈ p0, x.block < W.heap.size := by obtain ⟨m, hm⟩ := k0; exact DataW.trod_lt m _ _ _ hm
  obtain ⟨a0, rfl, rfl, rfl, w0⟩ := open_int Tryd.underlying3 (hval 0 3 v0 rfl rfl) h0
  have k1 := h1
  have lt1 : ∀ x ∈ p1, x.block < W.heap.size := by obtain ⟨m, hm⟩ := k1; exact DataW.trod_lt m _ _ _ hm
  obtain ⟨a1, rfl, rfl, rfl, w1⟩ := open_int Tryd.underlying3 (hval 1 3 v1 rfl rfl) h1
  clear hA0 hval0
  refine (walk a0 w0 a1 w1 W).mono fun e W' ⟨he, bel⟩ => ?_
  subst he
  exact ⟨_, rfl, _, _, _, [], _, [], hW', trodAll_mk1 (shut_bool Tryd.underlying4 _), (trodAll_cons_mk (Below.trod laidOut (by kernel_rfl) (of_decide_eq_true (by kernel_rfl)) k0 bel lt0) (trodAll_cons_mk (Below.trod laidOut (by kernel_rfl) (of_decide_eq_true (by kernel_rfl)) k1 bel lt1) trodAll_mk0)), rfl, bel.frame _, fun h => by cases h⟩

theorem over : Rows.sumsBackRow.holds Tryd.pinned (OpenSpec.ofChange Rows.sumsBackSpec) :=
  OpenClaim.holds_of_wide 6 Tryd.f6 rfl rfl rfl rfl rfl rfl rfl ⟨rfl, rfl, rfl, rfl, rfl⟩ rfl rfl rfl rfl rfl (by kernel_rfl) Tryd.func6 (by kernel_rfl)
    (of_decide_eq_true (by kernel_rfl)) (by unfold Func.isWrapper; rw [if_neg (of_decide_eq_false (by kernel_rfl))]; exact ⟨rfl, rfl⟩)
    (fun os started H enc _ => lifted os started H enc)

theorem card : Rows.SumsBackCardSaid :=
  Claim7.holds_tied_plain_at .later [] [.data, .data, .data, .data, .pinned] true (true, "6c26c0187a3396e3fb5204ccd2482c4d779497168c111a81a531b6312885ccb6") false
    over (fun _ h => by cases h) (by kernel_rfl) (fun _ h => by cases h) sumsBack_row_tie rfl ⟨rfl, rfl⟩ (by kernel_rfl) rfl
    (fun f fn hf hfn => by
      obtain rfl : f = 6 := Option.some.inj ((show Tryd.prog.funcNamed Rows.sumsBackRow.func = some 6 by kernel_rfl).symm.trans hf) |>.symm
      obtain rfl : fn = Tryd.f6 := (Option.some.inj (Tryd.func6.symm.trans hfn)).symm
      exact ⟨by kernel_rfl, fun j t ht => by
        rw [Tryd.params6] at ht
        have hm : t ∈ [3, 3] := by simpa using Array.mem_of_getElem? ht
        have hall : ([3, 3].all fun u => !Tryd.prog.wantsStandIn u) = true := by kernel_rfl
        exact (show Tryd.prog.wantsStandIn t = false by simpa using List.all_eq_true.1 hall t hm)⟩)
    (by kernel_rfl)
end Go.Proofs.YtejcmammdmpcoabDoor.sumsBack

namespace Go.Proofs.YtejcmammdmpcoabDoor
/-- THE STATEMENT. -/
theorem sumsBack_card : Rows.SumsBackCardSaid := sumsBack.card
#print axioms sumsBack_card
end Go.Proofs.YtejcmammdmpcoabDoor
