/-
  made on a program without rules.
-/
import Derived.Test.YtgijbdhbecnkbaaGreatDoorSpecNil
import Derived.Test.YtgijbdhbecnkbaaGreatDoorLoOps
import Derived.Shelf.Abstract
import Derived.Deep.DeepCutAuto
namespace Go.Proofs.YtgijbdhbecnkbaaGreatDoor
open Go.ChangeShapes Go.WideShapes Go.ChangeAt Go.RowKit Go.Joins Go.Maps
set_option maxHeartbeats 400000
set_option linter.unusedVariables false
set_option linter.unusedSimpArgs false
set_option maxRecDepth 100000
theorem oy_st {P : Program} {o : Oper} {w : World} {a : Act} {N : Value -> World -> Prop} {t : Nat} {x y : Operand} {u : Value} {Q : Nat -> World -> Prop} (hq : ∃ g w', Q g w') (e : o.op = .store t x y) (hx : ∀ g w', Q g w' -> a.eval x = .pointer (some ⟨g, 0, none⟩)) (hy : a.eval y = u) (hr : ∀ g w', Q g w' -> (Instr.storeAt t (.pointer (some ⟨g, 0, none⟩)) u).run P w = .ok () w') (hn : ∀ g w', Q g w' -> N undef w') : Oyields P o a w N := by
 obtain ⟨g, w', h⟩ := hq
 exact oy_skip (xstore e (hx g w' h) hy (hr g w' h)) (hn g w' h)
attribute [local irreducible] Oyields
theorem made_nil (B : Nat) (mp : Option Addr) (la : Option Addr) (lc : Nat) (a : Option Addr) (cap : Nat) (cm : Value) (hcm : ∃ k, cm = .map k) (w : World) (hT : Tb B w) (hB : B <= w.heap.size) : Calls Tryz.prog 31 #[.agg #[.pointer mp, .slice la 0 lc], .slice a 0 cap, cm] w fun e w' => e = .returned (.tuple #[.agg #[.slice none 0 0], .bool true]) /\ Below w.heap.size w w' := by
 obtain ⟨k, rfl⟩ := hcm
 have hmf : ∀ (fn : Fn) (first cap : Array Value) (w : World), (Instr.makeFunc fn first cap).run Tryz.prog w = .ok (.func fn first cap) w := fun _ _ _ _ => rfl
 obtain ⟨W, hW⟩ : ∃ W, W = (((w.alloc (.cells #[.pointer mp, .slice la 0 lc] 55)).alloc (.cells #[.map k] 66)).alloc (.cells #[.slice none 0 0] 25)).alloc (.cells #[.func (.func 55) #[] #[.pointer (some ⟨w.heap.size + 1, 0, none⟩)]] 63) := ⟨_, rfl⟩
 have HWW : Hid (W = _) := hW
 have hBw : Below w.heap.size w W := by rw [hW]; exact ((((Below.refl _ _).alloc (Nat.le_refl _) _).alloc (by simp) _).alloc (by simp; omega) _).alloc (by simp; omega) _
 have hs : W.heap.size = w.heap.size + 4 := by rw [hW]; simp
 have c0 : W.cell? ⟨w.heap.size, 0, none⟩ = some (.pointer mp) := by rw [hW]; simp [go_sem]
 have c1 : W.cell? ⟨w.heap.size, 1, none⟩ = some (.slice la 0 lc) := by rw [hW]; simp [go_sem]
 have c3 : W.cell? ⟨w.heap.size + 3, 0, none⟩ = some (.func (.func 55) #[] #[.pointer (some ⟨w.heap.size + 1, 0, none⟩)]) := by rw [hW]; simp [go_sem]
 have c2 : W.cell? ⟨w.heap.size + 2, 0, none⟩ = some (.slice none 0 0) := by rw [hW]; simp [go_sem]
 have z2 : W.frozen? ⟨w.heap.size + 2, 0, none⟩ = false := by rw [hW]; simp [go_sem]
 have HKP : Hid (∀ w2, Below W.heap.size W w2 -> w2.cell? ⟨w.heap.size, 0, none⟩ = some (.pointer mp) /\ w2.cell? ⟨w.heap.size, 1, none⟩ = some (.slice la 0 lc) /\ w2.cell? ⟨w.heap.size + 3, 0, none⟩ = some (.func (.func 55) #[] #[.pointer (some ⟨w.heap.size + 1, 0, none⟩)])) := fun w2 hb => by
  exact ⟨(hb.cell (p := ⟨w.heap.size, 0, none⟩) (by show w.heap.size < _; omega)).trans c0, (hb.cell (p := ⟨w.heap.size, 1, none⟩) (by show w.heap.size < _; omega)).trans c1, (hb.cell (p := ⟨w.heap.size + 3, 0, none⟩) (by show w.heap.size + 3 < _; omega)).trans c3⟩
 have HR : Hid (∀ (x y z : Value) w', Hid (Below W.heap.size W w') -> Calls Tryz.prog 60 #[.agg #[x, y, z], .slice a 0 cap] w' fun e w2 => e = .returned (.slice none 0 0) /\ (w2.cell? ⟨w.heap.size, 0, none⟩ = some (.pointer mp) /\ w2.cell? ⟨w.heap.size, 1, none⟩ = some (.slice la 0 lc) /\ w2.cell? ⟨w.heap.size + 3, 0, none⟩ = some (.func (.func 55) #[] #[.pointer (some ⟨w.heap.size + 1, 0, none⟩)])) /\ Hid (Below W.heap.size W w2)) := fun x y z w' hb => (rules_nil _ a cap w' ⟨x, y, z, rfl⟩).mono fun e w2 ⟨h1, h2⟩ => ⟨h1, HKP.out _ (bl_trans hb.out h2), bl_trans hb.out h2⟩
 have HR2 : Hid (∀ (x y z : Value) w', Below W.heap.size W w' -> Calls Tryz.prog 60 #[.agg #[x, y, z], .slice none 0 0] w' fun e w2 => e = .returned (.slice none 0 0) /\ (w2.cell? ⟨w.heap.size, 0, none⟩ = some (.pointer mp) /\ w2.cell? ⟨w.heap.size, 1, none⟩ = some (.slice la 0 lc) /\ w2.cell? ⟨w.heap.size + 3, 0, none⟩ = some (.func (.func 55) #[] #[.pointer (some ⟨w.heap.size + 1, 0, none⟩)])) /\ Below w'.heap.size w' w2) := fun x y z w' hb => (rules_nil _ none 0 w' ⟨x, y, z, rfl⟩).mono fun e w2 ⟨h1, h2⟩ => ⟨h1, HKP.out _ (bl_trans hb h2), h2⟩
 have HSZ : Hid (∀ fn fs cs w', Hid (Below W.heap.size W w') -> Calls Tryz.prog 61 #[.slice none 0 0, .func fn fs cs] w' fun e w2 => e = .returned (.int .i64 0) /\ (w2.cell? ⟨w.heap.size, 0, none⟩ = some (.pointer mp) /\ w2.cell? ⟨w.heap.size, 1, none⟩ = some (.slice la 0 lc) /\ w2.cell? ⟨w.heap.size + 3, 0, none⟩ = some (.func (.func 55) #[] #[.pointer (some ⟨w.heap.size + 1, 0, none⟩)])) /\ Hid (Below W.heap.size W w2)) := fun fn fs cs w' hb => (size_nil fn fs cs none 0 w').mono fun e w2 ⟨h1, h2⟩ => ⟨h1, HKP.out _ (bl_trans hb.out h2), bl_trans hb.out h2⟩
 have HWH : Hid (∀ w', Below W.heap.size W w' -> Calls Tryz.prog 62 #[.agg #[.pointer mp, .slice la 0 lc], .slice none 0 0] w' fun e w2 => e = .returned (.agg #[.slice none 0 0]) /\ (w2.cell? ⟨w.heap.size, 0, none⟩ = some (.pointer mp) /\ w2.cell? ⟨w.heap.size, 1, none⟩ = some (.slice la 0 lc) /\ w2.cell? ⟨w.heap.size + 3, 0, none⟩ = some (.func (.func 55) #[] #[.pointer (some ⟨w.heap.size + 1, 0, none⟩)])) /\ Below w'.heap.size w' w2) := fun w' hb => (whole_nil mp la lc none 0 w').mono fun e w2 ⟨h1, h2⟩ => ⟨h1, HKP.out _ (bl_trans hb h2), h2⟩
 have HTB := hid (And.intro hT (And.intro hB (And.intro hBw hs)))
 have HC2 := hid (And.intro c2 z2)
 have HD : Hid (Below W.heap.size W W) := Below.refl _ _
 have HRU : Hid (∀ (f : Value) (w1 : World), (∃ x y z, f = .agg #[x, y, z]) -> Below W.heap.size W w1 -> Calls Tryz.prog 60 #[f, .slice none 0 0] w1 fun e w2 => ∃ v, e = .returned v /\ v = .slice none 0 0 /\ (∀ g, w1.cell? ⟨g, 0, none⟩ = some (.slice none 0 0) -> w1.frozen? ⟨g, 0, none⟩ = false -> w2.cell? ⟨g, 0, none⟩ = some (.slice none 0 0) /\ w2.frozen? ⟨g, 0, none⟩ = false) /\ Below W.heap.size W w2) := fun f w1 hf hb => (rules_nil f none 0 w1 hf).mono fun e w2 h => ⟨_, h.1, rfl, fun g h1 h2 => ⟨(h.2.cell (p := ⟨g, 0, none⟩) (World.block_lt_of_cell? _ ⟨g, 0, none⟩ h1)).trans h1, (h.2.frozen (p := ⟨g, 0, none⟩) (World.block_lt_of_cell? _ ⟨g, 0, none⟩ h1)).trans h2⟩, bl_trans hb h.2⟩
 have HWO : Hid (∀ (w1 : World), Below W.heap.size W w1 -> Calls Tryz.prog 62 #[.agg #[.pointer mp, .slice la 0 lc], .slice none 0 0] w1 fun e w2 => ∃ v, e = .returned v /\ v = .agg #[.slice none 0 0] /\ (∀ g, w1.cell? ⟨g, 0, none⟩ = some (.slice none 0 0) -> w1.frozen? ⟨g, 0, none⟩ = false -> w2.cell? ⟨g, 0, none⟩ = some (.slice none 0 0) /\ w2.frozen? ⟨g, 0, none⟩ = false) /\ Below W.heap.size W w2) := fun w1 hb => (whole_nil mp la lc none 0 w1).mono fun e w2 h => ⟨_, h.1, rfl, fun g h1 h2 => ⟨(h.2.cell (p := ⟨g, 0, none⟩) (World.block_lt_of_cell? _ ⟨g, 0, none⟩ h1)).trans h1, (h.2.frozen (p := ⟨g, 0, none⟩) (World.block_lt_of_cell? _ ⟨g, 0, none⟩ h1)).trans h2⟩, bl_trans hb h.2⟩
 have HAL : Hid (∀ (w1 : World), Below W.heap.size W w1 -> ∃ v w2, (Instr.alloc 25 true (.tuple #[])).run Tryz.prog w1 = .ok v w2 /\ (∃ g, v = .pointer (some ⟨g, 0, none⟩) /\ W.heap.size <= g /\ w2.cell? ⟨g, 0, none⟩ = some (.slice none 0 0) /\ w2.frozen? ⟨g, 0, none⟩ = false) /\ (∀ g, w1.cell? ⟨g, 0, none⟩ = some (.slice none 0 0) -> w1.frozen? ⟨g, 0, none⟩ = false -> w2.cell? ⟨g, 0, none⟩ = some (.slice none 0 0) /\ w2.frozen? ⟨g, 0, none⟩ = false) /\ Below W.heap.size W w2) := fun w1 hb => by
  have ha : Below w1.heap.size w1 (w1.alloc (.cells #[.slice none 0 0] 25)) := (Below.refl _ _).alloc (Nat.le_refl _) _
  exact ⟨_, _, (by simp [go_sem] : (Instr.alloc 25 true (.tuple #[])).run Tryz.prog w1 = .ok (.pointer (some ⟨w1.heap.size, 0, none⟩)) (w1.alloc (.cells #[.slice none 0 0] 25))), ⟨_, rfl, hb.size, (RowAt.new w1 _ _).cell 0, by simp [go_sem]⟩, fun g h1 h2 => ⟨(ha.cell (p := ⟨g, 0, none⟩) (World.block_lt_of_cell? _ ⟨g, 0, none⟩ h1)).trans h1, (ha.frozen (p := ⟨g, 0, none⟩) (World.block_lt_of_cell? _ ⟨g, 0, none⟩ h1)).trans h2⟩, bl_trans hb ha⟩
 have HSO : Hid (∀ (w1 : World) (g : Nat), Below W.heap.size W w1 -> W.heap.size <= g -> w1.cell? ⟨g, 0, none⟩ = some (.slice none 0 0) -> w1.frozen? ⟨g, 0, none⟩ = false -> ∃ w2, (Instr.storeAt 25 (.pointer (some ⟨g, 0, none⟩)) (.agg #[.slice none 0 0])).run Tryz.prog w1 = .ok () w2 /\ (∀ g, w1.cell? ⟨g, 0, none⟩ = some (.slice none 0 0) -> w1.frozen? ⟨g, 0, none⟩ = false -> w2.cell? ⟨g, 0, none⟩ = some (.slice none 0 0) /\ w2.frozen? ⟨g, 0, none⟩ = false) /\ Below W.heap.size W w2) := fun w1 g hb hg k2 k3 => by
  refine ⟨w1.setCell ⟨g, 0, none⟩ (.slice none 0 0), by simp [go_sem, k2, k3], fun g' h1 h2 => ⟨?_, ?_⟩, hb.setCell (p := ⟨g, 0, none⟩) hg _⟩
  . by_cases e : g' = g
    . rw [e]; exact World.cell?_setCell_same _ _ _ k2
    . exact (World.cell?_setCell_other _ _ _ _ (by intro h; injection h with h; exact e h.symm)).trans h1
  . simpa using h2
 clear hW hBw hs c0 c1 c2 c3 z2 hT hB
 go_enter Tryz.func31, Tryz.ntmps31
 go_wp2_with fail
 rw [<- HWW.out]
 clear HWW
 refine Calls.mono (HR.out _ _ _ W HD) ?_
 rintro e w1 ⟨rfl, hk1, HD1⟩
 clear hk1
 go_wp2_with fail
 refine Calls.mono (HSZ.out _ _ _ w1 HD1) ?_
 rintro e w2 ⟨rfl, hk2, HD2⟩
 obtain ⟨k0, k1, k3⟩ := hk2
 have HD3 : Hid (Below W.heap.size W w2.drew) := bl_trans HD2.out (below_drew w2)
 have k0d : w2.drew.cell? ⟨w.heap.size, 0, none⟩ = some (.pointer mp) := k0
 have k1d : w2.drew.cell? ⟨w.heap.size, 1, none⟩ = some (.slice la 0 lc) := k1
 have k3d : w2.drew.cell? ⟨w.heap.size + 3, 0, none⟩ = some (.func (.func 55) #[] #[.pointer (some ⟨w.heap.size + 1, 0, none⟩)]) := k3
 have n1 : (0 : Int) <= 4000 := by decide
 go_wp2_with fail
 go_cut [12] (fun v12 wx => ∃ bx : Nat, v12 = .pointer (some ⟨bx, 0, none⟩) /\ Hid (wx.cell? ⟨bx, 0, none⟩ = some (.slice none 0 0) /\ Below W.heap.size W wx))
 case first =>
  have hdr : Below w2.heap.size w2 { w2 with drawn := w2.drawn + 1 } := ⟨rfl, rfl, rfl, Nat.le_refl _, fun _ _ => rfl⟩
  refine wp_region_loose (fun j v w' => match j with
   | 0 => v = .agg #[.pointer mp, .slice la 0 lc]
   | 1 => v = .func (.func 55) #[] #[.pointer (some ⟨w.heap.size + 1, 0, none⟩)]
   | 2 => v = .pointer (some ⟨w.heap.size, 0, none⟩)
   | 3 => v = .pointer mp
   | 4 => v = .func (.func 59) #[.pointer mp] #[]
   | 5 => v = .func (.func 56) #[] #[.pointer (some ⟨w.heap.size + 1 + 1 + 1, 0, none⟩), .pointer (some ⟨w.heap.size, 0, none⟩)]
   | 6 => ∃ x y z, v = .agg #[x, y, z]
   | 7 => v = .slice none 0 0
   | 8 => v = .slice none 0 0
   | 9 => v = .agg #[.slice none 0 0]
   | 10 => ∃ g, v = .pointer (some ⟨g, 0, none⟩) /\ W.heap.size <= g /\ w'.cell? ⟨g, 0, none⟩ = some (.slice none 0 0) /\ w'.frozen? ⟨g, 0, none⟩ = false
   | _ => True) (fun w1 w2 => ∀ g, w1.cell? ⟨g, 0, none⟩ = some (.slice none 0 0) -> w1.frozen? ⟨g, 0, none⟩ = false -> w2.cell? ⟨g, 0, none⟩ = some (.slice none 0 0) /\ w2.frozen? ⟨g, 0, none⟩ = false) (fun _ w' => Below W.heap.size W w') (fun _ => 0) 0 (by kernel_rfl) (by kernel_rfl) (by kernel_rfl) ?_ (bl_trans HD2.out hdr) ⟨?_, ?_, ?_, ?_, ?_, ?_, ?_, ?_, ?_, ?_, ?_, ?_, trivial⟩ ?_
  case refine_1 =>
   intro j v wa wb h hR
   split at h <;> first | exact h | skip
   obtain ⟨g, h1, h2, h3, h4⟩ := h
   exact ⟨g, h1, h2, hR g h3 h4⟩
  case refine_14 =>
   intro vs w1 hS hH
   have t10 : ∃ g, vs 10 = .pointer (some ⟨g, 0, none⟩) /\ W.heap.size <= g /\ w1.cell? ⟨g, 0, none⟩ = some (.slice none 0 0) /\ w1.frozen? ⟨g, 0, none⟩ = false := Haves_iff.1 hH 10 (by simp)
   clear hH
   rename_i a1 a0
   refine a0 _ _ ?_
   obtain ⟨g, g1, g2, g3, g4⟩ := t10
   have HT := hid (And.intro g3 hS)
   clear g2 g3 g4 hS HR HR2 HSZ HWH HTB HC2 HD HRU HWO HAL HSO HKP
   refine Met.intro ?_
   simp [loadedA, dstOf, Act.put, List.range, List.range.loop]
   refine a1 _ _ ?_
   (repeat apply Exists.intro)
   refine ⟨?rel, rfl⟩
   exact ⟨g, g1, HT⟩
  all_goals intro vs n w1 hS hn hH
  all_goals have HS : Hid (Below W.heap.size W w1) := hS
  all_goals have q := HKP.out w1 hS
  all_goals have q0 := q.1
  all_goals have q1 := q.2.1
  all_goals have q3 := q.2.2
  . have r : (Instr.loadAt 55 (.pointer (some ⟨w.heap.size, 0, none⟩))).run Tryz.prog w1 = .ok (.agg #[.pointer mp, .slice la 0 lc]) w1 := by simp [go_sem, q0, q1]
    exact oy_val (xload rfl (by kernel_rfl) r) ⟨rfl, fun g h1 h2 => ⟨h1, h2⟩, HS.out⟩
  . have r : (Instr.loadAt 63 (.pointer (some ⟨w.heap.size + 1 + 1 + 1, 0, none⟩))).run Tryz.prog w1 = .ok (.func (.func 55) #[] #[.pointer (some ⟨w.heap.size + 1, 0, none⟩)]) w1 := by simp [go_sem, q3]
    exact oy_val (xload rfl (by kernel_rfl) r) ⟨rfl, fun g h1 h2 => ⟨h1, h2⟩, HS.out⟩
  . have r : (Instr.fieldAt 55 (.pointer (some ⟨w.heap.size, 0, none⟩)) 0).run Tryz.prog w1 = .ok (.pointer (some ⟨w.heap.size, 0, none⟩)) w1 := by simp [go_sem]
    exact oy_val (xfield rfl (by kernel_rfl) r) ⟨rfl, fun g h1 h2 => ⟨h1, h2⟩, HS.out⟩
  . have e : vs 2 = .pointer (some ⟨w.heap.size, 0, none⟩) := hH.1
    have r : (Instr.loadAt 49 (.pointer (some ⟨w.heap.size, 0, none⟩))).run Tryz.prog w1 = .ok (.pointer mp) w1 := by simp [go_sem, q0]
    exact oy_val (xload rfl (Eq.trans (by kernel_rfl) e) r) ⟨rfl, fun g h1 h2 => ⟨h1, h2⟩, HS.out⟩
  . have e : vs 3 = .pointer mp := hH.1
    exact oy_val (ex_funcs rfl) ⟨Eq.trans (b := .func (.func 59) #[vs 3] #[]) (by kernel_rfl) (by rw [e]), fun g h1 h2 => ⟨h1, h2⟩, HS.out⟩
  . exact oy_val (xmove rfl (by kernel_rfl)) ⟨rfl, fun g h1 h2 => ⟨h1, h2⟩, HS.out⟩
  . have e1 : vs 1 = (.func (.func 55) #[] #[.pointer (some ⟨w.heap.size + 1, 0, none⟩)]) := hH.1
    have e4 : vs 4 = (.func (.func 59) #[.pointer mp] #[]) := hH.2.1
    have e5 : vs 5 = (.func (.func 56) #[] #[.pointer (some ⟨w.heap.size + 1 + 1 + 1, 0, none⟩), .pointer (some ⟨w.heap.size, 0, none⟩)]) := hH.2.2.1
    have r : (Instr.build 113 #[(0, (.func (.func 55) #[] #[.pointer (some ⟨w.heap.size + 1, 0, none⟩)])), (1, (.func (.func 59) #[.pointer mp] #[])), (2, (.func (.func 56) #[] #[.pointer (some ⟨w.heap.size + 1 + 1 + 1, 0, none⟩), .pointer (some ⟨w.heap.size, 0, none⟩)]))]).run Tryz.prog w1 = .ok (.agg #[(.func (.func 55) #[] #[.pointer (some ⟨w.heap.size + 1, 0, none⟩)]), (.func (.func 59) #[.pointer mp] #[]), (.func (.func 56) #[] #[.pointer (some ⟨w.heap.size + 1 + 1 + 1, 0, none⟩), .pointer (some ⟨w.heap.size, 0, none⟩)])]) w1 := by simp [go_sem]
    rw [<- e1, <- e4, <- e5] at r
    exact oy_val (xbld rfl (by kernel_rfl) r) ⟨⟨vs 1, vs 4, vs 5, rfl⟩, fun g h1 h2 => ⟨h1, h2⟩, HS.out⟩
  . exact oy_val (xmove rfl (by kernel_rfl)) ⟨rfl, fun g h1 h2 => ⟨h1, h2⟩, HS.out⟩
  . have e7 : (#[vs 6, vs 7] : Array Value) = #[vs 6, .slice none 0 0] := by rw [show vs 7 = .slice none 0 0 from hH.2.1]
    exact xcall (fs := #[]) (args := #[vs 6, .slice none 0 0]) rfl rfl rfl (Eq.trans (by kernel_rfl) e7) (enters_of Tryz.func60 (by kernel_rfl) rfl) (HRU.out (vs 6) w1 hH.1 HS.out)
  . have e8 : (#[vs 0, vs 8] : Array Value) = #[.agg #[.pointer mp, .slice la 0 lc], .slice none 0 0] := by rw [show vs 0 = .agg #[.pointer mp, .slice la 0 lc] from hH.1, show vs 8 = .slice none 0 0 from hH.2.1]
    exact xcall (fs := #[]) (args := #[.agg #[.pointer mp, .slice la 0 lc], .slice none 0 0]) rfl rfl rfl (Eq.trans (by kernel_rfl) e8) (enters_of Tryz.func62 (by kernel_rfl) rfl) (HWO.out w1 HS.out)
  . exact (HAL.out w1 HS.out).elim fun v' h => h.elim fun w2' h => oy_val (ex_alloc rfl h.1) h.2
  . clear HR HR2 HSZ HWH HTB HC2 HD HRU HWO HAL HKP q q0 q1 q3 hn
    have t10 : ∃ g, vs 10 = .pointer (some ⟨g, 0, none⟩) /\ W.heap.size <= g /\ w1.cell? ⟨g, 0, none⟩ = some (.slice none 0 0) /\ w1.frozen? ⟨g, 0, none⟩ = false := hH.1
    have t9 : vs 9 = .agg #[.slice none 0 0] := hH.2.1
    clear hH
    have hq : ∃ g w2', vs 10 = .pointer (some ⟨g, 0, none⟩) /\ (Instr.storeAt 25 (.pointer (some ⟨g, 0, none⟩)) (.agg #[.slice none 0 0])).run Tryz.prog w1 = .ok () w2' /\ (∀ g, w1.cell? ⟨g, 0, none⟩ = some (.slice none 0 0) -> w1.frozen? ⟨g, 0, none⟩ = false -> w2'.cell? ⟨g, 0, none⟩ = some (.slice none 0 0) /\ w2'.frozen? ⟨g, 0, none⟩ = false) /\ Below W.heap.size W w2' := by
     obtain ⟨g, g1, g2, g3, g4⟩ := t10
     obtain ⟨w2', r1, r2⟩ := HSO.out w1 g HS.out g2 g3 g4
     exact ⟨g, w2', g1, r1, r2⟩
    clear HSO t10
    exact oy_st (u := .agg #[.slice none 0 0]) hq rfl (fun g w' h => Eq.trans (b := vs 10) (by kernel_rfl) h.1) (Eq.trans (b := vs 9) (by kernel_rfl) t9) (fun g w' h => h.2.1) (fun g w' h => ⟨trivial, h.2.2.1, h.2.2.2⟩)
 case rest =>
  obtain ⟨g, hg, HX⟩ := hcut
  subst hg
  have HFI : Hid (∀ w', Hid (Below W.heap.size W w') -> w'.cell? ⟨g, 0, none⟩ = some (.slice none 0 0) -> Calls Tryz.prog 63 #[.agg #[.slice none 0 0]] w' fun e w2 => e = .returned (.bool true) /\ w2.cell? ⟨g, 0, none⟩ = some (.slice none 0 0) /\ Hid (Below W.heap.size W w2)) := fun w' hb hc => by
   have hbb : Below w.heap.size w w' := bl_trans HTB.out.2.2.1 hb.out
   refine (fits_nil B none 0 w' (HTB.out.1.below (hbb.mono HTB.out.2.1)) (Nat.le_trans HTB.out.2.1 hbb.size)).mono ?_
   rintro e w2 ⟨rfl, h1⟩
   exact ⟨rfl, (h1.cell (p := ⟨g, 0, none⟩) (World.block_lt_of_cell? _ ⟨g, 0, none⟩ hc)).trans hc, bl_trans hb.out h1⟩
  have hc := HX.out.1
  have HB : Hid (Below W.heap.size W wc) := HX.out.2
  clear HX HR HSZ HD HD1 HD2 HD3 k0d k1d k3d k0 k1 k3 HR2 HWH HSO
  go_wp2_with fail
  refine Calls.mono (HFI.out wc HB hc) ?_
  rintro e w4 ⟨rfl, hc4, HB4⟩
  have hlt : w.heap.size + 1 + 1 < W.heap.size := by have := HTB.out.2.2.2; omega
  have o0 : w4.cell? ⟨w.heap.size + 1 + 1, 0, none⟩ = some (.slice none 0 0) := (HB4.out.cell (p := ⟨w.heap.size + 1 + 1, 0, none⟩) hlt).trans HC2.out.1
  have oz : w4.frozen? ⟨w.heap.size + 1 + 1, 0, none⟩ = false := (HB4.out.frozen (p := ⟨w.heap.size + 1 + 1, 0, none⟩) hlt).trans HC2.out.2
  have HF : Hid (Below w.heap.size w w4) := bl_trans HTB.out.2.2.1 HB4.out
  clear hc HB HFI hlt HB4 HC2 HTB HRU HWO HAL HKP
  go_wp2_with fail
  simp [bodyPost, results, Tryz.results31, go_sem, o0]
  exact HF.out.setCell (p := ⟨w.heap.size + 1 + 1, 0, none⟩) (show w.heap.size <= w.heap.size + 1 + 1 by omega) _
end Go.Proofs.YtgijbdhbecnkbaaGreatDoor
