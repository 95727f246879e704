/-
  spec's functions on a program without rules.
-/
import Derived.Test.YtgijbdhbecnkbaaGreatDoorMStart
import Derived.Test.YtgijbdhbecnkbaaGreatDoorIter
import Derived.Laws.EntriesVeiled
import Derived.Shelf.Abstract
namespace Go.Proofs.YtgijbdhbecnkbaaGreatDoor
open Go.ChangeShapes Go.WideShapes Go.ChangeAt Go.RowKit Go.Joins Go.Maps
set_option maxHeartbeats 4000000
set_option linter.unusedVariables false
set_option linter.unusedSimpArgs false
set_option maxRecDepth 100000
def EmB (w : World) (b : Nat) : Prop := w.heap[b]? = some (.map #[] 0)
theorem EmB.new (w : World) : EmB (w.alloc (.map #[] 0)) w.heap.size := by
 unfold EmB
 show (w.heap.push _)[_]? = _
 exact Array.getElem?_push_size
theorem EmB.lt {w : World} {b : Nat} (h : EmB w b) : b < w.heap.size := (Array.getElem?_eq_some_iff.1 h).1
theorem EmB.below {w w' : World} {b : Nat} (h : EmB w b) (hb : Below w.heap.size w w') : EmB w' b := (hb.block b h.lt).trans h
theorem EmB.alloc {w : World} {b : Nat} (h : EmB w b) (o : Obj) : EmB (w.alloc o) b := h.below ((Below.refl _ _).alloc (Nat.le_refl _) o)
theorem EmB.set {w : World} {b c o : Nat} (h : EmB w b) (v : Value) (hne : b ≠ c) : EmB (w.setCell ⟨c, o, none⟩ v) b := (setBlock_ne hne).trans h
theorem names_nil (a : Option Addr) (cap : Nat) (w : World) : Calls Tryz.prog 30 #[.slice a 0 cap] w fun e w' => ∃ b1 b2, e = .returned (.agg #[.map (some b1), .map (some b2)]) /\ Below w.heap.size w w' /\ w.heap.size <= b1 /\ w.heap.size <= b2 /\ EmB w' b1 /\ EmB w' b2 := by
 have hmm := @run_makeMap Tryz.prog
 obtain ⟨W, hW⟩ : ∃ W, W = (((w.alloc (.cells #[.map none, .map none] 81)).alloc (.map #[] 0)).alloc (.map #[] 0)).alloc (.cells #[.map (some (w.heap.size + 1)), .map (some (w.heap.size + 2))] 81) := ⟨_, rfl⟩
 have HWW : Hid (W = _) := hW
 have HB : Hid (Below w.heap.size w W) := by rw [hW]; exact ((((Below.refl _ _).alloc (Nat.le_refl _) _).alloc (by simp) _).alloc (by simp; omega) _).alloc (by simp; omega) _
 clear hW
 go_enter Tryz.func30, Tryz.ntmps30
 go_wp2_with fail
 rw [<- HWW.out]
 go_loopw [11] (fun v11 wr => v11 = .int .i64 0 /\ wr = W) (fun _ _ => 0)
 case atStart => exact ⟨rfl, rfl⟩
 case round =>
  obtain ⟨rfl, hwr⟩ := hrel
  rw [hwr]
  clear hwr
  have c0 : W.cell? ⟨w.heap.size, 0, none⟩ = some (.map none) := by rw [HWW.out]; simp [go_sem]
  have c1 : W.cell? ⟨w.heap.size, 1, none⟩ = some (.map none) := by rw [HWW.out]; simp [go_sem]
  have z0 : W.frozen? ⟨w.heap.size, 0, none⟩ = false := by rw [HWW.out]; simp [go_sem]
  have z1 : W.frozen? ⟨w.heap.size, 1, none⟩ = false := by rw [HWW.out]; simp [go_sem]
  have d0 : W.cell? ⟨w.heap.size + 3, 0, none⟩ = some (.map (some (w.heap.size + 1))) := by rw [HWW.out]; simp [go_sem]
  have d1 : W.cell? ⟨w.heap.size + 3, 1, none⟩ = some (.map (some (w.heap.size + 2))) := by rw [HWW.out]; simp [go_sem]
  have s1 : (w.alloc (.cells #[.map none, .map none] 81)).heap.size = w.heap.size + 1 := by simp
  have s2 : ((w.alloc (.cells #[.map none, .map none] 81)).alloc (.map #[] 0)).heap.size = w.heap.size + 2 := by simp
  have e1 : EmB W (w.heap.size + 1) := by rw [HWW.out, <- s1]; exact ((EmB.new _).alloc _).alloc _
  have e2 : EmB W (w.heap.size + 2) := by rw [HWW.out, <- s2]; exact (EmB.new _).alloc _
  have HE := hid (And.intro e1 e2)
  clear e1 e2 HWW hmm s1 s2
  go_wp2_with fail
  simp [bodyPost, results, Tryz.results30, go_sem, c0, c1]
  refine ⟨w.heap.size + 1, w.heap.size + 2, ⟨rfl, rfl⟩, (HB.out.setCell (p := ⟨w.heap.size, 0, none⟩) (Nat.le_refl _) _).setCell (p := ⟨w.heap.size, 1, none⟩) (Nat.le_refl _) _, by omega, by omega, (HE.out.1.set _ (by omega)).set _ (by omega), (HE.out.2.set _ (by omega)).set _ (by omega)⟩
theorem EmB.owns {w : World} {b : Nat} (h : EmB w b) : w.ownsMap Tryz.prog 9 anyV b 0 (.map []) := by
 obtain ⟨es, clock, hb, hF, hs, hD⟩ := World.ownsMap_made (H := Value) w Tryz.prog 9 anyV
 have e : (w.alloc (.map #[] 0)).heap[w.heap.size]? = some (.map #[] 0) := EmB.new w
 rw [e] at hb
 cases hb
 exact ⟨#[], 0, h, hF, hs, hD⟩
theorem rules_nil (f : Value) (a : Option Addr) (cap : Nat) (w : World) (hf : ∃ x y z, f = .agg #[x, y, z]) : Calls Tryz.prog 60 #[f, .slice a 0 cap] w fun e w' => e = .returned (.slice none 0 0) /\ Below w.heap.size w w' := by
 obtain ⟨x, y, z, rfl⟩ := hf
 obtain ⟨W, hW⟩ : ∃ W, W = w.alloc (.cells #[x, y, z] 113) := ⟨_, rfl⟩
 have HWW : Hid (W = _) := hW
 have HB : Hid (Below w.heap.size w W) := by rw [hW]; exact (Below.refl _ _).alloc (Nat.le_refl _) _
 clear hW
 go_enter Tryz.func60, Tryz.ntmps60
 go_wp2_with fail
 rw [<- HWW.out]
 go_loopw [5, 10] (fun v5 v10 wr => v5 = .slice none 0 0 /\ v10 = .int .i64 0 /\ wr = W) (fun _ _ _ => 0)
 case atStart => exact ⟨rfl, rfl, rfl⟩
 case round =>
  obtain ⟨rfl, rfl, hwr⟩ := hrel
  rw [hwr]
  clear hwr HWW
  go_wp2_with fail
  go_ret
  exact ⟨rfl, HB.out⟩
theorem size_nil (fn : Fn) (fs cs : Array Value) (a : Option Addr) (cap : Nat) (w : World) : Calls Tryz.prog 61 #[.slice a 0 cap, .func fn fs cs] w fun e w' => e = .returned (.int .i64 0) /\ Below w.heap.size w w' := by
 obtain ⟨W, hW⟩ : ∃ W, W = w.alloc (.cells #[.func fn fs cs] 154) := ⟨_, rfl⟩
 have HWW : Hid (W = _) := hW
 have HB : Hid (Below w.heap.size w W) := by rw [hW]; exact (Below.refl _ _).alloc (Nat.le_refl _) _
 clear hW
 go_enter Tryz.func61, Tryz.ntmps61
 go_wp2_with fail
 rw [<- HWW.out]
 go_loopw [6, 13] (fun v6 v13 wr => v6 = .int .i64 0 /\ v13 = .int .i64 0 /\ wr = W) (fun _ _ _ => 0)
 case atStart => exact ⟨rfl, rfl, rfl⟩
 case round =>
  obtain ⟨rfl, rfl, hwr⟩ := hrel
  rw [hwr]
  clear hwr HWW
  go_wp2_with fail
  go_ret
  exact ⟨rfl, HB.out⟩
theorem fits_nil (B : Nat) (a : Option Addr) (cap : Nat) (w : World) (hT : Tb B w) (hB : B <= w.heap.size) : Calls Tryz.prog 63 #[.agg #[.slice a 0 cap]] w fun e w' => e = .returned (.bool true) /\ Below w.heap.size w w' := by
 obtain ⟨W, hW⟩ : ∃ W, W = w.alloc (.cells #[.slice a 0 cap] 25) := ⟨_, rfl⟩
 have HWW : Hid (W = _) := hW
 have hb : Below w.heap.size w W := by rw [hW]; exact (Below.refl _ _).alloc (Nat.le_refl _) _
 have HB := hid hb
 have hv : Sl W B 7 (.slice a 0 cap) ([] : List Ru).length (fun i c => ∃ x, ([] : List Ru)[i]? = some x /\ RuA B W 6000 c x) := ⟨a, cap, rfl, Nat.zero_le _, fun h => absurd h (by simp)⟩
 have HC := hid (check_c 6000 B [] (.slice a 0 cap) W hv (hT.below (hb.mono hB)) (Nat.le_trans hB hb.size))
 have e0 : ckP 6000 [] = 0 := rfl
 rw [e0] at HC
 clear hW hb hv e0
 go_enter Tryz.func63, Tryz.ntmps63
 go_wp2_with fail
 rw [<- HWW.out]
 clear HWW
 refine Calls.mono HC.out ?_
 rintro e w1 ⟨rfl, hb1⟩
 have HF : Hid (Below w.heap.size w w1) := bl_trans HB.out hb1
 clear HC hb1
 go_wp2_with fail
 go_ret
 exact ⟨rfl, HF.out⟩
theorem begin_nil (mp : Option Addr) (la : Option Addr) (lc b : Nat) (w : World) (hb : EmB w b) : Calls Tryz.prog 102 #[.agg #[.pointer mp, .slice la 0 lc], .map (some b)] w fun e w' => e = .returned (.slice none 0 0) /\ Below w.heap.size w w' := by
 obtain ⟨W, hW⟩ : ∃ W, W = w.alloc (.cells #[.pointer mp, .slice la 0 lc] 55) := ⟨_, rfl⟩
 have HWW : Hid (W = _) := hW
 have hB : Below w.heap.size w W := by rw [hW]; exact (Below.refl _ _).alloc (Nat.le_refl _) _
 have HB := hid hB
 have hE : EmB W b := hb.below hB
 have HK := hid (callsIn_wide.1 (Tryz.maps_Keys_148 (some b) W))
 have HS := hid (callsIn_wide.1 (Tryz.slices_Sorted_keys_94_148 b _ _ anyV W hE.owns (by decide) (by decide)))
 obtain ⟨W2, hW2⟩ : ∃ W2, W2 = W.alloc (.cells #[.map (some b)] 66) := ⟨_, rfl⟩
 have HW2 : Hid (W2 = _) := hW2
 have HB2 : Hid (Below w.heap.size w W2) := by rw [hW2]; exact hB.alloc hB.size _
 rw [<- hW2] at HK HS
 clear hW hB hW2 hb hE
 go_enter Tryz.func102, Tryz.ntmps102
 go_wp2_with fail
 rw [<- HWW.out]
 go_loopw [5, 13] (fun v5 v13 wr => v5 = .slice none 0 0 /\ v13 = .int .i64 0 /\ wr = W) (fun _ _ _ => 0)
 case atStart => exact ⟨rfl, rfl, rfl⟩
 case round =>
  obtain ⟨rfl, rfl, hwr⟩ := hrel
  rw [hwr]
  clear hwr HWW
  go_wp2_with fail
  refine Calls.mono HK.out ?_
  rintro e w1 ⟨rfl, hw1⟩
  rw [hw1]
  clear hw1 w1 HK
  go_wp2_with fail
  refine Calls.mono HS.out ?_
  rintro e w1 ⟨v, ss, rfl, hp, hr, hn, hb1⟩
  have e0 : ss = [] := List.Perm.eq_nil hp
  have ev : v = .slice none 0 0 := hn.2 e0
  rw [ev]
  have HF : Hid (Below w.heap.size w w1) := bl_trans HB2.out hb1
  clear HS hp hr hn hb1 e0 ev
  go_wp2_with fail
  go_loopw [5, 27] (fun v5 v27 wr => v5 = .slice none 0 0 /\ v27 = .int .i64 0 /\ wr = w1) (fun _ _ _ => 0)
  case atStart => exact ⟨rfl, rfl, rfl⟩
  case round =>
   obtain ⟨rfl, rfl, hwr⟩ := hrel
   rw [hwr]
   clear hwr
   go_wp2_with fail
   go_ret
   exact ⟨rfl, HF.out⟩
theorem nm_f0 (a b : Value) (w : World) : (Instr.field 81 (.agg #[a, b]) 0).run Tryz.prog w = .ok a w := by kernel_rfl
theorem nm_f1 (a b : Value) (w : World) : (Instr.field 81 (.agg #[a, b]) 1).run Tryz.prog w = .ok b w := by kernel_rfl
theorem whole_nil (mp : Option Addr) (la : Option Addr) (lc : Nat) (a : Option Addr) (cap : Nat) (w : World) : Calls Tryz.prog 62 #[.agg #[.pointer mp, .slice la 0 lc], .slice a 0 cap] w fun e w' => e = .returned (.agg #[.slice a 0 cap]) /\ Below w.heap.size w w' := by
 obtain ⟨W, hW⟩ : ∃ W, W = (w.alloc (.cells #[.pointer mp, .slice la 0 lc] 55)).alloc (.cells #[.slice none 0 0] 25) := ⟨_, rfl⟩
 have HWW : Hid (W = _) := hW
 have hB : Below w.heap.size w W := by rw [hW]; exact ((Below.refl _ _).alloc (Nat.le_refl _) _).alloc (by simp) _
 have hs : W.heap.size = w.heap.size + 2 := by rw [hW]; simp
 have c0 : W.cell? ⟨w.heap.size, 0, none⟩ = some (.pointer mp) := by rw [hW]; simp [go_sem]
 have c1 : W.cell? ⟨w.heap.size, 1, none⟩ = some (.slice la 0 lc) := by rw [hW]; simp [go_sem]
 have HOB : Hid (W.heap[w.heap.size + 1]? = some (.cells #[.slice none 0 0] 25 (0, 0))) := by
  have s1 : (w.alloc (.cells #[.pointer mp, .slice la 0 lc] 55)).heap.size = w.heap.size + 1 := by simp
  unfold Hid
  rw [hW, <- s1]
  show (Array.push (w.alloc (.cells #[.pointer mp, .slice la 0 lc] 55)).heap _)[_]? = _
  rw [Array.getElem?_push_size]
 obtain ⟨C, hC⟩ : ∃ C : World -> Prop, C = fun w' => Below W.heap.size W w' := ⟨_, rfl⟩
 have HW2 := hid (And.intro hB hs)
 have HN : Hid (∀ w', Below W.heap.size W w' -> Calls Tryz.prog 30 #[.slice a 0 cap] w' fun e w2 => ∃ b1 b2, e = .returned (.agg #[.map (some b1), .map (some b2)]) /\ Hid (EmB w2 b1) /\ w2.cell? ⟨w.heap.size, 0, none⟩ = some (.pointer mp) /\ w2.cell? ⟨w.heap.size, 1, none⟩ = some (.slice la 0 lc) /\ Hid (Below W.heap.size W w2)) := fun w' hb => by
  refine (names_nil a cap w').mono ?_
  rintro e w2 ⟨b1, b2, rfl, h1, -, -, h4, -⟩
  have hb2 : Below W.heap.size W w2 := bl_trans hb h1
  exact ⟨b1, b2, rfl, h4, (hb2.cell (p := ⟨w.heap.size, 0, none⟩) (by show w.heap.size < _; omega)).trans c0, (hb2.cell (p := ⟨w.heap.size, 1, none⟩) (by show w.heap.size < _; omega)).trans c1, hb2⟩
 have HBG : Hid (∀ b1 w2, Hid (EmB w2 b1) -> Hid (Below W.heap.size W w2) -> Calls Tryz.prog 102 #[.agg #[.pointer mp, .slice la 0 lc], .map (some b1)] w2 fun e w3 => e = .returned (.slice none 0 0) /\ w3.cell? ⟨w.heap.size, 0, none⟩ = some (.pointer mp) /\ w3.cell? ⟨w.heap.size, 1, none⟩ = some (.slice la 0 lc) /\ Hid (Below W.heap.size W w3)) := fun b1 w2 hE hb => by
  refine (begin_nil mp la lc b1 w2 hE.out).mono ?_
  rintro e w3 ⟨rfl, h1⟩
  have hb2 : Below W.heap.size W w3 := bl_trans hb.out h1
  exact ⟨rfl, (hb2.cell (p := ⟨w.heap.size, 0, none⟩) (by show w.heap.size < _; omega)).trans c0, (hb2.cell (p := ⟨w.heap.size, 1, none⟩) (by show w.heap.size < _; omega)).trans c1, hb2⟩
 have HD : Hid (Below W.heap.size W W.drew) := below_drew W
 have cd0 : W.drew.cell? ⟨w.heap.size, 0, none⟩ = some (.pointer mp) := c0
 have cd1 : W.drew.cell? ⟨w.heap.size, 1, none⟩ = some (.slice la 0 lc) := c1
 clear hW hB hs hC
 have hf0 := nm_f0
 go_enter Tryz.func62, Tryz.ntmps62
 go_wp2_with fail
 rw [<- HWW.out]
 clear HWW
 go_region_held3 (fun w' => w'.cell? ⟨w.heap.size, 0, none⟩ = some (.pointer mp) /\ w'.cell? ⟨w.heap.size, 1, none⟩ = some (.slice la 0 lc)) (go_keep) (first
  | (with_reducible refine Calls.mono (HN.out _ HD.out) ?_
     rintro e w2 ⟨b1, b2, rfl, HE2, k0, k1, HB2⟩)
  | (with_reducible refine Calls.mono (HBG.out _ _ HE2 HB2) ?_
     rintro e w3 ⟨rfl, k2, k3, HB3⟩))
 have ob : w3.heap[w.heap.size + 1]? = some (.cells #[.slice none 0 0] 25 (0, 0)) := (HB3.out.block _ (by have := HW2.out.2; omega)).trans HOB.out
 have o0 : w3.cell? ⟨w.heap.size + 1, 0, none⟩ = some (.slice none 0 0) := by simp [World.cell?, ob]
 have oz : w3.frozen? ⟨w.heap.size + 1, 0, none⟩ = false := Lib.frozen_of_heap ob 0
 have HF : Hid (Below w.heap.size w w3) := bl_trans HW2.out.1 HB3.out
 clear ob HB3 HOB HW2 HN HD HBG
 go_wp2_with fail
 simp [bodyPost, results, Tryz.results62, go_sem, o0]
 exact HF.out.setCell (p := ⟨w.heap.size + 1, 0, none⟩) (show w.heap.size <= w.heap.size + 1 by omega) _
end Go.Proofs.YtgijbdhbecnkbaaGreatDoor
