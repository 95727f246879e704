/-
  settle on a program without rules.
-/
import Derived.Test.YtgijbdhbecnkbaaGreatDoorMadeNil
namespace Go.Proofs.YtgijbdhbecnkbaaGreatDoor
open Go.ChangeShapes Go.WideShapes Go.ChangeAt Go.RowKit Go.Joins Go.Maps
set_option maxHeartbeats 400000
set_option linter.unusedVariables false
set_option linter.unusedSimpArgs false
set_option maxRecDepth 100000
theorem nm_g1 (a b : Value) (w : World) : (Instr.field 81 (.agg #[a, b]) 1).run Tryz.prog w = .ok b w := by kernel_rfl
theorem len_nil (b : Nat) (w : World) (h : w.heap[b]? = some (.map #[] 0)) : (Builtin.len_ #[66] 3 #[.map (some b)]).run Tryz.prog w = .ok (.int .i64 0) w := by
 simp [Builtin.len_, go_sem, getObj, Sem.run, Result.andThen, h]
theorem settle_nil (B : Nat) (mp : Option Addr) (la : Option Addr) (lc : Nat) (a : Option Addr) (cap : Nat) (w : World) (hT : Tb B w) (hB : B <= w.heap.size) : Calls Tryz.prog 16 #[.agg #[.pointer mp, .slice la 0 lc], .slice a 0 cap] w fun e w' => e = .returned (.tuple #[.agg #[.slice none 0 0], .int .i64 0]) /\ Below w.heap.size w w' := by
 have hf1 := nm_g1
 obtain ⟨W, hW⟩ : ∃ W, W = (w.alloc (.cells #[.pointer mp, .slice la 0 lc] 55)).alloc (.cells #[.slice none 0 0] 25) := ⟨_, rfl⟩
 have HWW : Hid (W = _) := hW
 have hB1 : Below w.heap.size w W := by rw [hW]; exact ((Below.refl _ _).alloc (Nat.le_refl _) _).alloc (by simp) _
 have hs : W.heap.size = w.heap.size + 2 := by rw [hW]; simp
 have c0 : W.cell? ⟨w.heap.size, 0, none⟩ = some (.pointer mp) := by rw [hW]; simp [go_sem]
 have c1 : W.cell? ⟨w.heap.size, 1, none⟩ = some (.slice la 0 lc) := by rw [hW]; simp [go_sem]
 have hob : W.heap[w.heap.size + 1]? = some (.cells #[.slice none 0 0] 25 (0, 0)) := by
  have s1 : (w.alloc (.cells #[.pointer mp, .slice la 0 lc] 55)).heap.size = w.heap.size + 1 := by simp
  rw [hW, <- s1]
  show (Array.push (w.alloc (.cells #[.pointer mp, .slice la 0 lc] 55)).heap _)[_]? = _
  rw [Array.getElem?_push_size]
 have HH := hid (And.intro hB1 (And.intro hs (And.intro c0 (And.intro c1 (And.intro hob (And.intro hT hB))))))
 have HN := hid (names_nil a cap W)
 clear hW hB1 hs c0 c1 hob hT hB
 go_enter Tryz.func16, Tryz.ntmps16
 go_wp2_with fail
 rw [<- HWW.out]
 clear HWW
 refine Calls.mono HN.out ?_
 rintro e w1 ⟨b1, b2, rfl, hb, -, -, -, hE⟩
 have HB : Hid (Below W.heap.size W w1) := hb
 have HE : Hid (EmB w1 b2) := hE
 have hsz : w.heap.size + 1 < W.heap.size := by have := HH.out.2.1; omega
 have k0 : w1.cell? ⟨w.heap.size, 0, none⟩ = some (.pointer mp) := (hb.cell (p := ⟨w.heap.size, 0, none⟩) (Nat.lt_of_succ_lt hsz)).trans HH.out.2.2.1
 have k1 : w1.cell? ⟨w.heap.size, 1, none⟩ = some (.slice la 0 lc) := (hb.cell (p := ⟨w.heap.size, 1, none⟩) (Nat.lt_of_succ_lt hsz)).trans HH.out.2.2.2.1
 have hbw : Below w.heap.size w w1 := bl_trans HH.out.1 hb
 have HM := hid (made_nil B mp la lc a cap (.map (some b2)) ⟨_, rfl⟩ w1 (HH.out.2.2.2.2.2.1.below (hbw.mono HH.out.2.2.2.2.2.2)) (Nat.le_trans HH.out.2.2.2.2.2.2 hbw.size))
 clear HN hb hE hsz hbw
 go_wp2_with fail
 refine Calls.mono HM.out ?_
 rintro e w2 ⟨rfl, hb⟩
 have HB2 : Hid (Below W.heap.size W w2) := bl_trans HB.out hb
 have HE2 : Hid (EmB w2 b2) := HE.out.below hb
 have ob : w2.heap[w.heap.size + 1]? = some (.cells #[.slice none 0 0] 25 (0, 0)) := (HB2.out.block _ (by have := HH.out.2.1; omega)).trans HH.out.2.2.2.2.1
 have o0 : w2.cell? ⟨w.heap.size + 1, 0, none⟩ = some (.slice none 0 0) := by simp [World.cell?, ob]
 have oz : w2.frozen? ⟨w.heap.size + 1, 0, none⟩ = false := Lib.frozen_of_heap ob 0
 obtain ⟨V, hV⟩ : ∃ V, V = w2.alloc (.cells #[.slice none 0 0] 25) := ⟨_, rfl⟩
 have HV : Hid (V = _) := hV
 have hb3 : Below w2.heap.size w2 V := by rw [hV]; exact (Below.refl _ _).alloc (Nat.le_refl _) _
 have ov : V.cell? ⟨w2.heap.size, 0, none⟩ = some (.slice none 0 0) := by rw [hV]; exact (RowAt.new w2 _ _).cell 0
 have hvs : w2.heap.size < V.heap.size := by rw [hV]; simp
 have HN := hid (names_nil none 0 V)
 have HQ : Hid (∀ w4, Below V.heap.size V w4 -> w4.heap[b2]? = some (.map #[] 0) /\ w4.cell? ⟨w2.heap.size, 0, none⟩ = some (.slice none 0 0) /\ w4.cell? ⟨w.heap.size + 1, 0, none⟩ = some (.slice none 0 0) /\ w4.frozen? ⟨w.heap.size + 1, 0, none⟩ = false /\ Hid (Below w.heap.size w w4)) := fun w4 h => by
  have h24 : Below w2.heap.size w2 w4 := bl_trans hb3 h
  have hl : w.heap.size + 1 < w2.heap.size := by have := HH.out.2.1; have := HB2.out.size; omega
  exact ⟨HE2.out.below h24, (h.cell (p := ⟨w2.heap.size, 0, none⟩) hvs).trans ov, (h24.cell (p := ⟨w.heap.size + 1, 0, none⟩) hl).trans o0, (h24.frozen (p := ⟨w.heap.size + 1, 0, none⟩) hl).trans oz, bl_trans (bl_trans HH.out.1 HB2.out) h24⟩
 clear HM hb HB HE k0 k1 ob o0 oz hV hb3 hvs HB2 HE2 HH
 go_wp2_with fail
 rw [<- HV.out]
 go_loopw [6] (fun v6 wr => v6 = .map (some b2) /\ wr = V) (fun _ _ => 0)
 case atStart => exact ⟨rfl, rfl⟩
 case round =>
  obtain ⟨rfl, hwr⟩ := hrel
  rw [hwr]
  clear hwr HV
  go_wp2_with fail
  refine Calls.mono HN.out ?_
  rintro e w4 ⟨b3, b4, rfl, hb4, -, -, -, hE4⟩
  have hm4 : w4.heap[b4]? = some (.map #[] 0) := hE4
  obtain ⟨hm2, ho, o0, oz, HF⟩ := HQ.out w4 hb4
  have l4 := len_nil b4 w4 hm4
  have l2 := len_nil b2 w4 hm2
  clear HN HQ hb4 hE4 ov hm4 hm2
  go_wp2_with fail
  simp [bodyPost, results, Tryz.results16, go_sem, o0]
  exact HF.out.setCell (p := ⟨w.heap.size + 1, 0, none⟩) (show w.heap.size <= w.heap.size + 1 by omega) _
end Go.Proofs.YtgijbdhbecnkbaaGreatDoor
