/-
  The machine's Start: the rules of Begin alone, and how that went.
-/
import Derived.Test.YtgijbdhbecnkbaaGreatDoorMFin
namespace Go.Proofs.YtgijbdhbecnkbaaGreatDoor
open Go.ChangeShapes Go.WideShapes Go.ChangeAt Go.RowKit Go.Joins Go.Maps
set_option maxHeartbeats 4000000
set_option linter.unusedVariables false
set_option linter.unusedSimpArgs false
set_option maxRecDepth 100000
theorem start1_c (c : Cx) (O : Own) (w : World) (s : Ms) (j bm : Nat) (hRu : RulesC c) (hM : Mc c O w s j) (cm : w.cell? ⟨bm, 0, none⟩ = some (.pointer (some ⟨c.r, 0, none⟩))) :
 Calls Tryz.prog 28 #[.pointer (some ⟨bm, 0, none⟩)] w (DoNil c O w j (rulesM c.F c.m c.R 0 s)) := by
 have hc0 := hRu O w s j 0 hM
 have hcas : ∀ e w', DoNil c O w j (rulesM c.F c.m c.R 0 s) e w' -> (∃ er, e = .panicked [endP er]) \/ e = .returned (.tuple #[]) := fun e w' h => by
  rcases rules_cases h with ⟨_, er, _, h1, _⟩ | ⟨_, _, _, h1, _⟩
  . exact .inl ⟨er, h1⟩
  . exact .inr h1
 obtain ⟨R, hR⟩ : ∃ R, R = rulesM c.F c.m c.R 0 s := ⟨_, rfl⟩
 rw [<- hR] at hc0 hcas ⊢
 have HC0 := hid hc0
 have HCA := hid hcas
 clear hM hRu hc0 hcas hR
 go_enter Tryz.func28, Tryz.ntmps28
 go_wp2_with fail
 refine Calls.mono HC0.out ?_
 intro e w1 hd
 have HD := hid hd
 rcases HCA.out _ _ hd with ⟨er, rfl⟩ | rfl
 . clear hd cm HC0 HCA
   go_wp2_with fail
   exact ⟨rfl, HD.out⟩
 . clear hd cm HC0 HCA
   go_wp2_with fail
   go_end0
   exact HD.out
theorem until_start (c : Cx) (O : Own) (W : World) (s : Ms) (j bm : Nat) (hRu : RulesC c) (hM : Mc c O W s j)
 (hom : O bm = none) (cm : W.cell? ⟨bm, 0, none⟩ = some (.pointer (some ⟨c.r, 0, none⟩))) :
 Calls Tryz.prog 27 #[.func (.func 28) #[] #[.pointer (some ⟨bm, 0, none⟩)]] W fun e w' => e = .returned (.int .i64 (endOf (rulesM c.F c.m c.R 0 s)).1) /\ UnO c O W (rulesM c.F c.m c.R 0 s) w' := by
 obtain ⟨R, hR⟩ : ∃ R, R = rulesM c.F c.m c.R 0 s := ⟨_, rfl⟩
 have hal : Below W.heap.size W (W.alloc (.cells #[.int .i64 0] 3)) := (Below.refl _ _).alloc (Nat.le_refl _) _
 have hM2 := hM.below hal
 have hB : c.B <= W.heap.size := hM.lo.size
 have hbx : W.heap.size < (W.alloc (.cells #[.int .i64 0] 3)).heap.size := by simp
 have hfc := start1_c c O (W.alloc (.cells #[.int .i64 0] 3)) s j bm hRu hM2 ((hal.cell (p := ⟨bm, 0, none⟩) (World.block_lt_of_cell? W ⟨bm, 0, none⟩ cm)).trans cm)
 rw [<- hR] at hfc ⊢
 refine (until_c 28 _ W (fun er w1 => er = (endOf R).1 /\ Bts O (W.alloc (.cells #[.int .i64 0] 3)) w1 /\ ∃ O', Gr (W.alloc (.cells #[.int .i64 0] 3)) O O' /\ Ou c O' w1 (endOf R).2.1 (endOf R).2.2) (enters_of Tryz.func28 (by kernel_rfl) rfl) (hfc.mono fun e w1 hd => ?_)).mono fun e w' hd => ?_
 . refine ⟨hd.1.block _ hbx (hM.top _ (Nat.le_refl _)), ?_⟩
   obtain ⟨h1, h2⟩ := hd
   cases R with
   | go s1 b =>
    obtain ⟨rfl, O', h3, h4⟩ := h2
    exact .inl ⟨rfl, rfl, h1, O', h3, h4.ou⟩
   | stop s1 er =>
    obtain ⟨rfl, O', h3, h4⟩ := h2
    exact .inr ⟨er, rfl, rfl, h1, O', h3, h4⟩
 . obtain ⟨er, w1, rfl, rfl, rfl, h1, O', h2, h3⟩ := hd
   have hO : O' W.heap.size = none := h2 _ hbx (hM.top _ (Nat.le_refl _))
   refine ⟨rfl, ⟨h1.os.trans hal.os, h1.tape.trans hal.tape, h1.output.trans hal.output, ?_, fun k hk h0 => ?_⟩, O', fun b hb h0 => h2 b (Nat.lt_trans hb hbx) h0, h3.free hO⟩
   . have := h1.size
     simp [World.setCell] at this ⊢
     omega
   . exact (setBlock_ne (by omega)).trans ((h1.block k (Nat.lt_trans hk hbx) h0).trans (hal.block k hk))
theorem start_c (c : Cx) (O : Own) (w : World) (s : Ms) (j : Nat) (hRu : RulesC c) (hM : Mc c O w s j) :
 Calls Tryz.prog 15 #[.pointer (some ⟨c.r, 0, none⟩)] w (FinOut c O w (rulesM c.F c.m c.R 0 s)) := by
 obtain ⟨W, hW⟩ : ∃ W, W = (w.alloc (.cells #[.pointer (some ⟨c.r, 0, none⟩)] 49)).alloc (.cells #[.slice none 0 0, .int .i64 0, .int .i64 0] 52) := ⟨_, rfl⟩
 have HA : Hid (Below w.heap.size w W) := by rw [hW]; exact ((Below.refl _ _).alloc (Nat.le_refl _) _).alloc (by simp) _
 have hbl : w.heap.size + 1 < W.heap.size := by rw [hW]; simp
 have hcm : W.cell? ⟨w.heap.size, 0, none⟩ = some (.pointer (some ⟨c.r, 0, none⟩)) := by rw [hW]; simp [go_sem]
 have hbd : Below W.heap.size W W.drew := below_drew W
 have hMW := (hM.below HA.out).below hbd
 have hne1 : ¬ w.heap.size = c.r := by have := hM.lt; omega
 have hne2 : ¬ c.r = w.heap.size := by have := hM.lt; omega
 have hom : O w.heap.size = none := hM.top _ (Nat.le_refl _)
 obtain ⟨R, hR⟩ : ∃ R, R = rulesM c.F c.m c.R 0 s := ⟨_, rfl⟩
 have hun := until_start c O W.drew s j w.heap.size hRu hMW hom hcm
 rw [<- hR] at hun ⊢
 have hmf : ∀ (fn : Fn) (first cap : Array Value) (w : World), (Instr.makeFunc fn first cap).run Tryz.prog w = .ok (.func fn first cap) w := fun _ _ _ _ => rfl
 obtain ⟨E, hE⟩ : ∃ E, E = (endOf R).1 := ⟨_, rfl⟩
 rw [<- hE] at hun
 have HLT : Hid (c.r < w.heap.size) := hM.lt
 have HLT2 : Hid (O c.r = some .mach) := hM.own
 have HLO : Hid (w.heap.size + 1 < W.drew.heap.size /\ O (w.heap.size + 1) = none) := ⟨hbl, hM.top _ (by omega)⟩
 have HOM : Hid (O w.heap.size = none /\ w.heap.size < W.heap.size) := ⟨hom, by omega⟩
 have HUN : Hid (Calls Tryz.prog 27 #[.func (.func 28) #[] #[.pointer (some ⟨w.heap.size, 0, none⟩)]] W.drew fun e w1 => e = .returned (.int .i64 E) /\ w1.cell? ⟨w.heap.size, 0, none⟩ = some (.pointer (some ⟨c.r, 0, none⟩)) /\ w1.cell? ⟨c.r, 9, none⟩ = some (.int .i64 0) /\ w1.frozen? ⟨c.r, 9, none⟩ = false /\ Hid (UnO c O W.drew R w1)) := by
  refine hun.mono fun e w1 hd => ?_
  obtain ⟨rfl, hb1, O1, hg1, hou⟩ := hd
  have hou2 := hou
  obtain ⟨ho1, -, -, bv, bl, fl, ol, recs, whole, hcs, -⟩ := hou2
  exact ⟨rfl, (hb1.cell (b := w.heap.size) HOM.out.2 HOM.out.1 0).trans hcm, hcs.c9, hcs.thaw 9, hb1, O1, hg1, hou⟩
 have HWW : Hid (W = _) := hW
 have HCM : Hid (W.cell? ⟨w.heap.size, 0, none⟩ = some (.pointer (some ⟨c.r, 0, none⟩))) := hcm
 have hcmd : W.drew.cell? ⟨w.heap.size, 0, none⟩ = some (.pointer (some ⟨c.r, 0, none⟩)) := hcm
 have HEE : Hid (E = (endOf R).1) := hE
 clear hR hun hE hW hM hMW hom hRu hbl hbd
 go_enter Tryz.func15, Tryz.ntmps15
 go_wp2_with fail
 rw [<- HWW.out]
 go_region_held2 (fun w' => w'.cell? ⟨w.heap.size, 0, none⟩ = some (.pointer (some ⟨c.r, 0, none⟩))) (go_keep) (first
  | (with_reducible refine Calls.mono HUN.out ?_
     rintro e w1 ⟨rfl, cm1, c9, f9, HU⟩))
 obtain ⟨hb1, O1, hg1, hou⟩ := HU.out
 obtain ⟨ho1, hlo1, hle, bv, bl, fl, ol, recs, whole, hcs, hrow, h2000, h200s⟩ := hou
 obtain ⟨oa, olen, ocap, rfl⟩ := row_shape hrow.1
 obtain ⟨U, hU⟩ : ∃ U : Int, U = (c.fuel : Int) - ((endOf R).2.2 : Int) := ⟨_, rfl⟩
 rw [<- hU] at hcs
 obtain ⟨b, hb⟩ : ∃ b, b = w.heap.size + 1 := ⟨_, rfl⟩
 obtain ⟨W2, hW2⟩ : ∃ W2, W2 = w1.setCell ⟨c.r, 9, none⟩ (.int .i64 E) := ⟨_, rfl⟩
 have hrl : c.r < w.heap.size := HLT.out
 have d0 : W2.cell? ⟨w.heap.size, 0, none⟩ = some (.pointer (some ⟨c.r, 0, none⟩)) := by rw [hW2]; assumption
 have d8 : W2.cell? ⟨c.r, 8, none⟩ = some (.slice oa olen ocap) := by rw [hW2]; exact (setCell_ne (by decide)).trans hcs.c8
 have d9 : W2.cell? ⟨c.r, 9, none⟩ = some (.int .i64 E) := by rw [hW2]; simp [go_sem, c9]
 have d10 : W2.cell? ⟨c.r, 10, none⟩ = some (.int .i64 U) := by rw [hW2]; exact (setCell_ne (by decide)).trans hcs.c10
 have hOb : O b = none := by rw [hb]; exact HLO.out.2
 have hbW : b < W.drew.heap.size := by rw [hb]; exact HLO.out.1
 have hkeep : W2.heap[b]? = W.heap[b]? := by rw [hW2]; exact (setBlock_ne (by omega)).trans (hb1.block b hbW hOb)
 have e0 : W2.cell? ⟨b, 0, none⟩ = some (.slice none 0 0) := (World.cell?_of_block (a := ⟨b, 0, none⟩) hkeep).trans (by rw [HWW.out, hb]; simp [go_sem])
 have e1 : W2.cell? ⟨b, 1, none⟩ = some (.int .i64 0) := (World.cell?_of_block (a := ⟨b, 1, none⟩) hkeep).trans (by rw [HWW.out, hb]; simp [go_sem])
 have e2 : W2.cell? ⟨b, 2, none⟩ = some (.int .i64 0) := (World.cell?_of_block (a := ⟨b, 2, none⟩) hkeep).trans (by rw [HWW.out, hb]; simp [go_sem])
 have gz : ∀ o, W2.frozen? ⟨b, o, none⟩ = false := fun o => (World.frozen?_of_block (a := ⟨b, o, none⟩) hkeep).trans (by rw [HWW.out, hb]; simp [go_sem])
 have g0 := gz 0
 have g1 := gz 1
 have g2 := gz 2
 have HB2 : Hid (Bts O w W2) := by
  rw [hW2]
  exact (((Bts.of_below (O := O) (HA.out.trans (below_drew W |>.mono HA.out.size))).trans hb1 (Gr.refl _ _))).set HLT2.out 9 _
 have HEND : Hid (∃ O', Gr w O O' /\ RowIs O' .outs W2 (.slice oa olen ocap) (endOf R).2.1 /\ (∀ b, b < c.B -> O' b = none) /\ (endOf R).2.1.length <= 2000 /\ (∀ x ∈ (endOf R).2.1, x.size <= 200) /\ O' b = none) := by
  refine ⟨O1, fun k hk h0 => hg1 k (Nat.lt_of_lt_of_le hk (Nat.le_of_lt (by rw [hb] at hbW; omega))) h0, ?_, hlo1, h2000, h200s, hg1 b hbW hOb⟩
  rw [hW2]
  exact hrow.stays fun k e l => ⟨e, setBlock_ne (own_ne ho1 e (by simp))⟩
 have HUE : Hid (U = _) := hU
 have hnb : ¬ b = w.heap.size := by omega
 have HBB : Hid (b = w.heap.size + 1) := hb
 have HBS : Hid (w.heap.size <= b) := by unfold Hid; omega
 rw [<- hW2, show w.heap.size + 1 = b from hb.symm]
 clear hW2 hb1 hg1 hle hcs hrow h2000 h200s hU hkeep hOb hbW gz HU cm1 c9 f9 hcmd hcm HUN HCM HWW HA HOM hb ho1 hlo1 HLO HLT HLT2
 go_wp2_with fail
 simp [bodyPost, results, Tryz.results15, go_sem, e0, e1, e2]
 obtain ⟨O', f1, f2, f3, f4, f5, f6⟩ := HEND.out
 refine ⟨_, by rw [<- HUE.out, <- HEE.out], ((HB2.out.over HBS.out _ _).over HBS.out _ _).over HBS.out _ _, O', f1, ?_, f3, f4, f5⟩
 exact f2.stays fun k e l => ⟨e, by
  have hk : k ≠ b := fun e2 => by rw [e2, f6] at e; cases e
  exact (setBlock_ne hk).trans ((setBlock_ne hk).trans (setBlock_ne hk))⟩
end Go.Proofs.YtgijbdhbecnkbaaGreatDoor
