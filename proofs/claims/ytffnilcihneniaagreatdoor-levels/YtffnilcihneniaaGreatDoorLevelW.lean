/-
  Levels: the walk.
-/
import Derived.Test.YtffnilcihneniaaGreatDoorTellsW
import Derived.Test.YtffnilcihneniaaGreatDoorSameE
namespace Go.Proofs.YtffnilcihneniaaGreatDoor.levels
open Go.ChangeShapes Go.WideShapes Go.ChangeAt Go.RowKit Go.Joins
set_option maxHeartbeats 4000000
set_option linter.unusedVariables false
set_option maxRecDepth 100000
theorem read_f {s : ByteArray} {L : List UInt8} {l : List Ru} {w : World} (hs : s = bs L) (hR : readR L = .ok l) (hl : L.length <= 6000) (hK : Kr w) :
 Calls Tryz.prog 11 #[.string s] w fun e w' => ∃ a cap, e = .returned (.tuple #[.agg #[.slice a l.length cap], .int .i64 0]) /\ Below w.heap.size w w' /\
  ∀ W : World, w'.heap.size <= W.heap.size -> (∀ b, w.heap.size <= b -> b < w'.heap.size -> W.heap[b]? = w'.heap[b]?) -> PrgA W (.slice a l.length cap) l := by
 subst hs
 refine (read_c (bs L) w (by rw [bs_size]; unfold maxLen; omega) hK.tr).mono fun e w' hr => ?_
 obtain ⟨hb, hr⟩ := hr
 rw [bs_list, hR] at hr
 obtain ⟨v, he, hv⟩ := hr
 have h6 : ∀ W : World, w'.heap.size <= W.heap.size -> (∀ b, w.heap.size <= b -> b < w'.heap.size -> W.heap[b]? = w'.heap[b]?) -> PrgA W v l := fun W hsz hW => by
  have h5 : SlP (fun b => b < W.heap.size) W 7 v l.length (fun i c => ∃ x, l[i]? = some x /\ RuP (fun b => b < W.heap.size) W 6000 c x) :=
   ((hv.old (by decide) fun i c ⟨x, hx, he⟩ => ⟨x, hx, RuP.stays (fun b hb => Nat.lt_of_lt_of_le hb.2 hsz) (fun b hb _ => hW b hb.1 hb.2) (RuP.old he)⟩).stays (by decide) (fun b hb _ => hW b hb.1 hb.2) fun _ _ h => h).mono (fun b hb => Nat.lt_of_lt_of_le hb.2 hsz) fun _ _ h => h
  exact h5.low fun i c ⟨x, hx, he⟩ => ⟨x, hx, he.low⟩
 have h7 := h6 w' (Nat.le_refl _) (fun _ _ _ => rfl)
 obtain ⟨a, cap, rfl, -⟩ := h7
 exact ⟨a, cap, he, hb, h6⟩
def levS (i : Nat) : ByteArray := bs (levN i)
theorem lev_cell {w : World} {t : TypeId} {i : Nat} (hi : i < 6) : (w.alloc (.cells #[.string ⟨#[124, 124]⟩, .string ⟨#[38, 38]⟩, .string ⟨#[60]⟩, .string ⟨#[46, 46]⟩, .string ⟨#[43]⟩, .string ⟨#[42]⟩] t)).cell? ⟨w.heap.size, i, none⟩ = some (.string (levS i)) := by
 rcases i with _ | _ | _ | _ | _ | _ | i
 . simp [go_sem]; rfl
 . simp [go_sem]; rfl
 . simp [go_sem]; rfl
 . simp [go_sem]; rfl
 . simp [go_sem]; rfl
 . simp [go_sem]; rfl
 . omega
theorem levS_size {i : Nat} (hi : i < 6) : (levS i).size <= 2 := by
 rcases i with _ | _ | _ | _ | _ | _ | i
 . decide
 . decide
 . decide
 . decide
 . decide
 . decide
 . omega
theorem levA_txt (i j : Nat) : ⟨#[120, 32]⟩ ++ levS i ++ ⟨#[32, 121, 32]⟩ ++ levS j ++ ⟨#[32, 122, 32, 123, 32, 125]⟩ = bs (levA i j) := by
 unfold levS levA
 rw [show (⟨#[120, 32]⟩ : ByteArray) = bs [120, 32] from rfl, show (⟨#[32, 121, 32]⟩ : ByteArray) = bs [32, 121, 32] from rfl, show (⟨#[32, 122, 32, 123, 32, 125]⟩ : ByteArray) = bs [32, 122, 32, 123, 32, 125] from rfl, bs_app, bs_app, bs_app, bs_app]
theorem levB_txt1 {i j : Nat} (h : ¬ i < j) : ⟨#[40, 120, 32]⟩ ++ levS i ++ ⟨#[32, 121, 41, 32]⟩ ++ levS j ++ ⟨#[32, 122, 32, 123, 32, 125]⟩ = bs (levB i j) := by
 unfold levS levB
 rw [if_neg h, show (⟨#[40, 120, 32]⟩ : ByteArray) = bs [40, 120, 32] from rfl, show (⟨#[32, 121, 41, 32]⟩ : ByteArray) = bs [32, 121, 41, 32] from rfl, show (⟨#[32, 122, 32, 123, 32, 125]⟩ : ByteArray) = bs [32, 122, 32, 123, 32, 125] from rfl, bs_app, bs_app, bs_app, bs_app]
theorem levB_txt2 {i j : Nat} (h : i < j) : ⟨#[120, 32]⟩ ++ levS i ++ ⟨#[32, 40, 121, 32]⟩ ++ levS j ++ ⟨#[32, 122, 41, 32, 123, 32, 125]⟩ = bs (levB i j) := by
 unfold levS levB
 rw [if_pos h, show (⟨#[120, 32]⟩ : ByteArray) = bs [120, 32] from rfl, show (⟨#[32, 40, 121, 32]⟩ : ByteArray) = bs [32, 40, 121, 32] from rfl, show (⟨#[32, 122, 41, 32, 123, 32, 125]⟩ : ByteArray) = bs [32, 122, 41, 32, 123, 32, 125] from rfl, bs_app, bs_app, bs_app, bs_app]
theorem walk (one : Int) (h1 : (Lit.int .i64 one).wf = true) (two : Int) (h2 : (Lit.int .i64 two).wf = true) (w : World) (hK : Kr w) :
 Calls Tryz.prog 3 #[.int .i64 one, .int .i64 two] w fun e w' => e = .returned (.bool true) /\ Below w.heap.size w w' := by
 have HK : Hid (Kr w) := hK
 have HT := hid (tells_c w hK)
 have HP1 : Hid (∀ w, Calls Tryz.prog 10 #[.int .i64 one, .int .i64 6] w _) := fun w => picked_c one 6 w h1 (by decide) (by decide)
 have HP2 : Hid (∀ w, Calls Tryz.prog 10 #[.int .i64 two, .int .i64 6] w _) := fun w => picked_c two 6 w h2 (by decide) (by decide)
 clear hK h1 h2
 go_enter Tryz.func3, Tryz.ntmps3
 go_wp2_with fail
 refine Calls.mono HT.out ?_
 rintro e w1 ⟨rfl, hb1⟩
 have HB1 : Hid (Below w.heap.size w w1) := hb1
 clear hb1 HT
 go_wp2_with fail
 refine Calls.mono (HP1.out _) ?_
 rintro e w2 ⟨i, hi, rfl, hw2⟩
 rw [hw2]
 clear hw2 w2 HP1
 go_wp2_with fail
 refine Calls.mono (HP2.out _) ?_
 rintro e w2 ⟨j, hj, rfl, hw2⟩
 rw [hw2]
 clear hw2 w2 HP2
 obtain ⟨b0, hb0⟩ : ∃ b, b = w1.heap.size := ⟨_, rfl⟩
 obtain ⟨W, hW⟩ : ∃ W, W = w1.alloc (.cells #[.string ⟨#[124, 124]⟩, .string ⟨#[38, 38]⟩, .string ⟨#[60]⟩, .string ⟨#[46, 46]⟩, .string ⟨#[43]⟩, .string ⟨#[42]⟩] 9) := ⟨_, rfl⟩
 have c1 : W.cell? ⟨b0, i, none⟩ = some (.string (levS i)) := by rw [hW, hb0]; exact lev_cell hi
 have c2 : W.cell? ⟨b0, j, none⟩ = some (.string (levS j)) := by rw [hW, hb0]; exact lev_cell hj
 have HBW : Hid (Below w.heap.size w W /\ b0 < W.heap.size) := by rw [hW, hb0]; exact ⟨HB1.out.alloc HB1.out.size _, by simp⟩
 have HKW : Hid (Kr W) := HK.out.stays HBW.out.1
 rw [<- hW, <- hb0]
 clear hW hb0 HB1 HK
 have HIJ : Hid (i < 6 /\ j < 6) := ⟨hi, hj⟩
 have s1 : (levS i).size <= 2 := levS_size hi
 have s2 : (levS j).size <= 2 := levS_size hj
 have HRA : Hid (∀ w', Below W.heap.size W w' -> Calls Tryz.prog 11 #[.string (⟨#[120, 32]⟩ ++ levS i ++ ⟨#[32, 121, 32]⟩ ++ levS j ++ ⟨#[32, 122, 32, 123, 32, 125]⟩)] w' fun e w6 => ∃ a cap, e = .returned (.tuple #[.agg #[.slice a 1 cap], .int .i64 0]) /\ Below w'.heap.size w' w6 /\ ∀ V : World, w6.heap.size <= V.heap.size -> (∀ b, w'.heap.size <= b -> b < w6.heap.size -> V.heap[b]? = w6.heap[b]?) -> PrgA V (.slice a 1 cap) (levP i j)) := fun w' hb => read_f (levA_txt i j) (lev_readA hi hj) (Nat.le_trans (lev_len hi hj).1 (by decide)) (HKW.out.stays hb)
 have i1 : (0 : Int) <= (i : Int) := by omega
 have i2 : (i : Int) < 6 := by omega
 have j1 : (0 : Int) <= (j : Int) := by omega
 have j2 : (j : Int) < 6 := by omega
 go_wp2_with fail
 go_cut [8, 9] (fun v8 v9 wx => ∃ (bx : Nat) (a : Option Addr) (cap : Nat), v8 = .pointer (some ⟨bx, 0, none⟩) /\ v9 = .int .i64 0 /\ Hid (Below W.heap.size W wx /\ wx.cell? ⟨bx, 0, none⟩ = some (.slice a 1 cap) /\ bx < wx.heap.size /\ PrgA wx (.slice a 1 cap) (levP i j)))
 case first =>
  have l1 : (⟨#[120, 32]⟩ : ByteArray).size = 2 := rfl
  have l2 : (⟨#[32, 121, 32]⟩ : ByteArray).size = 3 := rfl
  have l3 : (⟨#[32, 122, 32, 123, 32, 125]⟩ : ByteArray).size = 6 := rfl
  have m1 := fun w => run_string_add_sum (P := Tryz.prog) w ⟨#[120, 32]⟩ (levS i) (by omega)
  have m2 := fun w => run_string_add_sum (P := Tryz.prog) w (⟨#[120, 32]⟩ ++ levS i) ⟨#[32, 121, 32]⟩ (by rw [ByteArray.size_append]; omega)
  have m3 := fun w => run_string_add_sum (P := Tryz.prog) w (⟨#[120, 32]⟩ ++ levS i ++ ⟨#[32, 121, 32]⟩) (levS j) (by rw [ByteArray.size_append, ByteArray.size_append]; omega)
  have m4 := fun w => run_string_add_sum (P := Tryz.prog) w (⟨#[120, 32]⟩ ++ levS i ++ ⟨#[32, 121, 32]⟩ ++ levS j) ⟨#[32, 122, 32, 123, 32, 125]⟩ (by rw [ByteArray.size_append, ByteArray.size_append, ByteArray.size_append]; omega)
  clear l1 l2 l3
  have hne : ¬ b0 = W.heap.size := by have := HBW.out.2; omega
  have hne' : ¬ W.heap.size = b0 := by have := HBW.out.2; omega
  have d1 : W.drew.cell? ⟨b0, i, none⟩ = some (.string (levS i)) := c1
  have d2 : W.drew.cell? ⟨b0, j, none⟩ = some (.string (levS j)) := c2
  go_region_held3 (fun w' => w'.cell? ⟨b0, i, none⟩ = some (.string (levS i)) /\ w'.cell? ⟨b0, j, none⟩ = some (.string (levS j))) (go_keep) (first
   | (with_reducible refine Calls.mono (HRA.out _ (by go_grown)) ?_
      rintro e w6 ⟨a, cap, rfl, hb6, hp6⟩
      have HB6 : Hid (Below W.heap.size W w6) := bl_trans (by go_grown) hb6
      have HP6 := hid hp6
      have r1 : w6.cell? ⟨b0, i, none⟩ = some (.string (levS i)) := (HB6.out.cell (p := ⟨b0, i, none⟩) HBW.out.2).trans c1
      have r2 : w6.cell? ⟨b0, j, none⟩ = some (.string (levS j)) := (HB6.out.cell (p := ⟨b0, j, none⟩) HBW.out.2).trans c2
      obtain ⟨hc6, hf6⟩ := bcell hb6
      have hn6 : ¬ b0 = w6.heap.size := by have := HBW.out.2; have := HB6.out.size; omega
      have hn6' : ¬ w6.heap.size = b0 := by have := HBW.out.2; have := HB6.out.size; omega
      have HH6 : Hid _ := hb6
      clear hp6))
  all_goals go_wp2_with fail
  all_goals go_meet
  . exact ⟨_, a, cap, rfl, rfl, HB6.out.alloc HB6.out.size _, by simp [go_sem], by simp, HP6.out _ (by simp) fun b _ hb => Below.heap_alloc _ _ _ hb⟩
  . refine ⟨_, a, cap, rfl, rfl, HB6.out.setCell (Nat.le_refl _) _, ?_, ?_, HP6.out _ (by simp) fun b hb _ => Below.heap_setCell _ _ _ _ ?_⟩
    . exact World.cell?_setCell_same _ _ _ (show w6.cell? ⟨W.heap.size, 0, none⟩ = some (.slice none 0 0) from (hc6 W.heap.size 0 (by simp)).trans (by simp [go_sem]))
    . have := hb6.size; simp at this ⊢; omega
    . simp at hb ⊢; omega
 obtain ⟨bx, a, cap, rfl, rfl, HX⟩ := hcut
 have c3 : wc.cell? ⟨b0, i, none⟩ = some (.string (levS i)) := (HX.out.1.cell (p := ⟨b0, i, none⟩) HBW.out.2).trans c1
 have c4 : wc.cell? ⟨b0, j, none⟩ = some (.string (levS j)) := (HX.out.1.cell (p := ⟨b0, j, none⟩) HBW.out.2).trans c2
 clear c1 c2
 have HRB : Hid (∀ (s : ByteArray) (w' : World), s = bs (levB i j) -> Below wc.heap.size wc w' -> Calls Tryz.prog 11 #[.string s] w' fun e w6 => ∃ a cap, e = .returned (.tuple #[.agg #[.slice a 1 cap], .int .i64 0]) /\ Below w'.heap.size w' w6 /\ PrgA w6 (.slice a 1 cap) (levP i j)) := fun s w' hs hb => read_s hs (lev_readB hi hj) (Nat.le_trans (lev_len hi hj).2 (by decide)) ((HKW.out.stays HX.out.1).stays hb)
 have l4 : (⟨#[40, 120, 32]⟩ : ByteArray).size = 3 := rfl
 have l5 : (⟨#[32, 121, 41, 32]⟩ : ByteArray).size = 4 := rfl
 have l6 : (⟨#[32, 122, 32, 123, 32, 125]⟩ : ByteArray).size = 6 := rfl
 have m1 := fun w => run_string_add_sum (P := Tryz.prog) w ⟨#[40, 120, 32]⟩ (levS i) (by omega)
 have m2 := fun w => run_string_add_sum (P := Tryz.prog) w (⟨#[40, 120, 32]⟩ ++ levS i) (⟨#[32, 121, 41, 32]⟩) (by rw [ByteArray.size_append]; omega)
 have m3 := fun w => run_string_add_sum (P := Tryz.prog) w (⟨#[40, 120, 32]⟩ ++ levS i ++ ⟨#[32, 121, 41, 32]⟩) (levS j) (by rw [ByteArray.size_append, ByteArray.size_append]; omega)
 have m4 := fun w => run_string_add_sum (P := Tryz.prog) w (⟨#[40, 120, 32]⟩ ++ levS i ++ ⟨#[32, 121, 41, 32]⟩ ++ levS j) (⟨#[32, 122, 32, 123, 32, 125]⟩) (by rw [ByteArray.size_append, ByteArray.size_append, ByteArray.size_append]; omega)
 clear l4 l5 l6
 go_wp2_with fail
 have d3 : wc.drew.cell? ⟨b0, i, none⟩ = some (.string (levS i)) := c3
 have d4 : wc.drew.cell? ⟨b0, j, none⟩ = some (.string (levS j)) := c4
 go_region_held3 (fun w' => w'.cell? ⟨b0, i, none⟩ = some (.string (levS i)) /\ w'.cell? ⟨b0, j, none⟩ = some (.string (levS j))) (go_keep) (fail)
 clear m1 m2 m3 m4
 by_cases hij : i < j
 . have q1 : (i : Int) < (j : Int) := by omega
   have l4 : (⟨#[120, 32]⟩ : ByteArray).size = 2 := rfl
   have l5 : (⟨#[32, 40, 121, 32]⟩ : ByteArray).size = 4 := rfl
   have l6 : (⟨#[32, 122, 41, 32, 123, 32, 125]⟩ : ByteArray).size = 7 := rfl
   have m1 := fun w => run_string_add_sum (P := Tryz.prog) w ⟨#[120, 32]⟩ (levS i) (by omega)
   have m2 := fun w => run_string_add_sum (P := Tryz.prog) w (⟨#[120, 32]⟩ ++ levS i) (⟨#[32, 40, 121, 32]⟩) (by rw [ByteArray.size_append]; omega)
   have m3 := fun w => run_string_add_sum (P := Tryz.prog) w (⟨#[120, 32]⟩ ++ levS i ++ ⟨#[32, 40, 121, 32]⟩) (levS j) (by rw [ByteArray.size_append, ByteArray.size_append]; omega)
   have m4 := fun w => run_string_add_sum (P := Tryz.prog) w (⟨#[120, 32]⟩ ++ levS i ++ ⟨#[32, 40, 121, 32]⟩ ++ levS j) (⟨#[32, 122, 41, 32, 123, 32, 125]⟩) (by rw [ByteArray.size_append, ByteArray.size_append, ByteArray.size_append]; omega)
   clear l4 l5 l6
   go_wp2_with fail
   have d5 : wc.drew.drew.cell? ⟨b0, i, none⟩ = some (.string (levS i)) := c3
   have d6 : wc.drew.drew.cell? ⟨b0, j, none⟩ = some (.string (levS j)) := c4
   go_region_held3 (fun w' => w'.cell? ⟨b0, i, none⟩ = some (.string (levS i)) /\ w'.cell? ⟨b0, j, none⟩ = some (.string (levS j))) (go_keep) (fail)
   clear m1 m2 m3 m4
   go_wp2_with fail
   refine Calls.mono (HRB.out _ _ (levB_txt2 hij) (by go_grown)) ?_
   rintro e w7 ⟨a2, cap2, rfl, hb7, hp7⟩
   have HB7 : Hid (Below wc.heap.size wc w7) := bl_trans (by go_grown) hb7
   have c7 : w7.cell? ⟨bx, 0, none⟩ = some (.slice a 1 cap) := (HB7.out.cell (p := ⟨bx, 0, none⟩) HX.out.2.2.1).trans HX.out.2.1
   have hx7 : bx < w7.heap.size := Nat.lt_of_lt_of_le HX.out.2.2.1 HB7.out.size
   have hn7 : ¬ bx = w7.heap.size := by omega
   have HQ : Hid (∀ V, Below w7.heap.size w7 V -> Calls Tryz.prog 12 #[.agg #[.slice a 1 cap], .agg #[.slice a2 1 cap2]] V (YesC V)) := fun V hV => same_c V (levP i j) _ _ ((HX.out.2.2.2.stays HB7.out).stays hV) (hp7.stays hV)
   have HBF : Hid (Below w.heap.size w w7) := bl_trans (bl_trans HBW.out.1 HX.out.1) HB7.out
   clear hb7 hp7 HX HB7 HRB
   go_wp2_with fail
   refine Calls.mono (HQ.out _ (by go_grown)) ?_
   rintro e w8 ⟨rfl, hb8⟩
   have HB8 : Hid (Below w.heap.size w w8) := bl_trans HBF.out (bl_trans (by go_grown) hb8)
   clear hb8 HQ HBF
   go_wp2_with fail
   go_ret
   exact ⟨rfl, HB8.out⟩
 . have q1 : ¬ (i : Int) < (j : Int) := by omega
   go_wp2_with fail
   refine Calls.mono (HRB.out _ _ (levB_txt1 hij) (by go_grown)) ?_
   rintro e w7 ⟨a2, cap2, rfl, hb7, hp7⟩
   have HB7 : Hid (Below wc.heap.size wc w7) := bl_trans (by go_grown) hb7
   have c7 : w7.cell? ⟨bx, 0, none⟩ = some (.slice a 1 cap) := (HB7.out.cell (p := ⟨bx, 0, none⟩) HX.out.2.2.1).trans HX.out.2.1
   have hx7 : bx < w7.heap.size := Nat.lt_of_lt_of_le HX.out.2.2.1 HB7.out.size
   have hn7 : ¬ bx = w7.heap.size := by omega
   have HQ : Hid (∀ V, Below w7.heap.size w7 V -> Calls Tryz.prog 12 #[.agg #[.slice a 1 cap], .agg #[.slice a2 1 cap2]] V (YesC V)) := fun V hV => same_c V (levP i j) _ _ ((HX.out.2.2.2.stays HB7.out).stays hV) (hp7.stays hV)
   have HBF : Hid (Below w.heap.size w w7) := bl_trans (bl_trans HBW.out.1 HX.out.1) HB7.out
   clear hb7 hp7 HX HB7 HRB
   go_wp2_with fail
   refine Calls.mono (HQ.out _ (by go_grown)) ?_
   rintro e w8 ⟨rfl, hb8⟩
   have HB8 : Hid (Below w.heap.size w w8) := bl_trans HBF.out (bl_trans (by go_grown) hb8)
   clear hb8 HQ HBF
   go_wp2_with fail
   go_ret
   exact ⟨rfl, HB8.out⟩
end Go.Proofs.YtffnilcihneniaaGreatDoor.levels
