/-
  Joined: for every two strings the law returns true: what is put together is as long as both, and both are found there; what was in memory stays. The row lists the tables that the library names, tied to the text of the program; the call reads uint64pow10 and MaxLen alone, MaxLen with whatever int it holds.
-/
import Derived.Test.YtejcmammdmpcoabDoorJoinSpec
import Derived.Test.YtejcmammdmpcoabDoorOpAsk
import Derived.Test.YtejcmammdmpcoabDoorShape
import Derived.Deep.DeepCutAuto
import Derived.Deep.QuietTactic
import Derived.BigQuiet
import Derived.Test.YtejcmammdmpcoabDoorTie
import Derived.Test.YtejcmammdmpcoabDoorCards
import Derived.Lay
import Derived.LaidMore
import Derived.SevenTiedAt
import Derived.Stop.Joined
import Derived.Stop.LaidErr
namespace Go.Proofs.YtejcmammdmpcoabDoor.joined
open Go.ChangeShapes Go.WideShapes Go.ChangeAt Go.RowKit Go.Joins
open Go.ChangeMaps (open_string shut_string)
set_option linter.unusedVariables false

theorem lies_set3 {u : World} {b : Nat} {t : Bool} {n : Int} {s : ByteArray} (hb : b < u.heap.size) (h0 : (u.cell? ⟨b, 0, none⟩).isSome = true) (h1 : (u.cell? ⟨b, 1, none⟩).isSome = true) (h2 : (u.cell? ⟨b, 2, none⟩).isSome = true) :
    Lies (((u.setCell ⟨b, 0, none⟩ (.bool t)).setCell ⟨b, 1, none⟩ (.int .i64 n)).setCell ⟨b, 2, none⟩ (.string s)) b t n s := by
  refine ⟨by simp; omega, ?_, ?_, ?_⟩ <;> simp [go_sem, h0, h1, h2]

set_option maxRecDepth 100000 in
set_option maxHeartbeats 4000000 in
theorem core (s t : ByteArray) (w : World) (hP : Hid (Pow w)) (hM : Hid (Mx w))
    (m : Nat) (hm : min (s.size : Int) 90 = (m : Int)) (m1 : (m : Int) ≤ (s.size : Int)) (S : ByteArray) (hS : s.extract 0 m = S) (zS : S.size ≤ 90)
    (l : Nat) (hl : min (t.size : Int) 90 = (l : Int)) (l1 : (l : Int) ≤ (t.size : Int)) (T : ByteArray) (hT : t.extract 0 l = T) (zT : T.size ≤ 90)
    (C : ByteArray) (zC : C.size ≤ 200) (hCz : Hid (C.size = S.size + T.size)) (HJ : Hid (joinR (strOf true 0 S) (strOf true 0 T) = (true, 0, C, 0)))
    (HR1 : Hid (pieceR C false 1 ⟨#[]⟩ false (S.size : Int) ⟨#[]⟩ = (true, 0, S, 0))) (HR2 : Hid (pieceR C false ((S.size : Int) + 1) ⟨#[]⟩ false 1000 ⟨#[]⟩ = (true, 0, T, 0)))
    (j : Int) (HI : Hid (Lib.index C.data.toList T.data.toList = j)) (j1 : 0 ≤ j) (j2 : j ≤ (S.size : Int)) (HN : Hid ((C.size : Int) = wrap64 ((S.size : Int) + (T.size : Int)))) (HP1 : Hid (1 ≤ j + 1)) (HP2 : Hid (j + 1 ≤ wrap64 ((S.size : Int) + 1))) :
    Calls Tryd.prog 8 #[.string s, .string t] w fun e w' => e = .returned (.bool true) ∧ Below w.heap.size w w' := by
  have m0 : (0 : Int) ≤ (m : Int) := by omega
  have l0 : (0 : Int) ≤ (l : Int) := by omega
  go_enter Tryd.func8, Tryd.ntmps8
  go_wp2_with (go_at_call 15; go_in)
  clear hm hS hl hT
  refine (op_join_c true 0 S true 0 T _ (by omega) (by omega) (by omega) (by omega) (by omega) (by omega) (hP.out.stays (by go_grown))).mono ?_
  rintro e w1 ⟨rfl, hb⟩
  rw [HJ.out]
  simp only [vt]
  have B1 : Hid (Below w.heap.size w w1) := bl_trans (by go_grown) hb
  have L_a : Hid (Lies w1 (w.heap.size + 1) true 0 S) := Lies.below (((Lies.here (by simp) _ _ _ _).over _).over _) hb
  have L_b : Hid (Lies w1 (w.heap.size + 3) true 0 T) := Lies.below (Lies.here (by simp) _ _ _ _) hb
  clear hb
  go_wp2_with fail
  refine (call_length (w1.heap.size + 1) 0 1 true 0 C _ (by omega) (by omega) (by omega) (hP.out.stays ((B1.out.alloc B1.out.size _).alloc (by have := B1.out.size; simp; omega) _)) ⟨by simp, by simp, by simp, by simp⟩ C rfl zC).mono ?_
  rintro e w2 ⟨rfl, hb⟩
  simp only [vt, rN]
  have B2 : Hid (Below w.heap.size w w2) := bl_trans ((B1.out.alloc B1.out.size _).alloc (by have := B1.out.size; simp; omega) _) hb
  have L_a : Hid (Lies w2 (w.heap.size + 1) true 0 S) := ((L_a.out.over _).over _).below hb
  have L_b : Hid (Lies w2 (w.heap.size + 3) true 0 T) := ((L_b.out.over _).over _).below hb
  have L_c : Hid (Lies w2 w1.heap.size true 0 C) := ((Lies.new _ _ _ _ _).over _).below hb
  clear hb
  go_wp2_with fail
  have BW : Hid (Below w.heap.size w (w2.alloc (.cells #[.bool false, .int .i64 (C.size : Int), .string ⟨#[]⟩] 23))) := B2.out.alloc B2.out.size _
  have L_a : Hid (Lies (w2.alloc (.cells #[.bool false, .int .i64 (C.size : Int), .string ⟨#[]⟩] 23)) (w.heap.size + 1) true 0 S) := L_a.out.over _
  have L_b : Hid (Lies (w2.alloc (.cells #[.bool false, .int .i64 (C.size : Int), .string ⟨#[]⟩] 23)) (w.heap.size + 3) true 0 T) := L_b.out.over _
  have L_c : Hid (Lies (w2.alloc (.cells #[.bool false, .int .i64 (C.size : Int), .string ⟨#[]⟩] 23)) w1.heap.size true 0 C) := L_c.out.over _
  have L_n : Hid (Lies (w2.alloc (.cells #[.bool false, .int .i64 (C.size : Int), .string ⟨#[]⟩] 23)) w2.heap.size false (C.size : Int) ⟨#[]⟩) := Lies.new _ _ _ _ _
  clear B1 B2
  generalize w2.alloc (.cells #[.bool false, .int .i64 (C.size : Int), .string ⟨#[]⟩] 23) = W at *
  generalize w1.heap.size = bc at *
  generalize w2.heap.size = bn at *
  obtain ⟨l_a, a0, a1, a2⟩ := L_a.out
  obtain ⟨l_c, c0, c1, c2⟩ := L_c.out
  go_cut [11, 12] (fun v1 v2 wx => ∃ bx : Nat, v1 = .pointer (some ⟨bx, 0, none⟩) ∧ v2 = .int .i64 0 ∧ Hid (Below W.heap.size W wx ∧ Lies wx bx true 0 S))
  case first =>
    go_region_held3 (fun w' => w'.cell? ⟨bc, 0, none⟩ = some (.bool true) ∧ w'.cell? ⟨bc, 1, none⟩ = some (.int .i64 0) ∧ w'.cell? ⟨bc, 2, none⟩ = some (.string C) ∧ w'.cell? ⟨w.heap.size + 1, 2, none⟩ = some (.string S)) (go_keep) (first
      | (go_at_call_of 17 (Value.int IntKind.i64 1); refine (number_c 1 _).mono ?_; rintro e pa3 ⟨rfl, hb3⟩; obtain ⟨hc3, hf3⟩ := bcell hb3; have B3 : Hid (Below W.heap.size W pa3) := bl_trans (by go_grown) hb3; obtain ⟨q_c3, p03, p13, p23⟩ := L_c.out.below B3.out; obtain ⟨q_a3, _, _, r23⟩ := L_a.out.below B3.out; (try (have f1 : W.heap.size < pa3.heap.size := (by have q := hb3.size; (try simp at q); omega))))
      | (go_at_call_of 17 (S.size : Int); refine (number_c (S.size : Int) _).mono ?_; rintro e pa4 ⟨rfl, hb4⟩; obtain ⟨hc4, hf4⟩ := bcell hb4; have B4 : Hid (Below W.heap.size W pa4) := bl_trans (bl_trans B3.out (by go_grown)) hb4; obtain ⟨q_c4, p04, p14, p24⟩ := L_c.out.below B4.out; obtain ⟨q_a4, _, _, r24⟩ := L_a.out.below B4.out; (try (have f2 : W.heap.size < pa4.heap.size := (by have q := hb4.size; (try simp at q); omega))); (try (have f3 : pa3.heap.size < pa4.heap.size := (by have q := hb4.size; (try simp at q); omega))); (try (have f8 : W.heap.size < pa4.heap.size + 1 := (by omega))); (try (have f9 : pa3.heap.size < pa4.heap.size + 1 := (by omega))); have f10 : pa4.heap.size < pa4.heap.size + 1 + 1 := (by omega))
      | (go_at_call 12; refine (call_substr _ 0 3 true 0 C false 1 ⟨#[]⟩ false (S.size : Int) ⟨#[]⟩ _ zC (by omega) (by omega) (by decide) (by omega) (by omega) (by decide) (by omega) (by omega) ?_ ?_ ?_ ?_ C rfl zC true 0 S 0 HR1).mono ?_; exact hP.out.stays (bl_trans BW.out (bl_trans B4.out (by go_grown))); exact ⟨by simp <;> omega, by simp, by simp, by simp⟩; exact ⟨by simp <;> omega, by simp, by simp, by simp⟩; exact ⟨by simp <;> omega, by simp, by simp, by simp⟩; rintro e pa5 ⟨rfl, hb5⟩; obtain ⟨hc5, hf5⟩ := bcell hb5; have B5 : Hid (Below W.heap.size W pa5) := bl_trans (bl_trans B4.out (by go_grown)) hb5; obtain ⟨q_c5, p05, p15, p25⟩ := L_c.out.below B5.out; obtain ⟨q_a5, _, _, r25⟩ := L_a.out.below B5.out; (try (have f4 : W.heap.size < pa5.heap.size := (by have q := hb5.size; (try simp at q); omega))); (try (have f5 : pa3.heap.size < pa5.heap.size := (by have q := hb5.size; (try simp at q); omega))); (try (have f6 : pa4.heap.size < pa5.heap.size := (by have q := hb5.size; (try simp at q); omega))); (try (have f7 : pa4.heap.size + 1 < pa5.heap.size := (by have q := hb5.size; (try simp at q); omega))); have ne1 : ¬ W.heap.size = bc := (by have q3 := B3.out.size; have q4 := B4.out.size; have q5 := B5.out.size; omega); have ne2 : ¬ W.heap.size = w.heap.size + 1 := (by have q3 := B3.out.size; have q4 := B4.out.size; have q5 := B5.out.size; omega); have ne3 : ¬ pa3.heap.size = bc := (by have q3 := B3.out.size; have q4 := B4.out.size; have q5 := B5.out.size; omega); have ne4 : ¬ pa3.heap.size = w.heap.size + 1 := (by have q3 := B3.out.size; have q4 := B4.out.size; have q5 := B5.out.size; omega); have ne5 : ¬ pa4.heap.size = bc := (by have q3 := B3.out.size; have q4 := B4.out.size; have q5 := B5.out.size; omega); have ne6 : ¬ pa4.heap.size = w.heap.size + 1 := (by have q3 := B3.out.size; have q4 := B4.out.size; have q5 := B5.out.size; omega); have ne7 : ¬ pa4.heap.size + 1 = bc := (by have q3 := B3.out.size; have q4 := B4.out.size; have q5 := B5.out.size; omega); have ne8 : ¬ pa4.heap.size + 1 = w.heap.size + 1 := (by have q3 := B3.out.size; have q4 := B4.out.size; have q5 := B5.out.size; omega); have ne9 : ¬ pa5.heap.size = bc := (by have q3 := B3.out.size; have q4 := B4.out.size; have q5 := B5.out.size; omega); have ne10 : ¬ pa5.heap.size = w.heap.size + 1 := (by have q3 := B3.out.size; have q4 := B4.out.size; have q5 := B5.out.size; omega); have ne11 : ¬ pa4.heap.size = w.heap.size := (by have q3 := B3.out.size; have q4 := B4.out.size; have q5 := B5.out.size; omega)))
    all_goals go_wp2_with fail
    all_goals go_meet
    all_goals (have q3 := B3.out.size; have q4 := B4.out.size; have q5 := B5.out.size; have q45 := hb5.size; (try simp at q45))
    all_goals first
      | exact ⟨_, rfl, rfl, And.intro (B5.out.alloc B5.out.size _) (Lies.new _ _ _ _ _)⟩
      | exact ⟨_, rfl, rfl, And.intro (below_set3 B5.out (by omega) _ _ _) (lies_set3 (by omega) (by simp [World.cell?_alloc_past, *]) (by simp [World.cell?_alloc_past, *]) (by simp [World.cell?_alloc_past, *]))⟩
  obtain ⟨bx, rfl, rfl, HX⟩ := hcut
  replace BW : Hid (Below w.heap.size w wc) := bl_trans BW.out HX.out.1
  replace L_a : Hid (Lies wc (w.heap.size + 1) true 0 S) := L_a.out.below HX.out.1
  replace L_b : Hid (Lies wc (w.heap.size + 3) true 0 T) := L_b.out.below HX.out.1
  replace L_c : Hid (Lies wc bc true 0 C) := L_c.out.below HX.out.1
  replace L_n : Hid (Lies wc bn false (C.size : Int) ⟨#[]⟩) := L_n.out.below HX.out.1
  have L_x : Hid (Lies wc bx true 0 S) := HX.out.2
  clear HX l_a a0 a1 a2 l_c c0 c1 c2
  clear W
  generalize wc = X at *
  have hwr : IntKind.i64.wrap ((S.size : Int) + 1) = (S.size : Int) + 1 := wrap_id (by omega) (by omega)
  go_wp2_with fail
  obtain ⟨l_a, a0, a1, a2⟩ := L_a.out
  obtain ⟨l_c, c0, c1, c2⟩ := L_c.out
  go_cut [13, 14] (fun v1 v2 wx => ∃ bx : Nat, v1 = .pointer (some ⟨bx, 0, none⟩) ∧ v2 = .int .i64 0 ∧ Hid (Below X.heap.size X wx ∧ Lies wx bx true 0 T))
  case first =>
    go_region_held3 (fun w' => w'.cell? ⟨bc, 0, none⟩ = some (.bool true) ∧ w'.cell? ⟨bc, 1, none⟩ = some (.int .i64 0) ∧ w'.cell? ⟨bc, 2, none⟩ = some (.string C) ∧ w'.cell? ⟨w.heap.size + 1, 2, none⟩ = some (.string S)) (go_keep) (first
      | (go_at_call_of 17 (Value.int IntKind.i64 1000); refine (number_c 1000 _).mono ?_; rintro e pb4 ⟨rfl, hb4⟩; obtain ⟨hc4, hf4⟩ := bcell hb4; have B4 : Hid (Below X.heap.size X pb4) := bl_trans (bl_trans B3.out (by go_grown)) hb4; obtain ⟨q_c4, p04, p14, p24⟩ := L_c.out.below B4.out; obtain ⟨q_a4, _, _, r24⟩ := L_a.out.below B4.out; (try (have f2 : X.heap.size < pb4.heap.size := (by have q := hb4.size; (try simp at q); omega))); (try (have f3 : pb3.heap.size < pb4.heap.size := (by have q := hb4.size; (try simp at q); omega))); (try (have f8 : X.heap.size < pb4.heap.size + 1 := (by omega))); (try (have f9 : pb3.heap.size < pb4.heap.size + 1 := (by omega))); have f10 : pb4.heap.size < pb4.heap.size + 1 + 1 := (by omega))
      | (go_at_call 12; refine (call_substr _ 0 3 true 0 C false ((S.size : Int) + 1) ⟨#[]⟩ false 1000 ⟨#[]⟩ _ zC (by omega) (by omega) (by decide) (by omega) (by omega) (by decide) (by omega) (by omega) ?_ ?_ ?_ ?_ C rfl zC true 0 T 0 HR2).mono ?_; exact hP.out.stays (bl_trans BW.out (bl_trans B4.out (by go_grown))); exact ⟨by simp <;> omega, by simp, by simp, by simp⟩; exact ⟨by simp <;> omega, by simp, by simp, by simp⟩; exact ⟨by simp <;> omega, by simp, by simp, by simp⟩; rintro e pb5 ⟨rfl, hb5⟩; obtain ⟨hc5, hf5⟩ := bcell hb5; have B5 : Hid (Below X.heap.size X pb5) := bl_trans (bl_trans B4.out (by go_grown)) hb5; obtain ⟨q_c5, p05, p15, p25⟩ := L_c.out.below B5.out; obtain ⟨q_a5, _, _, r25⟩ := L_a.out.below B5.out; (try (have f4 : X.heap.size < pb5.heap.size := (by have q := hb5.size; (try simp at q); omega))); (try (have f5 : pb3.heap.size < pb5.heap.size := (by have q := hb5.size; (try simp at q); omega))); (try (have f6 : pb4.heap.size < pb5.heap.size := (by have q := hb5.size; (try simp at q); omega))); (try (have f7 : pb4.heap.size + 1 < pb5.heap.size := (by have q := hb5.size; (try simp at q); omega))); have ne1 : ¬ X.heap.size = bc := (by have q3 := B3.out.size; have q4 := B4.out.size; have q5 := B5.out.size; omega); have ne2 : ¬ X.heap.size = w.heap.size + 1 := (by have q3 := B3.out.size; have q4 := B4.out.size; have q5 := B5.out.size; omega); have ne3 : ¬ pb3.heap.size = bc := (by have q3 := B3.out.size; have q4 := B4.out.size; have q5 := B5.out.size; omega); have ne4 : ¬ pb3.heap.size = w.heap.size + 1 := (by have q3 := B3.out.size; have q4 := B4.out.size; have q5 := B5.out.size; omega); have ne5 : ¬ pb4.heap.size = bc := (by have q3 := B3.out.size; have q4 := B4.out.size; have q5 := B5.out.size; omega); have ne6 : ¬ pb4.heap.size = w.heap.size + 1 := (by have q3 := B3.out.size; have q4 := B4.out.size; have q5 := B5.out.size; omega); have ne7 : ¬ pb4.heap.size + 1 = bc := (by have q3 := B3.out.size; have q4 := B4.out.size; have q5 := B5.out.size; omega); have ne8 : ¬ pb4.heap.size + 1 = w.heap.size + 1 := (by have q3 := B3.out.size; have q4 := B4.out.size; have q5 := B5.out.size; omega); have ne9 : ¬ pb5.heap.size = bc := (by have q3 := B3.out.size; have q4 := B4.out.size; have q5 := B5.out.size; omega); have ne10 : ¬ pb5.heap.size = w.heap.size + 1 := (by have q3 := B3.out.size; have q4 := B4.out.size; have q5 := B5.out.size; omega); have ne11 : ¬ pb4.heap.size = w.heap.size := (by have q3 := B3.out.size; have q4 := B4.out.size; have q5 := B5.out.size; omega))
      | (go_at_call 17; (try rw [hwr]); refine (number_c ((S.size : Int) + 1) _).mono ?_; rintro e pb3 ⟨rfl, hb3⟩; obtain ⟨hc3, hf3⟩ := bcell hb3; have B3 : Hid (Below X.heap.size X pb3) := bl_trans (by go_grown) hb3; obtain ⟨q_c3, p03, p13, p23⟩ := L_c.out.below B3.out; obtain ⟨q_a3, _, _, r23⟩ := L_a.out.below B3.out; (try (have f1 : X.heap.size < pb3.heap.size := (by have q := hb3.size; (try simp at q); omega)))))
    all_goals go_wp2_with fail
    all_goals go_meet
    all_goals (have q3 := B3.out.size; have q4 := B4.out.size; have q5 := B5.out.size; have q45 := hb5.size; (try simp at q45))
    all_goals first
      | exact ⟨_, rfl, rfl, And.intro (B5.out.alloc B5.out.size _) (Lies.new _ _ _ _ _)⟩
      | exact ⟨_, rfl, rfl, And.intro (below_set3 B5.out (by omega) _ _ _) (lies_set3 (by omega) (by simp [World.cell?_alloc_past, *]) (by simp [World.cell?_alloc_past, *]) (by simp [World.cell?_alloc_past, *]))⟩
  obtain ⟨bk, rfl, rfl, HX⟩ := hcut
  replace BW : Hid (Below w.heap.size w wc) := bl_trans BW.out HX.out.1
  replace L_a : Hid (Lies wc (w.heap.size + 1) true 0 S) := L_a.out.below HX.out.1
  replace L_b : Hid (Lies wc (w.heap.size + 3) true 0 T) := L_b.out.below HX.out.1
  replace L_c : Hid (Lies wc bc true 0 C) := L_c.out.below HX.out.1
  replace L_n : Hid (Lies wc bn false (C.size : Int) ⟨#[]⟩) := L_n.out.below HX.out.1
  replace L_x : Hid (Lies wc bx true 0 S) := L_x.out.below HX.out.1
  have L_k : Hid (Lies wc bk true 0 T) := HX.out.2
  clear HX l_a a0 a1 a2 l_c c0 c1 c2
  clear X
  generalize wc = Y at *
  clear hwr
  obtain ⟨l_a, a0, a1, a2⟩ := L_a.out
  obtain ⟨l_b, b0, b1, b2⟩ := L_b.out
  obtain ⟨l_c, c0, c1, c2⟩ := L_c.out
  go_wp2_with fail
  refine (call_index Y.heap.size 0 2 true 0 C true 0 T _ zC (by omega) (by omega) (by omega) (by omega) (by omega) (hP.out.stays (BW.out.alloc BW.out.size _)) (hM.out.stays (BW.out.alloc BW.out.size _)) ⟨by simp, by simp, by simp, by simp⟩ ⟨by simp, by simp, by simp, by simp⟩ C T rfl rfl zC (by omega) j HI.out (by omega) (by omega)).mono ?_
  rintro e z ⟨rfl, hb⟩
  simp only [vt, rN]
  have BZ : Hid (Below w.heap.size w z) := bl_trans (BW.out.alloc BW.out.size _) hb
  clear a0 a1 a2 b0 b1 b2 c0 c1 c2 l_a l_b l_c
  replace L_a : Hid (Lies (z.alloc (.cells #[.bool false, .int .i64 (j + 1), .string ⟨#[]⟩] 23)) (w.heap.size + 1) true 0 S) := ((L_a.out.over _).below hb).over _
  replace L_b : Hid (Lies (z.alloc (.cells #[.bool false, .int .i64 (j + 1), .string ⟨#[]⟩] 23)) (w.heap.size + 3) true 0 T) := ((L_b.out.over _).below hb).over _
  replace L_c : Hid (Lies (z.alloc (.cells #[.bool false, .int .i64 (j + 1), .string ⟨#[]⟩] 23)) bc true 0 C) := ((L_c.out.over _).below hb).over _
  replace L_n : Hid (Lies (z.alloc (.cells #[.bool false, .int .i64 (j + 1), .string ⟨#[]⟩] 23)) bn false (C.size : Int) ⟨#[]⟩) := ((L_n.out.over _).below hb).over _
  replace L_x : Hid (Lies (z.alloc (.cells #[.bool false, .int .i64 (j + 1), .string ⟨#[]⟩] 23)) bx true 0 S) := ((L_x.out.over _).below hb).over _
  replace L_k : Hid (Lies (z.alloc (.cells #[.bool false, .int .i64 (j + 1), .string ⟨#[]⟩] 23)) bk true 0 T) := ((L_k.out.over _).below hb).over _
  have L_q : Hid (Lies (z.alloc (.cells #[.bool false, .int .i64 (j + 1), .string ⟨#[]⟩] 23)) z.heap.size false (j + 1) ⟨#[]⟩) := Lies.new _ _ _ _ _
  replace BZ : Hid (Below w.heap.size w (z.alloc (.cells #[.bool false, .int .i64 (j + 1), .string ⟨#[]⟩] 23))) := BZ.out.alloc BZ.out.size _
  clear hb BW
  go_upto_region 8 with fail
  generalize z.alloc (.cells #[.bool false, .int .i64 (j + 1), .string ⟨#[]⟩] 23) = Z at *
  generalize z.heap.size = bq at *
  obtain ⟨l_a, a0, a1, a2⟩ := L_a.out
  obtain ⟨l_b, b0, b1, b2⟩ := L_b.out
  obtain ⟨l_c, c0, c1, c2⟩ := L_c.out
  obtain ⟨l_n, n0, n1, n2⟩ := L_n.out
  obtain ⟨l_x, x0, x1, x2⟩ := L_x.out
  obtain ⟨l_k, k0, k1, k2⟩ := L_k.out
  obtain ⟨l_q, q0, q1, q2⟩ := L_q.out
  have n1' : Z.cell? ⟨bn, 1, none⟩ = some (.int .i64 (wrap64 ((S.size : Int) + (T.size : Int)))) := n1.trans (congrArg (fun x => some (Value.int .i64 x)) HN.out)
  have p1 := HP1.out
  have p2 := HP2.out
  clear n1 HN HP1 HP2 j1 j2 L_a L_b L_c L_n L_x L_k L_q hP hM HI HR1 HR2 HJ hCz c0 c1 c2 n0 n2 q0 q2 l_a l_b l_c l_n l_x l_k l_q zC zS zT m0 l0 m1 l1
  generalize j + 1 = jp at *
  go_wp2_with fail
  go_ret
  exact ⟨rfl, BZ.out⟩

theorem walk (s : ByteArray) (hs : s.size ≤ maxLen) (t : ByteArray) (ht : t.size ≤ maxLen) (w : World) (hP : Pow w) (hM : Mx w) :
    Calls Tryd.prog 8 #[.string s, .string t] w fun e w' => e = .returned (.bool true) ∧ Below w.heap.size w w' := by
  have zS : (s.extract 0 (min s.size 90)).size ≤ 90 := by rw [ByteArray.size_extract]; omega
  have zT : (t.extract 0 (min t.size 90)).size ≤ 90 := by rw [ByteArray.size_extract]; omega
  generalize hS : s.extract 0 (min s.size 90) = S at zS
  generalize hT : t.extract 0 (min t.size 90) = T at zT
  have hz : (S ++ T).size = S.size + T.size := ByteArray.size_append
  have hj := index_join S T
  exact core s t w hP hM (min s.size 90) (by omega) (by omega) S hS zS (min t.size 90) (by omega) (by omega) T hT zT (S ++ T) (by omega) hz
    (by rw [strOf_t, strOf_t]; exact if_pos (by omega)) (piece_first S T (by omega)) (piece_rest S T (by omega) (by omega)) _ rfl hj.1 hj.2 (by show _ = _; unfold wrap64; omega) (by show _ ≤ _; omega) (by show _ ≤ _; unfold wrap64; omega)

set_option maxRecDepth 100000 in
theorem lifted (os : Os) (started : os.Started) (H : Type) (enc : TypeId × Value → H) :
    ReturnsInHanded {} Tryd.checked os 8 .any (fun w args => (Rows.joinedSpec.pre enc Tryd.prog Tryd.f8 Rows.joinedRow.domain false w args ∧ laidMetH Tryd.prog Rows.joinedRow.laid w) ∧ sizedMet enc Tryd.prog Tryd.f8 (OpenSpec.ofChange Rows.joinedSpec) false w args)
      (Rows.joinedSpec.post enc Tryd.prog Tryd.f8 false true false false) := by
  refine handed (C := Tryd.checked) (X := fun w => laidMetH Tryd.prog Rows.joinedRow.laid w) (fun _ _ hh h => h.of_heap hh) own started (by kernel_rfl) Tryd.func8
    (ChangeSpec.witness_shaped (enc := enc) (C := Tryd.checked) (os := os) (X := fun w _ => laidMetH Tryd.prog Rows.joinedRow.laid w) false (World.laidAll Tryd.prog os Rows.joinedRow.laid) #[.string ByteArray.empty, .string ByteArray.empty] 8 (World.laidAll_os _ _ _)
      (World.shaped_of_ZipB (by kernel_rfl) (by kernel_rfl)) (by kernel_rfl) (by kernel_rfl) (by kernel_rfl)
      (by rw [MakeChecks.laidMetH_plain _ _ _ (by kernel_rfl)]; exact laidMet_laidAll _ (by kernel_rfl) (by kernel_rfl))) ?_
  intro W base args ds gs before hval0 hW hL hSh
  rw [MakeChecks.laidMetH_plain _ _ _ (by kernel_rfl)] at hL
  have hval : ∀ (j : Nat) t v, Tryd.f8.params[j]? = some t → args[j]? = some v → Value.okWide Tryd.prog W .any base t v := hval0
  have hW' := hW
  obtain ⟨p, q, hA0, hV, rfl, hfz, hnd⟩ := hW
  have hA : DataW.TrodAll enc Tryd.prog W 0 (fun _ => true) true Tryd.f8.params.toList args.toList ds p := hA0
  rw [Tryd.params8] at hA hval
  have hP : Pow W := pow_of (show laidMet Tryd.prog ((_, Rows.laid_internal_strconv_uint64pow10) :: _) W from (laidMet.tail (laidMet.tail (hL))))
  obtain ⟨v0, vs0, d0, ds0, p0, q0, hargs, rfl, rfl, h0, r0⟩ := trodAll_cons hA
  obtain ⟨v1, vs1, d1, ds1, p1, q1, rfl, rfl, rfl, h1, r1⟩ := trodAll_cons r0
  obtain ⟨rfl, rfl, rfl⟩ := trodAll_nil r1
  obtain rfl : args = #[v0, v1] := by cases args; simp_all
  obtain ⟨rfl, rfl⟩ := trodVars_none hV
  have k0 := h0
  have lt0 : ∀ x ∈ p0, x.block < W.heap.size := by obtain ⟨m, hm⟩ := k0; exact DataW.trod_lt m _ _ _ hm
  obtain ⟨a0, rfl, rfl, rfl, w0⟩ := open_string Tryd.underlying9 (hval 0 9 v0 rfl rfl) h0
  have k1 := h1
  have lt1 : ∀ x ∈ p1, x.block < W.heap.size := by obtain ⟨m, hm⟩ := k1; exact DataW.trod_lt m _ _ _ hm
  obtain ⟨a1, rfl, rfl, rfl, w1⟩ := open_string Tryd.underlying9 (hval 1 9 v1 rfl rfl) h1
  clear hA0 hval0
  refine (walk a0 w0 a1 w1 W hP (mx_of hSh)).mono fun e W' ⟨he, bel⟩ => ?_
  subst he
  exact ⟨_, rfl, _, _, _, [], _, [], hW', trodAll_mk1 (shut_bool Tryd.underlying4 _), (trodAll_cons_mk (Below.trod laidOut (by kernel_rfl) (of_decide_eq_true (by kernel_rfl)) k0 bel lt0) (trodAll_cons_mk (Below.trod laidOut (by kernel_rfl) (of_decide_eq_true (by kernel_rfl)) k1 bel lt1) trodAll_mk0)), rfl, bel.frame _, fun h => by cases h⟩

theorem over : Rows.joinedRow.holds Tryd.pinned (OpenSpec.ofChange Rows.joinedSpec) :=
  OpenClaim.holds_of_wide 8 Tryd.f8 rfl rfl rfl rfl rfl rfl rfl ⟨rfl, rfl, rfl, rfl, rfl⟩ rfl rfl rfl rfl rfl (by kernel_rfl) Tryd.func8 (by kernel_rfl)
    (of_decide_eq_true (by kernel_rfl)) (by unfold Func.isWrapper; rw [if_neg (of_decide_eq_false (by kernel_rfl))]; exact ⟨rfl, rfl⟩)
    (fun os started H enc _ => lifted os started H enc)

theorem card : Rows.JoinedCardSaid :=
  Claim7.holds_tied_plain_at .later [] [.data, .data, .data, .data, .pinned] true (true, "6c26c0187a3396e3fb5204ccd2482c4d779497168c111a81a531b6312885ccb6") false
    over (fun _ h => by cases h) (by kernel_rfl) (fun _ h => by cases h) joined_row_tie rfl ⟨rfl, rfl⟩ (by kernel_rfl) rfl
    (fun f fn hf hfn => by
      obtain rfl : f = 8 := Option.some.inj ((show Tryd.prog.funcNamed Rows.joinedRow.func = some 8 by kernel_rfl).symm.trans hf) |>.symm
      obtain rfl : fn = Tryd.f8 := (Option.some.inj (Tryd.func8.symm.trans hfn)).symm
      exact ⟨by kernel_rfl, fun j t ht => by
        rw [Tryd.params8] at ht
        have hm : t ∈ [9, 9] := by simpa using Array.mem_of_getElem? ht
        have hall : ([9, 9].all fun u => !Tryd.prog.wantsStandIn u) = true := by kernel_rfl
        exact (show Tryd.prog.wantsStandIn t = false by simpa using List.all_eq_true.1 hall t hm)⟩)
    (by kernel_rfl)
end Go.Proofs.YtejcmammdmpcoabDoor.joined

namespace Go.Proofs.YtejcmammdmpcoabDoor
/-- THE STATEMENT. -/
theorem joined_card : Rows.JoinedCardSaid := joined.card
#print axioms joined_card
end Go.Proofs.YtejcmammdmpcoabDoor
