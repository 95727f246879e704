/-
  Contracts of syntax.Print and of the document's ProgramText.
-/
import Derived.Test.YtjconmohifaliaaDoorPrR
import Derived.Test.YtjconmohifaliaaDoorCheckC
import Derived.BigQuiet
import Derived.Test.YtjconmohifaliaaDoorRefP
namespace Go.Proofs.YtjconmohifaliaaDoor
open Go.ChangeShapes Go.WideShapes Go.ChangeAt Go.RowKit Go.Joins
set_option linter.unusedVariables false
set_option maxRecDepth 100000

/-- What is printed: the text, where nothing is wrong. -/
def txP (m : Nat) (l : List Ru) : ByteArray := if ckP m l = 0 then bs (prT m l) else ⟨#[]⟩

theorem ret_two {a b : ByteArray} {c d : Int} (h1 : a = b) (h2 : c = d) : Ending.returned (.tuple #[.string a, .int .i64 c]) = .returned (.tuple #[.string b, .int .i64 d]) := by rw [h1, h2]

set_option maxHeartbeats 4000000 in
theorem print_c (m B : Nat) (l : List Ru) (v : Value) (w : World) (hv : Sl w B 7 v l.length (fun i c => ∃ x, l[i]? = some x ∧ RuA B w m c x)) (hB : B ≤ w.heap.size) (hP : Pow w) (hT : Tb B w) :
    Calls Tryd.prog 4 #[.agg #[v]] w fun e w' => e = .returned (.tuple #[.string (txP m l), .int .i64 (ckP m l)]) ∧ Below w.heap.size w w' := by
  have HV : Hid (Sl w B 7 v l.length (fun i c => ∃ x, l[i]? = some x ∧ RuA B w m c x)) := hv
  obtain ⟨a, cap, rfl, hmax, hsl⟩ := hv
  have HSL : Hid _ := hsl
  have HP : Hid (Pow w) := hP
  have HBB : Hid (B ≤ w.heap.size) := hB
  unfold maxLen at hmax
  obtain ⟨W, hW⟩ : ∃ W, W = w.alloc (.cells #[.slice a l.length cap] 24) := ⟨_, rfl⟩
  have HW : Hid (Below w.heap.size w W) := by rw [hW]; exact (Below.refl _ _).alloc (Nat.le_refl _) _
  have HR : Hid (RowAt W w.heap.size #[.slice a l.length cap]) := by rw [hW]; exact RowAt.new w _ _
  have HWW : Hid (W = _) := hW
  have HC : Hid _ := check_c m B l (.slice a l.length cap) W (HV.out.below (HW.out.mono hB) fun i c ⟨x, hx, he⟩ => ⟨x, hx, he.below (HW.out.mono hB)⟩) (hT.below (HW.out.mono hB)) (Nat.le_trans hB HW.out.size)
  clear hsl hP hW hT
  go_enter Tryd.func4, Tryd.ntmps4
  go_wp2_with fail
  rw [← HWW.out]
  clear HWW
  refine Calls.mono HC.out ?_
  rintro e w1 ⟨rfl, hb1⟩
  have HB1 : Hid (Below w.heap.size w w1) := bl_trans HW.out hb1
  have HR1 : Hid (RowAt w1 w.heap.size #[.slice a l.length cap]) := HR.out.below hb1
  clear hb1 HC HR
  by_cases hck : ckP m l = 0
  · obtain ⟨hall0, hlen0, h20⟩ := ckP_fit HV.out hck
    have HOK : Hid (∀ r ∈ l, okR m r) := hall0
    have HL : Hid ((prT m l).length ≤ 10000000) := hlen0
    have HTX : Hid (txP m l = bs (prT m l)) := by unfold txP Hid; rw [if_pos hck]
    rw [hck]
    have q0 := HR1.out.cell 0
    simp only [List.getElem?_toArray, List.getElem?_cons_zero] at q0
    obtain ⟨o, ho⟩ : ∃ o, o = Obj.cells #[.pointer none, .slice none 0 0] 33 := ⟨_, rfl⟩
    have HD0 : Hid (Bd w1.heap.size w1.heap.size [] (w1.alloc o)) := by rw [ho]; exact Bd.new w1
    have HW0 : Hid (Below w1.heap.size w1 (w1.alloc o)) := (Below.refl _ _).alloc (Nat.le_refl _) o
    have HCK : Hid (ckP m l = 0) := hck
    have q9 : (w1.alloc (.cells #[.pointer none, .slice none 0 0] 33)).cell? ⟨w.heap.size, 0, none⟩ = some (.slice a l.length cap) := by
      rw [← ho]
      exact (HW0.out.cell (p := ⟨w.heap.size, 0, none⟩) HR1.out.lt).trans q0
    clear hall0 hlen0 hck HV HW q0
    go_wp2_with fail
    rw [← ho]
    clear ho q9
    go_loopw [16] (fun v wr => ∃ k : Nat, k ≤ l.length ∧ v = .int .i64 k ∧ Hid (Bd w1.heap.size w1.heap.size (rup m l k) wr ∧ Below w1.heap.size w1 wr)) (fun v _ => l.length - (intOf v).toNat)
    case atStart => exact ⟨0, by omega, rfl, HD0.out, HW0.out⟩
    case round =>
      obtain ⟨i, hil, rfl, HR⟩ := hrel
      clear HD0 HW0
      have HLK : Hid ((rup m l i).length ≤ 10000000) := Nat.le_trans (rup_len m l i) HL.out
      by_cases hk2 : i < l.length
      · have i1 : (i : Int) < (l.length : Int) := by omega
        have i2 : (0 : Int) ≤ (i : Int) := by omega
        obtain ⟨b, off, rfl, hb, hi⟩ := HSL.out (by omega)
        have hbw : b < w.heap.size := by have := HBB.out; omega
        obtain ⟨k, h1, k1, n1, s1, a1, len1, cap1, a2, len2, cap2, p0, p1, p2, p3, p4, p5, p6, hx0⟩ := kidR hi i hk2
        have HBR : Hid (Below w.heap.size w wr) := bl_trans HB1.out HR.out.2
        have q0 : wr.cell? ⟨b, off + i * 7, none⟩ = _ := (HBR.out.cell (p := ⟨b, off + i * 7, none⟩) hbw).trans p0
        have q1 : wr.cell? ⟨b, off + i * 7 + 1, none⟩ = _ := (HBR.out.cell (p := ⟨b, off + i * 7 + 1, none⟩) hbw).trans p1
        have q2 : wr.cell? ⟨b, off + i * 7 + 2, none⟩ = _ := (HBR.out.cell (p := ⟨b, off + i * 7 + 2, none⟩) hbw).trans p2
        have q3 : wr.cell? ⟨b, off + i * 7 + 3, none⟩ = _ := (HBR.out.cell (p := ⟨b, off + i * 7 + 3, none⟩) hbw).trans p3
        have q4 : wr.cell? ⟨b, off + i * 7 + 4, none⟩ = _ := (HBR.out.cell (p := ⟨b, off + i * 7 + 4, none⟩) hbw).trans p4
        have q5 : wr.cell? ⟨b, off + i * 7 + 5, none⟩ = _ := (HBR.out.cell (p := ⟨b, off + i * 7 + 5, none⟩) hbw).trans p5
        have q6 : wr.cell? ⟨b, off + i * 7 + 6, none⟩ = _ := (HBR.out.cell (p := ⟨b, off + i * 7 + 6, none⟩) hbw).trans p6
        obtain ⟨W1, hW1⟩ : ∃ W1, W1 = wr.alloc (.cells #[.int .i64 k, .bool h1, .int .i64 k1, .int .i64 n1, .string s1, .slice a1 len1 cap1, .slice a2 len2 cap2] 39) := ⟨_, rfl⟩
        have HW1 : Hid (Below wr.heap.size wr W1) := by rw [hW1]; exact (Below.refl _ _).alloc (Nat.le_refl _) _
        have HWW : Hid (W1 = _) := hW1
        have HB2 : Hid (Below w.heap.size w W1) := bl_trans HBR.out HW1.out
        have HSZ : Hid ((ruT m l[i]).length ≤ 10000000) := Nat.le_trans (rup_mem m l i hk2) HL.out
        have HC : Hid _ := ruleText_c m B l[i] _ W1 (hx0.out.below (HB2.out.mono HBB.out)) (Nat.le_trans HBB.out HB2.out.size) (HOK.out _ (List.getElem_mem hk2)) (Nat.le_trans HSZ.out (by decide)) (HP.out.stays HB2.out)
        have HUP : Hid (rup m l (i + 1) = rup m l i ++ ruT m l[i] ++ [10]) := rup_succ m l i hk2
        clear hW1 hi p0 p1 p2 p3 p4 p5 p6 hx0
        obtain ⟨x, hx⟩ : ∃ x, x = l[i] := ⟨_, rfl⟩
        rw [← hx] at HC HUP HSZ
        clear hx
        go_wp2_with fail
        rw [← HWW.out]
        clear HWW q0 q1 q2 q3 q4 q5 q6
        refine Calls.mono HC.out ?_
        rintro e w2 ⟨rfl, hb2⟩
        have HD2 : Hid (Bd w1.heap.size w1.heap.size (rup m l i) w2) := HR.out.1.below (bl_trans HW1.out hb2)
        have HB3 : Hid (Below w1.heap.size w1 w2) := bl_trans HR.out.2 (bl_trans HW1.out hb2)
        have HTS : Hid ((bs (ruT m x)).size ≤ 10000000) := by unfold Hid; rw [bs_size]; exact HSZ.out
        have HTL : Hid ((bs (ruT m x)).toList = ruT m x) := bs_list _
        obtain ⟨T, hT⟩ : ∃ T, T = bs (ruT m x) := ⟨_, rfl⟩
        rw [← hT] at HTS HTL ⊢
        clear hb2 HC HR HB2 HW1 hT HBR
        go_wp2_with fail
        refine (HD2.out.write T (by have := HLK.out; have := HTS.out; omega) HB3.out.size).mono ?_
        rintro e w3 ⟨rfl, hb3, hw3⟩
        have HD3 : Hid (Bd w1.heap.size w1.heap.size (rup m l i ++ ruT m x) w3) := by rw [HTL.out] at hb3; exact hb3
        have HB4 : Hid (Below w1.heap.size w1 w3) := HB3.out.trans hw3
        clear hb3 hw3
        go_wp2_with fail
        refine (HD3.out.write ⟨#[10]⟩ (by have e : (⟨#[10]⟩ : ByteArray).size = 1 := rfl; rw [e, List.length_append]; have := HLK.out; have := HSZ.out; omega) HB4.out.size).mono ?_
        rintro e w4 ⟨rfl, hb4, hw4⟩
        have HN : Hid (Bd w1.heap.size w1.heap.size (rup m l (i + 1)) w4 ∧ Below w1.heap.size w1 w4) := ⟨by rw [HUP.out]; rw [toL_mk [10]] at hb4; exact hb4, HB4.out.trans hw4⟩
        clear hb4 hw4
        go_wp2_with fail
        go_roundw
        case rel => exact ⟨i + 1, by omega, by go_num, HN⟩
        case measure => simp [intOf]; omega
      · have i1 : ¬ (i : Int) < (l.length : Int) := by omega
        have HUA : Hid (rup m l i = prT m l) := rup_all m l i hk2
        go_wp2_with fail
        refine (HR.out.1.string HR.out.2.size).mono ?_
        rintro e w3 ⟨rfl, hw3⟩
        have HB3 : Hid (Below w.heap.size w w3) := bl_trans HB1.out (HR.out.2.trans hw3)
        clear hw3
        rw [HUA.out, ← HTX.out]
        go_wp2_with fail
        go_ret2
        exact ⟨ret_two rfl HCK.out.symm, HB3.out⟩
  · have HTX : Hid (txP m l = ⟨#[]⟩) := by unfold txP Hid; rw [if_neg hck]
    have hck2 : (ckP m l == 0) = false := by simpa using hck
    go_wp2_with fail
    go_ret2
    exact ⟨ret_two HTX.out.symm rfl, HB1.out⟩

set_option maxHeartbeats 8000000 in
theorem programText_c (m B : Nat) (l : List Ru) (v : Value) (w : World) (hv : Sl w B 7 v l.length (fun i c => ∃ x, l[i]? = some x ∧ RuA B w m c x)) (hB : B ≤ w.heap.size) (hP : Pow w) :
    Calls Tryd.prog 5 #[.agg #[v]] w fun e w' => e = .returned (.tuple #[.string (txP m l), .int .i64 (ckP m l)]) ∧ Below w.heap.size w w' := by
  have HV : Hid (Sl w B 7 v l.length (fun i c => ∃ x, l[i]? = some x ∧ RuA B w m c x)) := hv
  obtain ⟨a, cap, rfl, hmax, hsl⟩ := hv
  have HSL : Hid _ := hsl
  have HP : Hid (Pow w) := hP
  have HBB : Hid (B ≤ w.heap.size) := hB
  unfold maxLen at hmax
  obtain ⟨W, hW⟩ : ∃ W, W = w.alloc (.cells #[.slice a l.length cap] 24) := ⟨_, rfl⟩
  have HW : Hid (Below w.heap.size w W) := by rw [hW]; exact (Below.refl _ _).alloc (Nat.le_refl _) _
  have HR : Hid (RowAt W w.heap.size #[.slice a l.length cap]) := by rw [hW]; exact RowAt.new w _ _
  have HWW : Hid (W = _) := hW
  have HC : Hid _ := fault_c m B l (.slice a l.length cap) W (HV.out.below (HW.out.mono hB) fun i c ⟨x, hx, he⟩ => ⟨x, hx, he.below (HW.out.mono hB)⟩) (Nat.le_trans hB HW.out.size)
  clear hsl hP hW
  go_enter Tryd.func5, Tryd.ntmps5
  go_wp2_with fail
  rw [← HWW.out]
  clear HWW
  refine Calls.mono HC.out ?_
  rintro e w1 ⟨rfl, hb1⟩
  have HB1 : Hid (Below W.heap.size W w1) := hb1
  clear hb1 HC
  by_cases hck : ckP m l = 0
  · obtain ⟨hall0, hlen0, h20⟩ := ckP_fit HV.out hck
    have HOK : Hid (∀ r ∈ l, okR m r) := hall0
    have HL : Hid ((prT m l).length ≤ 10000000) := hlen0
    have HTX : Hid (txP m l = bs (prT m l)) := by unfold txP Hid; rw [if_pos hck]
    rw [hck]
    have HCK : Hid (ckP m l = 0) := hck
    clear hall0 hlen0 hck HV
    go_wp2_with fail
    go_loopw [5, 6] (fun v5 v6 wr => ∃ (k : Nat) (O : ByteArray), k ≤ l.length ∧ v5 = .string O ∧ v6 = .int .i64 k ∧ Hid (O.toList = rup m l k) ∧ Hid (Below W.heap.size W wr)) (fun _ v6 _ => l.length - (intOf v6).toNat)
    case atStart => exact ⟨0, _, by omega, rfl, rfl, by unfold Hid; rw [toL_mk []]; rfl, HB1⟩
    case round =>
      obtain ⟨i, O, hil, rfl, rfl, HO, HRB⟩ := hrel
      clear HB1
      have HLK : Hid (O.size ≤ 10000000) := by have := rup_len m l i; have := HL.out; have h3 := congrArg List.length HO.out; rw [toL_len] at h3; unfold Hid; omega
      have q7 := (HR.out.below HRB.out).cell 0
      simp only [List.getElem?_toArray, List.getElem?_cons_zero] at q7
      by_cases hk2 : i < l.length
      · have i1 : (i : Int) < (l.length : Int) := by omega
        have i2 : (0 : Int) ≤ (i : Int) := by omega
        obtain ⟨b, off, rfl, hb, hi⟩ := HSL.out (by omega)
        have hbw : b < w.heap.size := by have := HBB.out; omega
        have HBR : Hid (Below w.heap.size w wr) := bl_trans HW.out HRB.out
        obtain ⟨k, h1, k1, n1, s1, a1, len1, cap1, a2, len2, cap2, p0, p1, p2, p3, p4, p5, p6, hx0⟩ := kidR hi i hk2
        have q0 : wr.cell? ⟨b, off + i * 7, none⟩ = _ := (HBR.out.cell (p := ⟨b, off + i * 7, none⟩) hbw).trans p0
        have q1 : wr.cell? ⟨b, off + i * 7 + 1, none⟩ = _ := (HBR.out.cell (p := ⟨b, off + i * 7 + 1, none⟩) hbw).trans p1
        have q2 : wr.cell? ⟨b, off + i * 7 + 2, none⟩ = _ := (HBR.out.cell (p := ⟨b, off + i * 7 + 2, none⟩) hbw).trans p2
        have q3 : wr.cell? ⟨b, off + i * 7 + 3, none⟩ = _ := (HBR.out.cell (p := ⟨b, off + i * 7 + 3, none⟩) hbw).trans p3
        have q4 : wr.cell? ⟨b, off + i * 7 + 4, none⟩ = _ := (HBR.out.cell (p := ⟨b, off + i * 7 + 4, none⟩) hbw).trans p4
        have q5 : wr.cell? ⟨b, off + i * 7 + 5, none⟩ = _ := (HBR.out.cell (p := ⟨b, off + i * 7 + 5, none⟩) hbw).trans p5
        have q6 : wr.cell? ⟨b, off + i * 7 + 6, none⟩ = _ := (HBR.out.cell (p := ⟨b, off + i * 7 + 6, none⟩) hbw).trans p6
        have HSZ : Hid ((ruT m l[i]).length ≤ 10000000) := Nat.le_trans (rup_mem m l i hk2) HL.out
        have HUP : Hid (rup m l (i + 1) = rup m l i ++ ruT m l[i] ++ [10]) := rup_succ m l i hk2
        have hokr := HOK.out _ (List.getElem_mem hk2)
        clear hi p0 p1 p2 p3 p4 p5 p6
        obtain ⟨x, hx⟩ : ∃ x, x = l[i] := ⟨_, rfl⟩
        rw [← hx] at HUP HSZ hx0 hokr
        clear hx
        cases x with
        | mk wh has pat body =>
          obtain ⟨c0, c1, c2, c3, v, he, _, hpat, hbody⟩ := hx0.out
          clear hx0
          obtain ⟨hw0, hw2, hh, hall⟩ := hokr
          simp only at hw0 hw2 hh hall hpat hbody he
          injection he with e0 he
          injection he with e1 he
          injection he with e2 he
          injection he with e3 he
          injection he with e4 he
          injection he with e5 he
          injection he with e6 he
          injection e0 with _ e0
          injection e1 with e1
          subst e0 e1 e2 e3 e4 e5 e6
          have hbody : SmL B w m _ body := hbody
          obtain rfl | rfl | rfl : k = 0 ∨ k = 2 ∨ k = 1 := by omega
          · have hf : h1 = false := by cases h1 with | false => rfl | true => exact absurd (hh rfl).1 (by decide)
            subst hf
            have e : ruT m ⟨0, false, pat, body⟩ = [66, 69, 71, 73, 78, 32] ++ blL (smT m) body := by simp [ruT]
            rw [e] at HUP HSZ
            have hsz := HSZ.out
            simp only [List.length_append, List.length_cons, List.length_nil] at hsz
            obtain ⟨TB, hTB⟩ : ∃ T, T = bs (blL (smT m) body) := ⟨_, rfl⟩
            have tB : TB.size ≤ 10000000 := by rw [hTB, bs_size]; omega
            have HN : Hid ((O ++ ⟨#[66, 69, 71, 73, 78, 32]⟩ ++ TB ++ ⟨#[10]⟩).toList = rup m l (i + 1)) := by
              unfold Hid
              rw [HUP.out]
              simp only [toL_append, toL_mk, HO.out, hTB, bs_list, List.append_assoc]
            have z1 : ¬ 9223372036854775807 < O.size + 6 := by have := HLK.out; omega
            have z2 : ¬ 9223372036854775807 < O.size + 6 + TB.size := by have := HLK.out; omega
            have z3 : ¬ 9223372036854775807 < O.size + 6 + TB.size + 1 := by have := HLK.out; omega
            obtain ⟨W1, hW1⟩ : ∃ W1, W1 = wr.alloc (.cells #[.int .i64 0, .bool false, .int .i64 k1, .int .i64 n1, .string s1, .slice a1 len1 cap1, .slice a2 len2 cap2] 39) := ⟨_, rfl⟩
            have HW1 : Hid (Below wr.heap.size wr W1) := by rw [hW1]; exact (Below.refl _ _).alloc (Nat.le_refl _) _
            have HR1 : Hid (RowAt W1 wr.heap.size #[.int .i64 0, .bool false, .int .i64 k1, .int .i64 n1, .string s1, .slice a1 len1 cap1, .slice a2 len2 cap2]) := by rw [hW1]; exact RowAt.new wr _ _
            have HWW : Hid (W1 = _) := hW1
            have HB2 : Hid (Below w.heap.size w W1) := bl_trans HBR.out HW1.out
            have HCB : Hid (∀ W' : World, Below W1.heap.size W1 W' → Calls Tryd.prog 12 #[.slice a2 len2 cap2] W' fun e w'' => e = .returned (.string TB) ∧ Below W'.heap.size W' w'') := fun W' hbb => by
              have hb3 := bl_trans HB2.out hbb
              rw [hTB]
              exact blockRef_c m B body _ W' (hbody.below (hb3.mono HBB.out)) (Nat.le_trans HBB.out hb3.size) hall (by omega) (HP.out.stays hb3)
            clear hW1 hpat hbody hh hall HUP HSZ hsz hTB tB e HL HOK
            go_wp2_with fail
            rw [← HWW.out]
            clear HWW q0 q1 q2 q3 q4 q5 q6 q7
            refine Calls.mono (HCB.out _ (Below.refl _ _)) ?_
            rintro e w3 ⟨rfl, hb3⟩
            have HB4 : Hid (Below W.heap.size W w3) := bl_trans HRB.out (bl_trans HW1.out hb3)
            clear hb3 HCB HR1
            go_wp2_with fail
            go_roundw
            case rel => exact ⟨i + 1, _, by omega, rfl, by go_num, HN, HB4⟩
            case measure => simp [intOf]; omega
          · have hf : h1 = false := by cases h1 with | false => rfl | true => exact absurd (hh rfl).1 (by decide)
            subst hf
            have e : ruT m ⟨2, false, pat, body⟩ = [69, 78, 68, 32] ++ blL (smT m) body := by simp [ruT]
            rw [e] at HUP HSZ
            have hsz := HSZ.out
            simp only [List.length_append, List.length_cons, List.length_nil] at hsz
            obtain ⟨TB, hTB⟩ : ∃ T, T = bs (blL (smT m) body) := ⟨_, rfl⟩
            have tB : TB.size ≤ 10000000 := by rw [hTB, bs_size]; omega
            have HN : Hid ((O ++ ⟨#[69, 78, 68, 32]⟩ ++ TB ++ ⟨#[10]⟩).toList = rup m l (i + 1)) := by
              unfold Hid
              rw [HUP.out]
              simp only [toL_append, toL_mk, HO.out, hTB, bs_list, List.append_assoc]
            have z1 : ¬ 9223372036854775807 < O.size + 4 := by have := HLK.out; omega
            have z2 : ¬ 9223372036854775807 < O.size + 4 + TB.size := by have := HLK.out; omega
            have z3 : ¬ 9223372036854775807 < O.size + 4 + TB.size + 1 := by have := HLK.out; omega
            obtain ⟨W1, hW1⟩ : ∃ W1, W1 = wr.alloc (.cells #[.int .i64 2, .bool false, .int .i64 k1, .int .i64 n1, .string s1, .slice a1 len1 cap1, .slice a2 len2 cap2] 39) := ⟨_, rfl⟩
            have HW1 : Hid (Below wr.heap.size wr W1) := by rw [hW1]; exact (Below.refl _ _).alloc (Nat.le_refl _) _
            have HR1 : Hid (RowAt W1 wr.heap.size #[.int .i64 2, .bool false, .int .i64 k1, .int .i64 n1, .string s1, .slice a1 len1 cap1, .slice a2 len2 cap2]) := by rw [hW1]; exact RowAt.new wr _ _
            have HWW : Hid (W1 = _) := hW1
            have HB2 : Hid (Below w.heap.size w W1) := bl_trans HBR.out HW1.out
            have HCB : Hid (∀ W' : World, Below W1.heap.size W1 W' → Calls Tryd.prog 12 #[.slice a2 len2 cap2] W' fun e w'' => e = .returned (.string TB) ∧ Below W'.heap.size W' w'') := fun W' hbb => by
              have hb3 := bl_trans HB2.out hbb
              rw [hTB]
              exact blockRef_c m B body _ W' (hbody.below (hb3.mono HBB.out)) (Nat.le_trans HBB.out hb3.size) hall (by omega) (HP.out.stays hb3)
            clear hW1 hpat hbody hh hall HUP HSZ hsz hTB tB e HL HOK
            go_wp2_with fail
            rw [← HWW.out]
            clear HWW q0 q1 q2 q3 q4 q5 q6 q7
            refine Calls.mono (HCB.out _ (Below.refl _ _)) ?_
            rintro e w3 ⟨rfl, hb3⟩
            have HB4 : Hid (Below W.heap.size W w3) := bl_trans HRB.out (bl_trans HW1.out hb3)
            clear hb3 HCB HR1
            go_wp2_with fail
            go_roundw
            case rel => exact ⟨i + 1, _, by omega, rfl, by go_num, HN, HB4⟩
            case measure => simp [intOf]; omega
          · cases h1 with
            | false =>
              have e : ruT m ⟨1, false, pat, body⟩ = blL (smT m) body := by simp [ruT]
              rw [e] at HUP HSZ
              have hsz := HSZ.out
              obtain ⟨TB, hTB⟩ : ∃ T, T = bs (blL (smT m) body) := ⟨_, rfl⟩
              have tB : TB.size ≤ 10000000 := by rw [hTB, bs_size]; omega
              have HN : Hid ((O ++ TB ++ ⟨#[10]⟩).toList = rup m l (i + 1)) := by
                unfold Hid
                rw [HUP.out]
                simp only [toL_append, toL_mk, HO.out, hTB, bs_list, List.append_assoc]
              have z1 : ¬ 9223372036854775807 < O.size + TB.size := by have := HLK.out; omega
              have z2 : ¬ 9223372036854775807 < O.size + TB.size + 1 := by have := HLK.out; omega
              obtain ⟨W1, hW1⟩ : ∃ W1, W1 = wr.alloc (.cells #[.int .i64 1, .bool false, .int .i64 k1, .int .i64 n1, .string s1, .slice a1 len1 cap1, .slice a2 len2 cap2] 39) := ⟨_, rfl⟩
              have HW1 : Hid (Below wr.heap.size wr W1) := by rw [hW1]; exact (Below.refl _ _).alloc (Nat.le_refl _) _
              have HR1 : Hid (RowAt W1 wr.heap.size #[.int .i64 1, .bool false, .int .i64 k1, .int .i64 n1, .string s1, .slice a1 len1 cap1, .slice a2 len2 cap2]) := by rw [hW1]; exact RowAt.new wr _ _
              have HWW : Hid (W1 = _) := hW1
              have HB2 : Hid (Below w.heap.size w W1) := bl_trans HBR.out HW1.out
              have HCB : Hid (∀ W' : World, Below W1.heap.size W1 W' → Calls Tryd.prog 12 #[.slice a2 len2 cap2] W' fun e w'' => e = .returned (.string TB) ∧ Below W'.heap.size W' w'') := fun W' hbb => by
                have hb3 := bl_trans HB2.out hbb
                rw [hTB]
                exact blockRef_c m B body _ W' (hbody.below (hb3.mono HBB.out)) (Nat.le_trans HBB.out hb3.size) hall (by omega) (HP.out.stays hb3)
              clear hW1 hpat hbody hh hall HUP HSZ hsz hTB tB e HL HOK
              go_wp2_with fail
              rw [← HWW.out]
              clear HWW q0 q1 q2 q3 q4 q5 q6 q7
              refine Calls.mono (HCB.out _ (Below.refl _ _)) ?_
              rintro e w3 ⟨rfl, hb3⟩
              have HB4 : Hid (Below W.heap.size W w3) := bl_trans HRB.out (bl_trans HW1.out hb3)
              clear hb3 HCB HR1
              go_wp2_with fail
              go_roundw
              case rel => exact ⟨i + 1, _, by omega, rfl, by go_num, HN, HB4⟩
              case measure => simp [intOf]; omega
            | true =>
              have e : ruT m ⟨1, true, pat, body⟩ = exT m pat ++ [32] ++ blL (smT m) body := by simp [ruT]
              rw [e] at HUP HSZ
              have hsz := HSZ.out
              simp only [List.length_append, List.length_cons, List.length_nil] at hsz
              obtain ⟨TB, hTB⟩ : ∃ T, T = bs (blL (smT m) body) := ⟨_, rfl⟩
              have tB : TB.size ≤ 10000000 := by rw [hTB, bs_size]; omega
              obtain ⟨TE, hTE⟩ : ∃ T, T = bs (exT m pat) := ⟨_, rfl⟩
              have tE : TE.size ≤ 10000000 := by rw [hTE, bs_size]; omega
              have HN : Hid ((O ++ TE ++ ⟨#[32]⟩ ++ TB ++ ⟨#[10]⟩).toList = rup m l (i + 1)) := by
                unfold Hid
                rw [HUP.out]
                simp only [toL_append, toL_mk, HO.out, hTB, hTE, bs_list, List.append_assoc]
              have z1 : ¬ 9223372036854775807 < O.size + TE.size := by have := HLK.out; omega
              have z2 : ¬ 9223372036854775807 < O.size + TE.size + 1 := by have := HLK.out; omega
              have z3 : ¬ 9223372036854775807 < O.size + TE.size + 1 + TB.size := by have := HLK.out; omega
              have z4 : ¬ 9223372036854775807 < O.size + TE.size + 1 + TB.size + 1 := by have := HLK.out; omega
              obtain ⟨W1, hW1⟩ : ∃ W1, W1 = wr.alloc (.cells #[.int .i64 1, .bool true, .int .i64 k1, .int .i64 n1, .string s1, .slice a1 len1 cap1, .slice a2 len2 cap2] 39) := ⟨_, rfl⟩
              have HW1 : Hid (Below wr.heap.size wr W1) := by rw [hW1]; exact (Below.refl _ _).alloc (Nat.le_refl _) _
              have HR1 : Hid (RowAt W1 wr.heap.size #[.int .i64 1, .bool true, .int .i64 k1, .int .i64 n1, .string s1, .slice a1 len1 cap1, .slice a2 len2 cap2]) := by rw [hW1]; exact RowAt.new wr _ _
              have HWW : Hid (W1 = _) := hW1
              have HB2 : Hid (Below w.heap.size w W1) := bl_trans HBR.out HW1.out
              have HCB : Hid (∀ W' : World, Below W1.heap.size W1 W' → Calls Tryd.prog 12 #[.slice a2 len2 cap2] W' fun e w'' => e = .returned (.string TB) ∧ Below W'.heap.size W' w'') := fun W' hbb => by
                have hb3 := bl_trans HB2.out hbb
                rw [hTB]
                exact blockRef_c m B body _ W' (hbody.below (hb3.mono HBB.out)) (Nat.le_trans HBB.out hb3.size) hall (by omega) (HP.out.stays hb3)
              have HCE : Hid (Calls Tryd.prog 11 #[.agg #[.int .i64 k1, .int .i64 n1, .string s1, .slice a1 len1 cap1]] W1 fun e w'' => e = .returned (.string TE) ∧ Below W1.heap.size W1 w'') := by
                rw [hTE]
                exact exprRef_c m B pat _ W1 (hpat.below (HB2.out.mono HBB.out)) (Nat.le_trans HBB.out HB2.out.size) (hh rfl).2 (by omega) (HP.out.stays HB2.out)
              clear hW1 hpat hbody hh hall HUP HSZ hsz hTB tB e HL HOK hTE tE
              go_wp2_with fail
              rw [← HWW.out]
              clear HWW q0 q1 q2 q3 q4 q5 q6 q7
              refine Calls.mono HCE.out ?_
              rintro e w2 ⟨rfl, hb2⟩
              have HB3 : Hid (Below W1.heap.size W1 w2) := hb2
              have HR2 : Hid (RowAt w2 wr.heap.size _) := HR1.out.below hb2
              have q6 := HR2.out.cell 6
              simp only [List.getElem?_toArray, List.getElem?_cons_zero, List.getElem?_cons_succ] at q6
              clear hb2 HCE HR2 HR1
              go_wp2_with fail
              refine Calls.mono (HCB.out _ HB3.out) ?_
              rintro e w3 ⟨rfl, hb3⟩
              have HB4 : Hid (Below W.heap.size W w3) := bl_trans HRB.out (bl_trans HW1.out (bl_trans HB3.out hb3))
              clear hb3 HCB q6
              go_wp2_with fail
              go_roundw
              case rel => exact ⟨i + 1, _, by omega, rfl, by go_num, HN, HB4⟩
              case measure => simp [intOf]; omega
      · have i1 : ¬ (i : Int) < (l.length : Int) := by omega
        have HE : Hid (O = txP m l) := by
          unfold Hid
          rw [HTX.out]
          exact bs_of (by rw [HO.out, rup_all m l i hk2])
        go_wp2_with fail
        go_ret2
        exact ⟨ret_two HE.out HCK.out.symm, bl_trans HW.out HRB.out⟩
  · have HTX : Hid (txP m l = ⟨#[]⟩) := by unfold txP Hid; rw [if_neg hck]
    have hck2 : (ckP m l == 0) = false := by simpa using hck
    go_wp2_with fail
    go_ret2
    exact ⟨ret_two HTX.out.symm rfl, bl_trans HW.out HB1.out⟩
end Go.Proofs.YtjconmohifaliaaDoor
