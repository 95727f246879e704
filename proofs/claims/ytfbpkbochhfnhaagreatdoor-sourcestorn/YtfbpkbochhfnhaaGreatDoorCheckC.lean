/-
  Contract of syntax.Check (P2.4).
-/
import Derived.Test.YtfbpkbochhfnhaaGreatDoorCatch
namespace Go.Proofs.YtfbpkbochhfnhaaGreatDoor
open Go.ChangeShapes Go.WideShapes Go.ChangeAt Go.RowKit Go.Joins Go.Maps
set_option linter.unusedVariables false

theorem RuA.shape {B : Nat} {w : World} {m : Nat} {cs : List Value} {r : Ru} (h : RuA B w m cs r) : ∃ (k : Int) (h1 : Bool) (k1 n1 : Int) (s1 : ByteArray) (a1 : Option Addr) (len1 cap1 : Nat) (a2 : Option Addr) (len2 cap2 : Nat),
    cs = [.int .i64 k, .bool h1, .int .i64 k1, .int .i64 n1, .string s1, .slice a1 len1 cap1, .slice a2 len2 cap2] := by
  obtain ⟨c0, c1, c2, c3, v, rfl, _, hp, a2, cap2, rfl, _⟩ := h
  obtain ⟨k1, n1, s1, a1, len1, cap1, e⟩ := hp.shape
  simp only [List.cons.injEq, and_true] at e
  obtain ⟨rfl, rfl, rfl, rfl⟩ := e
  exact ⟨_, _, k1, n1, s1, a1, len1, cap1, a2, _, cap2, rfl⟩

theorem made (w : World) (o1 o2 : Obj) (t : TypeId) (hm : o1 = o1) : Chk (w.heap.size + 1 + 1 + 1) (w.heap.size + 1 + 1) 0 ((((w.alloc o1).alloc o2).alloc (Obj.map #[] 0)).alloc (Obj.cells #[Value.map (some (w.heap.size + 1 + 1)), Value.int .i64 0, Value.int .i64 0] t)) ⟨fun _ => 0, 0⟩ 0 := by
  have hs : ((w.alloc o1).alloc o2).heap.size = w.heap.size + 1 + 1 := by simp
  have hs2 : (((w.alloc o1).alloc o2).alloc (Obj.map #[] 0)).heap.size = w.heap.size + 1 + 1 + 1 := by simp
  have hr := RowAt.new (((w.alloc o1).alloc o2).alloc (Obj.map #[] 0)) #[Value.map (some (w.heap.size + 1 + 1)), Value.int .i64 0, Value.int .i64 0] t
  rw [hs2] at hr
  have hf : ∀ o, ((((w.alloc o1).alloc o2).alloc (Obj.map #[] 0)).alloc (Obj.cells #[Value.map (some (w.heap.size + 1 + 1)), Value.int .i64 0, Value.int .i64 0] t)).frozen? ⟨w.heap.size + 1 + 1 + 1, o, none⟩ = false := fun o => by
    rw [← hs2]
    simp [go_sem]
  have hm := World.ownsMap_made (H := Unit) ((w.alloc o1).alloc o2) Tryz.prog 9 (plainElem Tryz.prog 3)
  rw [hs] at hm
  exact ⟨by omega, hr.cell 0, hr.cell 1, hr.cell 2, hf 1, hf 2, by show (0 : Int) ≤ 0; omega, by show (0 : Int) ≤ 4000; omega, 0, _, by show 0 + 0 ≤ 2 * (0 : Int).toNat; omega, hm.alloc _, fun s => rfl⟩

set_option maxHeartbeats 8000000 in
theorem check_none (m : Nat) (a : Option Addr) (cap : Nat) (w : World) :
    Calls Tryz.prog 23 #[.agg #[.slice a ([] : List Ru).length cap]] w fun e w' => e = .returned (.int .i64 (ckP m [])) ∧ Below w.heap.size w w' := by
  have hmf : ∀ (fn : Fn) (first cap : Array Value) (w : World), (Instr.makeFunc fn first cap).run Tryz.prog w = .ok (.func fn first cap) w := fun _ _ _ _ => rfl
  have hmm := @run_makeMap Tryz.prog
  have HN : Hid (ckP m [] = 0) := rfl
  show Calls Tryz.prog 23 #[.agg #[.slice a 0 cap]] w _
  go_enter_defers Tryz.func23, Tryz.ntmps23
  go_wp2_with fail
  refine (refuse_f 1 _).mono ?_
  rintro e w1 ⟨rfl, he1⟩
  subst he1
  go_wp2_with fail
  go_loop [17] (fun v => v = .int .i64 0) (fun _ => 0)
  case atStart => rfl
  case round =>
    subst hrel
    go_wp2_with fail
    refine leaves_cons (f := 42) (args := #[.pointer (some ⟨w.heap.size + 1, 0, none⟩)]) (by simp) (by simp [go_sem]) ?_
    refine (catch_idle ⟨w.heap.size + 1, 0, none⟩ _).mono ?_
    rintro e u' w'' ⟨rfl, rfl, rfl⟩
    simp [Leaves, settle, results, Tryz.results23, go_sem]
    exact ⟨HN.out.symm, (((((Below.refl _ _).alloc (Nat.le_refl _) _).alloc (by simp; try omega) _).alloc (by simp; try omega) _).alloc (by simp; try omega) _)⟩

set_option maxHeartbeats 8000000 in
theorem check_some (m B : Nat) (l : List Ru) (a : Option Addr) (cap : Nat) (w : World) (hv : Sl w B 7 (.slice a l.length cap) l.length (fun i c => ∃ x, l[i]? = some x ∧ RuA B w m c x)) (hT : Tb B w) (hB : B ≤ w.heap.size) (h20 : ¬ 20 < l.length) (h0 : 0 < l.length) :
    Calls Tryz.prog 23 #[.agg #[.slice a l.length cap]] w fun e w' => e = .returned (.int .i64 (ckP m l)) ∧ Below w.heap.size w w' := by
  obtain ⟨a', cap', e1, hl, hs⟩ := hv
  simp only [Value.slice.injEq] at e1
  obtain ⟨rfl, _, rfl⟩ := e1
  obtain ⟨b, off, rfl, hb, hi⟩ := hs h0
  have HI : Hid (∀ i, i < l.length → ∃ cs : List Value, cs.length = 7 ∧ (∀ j, j < 7 → w.cell? ⟨b, off + i * 7 + j, none⟩ = cs[j]?) ∧ ∃ x, l[i]? = some x ∧ RuA B w m cs x) := hi
  have HT : Hid (Tb B w) := hT
  have HB : Hid (B ≤ w.heap.size) := hB
  have HL : Hid (¬ 20 < l.length) := h20
  unfold maxLen at hl
  clear hT hB hs hi h0 h20
  have hmf : ∀ (fn : Fn) (first cap : Array Value) (w : World), (Instr.makeFunc fn first cap).run Tryz.prog w = .ok (.func fn first cap) w := fun _ _ _ _ => rfl
  have hmm := @run_makeMap Tryz.prog
  go_enter_defers Tryz.func23, Tryz.ntmps23
  go_wp2_with fail
  rw [decide_eq_false (show ¬ (20 : Int) < (l.length : Int) by have := HL.out; omega)]
  refine (refuse_f 1 _).mono ?_
  rintro e w1 ⟨rfl, he1⟩
  subst he1
  go_wp2_with fail
  have HC : Hid (Chk (w.heap.size + 1 + 1 + 1) (w.heap.size + 1 + 1) 0 ((((w.alloc (Obj.cells #[Value.slice (some ⟨b, off, none⟩) l.length cap] 28)).alloc (Obj.cells #[Value.int .i64 0] 29)).alloc (Obj.map #[] 0)).alloc (Obj.cells #[Value.map (some (w.heap.size + 1 + 1)), Value.int .i64 0, Value.int .i64 0] 93)) ⟨fun _ => 0, 0⟩ 0) := made w _ _ _ rfl
  have HE : Hid (((((w.alloc (Obj.cells #[Value.slice (some ⟨b, off, none⟩) l.length cap] 28)).alloc (Obj.cells #[Value.int .i64 0] 29)).alloc (Obj.map #[] 0)).alloc (Obj.cells #[Value.map (some (w.heap.size + 1 + 1)), Value.int .i64 0, Value.int .i64 0] 93)).cell? ⟨w.heap.size + 1, 0, none⟩ = some (.int .i64 0) ∧ ((((w.alloc (Obj.cells #[Value.slice (some ⟨b, off, none⟩) l.length cap] 28)).alloc (Obj.cells #[Value.int .i64 0] 29)).alloc (Obj.map #[] 0)).alloc (Obj.cells #[Value.map (some (w.heap.size + 1 + 1)), Value.int .i64 0, Value.int .i64 0] 93)).frozen? ⟨w.heap.size + 1, 0, none⟩ = false ∧ w.heap.size + 1 < ((((w.alloc (Obj.cells #[Value.slice (some ⟨b, off, none⟩) l.length cap] 28)).alloc (Obj.cells #[Value.int .i64 0] 29)).alloc (Obj.map #[] 0)).alloc (Obj.cells #[Value.map (some (w.heap.size + 1 + 1)), Value.int .i64 0, Value.int .i64 0] 93)).heap.size) := ⟨by simp [go_sem], by simp [go_sem], by simp⟩
  have HW : Hid (Below w.heap.size w ((((w.alloc (Obj.cells #[Value.slice (some ⟨b, off, none⟩) l.length cap] 28)).alloc (Obj.cells #[Value.int .i64 0] 29)).alloc (Obj.map #[] 0)).alloc (Obj.cells #[Value.map (some (w.heap.size + 1 + 1)), Value.int .i64 0, Value.int .i64 0] 93))) := (((((Below.refl _ _).alloc (Nat.le_refl _) _).alloc (by simp; try omega) _).alloc (by simp; try omega) _).alloc (by simp; try omega) _)
  generalize ((((w.alloc (Obj.cells #[Value.slice (some ⟨b, off, none⟩) l.length cap] 28)).alloc (Obj.cells #[Value.int .i64 0] 29)).alloc (Obj.map #[] 0)).alloc (Obj.cells #[Value.map (some (w.heap.size + 1 + 1)), Value.int .i64 0, Value.int .i64 0] 93)) = w4 at HC HE HW ⊢
  go_loopw [17] (fun v wr => ∃ (i : Nat) (wh : Int) (s : St), i ≤ l.length ∧ v = .int .i64 i ∧ Hid (But (w.heap.size + 1 + 1 + 1) (w.heap.size + 1 + 1) w4 wr ∧ Chk (w.heap.size + 1 + 1 + 1) (w.heap.size + 1 + 1) wh wr s 0 ∧ runL (ckR m) (l.take i) ⟨fun _ => 0, 0⟩ = .ok s)) (fun v _ => l.length - (intOf v).toNat)
  case atStart => exact ⟨0, 0, _, by omega, rfl, But.refl _ _ _, HC.out, rfl⟩
  case round =>
    obtain ⟨i, wh, s, hil, rfl, HR⟩ := hrel
    have HBW : Hid (Below B w wr) := (HW.out.mono HB.out).trans (HR.out.1.below (by have := HW.out.size; have := HB.out; omega) (by have := HB.out; omega) (by have := HB.out; omega))
    by_cases hlt : i < l.length
    · have i1 : (i : Int) < (l.length : Int) := by omega
      have i2 : (0 : Int) ≤ (i : Int) := by omega
      obtain ⟨cs, hcl, hcell, x, hx, hex⟩ := HI.out i hlt
      obtain ⟨k0, h1, k1, n1, s1, a1, len1, cap1, a2, len2, cap2, rfl⟩ := hex.shape
      have q0 : wr.cell? ⟨b, off + i * 7, none⟩ = some (.int .i64 k0) := by rw [HBW.out.cell (p := ⟨b, off + i * 7, none⟩) hb]; simpa using hcell 0 (by omega)
      have q1 : wr.cell? ⟨b, off + i * 7 + 1, none⟩ = some (.bool h1) := by rw [HBW.out.cell (p := ⟨b, off + i * 7 + 1, none⟩) hb]; simpa using hcell 1 (by omega)
      have q2 : wr.cell? ⟨b, off + i * 7 + 2, none⟩ = some (.int .i64 k1) := by rw [HBW.out.cell (p := ⟨b, off + i * 7 + 2, none⟩) hb]; simpa using hcell 2 (by omega)
      have q3 : wr.cell? ⟨b, off + i * 7 + 3, none⟩ = some (.int .i64 n1) := by rw [HBW.out.cell (p := ⟨b, off + i * 7 + 3, none⟩) hb]; simpa using hcell 3 (by omega)
      have q4 : wr.cell? ⟨b, off + i * 7 + 4, none⟩ = some (.string s1) := by rw [HBW.out.cell (p := ⟨b, off + i * 7 + 4, none⟩) hb]; simpa using hcell 4 (by omega)
      have q5 : wr.cell? ⟨b, off + i * 7 + 5, none⟩ = some (.slice a1 len1 cap1) := by rw [HBW.out.cell (p := ⟨b, off + i * 7 + 5, none⟩) hb]; simpa using hcell 5 (by omega)
      have q6 : wr.cell? ⟨b, off + i * 7 + 6, none⟩ = some (.slice a2 len2 cap2) := by rw [HBW.out.cell (p := ⟨b, off + i * 7 + 6, none⟩) hb]; simpa using hcell 6 (by omega)
      have HX : Hid (l[i] = x) := by rw [List.getElem?_eq_getElem hlt] at hx; exact Option.some.inj hx
      have HEX : Hid (RuA B w m [.int .i64 k0, .bool h1, .int .i64 k1, .int .i64 n1, .string s1, .slice a1 len1 cap1, .slice a2 len2 cap2] x) := hex
      clear hcell hx hex hcl
      go_wp2_with fail
      refine (rule_c m B _ _ wh x [.int .i64 k0, .bool h1, .int .i64 k1, .int .i64 n1, .string s1, .slice a1 len1 cap1, .slice a2 len2 cap2] s _ ((HEX.out.below HBW.out).below ((Below.refl _ _).alloc (by have := HBW.out.size; have := HB.out; omega) _)) (HR.out.2.1.alloc _) ((HT.out.below HBW.out).below ((Below.refl _ _).alloc (by have := HBW.out.size; have := HB.out; omega) _)) (by have := HB.out; omega) (by have := HB.out; omega)).mono ?_
      rintro e w5 ⟨hb5, hr⟩
      have HO : Hid (But (w.heap.size + 1 + 1 + 1) (w.heap.size + 1 + 1) w4 w5) := HR.out.1.trans ((But.of_below ((Below.refl _ _).alloc (Nat.le_refl _) _)).trans hb5)
      clear hb5 q0 q1 q2 q3 q4 q5 q6
      cases hR : ckR m x s with
      | ok s' =>
        rw [hR] at hr
        obtain ⟨rfl, hc1⟩ := hr
        have HN : Hid (But (w.heap.size + 1 + 1 + 1) (w.heap.size + 1 + 1) w4 w5 ∧ Chk (w.heap.size + 1 + 1 + 1) (w.heap.size + 1 + 1) x.when w5 s' 0 ∧ runL (ckR m) (l.take (i + 1)) ⟨fun _ => 0, 0⟩ = .ok s') := ⟨HO.out, hc1, runL_step hlt HR.out.2.2 (by rw [HX.out]; exact hR)⟩
        clear hc1 hR
        go_wp2_with fail
        go_roundw
        case rel => exact ⟨i + 1, x.when, s', by omega, by go_num, HN⟩
        case measure => simp [intOf]; omega
      | error er =>
        rw [hR] at hr
        subst hr
        have HN : Hid (ckP m l = er) := by
          have := runL_stop hlt HR.out.2.2 (by rw [HX.out]; exact hR)
          simp only [Hid, ckP]
          rw [if_neg HL.out, this]
        clear hR
        have ce : w5.cell? ⟨w.heap.size + 1, 0, none⟩ = some (.int .i64 0) := (HO.out.cell HE.out.2.2 (by omega) (by omega) 0).trans HE.out.1
        have fe : w5.frozen? ⟨w.heap.size + 1, 0, none⟩ = false := (World.frozen?_of_block (a := ⟨w.heap.size + 1, 0, none⟩) (HO.out.block (w.heap.size + 1) HE.out.2.2 (by omega) (by omega))).trans HE.out.2.1
        go_wp2_with fail
        refine leaves_cons (f := 42) (args := #[.pointer (some ⟨w.heap.size + 1, 0, none⟩)]) (by simp) (by simp [go_sem]) ?_
        refine (catch_panicking ⟨w.heap.size + 1, 0, none⟩ 0 er [] _ ce fe).mono ?_
        rintro e u' w'' ⟨rfl, rfl, rfl⟩
        simp [Leaves, settle, results, Tryz.results23, go_sem, ce]
        exact ⟨HN.out.symm, (HW.out.trans (HO.out.below HW.out.size (by omega) (by omega))).setCell (by show w.heap.size ≤ w.heap.size + 1; omega) _⟩
    · have i1 : ¬ (i : Int) < (l.length : Int) := by omega
      have HN : Hid (ckP m l = 0) := by
        have := runL_all hlt HR.out.2.2
        simp only [Hid, ckP]
        rw [if_neg HL.out, this]
      have ce : wr.cell? ⟨w.heap.size + 1, 0, none⟩ = some (.int .i64 0) := (HR.out.1.cell HE.out.2.2 (by omega) (by omega) 0).trans HE.out.1
      have fe : wr.frozen? ⟨w.heap.size + 1, 0, none⟩ = false := (World.frozen?_of_block (a := ⟨w.heap.size + 1, 0, none⟩) (HR.out.1.block (w.heap.size + 1) HE.out.2.2 (by omega) (by omega))).trans HE.out.2.1
      go_wp2_with fail
      refine leaves_cons (f := 42) (args := #[.pointer (some ⟨w.heap.size + 1, 0, none⟩)]) (by simp) (by simp [go_sem]) ?_
      refine (catch_idle ⟨w.heap.size + 1, 0, none⟩ _).mono ?_
      rintro e u' w'' ⟨rfl, rfl, rfl⟩
      simp [Leaves, settle, results, Tryz.results23, go_sem, ce]
      exact ⟨HN.out.symm, (HW.out.trans (HR.out.1.below HW.out.size (by omega) (by omega))).setCell (by show w.heap.size ≤ w.heap.size + 1; omega) _⟩

set_option maxHeartbeats 8000000 in
theorem check_c (m B : Nat) (l : List Ru) (v : Value) (w : World) (hv : Sl w B 7 v l.length (fun i c => ∃ x, l[i]? = some x ∧ RuA B w m c x)) (hT : Tb B w) (hB : B ≤ w.heap.size) :
    Calls Tryz.prog 23 #[.agg #[v]] w fun e w' => e = .returned (.int .i64 (ckP m l)) ∧ Below w.heap.size w w' := by
  have HV : Hid (Sl w B 7 v l.length (fun i c => ∃ x, l[i]? = some x ∧ RuA B w m c x)) := hv
  obtain ⟨a, cap, rfl, hl, hs⟩ := hv
  have HT : Hid (Tb B w) := hT
  have HB : Hid (B ≤ w.heap.size) := hB
  unfold maxLen at hl
  clear hT hB
  have hmf : ∀ (fn : Fn) (first cap : Array Value) (w : World), (Instr.makeFunc fn first cap).run Tryz.prog w = .ok (.func fn first cap) w := fun _ _ _ _ => rfl
  have hmm := @run_makeMap Tryz.prog
  by_cases h20 : 20 < (l.length : Int)
  · have HN : Hid (ckP m l = 1) := by simp only [Hid, ckP]; rw [if_pos (by omega)]
    go_enter_defers Tryz.func23, Tryz.ntmps23
    go_wp2_with fail
    refine (refuse_t 1 _).mono ?_
    rintro e w1 ⟨rfl, rfl⟩
    go_wp2_with fail
    refine leaves_cons (f := 42) (args := #[.pointer (some ⟨w.heap.size + 1, 0, none⟩)]) (by simp) (by simp [go_sem]) ?_
    refine (catch_panicking ⟨w.heap.size + 1, 0, none⟩ 0 1 [] _ ?_ ?_).mono ?_
    · simp [go_sem]
    · simp [go_sem]
    rintro e u' w'' ⟨rfl, rfl, rfl⟩
    simp [Leaves, settle, results, Tryz.results23, go_sem]
    refine ⟨HN.out.symm, ?_⟩
    exact ((Below.refl _ _).alloc (Nat.le_refl _) _).alloc (by simp) _
  · have HL : Hid (¬ 20 < l.length) := by unfold Hid; omega
    by_cases h0 : 0 < l.length
    · exact check_some m B l a cap w HV.out HT.out HB.out HL.out h0
    · have hl0 : l = [] := List.eq_nil_of_length_eq_zero (by omega)
      subst hl0
      exact check_none m a cap w
end Go.Proofs.YtfbpkbochhfnhaaGreatDoor
