/-
  Contracts of the census' variable and list.
-/
import Derived.Test.YtjconmohifaliaaDoorRefB
namespace Go.Proofs.YtjconmohifaliaaDoor
open Go.ChangeShapes Go.WideShapes Go.ChangeAt Go.RowKit Go.Joins
set_option linter.unusedVariables false

theorem infoS : (Tryd.prog.info? 9).map (fun i => (i.zero, i.size, i.bytes)) = some (some (.string ⟨#[]⟩), 1, 16) := by kernel_rfl

theorem own_shape {w : World} {base : Nat} {e : TypeId} {v : Value} {n : Nat} {xs : List Value} (h : w.ownsRow base e 1 v (n + 1) xs) : ∃ g cap, v = .slice (some ⟨g, 0, none⟩) (n + 1) cap := by
  rcases h.2 with ⟨_, h0⟩ | ⟨g, cap, cur, rfl, _⟩
  · cases h0
  · exact ⟨g, cap, rfl⟩

theorem grown_frozen {w w' : World} {row : Option Nat} (hg : w.grownBy w' row) {a : Addr} (ha : a.block < w.heap.size) (hne : some a.block ≠ row) : w'.frozen? a = w.frozen? a := World.frozen?_of_block (hg.block a.block ha hne)

theorem nameR_ok {s : ByteArray} {K : Int} {st : St} (hn : nameB s = true) (h : st.nm s = 0 ∨ st.nm s = K) : ∃ st', nameR s K st = .ok st' ∧ st'.nodes = st.nodes ∧ ∀ t, st'.nm t = if t = s then K else st.nm t := by
  by_cases h0 : st.nm s = 0
  · exact ⟨⟨fun t => if t = s then K else st.nm t, st.nodes⟩, by simp [nameR, hn, h0], rfl, fun t => rfl⟩
  · have h1 : st.nm s = K := by rcases h with h | h; exact absurd h h0; exact h
    refine ⟨st, by unfold nameR; rw [if_neg (by simp [hn]), if_neg h0, if_pos h1], rfl, fun t => ?_⟩
    by_cases e : t = s
    · rw [if_pos e, e, h1]
    · rw [if_neg e]

theorem relV {st st' : St} {xs ys : List ByteArray} {s : ByteArray} (h : Rel st xs ys) (hn : ¬ s ∈ ys) (e : ∀ t, st'.nm t = if t = s then 1 else st.nm t) : Rel st' (xs ++ [s]) ys := by
  refine ⟨fun t => ?_, fun t => ?_, fun t => ?_⟩
  · rw [e t]
    by_cases ht : t = s
    · simp [ht]
    · rw [if_neg ht, ← h.1 t]; simp [ht]
  · rw [e t]
    by_cases ht : t = s
    · rw [if_pos ht, ht]; simp [hn]
    · rw [if_neg ht, ← h.2.1 t]
  · rw [e t]
    by_cases ht : t = s
    · rw [if_pos ht]; omega
    · rw [if_neg ht]; exact h.2.2 t

theorem relL {st st' : St} {xs ys : List ByteArray} {s : ByteArray} (h : Rel st xs ys) (hn : ¬ s ∈ xs) (e : ∀ t, st'.nm t = if t = s then 2 else st.nm t) : Rel st' xs (ys ++ [s]) := by
  refine ⟨fun t => ?_, fun t => ?_, fun t => ?_⟩
  · rw [e t]
    by_cases ht : t = s
    · rw [if_pos ht, ht]; simp [hn]
    · rw [if_neg ht, ← h.1 t]
  · rw [e t]
    by_cases ht : t = s
    · simp [ht]
    · rw [if_neg ht, ← h.2.1 t]; simp [ht]
  · rw [e t]
    by_cases ht : t = s
    · rw [if_pos ht]; omega
    · rw [if_neg ht]; exact h.2.2 t

/-- ask, where it is so and nothing was wrong: nothing turns. -/
theorem ask_same (cb j : Nat) (when er : Int) (w : World) (c : Value × Value) (st : St) (h : CenA cb when w c j (.ok st)) :
    Calls Tryd.prog 19 #[.pointer (some ⟨cb, 0, none⟩), .bool true, .int .i64 er] w fun r w' => r = .returned (.tuple #[]) ∧ w' = w := by
  obtain ⟨xs, ys, hc, _⟩ := h
  have c4 := hc.c4
  clear hc
  go_enter Tryd.func19, Tryd.ntmps19
  go_wp2_with fail
  go_end0
  exact ⟨rfl, rfl⟩

set_option maxHeartbeats 8000000 in
theorem variable_c (cb j : Nat) (when : Int) (s : ByteArray) (w : World) (c : Value × Value) (R : Res) (h : CenA cb when w c (j + 1) R) (hs : s.size ≤ maxLen) :
    Calls Tryd.prog 38 #[.pointer (some ⟨cb, 0, none⟩), .string s] w (OutC cb when j w c (bindR R (nameR s 1))) := by
  have HS : Hid (s.size ≤ maxLen) := hs
  have H : Hid (CenA cb when w c (j + 1) R) := h
  clear hs
  obtain ⟨i0, hi, hz0, hz1, hz2⟩ := info_parts infoS
  have HI : Hid (Tryd.prog.info? 9 = some i0 ∧ i0.zero = some (.string ⟨#[]⟩) ∧ i0.size = 1 ∧ i0.bytes = 16) := ⟨hi, hz0, hz1, hz2⟩
  clear hi hz0 hz1 hz2
  have step : ∀ w1, Below w.heap.size w w1 → Calls Tryd.prog 19 #[.pointer (some ⟨cb, 0, none⟩), .bool (nameB s), .int .i64 4] w1 (OutC cb when (j + 1) w c (askR R (nameB s) 4)) := fun w1 hb =>
    (ask_c cb (j + 1) when 4 (nameB s) w1 c R (H.out.below hb) (by decide)).mono fun e w2 ⟨he, c', h1, h2⟩ => ⟨he, c', (Fr.of_below hb).trans h1, h2⟩
  have STEP : Hid (∀ w1, Below w.heap.size w w1 → Calls Tryd.prog 19 #[.pointer (some ⟨cb, 0, none⟩), .bool (nameB s), .int .i64 4] w1 (OutC cb when (j + 1) w c (askR R (nameB s) 4))) := step
  clear step h
  go_enter Tryd.func38, Tryd.ntmps38
  go_wp2_with fail
  refine (nameMay_c s _ HS.out).mono ?_
  rintro e w1 ⟨rfl, hb1⟩
  have HB1 : Hid (Below w.heap.size w w1) := hb1
  clear hb1
  go_wp2_with fail
  refine (STEP.out _ HB1.out).mono ?_
  rintro e w2 ⟨rfl, c2, hf2, hc2⟩
  have HF2 : Hid (Fr cb w c w2 c2) := hf2
  clear hf2 STEP HB1
  cases hR : askR R (nameB s) 4 with
  | error x =>
    rw [hR] at hc2
    have HC2 : Hid (CenA cb when w2 c2 (j + 1) (.error x)) := hc2
    obtain ⟨hx, xs, ys, n, hcn⟩ := hc2
    have HN : Hid (bindR R (nameR s 1) = .error x) := by
      cases R with
      | error y => simpa [askR, bindR, Hid] using hR
      | ok st =>
        cases hnb : nameB s with
        | true => simp [askR, hnb] at hR
        | false =>
          simp [askR, hnb] at hR
          subst hR
          simp [bindR, nameR, hnb, Hid]
    have cc := hcn.c1
    have RO : Hid (w2.ownsRow (cb + 1) 9 1 c2.2 ys.length (strs ys)) := hcn.rl
    clear hcn hR hx
    go_wp2_with fail
    refine (isIn_c (cb + 1) ys _ s _ RO.out).mono ?_
    rintro e w3 ⟨rfl, he3⟩
    rw [he3]
    clear he3 w3
    go_wp2_with fail
    refine (ask_c cb (j + 1) when 6 _ _ c2 (.error x) HC2.out (by decide)).mono ?_
    rintro e w4 ⟨rfl, c4, hf4, hc4⟩
    have HF4 : Hid (Fr cb w c w4 c4) := HF2.out.trans hf4
    have HC4 : Hid (CenA cb when w4 c4 (j + 1) (.error x)) := hc4
    obtain ⟨hx, xs4, ys4, n4, hcn4⟩ := hc4
    have e4 := hcn4.c4
    have bx : (x == 0) = false := by simpa using hx
    clear hf4 hcn4 hx cc
    go_wp2_with fail
    go_end0
    rw [HN.out]
    exact ⟨rfl, c4, HF4.out, HC4.out.less (by omega)⟩
  | ok st =>
    rw [hR] at hc2
    have HRR : Hid (R = .ok st ∧ nameB s = true) := by
      cases R with
      | error y => simp [askR] at hR
      | ok st0 =>
        cases hnb : nameB s with
        | false => simp [askR, hnb] at hR
        | true =>
          simp [askR, hnb] at hR
          rw [hR]
          exact ⟨rfl, rfl⟩
    have HC2 : Hid (CenA cb when w2 c2 (j + 1) (.ok st)) := hc2
    obtain ⟨xs, ys, hcn, hrel, hlen, hlo, hhi⟩ := hc2
    have HCN : Hid (Cn cb w2 c2 xs ys st.nodes when 0) := hcn
    have HREL : Hid (Rel st xs ys) := hrel
    have HLEN : Hid (xs.length + ys.length + (j + 1) ≤ 2 * st.nodes.toNat ∧ 0 ≤ st.nodes ∧ st.nodes ≤ 4000) := ⟨hlen, hlo, hhi⟩
    have cc := hcn.c1
    have RO : Hid (w2.ownsRow (cb + 1) 9 1 c2.2 ys.length (strs ys)) := hcn.rl
    clear hR hlen hlo hhi hrel hcn
    go_wp2_with fail
    refine (isIn_c (cb + 1) ys _ s _ RO.out).mono ?_
    rintro e w3 ⟨rfl, he3⟩
    rw [he3]
    clear he3 w3
    cases hm : memB ys s with
    | true =>
      have HN : Hid (bindR R (nameR s 1) = .error 6) := by
        rw [HRR.out.1]
        have h1 : st.nm s = 2 := (HREL.out.2.1 s).1 (memB_iff.1 hm)
        simp [Hid, bindR, nameR, HRR.out.2, h1]
      clear hm
      go_wp2_with fail
      refine (ask_c cb (j + 1) when 6 _ _ c2 (.ok st) HC2.out (by decide)).mono ?_
      rintro e w4 ⟨rfl, c4, hf4, hc4⟩
      have HF4 : Hid (Fr cb w c w4 c4) := HF2.out.trans hf4
      have HC4 : Hid (CenA cb when w4 c4 (j + 1) (.error 6)) := hc4
      obtain ⟨hx, xs4, ys4, n4, hcn4⟩ := hc4
      have e4 := hcn4.c4
      clear hf4 hcn4 hx cc
      go_wp2_with fail
      go_end0
      rw [HN.out]
      exact ⟨rfl, c4, HF4.out, HC4.out.less (by omega)⟩
    | false =>
      have HM : Hid (¬ s ∈ ys) := fun h => by have := memB_iff.2 h; rw [hm] at this; cases this
      clear hm
      go_wp2_with fail
      refine (ask_same cb (j + 1) when 6 _ c2 st HC2.out).mono ?_
      rintro e w4 ⟨rfl, he4⟩
      rw [he4]
      clear he4 w4
      have e4 := HCN.out.c4
      have cm := HCN.out.c0
      have fm := HCN.out.fz 0
      have hcb : cb < w2.heap.size := HCN.out.lt
      have hcb2 : ¬ cb = w2.heap.size := by omega
      clear cc
      go_wp2_with (first
        | (at_builtin; refine wpList_append_own_at _ rfl _ _ 56 rfl (cb + 1) 9 i0 (.string ⟨#[]⟩) 1 16 Tryd.underlying56 HI.out.1 HI.out.2.1 HI.out.2.2.1 HI.out.2.2.2 rfl (by decide) c2.1 xs.length (strs xs) rfl (HCN.out.rv.alloc _) ⟨w2.heap.size, 0, none⟩ 1 1 [.string s] rfl rfl (cell_one_new _ _ _) (by intro u hu; simp at hu; subst hu; rfl) (by have := HLEN.out; unfold maxLen; omega) (by have := HLEN.out; omega) (by simp; omega) ?_; intro v' w5 hown hgrow _ hloc; have HOWN : Hid (World.ownsRow w5 _ _ _ v' _ _) := hown; have HGROW : Hid (World.grownBy _ w5 _) := hgrow; have HLOC : Hid (v'.ownBlock = _ ∨ v'.ownBlock = _) := hloc; obtain ⟨g', cap', hv'⟩ := own_shape hown; subst hv'; have fw : w5.frozen? ⟨cb, 0, none⟩ = false := (grown_frozen (a := ⟨cb, 0, none⟩) hgrow (by simp; omega) (fun h1 => (HCN.out.low (Nat.le_refl _)).1 h1.symm)).trans (((Below.refl _ _).alloc (Nat.le_refl _) _).frozen (p := ⟨cb, 0, none⟩) hcb |>.trans fm); have cw := hgrow.cell (a := ⟨cb, 0, none⟩) (((Below.refl _ _).alloc (Nat.le_refl _) _).cell (p := ⟨cb, 0, none⟩) hcb |>.trans cm) (fun h1 => (HCN.out.low (Nat.le_refl _)).1 h1.symm); clear hown hgrow hloc))
      go_end0
      obtain ⟨hcn', hfr'⟩ := HCN.out.appV HOWN.out HGROW.out HLOC.out
      obtain ⟨st', e1, e2, e3⟩ := nameR_ok HRR.out.2 (show st.nm s = 0 ∨ st.nm s = 1 by
        have h1 := HREL.out.2.2 s
        have h2 : ¬ st.nm s = 2 := fun h => HM.out ((HREL.out.2.1 s).2 h)
        omega)
      have HN : bindR R (nameR s 1) = .ok st' := by rw [HRR.out.1]; exact e1
      rw [HN]
      exact ⟨rfl, _, HF2.out.trans hfr', _, _, (by rw [e2]; exact hcn'), relV HREL.out HM.out e3, by have := HLEN.out; rw [e2]; simp; omega, by rw [e2]; exact HLEN.out.2⟩

set_option maxHeartbeats 8000000 in
theorem list_c (cb j : Nat) (when : Int) (s : ByteArray) (w : World) (c : Value × Value) (R : Res) (h : CenA cb when w c (j + 1) R) (hs : s.size ≤ maxLen) :
    Calls Tryd.prog 39 #[.pointer (some ⟨cb, 0, none⟩), .string s] w (OutC cb when j w c (bindR R (nameR s 2))) := by
  have HS : Hid (s.size ≤ maxLen) := hs
  have H : Hid (CenA cb when w c (j + 1) R) := h
  clear hs
  obtain ⟨i0, hi, hz0, hz1, hz2⟩ := info_parts infoS
  have HI : Hid (Tryd.prog.info? 9 = some i0 ∧ i0.zero = some (.string ⟨#[]⟩) ∧ i0.size = 1 ∧ i0.bytes = 16) := ⟨hi, hz0, hz1, hz2⟩
  clear hi hz0 hz1 hz2
  have step : ∀ w1, Below w.heap.size w w1 → Calls Tryd.prog 19 #[.pointer (some ⟨cb, 0, none⟩), .bool (nameB s), .int .i64 4] w1 (OutC cb when (j + 1) w c (askR R (nameB s) 4)) := fun w1 hb =>
    (ask_c cb (j + 1) when 4 (nameB s) w1 c R (H.out.below hb) (by decide)).mono fun e w2 ⟨he, c', h1, h2⟩ => ⟨he, c', (Fr.of_below hb).trans h1, h2⟩
  have STEP : Hid (∀ w1, Below w.heap.size w w1 → Calls Tryd.prog 19 #[.pointer (some ⟨cb, 0, none⟩), .bool (nameB s), .int .i64 4] w1 (OutC cb when (j + 1) w c (askR R (nameB s) 4))) := step
  clear step h
  go_enter Tryd.func39, Tryd.ntmps39
  go_wp2_with fail
  refine (nameMay_c s _ HS.out).mono ?_
  rintro e w1 ⟨rfl, hb1⟩
  have HB1 : Hid (Below w.heap.size w w1) := hb1
  clear hb1
  go_wp2_with fail
  refine (STEP.out _ HB1.out).mono ?_
  rintro e w2 ⟨rfl, c2, hf2, hc2⟩
  have HF2 : Hid (Fr cb w c w2 c2) := hf2
  clear hf2 STEP HB1
  cases hR : askR R (nameB s) 4 with
  | error x =>
    rw [hR] at hc2
    have HC2 : Hid (CenA cb when w2 c2 (j + 1) (.error x)) := hc2
    obtain ⟨hx, xs, ys, n, hcn⟩ := hc2
    have HN : Hid (bindR R (nameR s 2) = .error x) := by
      cases R with
      | error y => simpa [askR, bindR, Hid] using hR
      | ok st =>
        cases hnb : nameB s with
        | true => simp [askR, hnb] at hR
        | false =>
          simp [askR, hnb] at hR
          subst hR
          simp [bindR, nameR, hnb, Hid]
    have cc := hcn.c0
    have RO : Hid (w2.ownsRow (cb + 1) 9 1 c2.1 xs.length (strs xs)) := hcn.rv
    clear hcn hR hx
    go_wp2_with fail
    refine (isIn_c (cb + 1) xs _ s _ RO.out).mono ?_
    rintro e w3 ⟨rfl, he3⟩
    rw [he3]
    clear he3 w3
    go_wp2_with fail
    refine (ask_c cb (j + 1) when 6 _ _ c2 (.error x) HC2.out (by decide)).mono ?_
    rintro e w4 ⟨rfl, c4, hf4, hc4⟩
    have HF4 : Hid (Fr cb w c w4 c4) := HF2.out.trans hf4
    have HC4 : Hid (CenA cb when w4 c4 (j + 1) (.error x)) := hc4
    obtain ⟨hx, xs4, ys4, n4, hcn4⟩ := hc4
    have e4 := hcn4.c4
    have bx : (x == 0) = false := by simpa using hx
    clear hf4 hcn4 hx cc
    go_wp2_with fail
    go_end0
    rw [HN.out]
    exact ⟨rfl, c4, HF4.out, HC4.out.less (by omega)⟩
  | ok st =>
    rw [hR] at hc2
    have HRR : Hid (R = .ok st ∧ nameB s = true) := by
      cases R with
      | error y => simp [askR] at hR
      | ok st0 =>
        cases hnb : nameB s with
        | false => simp [askR, hnb] at hR
        | true =>
          simp [askR, hnb] at hR
          rw [hR]
          exact ⟨rfl, rfl⟩
    have HC2 : Hid (CenA cb when w2 c2 (j + 1) (.ok st)) := hc2
    obtain ⟨xs, ys, hcn, hrel, hlen, hlo, hhi⟩ := hc2
    have HCN : Hid (Cn cb w2 c2 xs ys st.nodes when 0) := hcn
    have HREL : Hid (Rel st xs ys) := hrel
    have HLEN : Hid (xs.length + ys.length + (j + 1) ≤ 2 * st.nodes.toNat ∧ 0 ≤ st.nodes ∧ st.nodes ≤ 4000) := ⟨hlen, hlo, hhi⟩
    have cc := hcn.c0
    have RO : Hid (w2.ownsRow (cb + 1) 9 1 c2.1 xs.length (strs xs)) := hcn.rv
    clear hR hlen hlo hhi hrel hcn
    go_wp2_with fail
    refine (isIn_c (cb + 1) xs _ s _ RO.out).mono ?_
    rintro e w3 ⟨rfl, he3⟩
    rw [he3]
    clear he3 w3
    cases hm : memB xs s with
    | true =>
      have HN : Hid (bindR R (nameR s 2) = .error 6) := by
        rw [HRR.out.1]
        have h1 : st.nm s = 1 := (HREL.out.1 s).1 (memB_iff.1 hm)
        simp [Hid, bindR, nameR, HRR.out.2, h1]
      clear hm
      go_wp2_with fail
      refine (ask_c cb (j + 1) when 6 _ _ c2 (.ok st) HC2.out (by decide)).mono ?_
      rintro e w4 ⟨rfl, c4, hf4, hc4⟩
      have HF4 : Hid (Fr cb w c w4 c4) := HF2.out.trans hf4
      have HC4 : Hid (CenA cb when w4 c4 (j + 1) (.error 6)) := hc4
      obtain ⟨hx, xs4, ys4, n4, hcn4⟩ := hc4
      have e4 := hcn4.c4
      clear hf4 hcn4 hx cc
      go_wp2_with fail
      go_end0
      rw [HN.out]
      exact ⟨rfl, c4, HF4.out, HC4.out.less (by omega)⟩
    | false =>
      have HM : Hid (¬ s ∈ xs) := fun h => by have := memB_iff.2 h; rw [hm] at this; cases this
      clear hm
      go_wp2_with fail
      refine (ask_same cb (j + 1) when 6 _ c2 st HC2.out).mono ?_
      rintro e w4 ⟨rfl, he4⟩
      rw [he4]
      clear he4 w4
      have e4 := HCN.out.c4
      have cm := HCN.out.c1
      have fm := HCN.out.fz 1
      have hcb : cb < w2.heap.size := HCN.out.lt
      have hcb2 : ¬ cb = w2.heap.size := by omega
      clear cc
      go_wp2_with (first
        | (at_builtin; refine wpList_append_own_at _ rfl _ _ 56 rfl (cb + 1) 9 i0 (.string ⟨#[]⟩) 1 16 Tryd.underlying56 HI.out.1 HI.out.2.1 HI.out.2.2.1 HI.out.2.2.2 rfl (by decide) c2.2 ys.length (strs ys) rfl (HCN.out.rl.alloc _) ⟨w2.heap.size, 0, none⟩ 1 1 [.string s] rfl rfl (cell_one_new _ _ _) (by intro u hu; simp at hu; subst hu; rfl) (by have := HLEN.out; unfold maxLen; omega) (by have := HLEN.out; omega) (by simp; omega) ?_; intro v' w5 hown hgrow _ hloc; have HOWN : Hid (World.ownsRow w5 _ _ _ v' _ _) := hown; have HGROW : Hid (World.grownBy _ w5 _) := hgrow; have HLOC : Hid (v'.ownBlock = _ ∨ v'.ownBlock = _) := hloc; obtain ⟨g', cap', hv'⟩ := own_shape hown; subst hv'; have fw : w5.frozen? ⟨cb, 1, none⟩ = false := (grown_frozen (a := ⟨cb, 1, none⟩) hgrow (by simp; omega) (fun h1 => (HCN.out.low (Nat.le_refl _)).2 h1.symm)).trans (((Below.refl _ _).alloc (Nat.le_refl _) _).frozen (p := ⟨cb, 1, none⟩) hcb |>.trans fm); have cw := hgrow.cell (a := ⟨cb, 1, none⟩) (((Below.refl _ _).alloc (Nat.le_refl _) _).cell (p := ⟨cb, 1, none⟩) hcb |>.trans cm) (fun h1 => (HCN.out.low (Nat.le_refl _)).2 h1.symm); clear hown hgrow hloc))
      go_end0
      obtain ⟨hcn', hfr'⟩ := HCN.out.appL HOWN.out HGROW.out HLOC.out
      obtain ⟨st', e1, e2, e3⟩ := nameR_ok HRR.out.2 (show st.nm s = 0 ∨ st.nm s = 2 by
        have h1 := HREL.out.2.2 s
        have h2 : ¬ st.nm s = 1 := fun h => HM.out ((HREL.out.1 s).2 h)
        omega)
      have HN : bindR R (nameR s 2) = .ok st' := by rw [HRR.out.1]; exact e1
      rw [HN]
      exact ⟨rfl, _, HF2.out.trans hfr', _, _, (by rw [e2]; exact hcn'), relL HREL.out HM.out e3, by have := HLEN.out; rw [e2]; simp; omega, by rw [e2]; exact HLEN.out.2⟩
end Go.Proofs.YtjconmohifaliaaDoor
