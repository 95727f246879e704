/-
  Contracts of the reader's smallest methods: ended, next, sees, skip, need, name, level.
-/
import Derived.Test.YtfbpkbochhfnhaaGreatDoorRdMem
import Derived.Test.YtfbpkbochhfnhaaGreatDoorFind
namespace Go.Proofs.YtfbpkbochhfnhaaGreatDoor
open Go.ChangeShapes Go.WideShapes Go.ChangeAt Go.RowKit Go.Joins Go.Maps
set_option linter.unusedVariables false

theorem ended_t (r : Nat) (o : Int) (w : World) (h : Rdr r w o []) :
    Calls Tryz.prog 21 #[.pointer (some ⟨r, 0, none⟩)] w fun e w' => e = .returned (.bool true) ∧ w' = w := by
  obtain ⟨v, c0, a, cap, rfl, -, -, -⟩ := h.pcs
  have c0' : w.cell? ⟨r, 0, none⟩ = some (.slice a 0 cap) := c0
  clear c0 h
  go_enter Tryz.func21, Tryz.ntmps21
  go_wp2
  go_ret
  exact ⟨ret_bool (by simp), rfl⟩
theorem ended_f (r : Nat) (o : Int) (p : Pc) (ps : List Pc) (w : World) (h : Rdr r w o (p :: ps)) :
    Calls Tryz.prog 21 #[.pointer (some ⟨r, 0, none⟩)] w fun e w' => e = .returned (.bool false) ∧ w' = w := by
  obtain ⟨v, c0, a, cap, rfl, -, h6, -⟩ := h.pcs
  have c0' : w.cell? ⟨r, 0, none⟩ = some (.slice a (ps.length + 1) cap) := c0
  clear c0 h
  go_enter Tryz.func21, Tryz.ntmps21
  go_wp2
  go_ret
  exact ⟨ret_bool (by simp; omega), rfl⟩

theorem bs_ne {s t : List UInt8} (h : ¬ s = t) : ¬ bs s = bs t := fun e => h (by rw [← bs_list s, e, bs_list])

set_option maxHeartbeats 1000000 in
theorem sees_c (r : Nat) (o : Int) (t : List UInt8) (ps : List Pc) (w : World) (h : Rdr r w o ps) :
    Calls Tryz.prog 40 #[.pointer (some ⟨r, 0, none⟩), .string (bs t)] w fun e w' => e = .returned (.bool (seesB t ps)) ∧ w' = w := by
  cases ps with
  | nil =>
    have HC : Hid _ := ended_t r o w h
    clear h
    go_enter Tryz.func40, Tryz.ntmps40
    go_wp2_with fail
    refine Calls.mono HC.out ?_
    rintro e w1 ⟨rfl, rfl⟩
    go_wp2
    go_ret
    exact ⟨ret_bool (by simp [seesB]), rfl⟩
  | cons p ps =>
    have HC : Hid _ := ended_f r o p ps w h
    obtain ⟨v, c0, a, cap, rfl, -, h6, hi⟩ := h.pcs
    obtain ⟨b, off, rfl, hb, hj⟩ := hi (by simp)
    have c0' : w.cell? ⟨r, 0, none⟩ = some (.slice (some ⟨b, off, none⟩) (ps.length + 1) cap) := c0
    obtain ⟨d0, d1, -⟩ := hj 0 p rfl
    have d0' : w.cell? ⟨b, off, none⟩ = some (.int .i64 p.k) := by simpa using d0
    have d1' : w.cell? ⟨b, off + 1, none⟩ = some (.string (bs p.s)) := by simpa using d1
    have i1 : (0 : Int) < ((ps.length + 1 : Nat) : Int) := by omega
    have HS : Hid (∀ t, seesB t (p :: ps) = (decide (p.k ≠ 3) && decide (p.s = t))) := fun t => rfl
    obtain ⟨k, hk⟩ : ∃ k, k = p.k := ⟨_, rfl⟩
    obtain ⟨S, hS⟩ : ∃ S, S = bs p.s := ⟨_, rfl⟩
    rw [← hk] at d0' HS
    rw [← hS] at d1'
    by_cases hk3 : k = 3
    · have HF : Hid (seesB t (p :: ps) = false) := by unfold Hid; rw [HS.out t, hk3]; simp
      clear c0 d0 d1 hj h hi HS hk hS
      subst hk3
      go_enter Tryz.func40, Tryz.ntmps40
      go_wp2_with fail
      refine Calls.mono HC.out ?_
      rintro e w1 ⟨rfl, rfl⟩
      go_wp2
      go_ret
      exact ⟨ret_bool (by simp [HF.out]), rfl⟩
    · have hk3' : (k == 3) = false := by simpa using hk3
      obtain ⟨T, hT⟩ : ∃ T, T = bs t := ⟨_, rfl⟩
      have HF : Hid (seesB t (p :: ps) = (k != 3 && S.toList == T.toList)) := by
        unfold Hid
        rw [HS.out t, hS, hT, bs_list, bs_list]
        have e1 : (k != 3) = decide (k ≠ 3) := by by_cases e : k = 3 <;> simp [e]
        have e2 : (p.s == t) = decide (p.s = t) := by by_cases e : p.s = t <;> simp [e]
        rw [e1, e2]
      rw [← hT]
      clear c0 d0 d1 hj h hi HS hk hS hT
      go_enter Tryz.func40, Tryz.ntmps40
      go_wp2_with fail
      refine Calls.mono HC.out ?_
      rintro e w1 ⟨rfl, rfl⟩
      go_wp2
      go_ret
      exact ⟨ret_bool (by rw [HF.out]), rfl⟩

set_option maxHeartbeats 1000000 in
theorem next_f (r : Nat) (o : Int) (w : World) (h : Rdr r w o []) :
    Calls Tryz.prog 61 #[.pointer (some ⟨r, 0, none⟩)] w fun e w' => e = .panicked [errP 5] ∧ But r r w w' ∧ Opn r w' o := by
  have HA : Hid (∀ ob, But r r w (w.alloc ob) ∧ Opn r (w.alloc ob) o) := fun ob => ⟨(But.refl r r w).alloc ob, h.opn.alloc ob⟩
  have HC : Hid (∀ ob, Calls Tryz.prog 21 #[.pointer (some ⟨r, 0, none⟩)] (w.alloc ob) fun e w' => e = .returned (.bool true) ∧ w' = (w.alloc ob)) := fun ob => ended_t r o _ (h.alloc ob)
  clear h
  go_enter Tryz.func61, Tryz.ntmps61
  go_wp2_with fail
  refine Calls.mono (HC.out _) ?_
  rintro e w1 ⟨rfl, rfl⟩
  go_wp2_with fail
  refine (refuse_t 5 _).mono ?_
  rintro e w1 ⟨rfl, rfl⟩
  go_wp2_with fail
  exact ⟨rfl, rfl, HA.out _⟩

theorem But.setOther {r g : Nat} {a w : World} (h : But r r a w) (hg : a.heap.size ≤ g) (o : Nat) (v : Value) : But r r a (w.setCell ⟨g, o, none⟩ v) :=
  ⟨h.os, h.tape, h.output, by simpa [World.setCell] using h.size, fun k hk h1 h2 => (Below.heap_setCell _ _ _ _ (by simp; omega)).trans (h.block k hk h1 h2)⟩

theorem Rdr.took {r : Nat} {w : World} {o : Int} {p : Pc} {ps : List Pc} {v : Value} (h : Rdr r w o (p :: ps)) (hv : PcA w r v ps) : Rdr r (w.setCell ⟨r, 0, none⟩ v) o ps := by
  obtain ⟨v0, h0, _⟩ := h.pcs
  have e : ∀ k, k < r → (w.setCell ⟨r, 0, none⟩ v).heap[k]? = w.heap[k]? := fun k hk => Below.heap_setCell _ _ _ _ (by simp; omega)
  exact ⟨⟨v, World.cell?_setCell_same _ _ _ h0, hv.low e⟩, (World.cell?_setCell_other _ _ _ _ (by simp)).trans h.c1, by simp [h.f0], by simp [h.f1], h.lo, h.hi, fun q hq => h.fit q (List.mem_cons_of_mem _ hq), h.tz.low e⟩

set_option maxHeartbeats 1000000 in
theorem next_c (r : Nat) (o : Int) (p : Pc) (ps : List Pc) (w : World) (h : Rdr r w o (p :: ps)) :
    Calls Tryz.prog 61 #[.pointer (some ⟨r, 0, none⟩)] w fun e w' => e = .returned (.agg #[.int .i64 p.k, .string (bs p.s), .int .i64 p.n]) ∧ Rdr r w' o ps ∧ But r r w w' := by
  have HC : Hid (∀ ob, Calls Tryz.prog 21 #[.pointer (some ⟨r, 0, none⟩)] (w.alloc ob) fun e w' => e = .returned (.bool false) ∧ w' = (w.alloc ob)) := fun ob => ended_f r o p ps _ (h.alloc ob)
  have HH : Hid (Rdr r w o (p :: ps)) := h
  have hlt := h.lt
  obtain ⟨v, c0, a, cap, rfl, hcap, h6, hi⟩ := h.pcs
  obtain ⟨b, off, rfl, hb, hj⟩ := hi (by simp)
  have c0' : w.cell? ⟨r, 0, none⟩ = some (.slice (some ⟨b, off, none⟩) (ps.length + 1) cap) := c0
  obtain ⟨d0, d1, d2⟩ := hj 0 p rfl
  have d0' : w.cell? ⟨b, off, none⟩ = some (.int .i64 p.k) := by simpa using d0
  have d1' : w.cell? ⟨b, off + 1, none⟩ = some (.string (bs p.s)) := by simpa using d1
  have d2' : w.cell? ⟨b, off + 2, none⟩ = some (.int .i64 p.n) := by simpa using d2
  have i1 : (0 : Int) < ((ps.length + 1 : Nat) : Int) := by omega
  have hcap' : ps.length + 1 ≤ cap := by simpa using hcap
  have f0 := h.f0
  have HT : Hid (∀ v, PcA w r v ps → Rdr r (w.setCell ⟨r, 0, none⟩ v) o ps ∧ But r r w (w.setCell ⟨r, 0, none⟩ v)) := fun v hv => ⟨h.took hv, (But.refl _ _ _).set 0 v⟩
  have HV1 : Hid (cap = 1 → PcA w r (.slice (some ⟨b, off, none⟩) ps.length 0) ps) := fun hc => by
    have : ps = [] := List.eq_nil_of_length_eq_zero (by omega)
    subst this
    exact ⟨_, _, rfl, Nat.le_refl _, by simp, fun h => by simp at h⟩
  have HV2 : Hid (PcA w r (.slice (some ⟨b, off + 3, none⟩) ps.length (cap - 1)) ps) := by
    refine ⟨_, _, rfl, by omega, by simp at h6; omega, fun _ => ⟨b, off + 3, rfl, hb, fun i q hq => ?_⟩⟩
    have := hj (i + 1) q (by simpa using hq)
    rw [show off + (i + 1) * 3 = off + 3 + i * 3 by omega] at this
    exact this
  have n1 : ¬ r = w.heap.size := by omega
  have n2 : ¬ r = w.heap.size + 1 := by omega
  have n3 : ¬ b = w.heap.size := by omega
  have n4 : ¬ b = w.heap.size + 1 := by omega
  have hr : b ≠ r := by omega
  have hbw : b < w.heap.size := by omega
  clear hb
  clear c0 d0 d1 d2 hj hi h
  go_enter Tryz.func61, Tryz.ntmps61
  go_wp2_with fail
  refine Calls.mono (HC.out _) ?_
  rintro e w1 ⟨rfl, rfl⟩
  go_wp2_with fail
  refine (refuse_f 5 _).mono ?_
  rintro e w1 ⟨rfl, rfl⟩
  clear HC
  go_wp2_with fail
  · refine bodyPost_ret (v := .agg #[.int .i64 p.k, .string (bs p.s), .int .i64 p.n]) (by simp [results, Tryz.results61, go_sem]) rfl ?_
    have h1 := HT.out _ (HV1.out (by first | assumption | omega))
    exact ⟨rfl, (h1.1.alloc _).alloc _, (h1.2.alloc _).alloc _⟩
  · refine bodyPost_ret (v := .agg #[.int .i64 p.k, .string (bs p.s), .int .i64 p.n]) (by simp [results, Tryz.results61, go_sem]) rfl ?_
    have h1 := HT.out _ HV2.out
    exact ⟨rfl, (h1.1.alloc _).alloc _, (h1.2.alloc _).alloc _⟩

set_option maxHeartbeats 1000000 in
theorem skip_c (r : Nat) (o : Int) (t : List UInt8) (ps : List Pc) (w : World) (h : Rdr r w o ps) :
    Calls Tryz.prog 38 #[.pointer (some ⟨r, 0, none⟩), .string (bs t)] w fun e w' => e = .returned (.bool (seesB t ps)) ∧ Rdr r w' o (if seesB t ps then ps.tail else ps) ∧ But r r w w' := by
  have HH : Hid (Rdr r w o ps) := h
  have HC : Hid _ := sees_c r o t ps w h
  obtain ⟨T, hT⟩ : ∃ T, T = bs t := ⟨_, rfl⟩
  rw [← hT] at HC ⊢
  clear h hT
  cases hb : seesB t ps with
  | false =>
    rw [hb] at HC
    go_enter Tryz.func38, Tryz.ntmps38
    go_wp2_with fail
    refine Calls.mono HC.out ?_
    rintro e w1 ⟨rfl, rfl⟩
    go_wp2_with fail
    go_ret
    exact ⟨rfl, by simpa using HH.out, But.refl _ _ _⟩
  | true =>
    rw [hb] at HC
    cases ps with
    | nil => cases hb
    | cons p ps =>
      have HN : Hid _ := next_c r o p ps w HH.out
      clear hb
      go_enter Tryz.func38, Tryz.ntmps38
      go_wp2_with fail
      refine Calls.mono HC.out ?_
      rintro e w1 ⟨rfl, rfl⟩
      go_wp2_with fail
      refine Calls.mono HN.out ?_
      rintro e w2 ⟨rfl, h1, h2⟩
      have HR : Hid (Rdr r w2 o ps ∧ But r r w1 w2) := ⟨h1, h2⟩
      clear h1 h2
      go_wp2_with fail
      go_ret
      exact ⟨rfl, by simpa using HR.out.1, HR.out.2⟩

/-- What comes back where nothing does. -/
def KU : Value → Unit → List Pc → World → Prop := fun v _ _ _ => v = .tuple #[]

set_option maxHeartbeats 1000000 in
theorem need_c (r : Nat) (o : Int) (t : List UInt8) (ps : List Pc) (w : World) (h : Rdr r w o ps) :
    Calls Tryz.prog 63 #[.pointer (some ⟨r, 0, none⟩), .string (bs t)] w (OutR r o w (needR t ps) KU) := by
  have HH : Hid (Rdr r w o ps) := h
  have HS : Hid _ := skip_c r o t ps w h
  obtain ⟨T, hT⟩ : ∃ T, T = bs t := ⟨_, rfl⟩
  rw [← hT] at HS ⊢
  clear hT
  cases ps with
  | nil =>
    have HC : Hid _ := ended_t r o w h
    clear h
    go_enter Tryz.func63, Tryz.ntmps63
    go_wp2_with fail
    refine Calls.mono HC.out ?_
    rintro e w1 ⟨rfl, rfl⟩
    go_wp2_with fail
    refine (refuse_t 5 _).mono ?_
    rintro e w1 ⟨rfl, rfl⟩
    go_wp2_with fail
    exact ⟨rfl, But.refl _ _ _, rfl, HH.out.opn⟩
  | cons p ps =>
    have HC : Hid _ := ended_f r o p ps w h
    clear h
    cases hb : seesB t (p :: ps) with
    | false =>
      rw [hb] at HS
      have HE : Hid (needR t (p :: ps) = .error 4) := by simp [Hid, needR, hb]
      clear hb
      go_enter Tryz.func63, Tryz.ntmps63
      go_wp2_with fail
      refine Calls.mono HC.out ?_
      rintro e w1 ⟨rfl, rfl⟩
      go_wp2_with fail
      refine (refuse_f 5 _).mono ?_
      rintro e w2 ⟨rfl, rfl⟩
      go_wp2_with fail
      refine Calls.mono HS.out ?_
      rintro e w3 ⟨rfl, h1, h2⟩
      have HR : Hid (But r r w2 w3 ∧ Opn r w3 o) := ⟨h2, h1.opn⟩
      clear h1 h2
      go_wp2_with fail
      refine (refuse_t 4 _).mono ?_
      rintro e w4 ⟨rfl, rfl⟩
      go_wp2_with fail
      refine ⟨rfl, HR.out.1, ?_⟩
      rw [HE.out]
      exact ⟨rfl, HR.out.2⟩
    | true =>
      rw [hb] at HS
      have HE : Hid (needR t (p :: ps) = .ok ((), ps)) := by simp [Hid, needR, hb]
      clear hb
      go_enter Tryz.func63, Tryz.ntmps63
      go_wp2_with fail
      refine Calls.mono HC.out ?_
      rintro e w1 ⟨rfl, rfl⟩
      go_wp2_with fail
      refine (refuse_f 5 _).mono ?_
      rintro e w2 ⟨rfl, rfl⟩
      go_wp2_with fail
      refine Calls.mono HS.out ?_
      rintro e w3 ⟨rfl, h1, h2⟩
      have HR : Hid (Rdr r w3 o ps ∧ But r r w2 w3) := ⟨by simpa using h1, h2⟩
      clear h1 h2
      go_wp2_with fail
      refine (refuse_f 4 _).mono ?_
      rintro e w4 ⟨rfl, rfl⟩
      go_wp2_with fail
      go_end0
      exact ⟨HR.out.2, by rw [HE.out]; exact ⟨_, rfl, HR.out.1, rfl⟩⟩
end Go.Proofs.YtfbpkbochhfnhaaGreatDoor
