/-
  Contracts of the reader's name, level, enter and what enter hands back.
-/
import Derived.Test.YtfbpkbochhfnhaaGreatDoorRdPrim
namespace Go.Proofs.YtfbpkbochhfnhaaGreatDoor
open Go.ChangeShapes Go.WideShapes Go.ChangeAt Go.RowKit Go.Joins Go.Maps
set_option linter.unusedVariables false

theorem nameB_bs (l : List UInt8) : nameB (bs l) = nameL l := by
  unfold nameB nameL isWordB lettersB
  rw [bs_list, bs_size]
theorem lvl_bs (l : List UInt8) : (if l = [105, 110] then 3 else lvl (bs l)) = lvlL l := by
  unfold lvl lvlL
  rw [bs_list]
  by_cases h : l = [105, 110]
  · subst h; decide
  · simp [h]
theorem asks_bs (l : List UInt8) : asksN (bs l) = asksL l := by unfold asksN asksL; rw [bs_list]

/-- A name comes back. -/
def KN : Value → List UInt8 → List Pc → World → Prop := fun v s _ _ => v = .string (bs s)

set_option maxHeartbeats 2000000 in
theorem nm_c (r : Nat) (o : Int) (ps : List Pc) (w : World) (h : Rdr r w o ps) :
    Calls Tryz.prog 95 #[.pointer (some ⟨r, 0, none⟩)] w (OutR r o w (nmR ps) KN) := by
  cases ps with
  | nil =>
    have HC : Hid _ := next_f r o w h
    clear h
    go_enter Tryz.func95, Tryz.ntmps95
    go_wp2_with fail
    refine Calls.mono HC.out ?_
    rintro e w1 ⟨rfl, hb⟩
    go_wp2_with fail
    exact ⟨rfl, hb.1, rfl, hb.2⟩
  | cons p ps =>
    have HC : Hid _ := next_c r o p ps w h
    have hsz := (h.fit p (List.mem_cons_self ..)).1
    have HN : Hid (∀ w1, Rdr r w1 o ps → Calls Tryz.prog 120 #[.string (bs p.s)] w1 fun e w' => e = .returned (.bool (nameL p.s)) ∧ w' = w1) := fun w1 h1 => by
      have := name_c (bs p.s) w1 (by rw [bs_size]; unfold maxLen; omega) h1.tz.words.2
      rw [nameB_bs] at this
      exact this
    have HR : Hid (nmR (p :: ps) = if p.k = 1 ∧ nameL p.s = true then .ok (p.s, ps) else .error 4) := rfl
    clear h hsz
    obtain ⟨k, hk⟩ : ∃ k, k = p.k := ⟨_, rfl⟩
    obtain ⟨S, hS⟩ : ∃ S, S = bs p.s := ⟨_, rfl⟩
    have HKS : Hid (S = bs p.s) := hS
    rw [← hk, ← hS] at HC
    rw [← hk] at HR
    rw [← hS] at HN
    clear hk hS
    by_cases hk1 : k = 1
    · subst hk1
      cases hn : nameL p.s with
      | true =>
        rw [hn] at HN HR
        go_enter Tryz.func95, Tryz.ntmps95
        go_wp2_with fail
        refine Calls.mono HC.out ?_
        rintro e w1 ⟨rfl, h1, h2⟩
        have HW : Hid (∀ ob, Rdr r (w1.alloc ob) o ps ∧ But r r w (w1.alloc ob)) := fun ob => ⟨h1.alloc ob, h2.alloc ob⟩
        clear h1 h2
        go_wp2_with fail
        refine (HN.out _ (HW.out _).1).mono ?_
        rintro e w2 ⟨rfl, rfl⟩
        go_wp2_with fail
        refine (refuse_f 4 _).mono ?_
        rintro e w2 ⟨rfl, rfl⟩
        go_wp2_with fail
        go_ret
        refine ⟨(HW.out _).2, ?_⟩
        rw [HR.out]
        exact ⟨_, rfl, (HW.out _).1, by show Value.string S = _; rw [HKS.out]⟩
      | false =>
        rw [hn] at HN HR
        go_enter Tryz.func95, Tryz.ntmps95
        go_wp2_with fail
        refine Calls.mono HC.out ?_
        rintro e w1 ⟨rfl, h1, h2⟩
        have HW : Hid (∀ ob, Rdr r (w1.alloc ob) o ps ∧ But r r w (w1.alloc ob)) := fun ob => ⟨h1.alloc ob, h2.alloc ob⟩
        clear h1 h2
        go_wp2_with fail
        refine (HN.out _ (HW.out _).1).mono ?_
        rintro e w2 ⟨rfl, rfl⟩
        go_wp2_with fail
        refine (refuse_t 4 _).mono ?_
        rintro e w2 ⟨rfl, rfl⟩
        go_wp2_with fail
        refine ⟨rfl, (HW.out _).2, ?_⟩
        rw [HR.out]
        exact ⟨rfl, (HW.out _).1.opn⟩
    · have HR2 : Hid (nmR (p :: ps) = .error 4) := by unfold Hid; rw [HR.out, if_neg (fun h => hk1 h.1)]
      have hk2 : (k == 1) = false := by simpa using hk1
      go_enter Tryz.func95, Tryz.ntmps95
      go_wp2_with fail
      refine Calls.mono HC.out ?_
      rintro e w1 ⟨rfl, h1, h2⟩
      have HW : Hid (∀ ob, But r r w (w1.alloc ob) ∧ Opn r (w1.alloc ob) o) := fun ob => ⟨h2.alloc ob, h1.opn.alloc ob⟩
      clear h1 h2
      go_wp2_with fail
      refine (refuse_t 4 _).mono ?_
      rintro e w2 ⟨rfl, rfl⟩
      go_wp2_with fail
      refine ⟨rfl, (HW.out _).1, ?_⟩
      rw [HR2.out]
      exact ⟨rfl, (HW.out _).2⟩

set_option maxHeartbeats 2000000 in
theorem level_r (r : Nat) (o : Int) (ps : List Pc) (w : World) (h : Rdr r w o ps) :
    Calls Tryz.prog 94 #[.pointer (some ⟨r, 0, none⟩)] w fun e w' => e = .returned (.int .i64 (levelR ps)) ∧ Below w.heap.size w w' := by
  cases ps with
  | nil =>
    have HC : Hid _ := ended_t r o w h
    clear h
    go_enter Tryz.func94, Tryz.ntmps94
    go_wp2_with fail
    refine Calls.mono HC.out ?_
    rintro e w1 ⟨rfl, rfl⟩
    go_wp2_with fail
    go_ret
    exact ⟨rfl, Below.refl _ _⟩
  | cons p ps =>
    have HC : Hid _ := ended_f r o p ps w h
    have HL := level_c (bs p.s) w h.tz.levels.2
    rw [lv_is, bs_list, lvl_bs] at HL
    have HL : Hid _ := HL
    obtain ⟨v, c0, a, cap, rfl, -, h6, hi⟩ := h.pcs
    obtain ⟨b, off, rfl, hb, hj⟩ := hi (by simp)
    have c0' : w.cell? ⟨r, 0, none⟩ = some (.slice (some ⟨b, off, none⟩) (ps.length + 1) cap) := c0
    obtain ⟨d0, d1, -⟩ := hj 0 p rfl
    have d0' : w.cell? ⟨b, off, none⟩ = some (.int .i64 p.k) := by simpa using d0
    have d1' : w.cell? ⟨b, off + 1, none⟩ = some (.string (bs p.s)) := by simpa using d1
    have i1 : (0 : Int) < ((ps.length + 1 : Nat) : Int) := by omega
    have HR : Hid (levelR (p :: ps) = if p.k = 3 then 0 else lvlL p.s) := rfl
    obtain ⟨k, hk⟩ : ∃ k, k = p.k := ⟨_, rfl⟩
    obtain ⟨S, hS⟩ : ∃ S, S = bs p.s := ⟨_, rfl⟩
    rw [← hk] at d0' HR
    rw [← hS] at d1' HL
    clear c0 d0 d1 hj h hi hk hS
    by_cases hk3 : k = 3
    · subst hk3
      go_enter Tryz.func94, Tryz.ntmps94
      go_wp2_with fail
      refine Calls.mono HC.out ?_
      rintro e w1 ⟨rfl, rfl⟩
      go_wp2_with fail
      go_ret
      exact ⟨ret_int (by rw [HR.out]; rfl), Below.refl _ _⟩
    · have hk3' : (k == 3) = false := by simpa using hk3
      have HR2 : Hid (levelR (p :: ps) = lvlL p.s) := by unfold Hid; rw [HR.out, if_neg hk3]
      clear hk3
      go_enter Tryz.func94, Tryz.ntmps94
      go_wp2_with fail
      refine Calls.mono HC.out ?_
      rintro e w1 ⟨rfl, rfl⟩
      go_wp2_with fail
      refine Calls.mono HL.out ?_
      rintro e w2 ⟨rfl, hb2⟩
      go_wp2_with fail
      go_ret
      exact ⟨ret_int (by rw [HR2.out]), by first | exact hb2 | (rw [hb2]; exact Below.refl _ _)⟩

/-- The reader, as much more open. -/
theorem Rdr.opened {r : Nat} {w : World} {o : Int} {ps : List Pc} (h : Rdr r w o ps) (o' : Int) (h0 : 0 ≤ o') (h1 : o' ≤ 40) : Rdr r (w.setCell ⟨r, 1, none⟩ (.int .i64 o')) o' ps := by
  obtain ⟨v, hv, hp⟩ := h.pcs
  have e : ∀ k, k < r → (w.setCell ⟨r, 1, none⟩ (.int .i64 o')).heap[k]? = w.heap[k]? := fun k hk => Below.heap_setCell _ _ _ _ (by simp; omega)
  exact ⟨⟨v, (World.cell?_setCell_other _ _ _ _ (by simp)).trans hv, hp.low e⟩, World.cell?_setCell_same _ _ _ h.c1, by simp [h.f0], by simp [h.f1], h0, h1, h.fit, h.tz.low e⟩

set_option maxHeartbeats 2000000 in
theorem enter_f (r : Nat) (o : Int) (ps : List Pc) (w : World) (h : Rdr r w o ps) (ho : 40 < o + 1) :
    Calls Tryz.prog 62 #[.pointer (some ⟨r, 0, none⟩)] w fun e w' => e = .panicked [errP 1] ∧ But r r w w' ∧ Opn r w' o := by
  have hlt := h.lt
  have hne : ¬ r = w.heap.size := by omega
  have c1 := h.c1
  have f1 := h.f1
  have lo := h.lo
  have hi := h.hi
  have HB : Hid (∀ ob, But r r w ((w.setCell ⟨r, 1, none⟩ (.int .i64 (o + 1))).alloc ob) ∧ Opn r ((w.setCell ⟨r, 1, none⟩ (.int .i64 (o + 1))).alloc ob) o) := fun ob =>
    ⟨((But.refl r r w).set 1 _).alloc ob, Opn.alloc ⟨o + 1, World.cell?_setCell_same _ _ _ c1, by simp [f1], by omega, by omega, lo⟩ ob⟩
  have i1 : o + 1 ≤ 9223372036854775807 := by omega
  have i2 : -9223372036854775808 ≤ o + 1 := by omega
  have hmf : ∀ (fn : Fn) (first cap : Array Value) (w : World), (Instr.makeFunc fn first cap).run Tryz.prog w = .ok (.func fn first cap) w := fun _ _ _ _ => rfl
  clear h
  go_enter Tryz.func62, Tryz.ntmps62
  go_wp2_with fail
  refine (refuse_t 1 _).mono ?_
  rintro e w1 ⟨rfl, rfl⟩
  go_wp2_with fail
  exact ⟨rfl, rfl, HB.out _⟩

/-- What enter hands back lies in block g. -/
def Lv (r g : Nat) (w : World) : Prop := g ≠ r ∧ RowAt w g #[.pointer (some ⟨r, 0, none⟩)]

set_option maxHeartbeats 2000000 in
theorem enter_c (r : Nat) (o : Int) (ps : List Pc) (w : World) (h : Rdr r w o ps) (ho : ¬ 40 < o + 1) :
    Calls Tryz.prog 62 #[.pointer (some ⟨r, 0, none⟩)] w fun e w' => e = .returned (.func (.func 88) #[] #[.pointer (some ⟨w.heap.size, 0, none⟩)]) ∧ Rdr r w' (o + 1) ps ∧ But r r w w' ∧ Lv r w.heap.size w' := by
  have hlt := h.lt
  have hne : ¬ r = w.heap.size := by omega
  have c1 := h.c1
  have f1 := h.f1
  have lo := h.lo
  have hi := h.hi
  have hsz : (w.setCell ⟨r, 1, none⟩ (.int .i64 (o + 1))).heap.size = w.heap.size := by simp [World.setCell]
  have HB : Hid (Rdr r ((w.setCell ⟨r, 1, none⟩ (.int .i64 (o + 1))).alloc (.cells #[.pointer (some ⟨r, 0, none⟩)] 87)) (o + 1) ps ∧ But r r w ((w.setCell ⟨r, 1, none⟩ (.int .i64 (o + 1))).alloc (.cells #[.pointer (some ⟨r, 0, none⟩)] 87)) ∧ Lv r w.heap.size ((w.setCell ⟨r, 1, none⟩ (.int .i64 (o + 1))).alloc (.cells #[.pointer (some ⟨r, 0, none⟩)] 87))) :=
    ⟨(h.opened (o + 1) (by omega) (by omega)).alloc _, ((But.refl r r w).set 1 _).alloc _, by omega, by have := RowAt.new (w.setCell ⟨r, 1, none⟩ (.int .i64 (o + 1))) #[.pointer (some ⟨r, 0, none⟩)] 87; rw [hsz] at this; exact this⟩
  have i1 : o + 1 ≤ 9223372036854775807 := by omega
  have i2 : -9223372036854775808 ≤ o + 1 := by omega
  have hmf : ∀ (fn : Fn) (first cap : Array Value) (w : World), (Instr.makeFunc fn first cap).run Tryz.prog w = .ok (.func fn first cap) w := fun _ _ _ _ => rfl
  clear h hsz
  go_enter Tryz.func62, Tryz.ntmps62
  go_wp2_with fail
  refine (refuse_f 1 _).mono ?_
  rintro e w1 ⟨rfl, rfl⟩
  go_wp2_with fail
  go_ret
  exact ⟨rfl, HB.out⟩

/-- What enter handed back is called, where nothing is wrong. -/
theorem leave_c (r g : Nat) (o : Int) (ps : List Pc) (w : World) (h : Rdr r w (o + 1) ps) (ho : 0 ≤ o) (hg : Lv r g w) :
    Calls Tryz.prog 88 #[.pointer (some ⟨g, 0, none⟩)] w fun e w' => e = .returned (.tuple #[]) ∧ Rdr r w' o ps ∧ But r r w w' := by
  have c1 := h.c1
  have f1 := h.f1
  have hi := h.hi
  have q0 := hg.2.cell 0
  simp only [List.getElem?_toArray, List.getElem?_cons_zero] at q0
  have i1 : o + 1 - 1 = o := by omega
  have i2 : -9223372036854775808 ≤ o := by omega
  have i3 : o ≤ 9223372036854775807 := by omega
  have HB : Hid (Rdr r (w.setCell ⟨r, 1, none⟩ (.int .i64 o)) o ps ∧ But r r w (w.setCell ⟨r, 1, none⟩ (.int .i64 o))) := ⟨h.opened o (by omega) (by omega), (But.refl r r w).set 1 _⟩
  clear h hg
  go_enter Tryz.func88, Tryz.ntmps88
  go_wp2_with fail
  go_end0
  exact ⟨rfl, by simpa using HB.out⟩

/-- What enter handed back is called, where something is wrong. -/
theorem leave_p (r g : Nat) (o : Int) (w : World) (h : Opn r w (o + 1)) (ho : 0 ≤ o) (hg : Lv r g w) :
    Calls Tryz.prog 88 #[.pointer (some ⟨g, 0, none⟩)] w fun e w' => e = .returned (.tuple #[]) ∧ Opn r w' o ∧ But r r w w' := by
  obtain ⟨o', c1, f1, l1, l2, l3⟩ := h
  have q0 := hg.2.cell 0
  simp only [List.getElem?_toArray, List.getElem?_cons_zero] at q0
  have i2 : -9223372036854775808 ≤ o' - 1 := by omega
  have i3 : o' - 1 ≤ 9223372036854775807 := by omega
  have HB : Hid (Opn r (w.setCell ⟨r, 1, none⟩ (.int .i64 (o' - 1))) o ∧ But r r w (w.setCell ⟨r, 1, none⟩ (.int .i64 (o' - 1)))) := ⟨⟨o' - 1, World.cell?_setCell_same _ _ _ c1, by simp [f1], by omega, by omega, ho⟩, (But.refl r r w).set 1 _⟩
  clear hg
  go_enter Tryz.func88, Tryz.ntmps88
  go_wp2_with fail
  go_end0
  exact ⟨rfl, HB.out⟩
end Go.Proofs.YtfbpkbochhfnhaaGreatDoor
