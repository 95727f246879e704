/-
  Contracts of the checker's node and name.
-/
import Derived.Test.YtfbpkbochhfnhaaGreatDoorChk
import Derived.PlainAid
namespace Go.Proofs.YtfbpkbochhfnhaaGreatDoor
open Go.ChangeShapes Go.WideShapes Go.ChangeAt Go.RowKit Go.Joins Go.Maps Go.WideMaps

set_option maxHeartbeats 1000000 in
theorem node_c (bc bm : Nat) (when d : Int) (st : St) (w : World) (h : Chk bc bm when w st 0) :
    Calls Tryz.prog 96 #[.pointer (some ⟨bc, 0, none⟩), .int .i64 d] w (Out bc bm when 2 w (partR d st)) := by
  have c1 := h.c1
  have f1 := h.f1
  have l1 := h.lo
  have l2 := h.hi
  have H : Hid (Chk bc bm when w st 0) := h
  clear h
  have hw : wrap64 (st.nodes + 1) = st.nodes + 1 := by unfold wrap64; omega
  have hwr : IntKind.i64.wrap (st.nodes + 1) = st.nodes + 1 := by rw [Go.PlainAid.i64_is]; exact hw
  have HO : Hid (But bc bm w (w.setCell ⟨bc, 1, none⟩ (.int .i64 (st.nodes + 1)))) := (But.refl _ _ _).set 1 _
  by_cases h1 : 4000 < st.nodes + 1
  · have HP : Hid (partR d st = .error 1) := by simp [Hid, partR, h1]
    go_enter Tryz.func96, Tryz.ntmps96
    go_wp2_with fail
    refine (refuse_t 1 _).mono ?_
    rintro e w1 ⟨rfl, rfl⟩
    go_wp2_with fail
    refine ⟨rfl, ?_⟩
    rw [HP.out]
    exact ⟨HO.out, rfl⟩
  · by_cases h2 : 20 < d
    · have HP : Hid (partR d st = .error 1) := by simp [Hid, partR, h2]
      go_enter Tryz.func96, Tryz.ntmps96
      go_wp2_with fail
      refine (refuse_t 1 _).mono ?_
      rintro e w1 ⟨rfl, rfl⟩
      go_wp2_with fail
      refine ⟨rfl, ?_⟩
      rw [HP.out]
      exact ⟨HO.out, rfl⟩
    · have HP : Hid (partR d st = .ok ⟨st.nm, st.nodes + 1⟩) := by simp [Hid, partR, h1, h2]
      go_enter Tryz.func96, Tryz.ntmps96
      go_wp2_with fail
      refine (refuse_f 1 _).mono ?_
      rintro e w1 ⟨rfl, rfl⟩
      go_wp2_with fail
      go_end0
      rw [HP.out]
      refine ⟨HO.out, rfl, ?_⟩
      obtain ⟨n, D, g1, g2, g3⟩ := H.out.map
      have hb := H.out.lt
      exact ⟨H.out.ne, (World.cell?_setCell_other _ _ _ _ (by simp)).trans H.out.c0, World.cell?_setCell_same _ _ _ H.out.c1, (World.cell?_setCell_other _ _ _ _ (by simp)).trans H.out.c2, by simp [H.out.f1], by simp [H.out.f2], by show 0 ≤ st.nodes + 1; omega, by show st.nodes + 1 ≤ 4000; omega, n, D, by show n + 2 ≤ 2 * (st.nodes + 1).toNat; omega,
        ownsMap_block g2 (Below.heap_setCell _ _ _ _ (by simpa using H.out.ne.symm)), g3⟩

theorem law : Keyed Tryz.prog 9 := string_keyed Tryz.underlying9
theorem zeroI (w : World) : (zeroValue 3).run Tryz.prog w = .ok (.int .i64 0) w := by kernel_rfl

theorem key_ne {s t : ByteArray} (h : t ≠ s) : (Lit.string t.data.toList) ≠ .string s.data.toList := fun e => h (by
  simp only [Lit.string.injEq] at e
  have : t.data = s.data := Array.ext' e
  cases t; cases s; simp_all)

set_option maxHeartbeats 2000000 in
theorem nameIs_c (B bc bm j : Nat) (when : Int) (s : ByteArray) (kind : Int) (st : St) (w : World) (h : Chk bc bm when w st (j + 1)) (hT : Tb B w) (hs : s.size ≤ maxLen) (hk : kind = 1 ∨ kind = 2) :
    Calls Tryz.prog 122 #[.pointer (some ⟨bc, 0, none⟩), .string s, .int .i64 kind] w (Out bc bm when j w (nameR s kind st)) := by
  have c0 := h.c0
  have H : Hid (Chk bc bm when w st (j + 1)) := h
  have HT : Hid (Tb B w) := hT
  have HS : Hid (s.size ≤ maxLen) := hs
  obtain ⟨n, D, g1, g2, g3⟩ := h.map
  have l2 := h.hi
  have HM : Hid (w.ownsMap Tryz.prog 9 (plainElem Tryz.prog 3) bm n D) := g2
  have HG : Hid (∀ s : ByteArray, D.atKey (.string s.data.toList) (.lit (.int .i64 0)) = .lit (.int .i64 (st.nm s))) := g3
  have hn : n < maxLen := by unfold maxLen; omega
  have HN : Hid (n < maxLen) := hn
  have HL : Hid (n + (j + 1) ≤ 2 * st.nodes.toNat) := g1
  have HKD : Hid (kind = 1 ∨ kind = 2) := hk
  clear h hT g2 g3 g1 hn l2 hs hk
  cases hb : nameB s
  · have HP : Hid (nameR s kind st = .error 4) := by simp [Hid, nameR, hb]
    go_enter Tryz.func122, Tryz.ntmps122
    go_wp2_with fail
    refine (name_c s _ HS.out HT.out.words.2).mono ?_
    rintro e w1 ⟨rfl, rfl⟩
    rw [hb]
    go_wp2_with fail
    refine (refuse_t 4 _).mono ?_
    rintro e w1 ⟨rfl, rfl⟩
    go_wp2_with fail
    refine ⟨rfl, ?_⟩
    rw [HP.out]
    exact ⟨But.refl _ _ _, rfl⟩
  · by_cases hz : st.nm s = 0
    · have HP : Hid (nameR s kind st = .ok ⟨fun t => if t = s then kind else st.nm t, st.nodes⟩) := by simp [Hid, nameR, hb, hz]
      have HZ : Hid (st.nm s = 0) := hz
      have hne : bc ≠ bm := H.out.ne
      have HW : Hid ((Lit.int .i64 kind).wf = true) := (show (Lit.int .i64 kind).wf = true by rcases HKD.out with h | h <;> rw [h] <;> decide)
      have HI : Hid (IsMap D) := (World.ownsMap.tidy HM.out law).isMap
      clear hz
      go_enter Tryz.func122, Tryz.ntmps122
      go_wp2_with fail
      refine (name_c s _ HS.out HT.out.words.2).mono ?_
      rintro e w1 ⟨rfl, rfl⟩
      rw [hb]
      go_wp2_with fail
      refine (refuse_f 4 _).mono ?_
      rintro e w1 ⟨rfl, rfl⟩
      go_wp2_with (first
        | (at_lookup; refine wpList_lookup_own_int _ rfl _ _ 91 rfl 9 3 .i64 law Tryz.underlying91 Tryz.underlying3 (zeroI _) bm n D rfl HM.out _ _ rfl (keyOf_string_mk Tryz.underlying9 HS.out) ?_; intro c hat _; obtain rfl : c = 0 := (by rw [HG.out s, HZ.out] at hat; simpa using hat.symm); clear hat)
        | (at_lookup; refine wpList_lookup_own_int _ rfl _ _ 91 rfl 9 3 .i64 law Tryz.underlying91 Tryz.underlying3 (zeroI _) bm (n + 1) (D.put _ _) rfl HO2.out _ _ rfl (keyOf_string_mk Tryz.underlying9 HS.out) ?_; intro c hat _; obtain rfl : kind = c := (by rw [atKey_put_same HI.out (by trivial)] at hat; simpa using hat); clear hat)
        | (at_mapUpdate; refine wpList_mapUpdate_own _ rfl _ _ _ 91 rfl 9 3 law Tryz.underlying91 _ bm n D rfl HM.out HN.out _ _ _ rfl rfl (keyOf_string_mk Tryz.underlying9 HS.out) _ [] (plainElem_int Tryz.underlying3 HW.out) ?_; intro w2 hown hgrow; have HO2 : Hid (World.ownsMap w2 _ _ _ _ _ _) := hown; have HG2 : Hid (World.grownBy _ w2 _) := hgrow; have c02 := hgrow.cell c0 (by simpa using hne); clear hown hgrow))
      refine (refuse_f 6 _).mono ?_
      rintro e w3 ⟨rfl, rfl⟩
      go_wp2_with fail
      go_end0
      rw [HP.out]
      refine ⟨(But.refl _ _ _).grown HG2.out, rfl, ?_⟩
      have bb := HG2.out.block bc H.out.lt.1 (by simpa using hne)
      exact ⟨hne, c02, (World.cell?_of_block (a := ⟨bc, 1, none⟩) bb).trans H.out.c1, (World.cell?_of_block (a := ⟨bc, 2, none⟩) bb).trans H.out.c2, (World.frozen?_of_block (a := ⟨bc, 1, none⟩) bb).trans H.out.f1, (World.frozen?_of_block (a := ⟨bc, 2, none⟩) bb).trans H.out.f2, H.out.lo, H.out.hi,
        n + 1, _, by have := HL.out; show n + 1 + j ≤ 2 * st.nodes.toNat; omega, HO2.out, fun t => by
          by_cases ht : t = s
          · subst ht
            rw [atKey_put_same HI.out (by trivial)]
            simp
          · rw [atKey_put_other (key_ne ht), HG.out t]
            simp [ht]⟩
    · by_cases hq : st.nm s = kind
      · have HP : Hid (nameR s kind st = .ok st) := by unfold Hid nameR; rw [if_neg (by simp [hb]), if_neg hz, if_pos hq]
        have HZ : Hid (st.nm s = kind) := hq
        have hk0 : ¬ kind = 0 := by rw [← hq]; exact hz
        clear hz hq
        go_enter Tryz.func122, Tryz.ntmps122
        go_wp2_with fail
        refine (name_c s _ HS.out HT.out.words.2).mono ?_
        rintro e w1 ⟨rfl, rfl⟩
        rw [hb]
        go_wp2_with fail
        refine (refuse_f 4 _).mono ?_
        rintro e w1 ⟨rfl, rfl⟩
        go_wp2_with (at_lookup; refine wpList_lookup_own_int _ rfl _ _ 91 rfl 9 3 .i64 law Tryz.underlying91 Tryz.underlying3 (zeroI _) bm n D rfl HM.out _ _ rfl (keyOf_string_mk Tryz.underlying9 HS.out) ?_; intro c hat _; obtain rfl : kind = c := (by rw [HG.out s, HZ.out] at hat; simpa using hat); clear hat)
        refine (refuse_f 6 _).mono ?_
        rintro e w3 ⟨rfl, rfl⟩
        go_wp2_with fail
        go_end0
        rw [HP.out]
        exact ⟨But.refl _ _ _, rfl, H.out.less (by omega)⟩
      · have HP : Hid (nameR s kind st = .error 6) := by simp [Hid, nameR, hb, hz, hq]
        obtain ⟨q, hq2⟩ : ∃ q, st.nm s = q := ⟨_, rfl⟩
        have HZ : Hid (st.nm s = q) := hq2
        rw [hq2] at hz hq
        have hn1 : (q != kind) = true := by simpa using hq
        clear hq2
        go_enter Tryz.func122, Tryz.ntmps122
        go_wp2_with fail
        refine (name_c s _ HS.out HT.out.words.2).mono ?_
        rintro e w1 ⟨rfl, rfl⟩
        rw [hb]
        go_wp2_with fail
        refine (refuse_f 4 _).mono ?_
        rintro e w1 ⟨rfl, rfl⟩
        go_wp2_with (at_lookup; refine wpList_lookup_own_int _ rfl _ _ 91 rfl 9 3 .i64 law Tryz.underlying91 Tryz.underlying3 (zeroI _) bm n D rfl HM.out _ _ rfl (keyOf_string_mk Tryz.underlying9 HS.out) ?_; intro c hat _; obtain rfl : q = c := (by rw [HG.out s, HZ.out] at hat; simpa using hat); clear hat)
        refine (refuse_t 6 _).mono ?_
        rintro e w3 ⟨rfl, rfl⟩
        go_wp2_with fail
        refine ⟨rfl, ?_⟩
        rw [HP.out]
        exact ⟨But.refl _ _ _, rfl⟩
end Go.Proofs.YtfbpkbochhfnhaaGreatDoor
