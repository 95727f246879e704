/-
  Contracts of skipBlanks, strings.Clone, numberOf and firstText.
-/
import Derived.Test.YtcmipgonogbolaaGreatDoorCutA
import Derived.Test.YtcmipgonogbolaaGreatDoorPrShelf
import Derived.Shelf.Strings.SlTrimAscii
import Derived.Lib.AtoiAllCases
namespace Go.Proofs.YtcmipgonogbolaaGreatDoor
open Go.ChangeShapes Go.WideShapes Go.ChangeAt Go.RowKit Go.Joins Go.Maps
set_option linter.unusedVariables false

theorem blank_is : (fun c : UInt8 => [32, 9, 10].contains c) = blankB := by
  funext c
  have h : c.toNat < 256 := UInt8.toNat_lt c
  have e : ∀ k : UInt8, (c == k) = decide (c.toNat = k.toNat) := fun k => by
    by_cases hk : c = k
    · subst hk; simp
    · have : c.toNat ≠ k.toNat := fun e => hk (UInt8.toNat_inj.1 e)
      simp [hk, this]
  simp only [List.contains_cons, List.contains_nil, Bool.or_false, e, blankB]
  have h1 : (32 : UInt8).toNat = 32 := rfl
  have h2 : (9 : UInt8).toNat = 9 := rfl
  have h3 : (10 : UInt8).toNat = 10 := rfl
  rw [h1, h2, h3]
  by_cases a : c.toNat = 32 <;> by_cases b : c.toNat = 9 <;> by_cases d : c.toNat = 10 <;> simp [a, b, d]

theorem skipBlanks_c (s : ByteArray) (w : World) : Calls Tryz.prog 36 #[.string s] w fun e w' => e = .returned (.string (bs (s.toList.dropWhile blankB))) ∧ Below w.heap.size w w' := by
  have hc := Any.strings_TrimLeft_laid Tryz.lays161 (by kernel_rfl) s ⟨#[32, 9, 10]⟩ w (by decide) (ascii_of_all (by decide))
  have he : (⟨(Lib.trimLeftS s.data.toList [32, 9, 10]).toArray⟩ : ByteArray) = bs (s.toList.dropWhile blankB) := by
    rw [Lib.trimLeftS, ByteArray.toList_eq]
    rw [show (fun x => [32, 9, 10].contains x) = blankB from blank_is]
    rfl
  have hc2 : Calls Tryz.prog 54 #[.string s, .string ⟨#[32, 9, 10]⟩] w fun e w' => e = .returned (.string (bs (s.toList.dropWhile blankB))) ∧ Below w.heap.size w w' := hc.mono fun e w' ⟨h1, h2⟩ => ⟨h1.trans (by rw [← he]), h2⟩
  have HC : Hid _ := hc2
  clear hc hc2 he
  go_enter Tryz.func36, Tryz.ntmps36
  go_wp2_with fail
  refine Calls.mono HC.out ?_
  rintro e w1 ⟨rfl, hb⟩
  have HB : Hid _ := hb
  clear hb HC
  go_wp2_with fail
  go_ret
  exact ⟨rfl, HB.out⟩

theorem clone_c (s : ByteArray) (w : World) (hs : s.size ≤ 6000) : Calls Tryz.prog 57 #[.string s] w fun e w' => e = .returned (.string s) ∧ Below w.heap.size w w' := by
  have HC : Hid _ := Tryz.stringslite_Clone s w (by omega)
  go_enter Tryz.func57, Tryz.ntmps57
  go_wp2_with fail
  refine Calls.mono HC.out ?_
  rintro e w1 ⟨rfl, hb⟩
  have HB : Hid _ := hb
  clear hb HC
  go_wp2_with fail
  go_ret
  exact ⟨rfl, HB.out⟩

/-! ### Numbers -/
def decF (a : Nat) (l : List UInt8) : Nat := l.foldl (fun a c => 10 * a + (c.toNat - 48)) a
theorem decF_ge (l : List UInt8) : ∀ a, a ≤ decF a l := by
  induction l with
  | nil => intro a; exact Nat.le_refl _
  | cons c l ih => intro a; exact Nat.le_trans (by omega) (ih (10 * a + (c.toNat - 48)))
theorem pu_is : ∀ (l : List UInt8) (a : Nat), (∀ c ∈ l, digitB c = true) → a < 18446744073709551616 → Lib.parseUint10 a l = if decF a l < 18446744073709551616 then .ok (decF a l) else .range := by
  intro l
  induction l with
  | nil => intro a _ ha; simp [Lib.parseUint10, decF, ha]
  | cons c l ih =>
    intro a hd ha
    have hc := hd c (List.mem_cons_self ..)
    simp only [digitB, decide_eq_true_eq] at hc
    have hge := decF_ge l (10 * a + (c.toNat - 48))
    have he : decF a (c :: l) = decF (10 * a + (c.toNat - 48)) l := rfl
    rw [Lib.parseUint10, if_pos hc, he]
    by_cases h1 : 1844674407370955162 ≤ a
    · rw [if_pos h1, if_neg (by omega)]
    · rw [if_neg h1, show a * 10 + (c.toNat - 48) = 10 * a + (c.toNat - 48) by omega]
      by_cases h2 : 18446744073709551616 ≤ 10 * a + (c.toNat - 48)
      · rw [if_pos h2, if_neg (by omega)]
      · rw [if_neg h2]
        exact ih _ (fun d hd' => hd d (List.mem_cons_of_mem _ hd')) (by omega)
theorem atoi_is (l : List UInt8) (h0 : 0 < l.length) (hd : ∀ c ∈ l, digitB c = true) : Lib.atoiAll l = if decV l < 9223372036854775808 then .ok (decV l : Int) else .range := by
  cases l with
  | nil => simp at h0
  | cons c r =>
    have hc := hd c (List.mem_cons_self ..)
    simp only [digitB, decide_eq_true_eq] at hc
    have e : decV (c :: r) = decF 0 (c :: r) := rfl
    have h43 : ¬ c.toNat = 43 := by omega
    have h45 : ¬ c.toNat = 45 := by omega
    rw [e]
    simp only [Lib.atoiAll, h43, h45, or_self, if_false, Lib.parseMag, reduceCtorEq]
    rw [pu_is _ 0 hd (by omega)]
    by_cases h1 : decF 0 (c :: r) < 18446744073709551616
    · rw [if_pos h1]
      by_cases h2 : decF 0 (c :: r) < 9223372036854775808
      · have h3 : ¬ 9223372036854775808 ≤ decF 0 (c :: r) := by omega
        simp [h2, h3]
      · have h3 : 9223372036854775808 ≤ decF 0 (c :: r) := by omega
        simp [h2, h3]
    · rw [if_neg h1, if_neg (by omega)]

/-- What stands in strconv.ErrRange is an error. -/
def ErrA (w : World) : Prop := ∃ te pe, w.cell? ⟨11, 0, none⟩ = some (.iface te pe)
theorem ErrA.stays {w w' : World} (h : ErrA w) (hb : Below w.heap.size w w') : ErrA w' := by
  obtain ⟨te, pe, h⟩ := h
  exact ⟨te, pe, (hb.cell (p := ⟨11, 0, none⟩) (World.block_lt_of_cell? w _ h)).trans h⟩

theorem below_freeze {B : Nat} {a w : World} (h : Below B a w) (p : Addr) (n : Nat) (hp : B ≤ p.block) : Below B a (w.freeze p n) := by
  unfold World.freeze
  split
  · exact h
  · refine ⟨h.os, h.tape, h.output, ?_, fun k hk => ?_⟩
    · simpa using h.size
    · rw [← h.block k hk]
      simp only [Array.getElem?_modify]
      rw [if_neg (by omega)]
theorem below_bytes (w : World) (t : TypeId) (s : ByteArray) : Below w.heap.size w (Lib.bytesWorld w t s) := by
  unfold Lib.bytesWorld
  exact below_freeze (((Below.refl _ _).drew).alloc (Nat.le_refl _) _) _ _ (Nat.le_refl _)

set_option maxHeartbeats 2000000 in
theorem numberOf_c (s : ByteArray) (w : World) (h0 : 0 < s.size) (h1 : s.size ≤ 6000) (hd : ∀ c ∈ s.toList, digitB c = true) (hE : ErrA w) :
    Calls Tryz.prog 59 #[.string s] w fun e w' => EndN (numR s.toList) (fun n => .int .i64 n) e ∧ Below w.heap.size w w' := by
  have hsl : s.toList.length = s.size := by rw [ByteArray.toList_eq]; simp
  have hhd : s.toList.head? = some s[0] := by
    rw [List.head?_eq_getElem?, List.getElem?_eq_getElem (by omega)]
    congr 1
    simp only [ByteArray.toList_eq]
    rw [Array.getElem_toList]; rfl
  have hz : (s.toList.head? = some 48) ↔ ((s[0].toNat : Int) == 48) = true := by
    rw [hhd]
    simp only [Option.some.injEq, beq_iff_eq]
    constructor
    · intro h; rw [h]; rfl
    · intro h; exact UInt8.toNat_inj.1 (by simp; omega)
  have hat := atoi_is s.toList (by omega) hd
  rw [show s.toList = s.data.toList from ByteArray.toList_eq ..] at hat
  have HAT : Hid _ := hat
  have hdv : decV s.toList = decV s.data.toList := by rw [ByteArray.toList_eq]
  have HDV : Hid _ := hdv
  have HE : Hid (ErrA w) := hE
  clear hat hdv hd hE hhd
  have HZ : Hid _ := hz
  by_cases h3 : 1 < s.size ∧ s.toList.head? = some 48
  · have i1 : (1 : Int) < (s.size : Int) := by omega
    have b0 := HZ.out.1 h3.2
    have HN : Hid (numR s.toList = .error 4) := by unfold Hid numR; rw [if_pos ⟨by omega, h3.2⟩]
    clear hz h3
    go_enter Tryz.func59, Tryz.ntmps59
    go_wp2_with fail
    refine (refuse_t 4 _).mono ?_
    rintro e w1 ⟨rfl, rfl⟩
    go_wp2_with fail
    exact ⟨rfl, EndN.err HN.out, Below.refl _ _⟩
  · have HN : Hid (numR s.toList = if 1099511627776 < decV s.data.toList then .error 2 else .ok (decV s.data.toList : Int)) := by
      unfold Hid numR
      rw [if_neg (by intro h; exact h3 ⟨by omega, h.2⟩), HDV.out]
    have HF : Hid (¬ (1 < s.size ∧ ((s[0].toNat : Int) == 48) = true)) := fun h => h3 ⟨h.1, HZ.out.2 h.2⟩
    clear hz h3
    obtain ⟨n, hn⟩ : ∃ n, n = decV s.data.toList := ⟨_, rfl⟩
    rw [← hn] at HN HAT
    clear hn
    by_cases h6 : n < 9223372036854775808
    · have HA : Hid _ := Tryz.strconv_Atoi_ok s (by omega) n (by have := HAT.out; rw [if_pos h6] at this; exact this)
      by_cases h7 : 1099511627776 < n
      · have HR : Hid (numR s.toList = .error 2) := by unfold Hid; rw [HN.out, if_pos h7]
        have i2 : (1099511627776 : Int) < (n : Int) := by omega
        by_cases h2 : 1 < s.size
        · have i1 : (1 : Int) < (s.size : Int) := by omega
          have b0 : ((s[0].toNat : Int) == 48) = false := by
            cases hb : ((s[0].toNat : Int) == 48) with
            | false => rfl
            | true => exact absurd ⟨h2, hb⟩ HF.out
          go_enter Tryz.func59, Tryz.ntmps59
          go_wp2_with fail
          refine (refuse_f 4 _).mono ?_
          rintro e w1 ⟨rfl, rfl⟩
          go_wp2_with fail
          refine (HA.out _).mono ?_
          rintro e w2 ⟨rfl, hb⟩
          have HB : Hid (Below w1.heap.size w1 w2) := by rcases hb with rfl | ⟨t, rfl⟩; exact Below.refl _ _; exact below_bytes _ _ _
          clear hb
          go_wp2_with fail
          refine (refuse_t 2 _).mono ?_
          rintro e w3 ⟨rfl, rfl⟩
          go_wp2_with fail
          exact ⟨rfl, EndN.err HR.out, HB.out⟩
        · have i1 : ¬ (1 : Int) < (s.size : Int) := by omega
          go_enter Tryz.func59, Tryz.ntmps59
          go_wp2_with fail
          refine (refuse_f 4 _).mono ?_
          rintro e w1 ⟨rfl, rfl⟩
          go_wp2_with fail
          refine (HA.out _).mono ?_
          rintro e w2 ⟨rfl, hb⟩
          have HB : Hid (Below w1.heap.size w1 w2) := by rcases hb with rfl | ⟨t, rfl⟩; exact Below.refl _ _; exact below_bytes _ _ _
          clear hb
          go_wp2_with fail
          refine (refuse_t 2 _).mono ?_
          rintro e w3 ⟨rfl, rfl⟩
          go_wp2_with fail
          exact ⟨rfl, EndN.err HR.out, HB.out⟩
      · have HR : Hid (numR s.toList = .ok (n : Int)) := by unfold Hid; rw [HN.out, if_neg h7]
        have i2 : ¬ (1099511627776 : Int) < (n : Int) := by omega
        by_cases h2 : 1 < s.size
        · have i1 : (1 : Int) < (s.size : Int) := by omega
          have b0 : ((s[0].toNat : Int) == 48) = false := by
            cases hb : ((s[0].toNat : Int) == 48) with
            | false => rfl
            | true => exact absurd ⟨h2, hb⟩ HF.out
          go_enter Tryz.func59, Tryz.ntmps59
          go_wp2_with fail
          refine (refuse_f 4 _).mono ?_
          rintro e w1 ⟨rfl, rfl⟩
          go_wp2_with fail
          refine (HA.out _).mono ?_
          rintro e w2 ⟨rfl, hb⟩
          have HB : Hid (Below w1.heap.size w1 w2) := by rcases hb with rfl | ⟨t, rfl⟩; exact Below.refl _ _; exact below_bytes _ _ _
          clear hb
          go_wp2_with fail
          rw [decide_eq_false (show ¬ (1099511627776 : Int) < (n : Int) by omega)]
          refine (refuse_f 2 _).mono ?_
          rintro e w3 ⟨rfl, rfl⟩
          go_wp2_with fail
          go_ret
          exact ⟨EndN.ok HR.out rfl, HB.out⟩
        · have i1 : ¬ (1 : Int) < (s.size : Int) := by omega
          go_enter Tryz.func59, Tryz.ntmps59
          go_wp2_with fail
          refine (refuse_f 4 _).mono ?_
          rintro e w1 ⟨rfl, rfl⟩
          go_wp2_with fail
          refine (HA.out _).mono ?_
          rintro e w2 ⟨rfl, hb⟩
          have HB : Hid (Below w1.heap.size w1 w2) := by rcases hb with rfl | ⟨t, rfl⟩; exact Below.refl _ _; exact below_bytes _ _ _
          clear hb
          go_wp2_with fail
          rw [decide_eq_false (show ¬ (1099511627776 : Int) < (n : Int) by omega)]
          refine (refuse_f 2 _).mono ?_
          rintro e w3 ⟨rfl, rfl⟩
          go_wp2_with fail
          go_ret
          exact ⟨EndN.ok HR.out rfl, HB.out⟩
    · have HR : Hid (numR s.toList = .error 2) := by unfold Hid; rw [HN.out, if_pos (by omega)]
      have HA : Hid (∀ W, ErrA W → Calls Tryz.prog 85 #[.string s] W fun e w' => ∃ x tt pp, e = .returned (.tuple #[.int .i64 x, .iface tt pp]) ∧ Below W.heap.size W w') := fun W ⟨te, pe, hc⟩ =>
        (Tryz.strconv_Atoi_range s (by omega) (by have := HAT.out; rw [if_neg h6] at this; exact this) (.iface te pe) W hc (.inr ⟨te, pe, rfl⟩)).mono fun e w' ⟨N, h1, _, _, h4⟩ => ⟨_, _, _, h1, h4⟩
      by_cases h2 : 1 < s.size
      · have i1 : (1 : Int) < (s.size : Int) := by omega
        have b0 : ((s[0].toNat : Int) == 48) = false := by
          cases hb : ((s[0].toNat : Int) == 48) with
          | false => rfl
          | true => exact absurd ⟨h2, hb⟩ HF.out
        go_enter Tryz.func59, Tryz.ntmps59
        go_wp2_with fail
        refine (refuse_f 4 _).mono ?_
        rintro e w1 ⟨rfl, rfl⟩
        go_wp2_with fail
        refine (HA.out _ HE.out).mono ?_
        rintro e w2 ⟨x, tt, pp, rfl, hb⟩
        have HB : Hid (Below w1.heap.size w1 w2) := hb
        clear hb
        go_wp2_with fail
        refine (refuse_t 2 _).mono ?_
        rintro e w3 ⟨rfl, rfl⟩
        go_wp2_with fail
        exact ⟨rfl, EndN.err HR.out, HB.out⟩
      · have i1 : ¬ (1 : Int) < (s.size : Int) := by omega
        go_enter Tryz.func59, Tryz.ntmps59
        go_wp2_with fail
        refine (refuse_f 4 _).mono ?_
        rintro e w1 ⟨rfl, rfl⟩
        go_wp2_with fail
        refine (HA.out _ HE.out).mono ?_
        rintro e w2 ⟨x, tt, pp, rfl, hb⟩
        have HB : Hid (Below w1.heap.size w1 w2) := hb
        clear hb
        go_wp2_with fail
        refine (refuse_t 2 _).mono ?_
        rintro e w3 ⟨rfl, rfl⟩
        go_wp2_with fail
        exact ⟨rfl, EndN.err HR.out, HB.out⟩
end Go.Proofs.YtcmipgonogbolaaGreatDoor
