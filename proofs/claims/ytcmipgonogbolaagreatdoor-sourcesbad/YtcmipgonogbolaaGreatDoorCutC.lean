/-
  Contract of firstText: what a text within quotes tells.
-/
import Derived.Test.YtcmipgonogbolaaGreatDoorCutB
import Derived.Test.YtcmipgonogbolaaGreatDoorRdE0
namespace Go.Proofs.YtcmipgonogbolaaGreatDoor
open Go.ChangeShapes Go.WideShapes Go.ChangeAt Go.RowKit Go.Joins Go.Maps
set_option linter.unusedVariables false

theorem bytes_len (s : ByteArray) : s.toList.length = s.size := by rw [ByteArray.toList_eq]; simp
theorem bytes_at (s : ByteArray) (q : Nat) (hq : q < s.size) : s.toList.drop q = s[q] :: s.toList.drop (q + 1) := by
  have hq' : q < s.toList.length := by rw [bytes_len]; exact hq
  rw [List.drop_eq_getElem_cons hq']
  congr 1
  simp only [ByteArray.toList_eq]
  rw [Array.getElem_toList]; rfl
theorem byte_f {c : UInt8} {k : Nat} (h : ¬ c.toNat = k) : ((c.toNat : Int) == (k : Int)) = false := by
  rw [beq_eq_false_iff_ne]; omega
theorem byte_t {c : UInt8} {k : Nat} (h : c.toNat = k) : ((c.toNat : Int) == (k : Int)) = true := by
  rw [beq_iff_eq]; omega

theorem txtR_end {acc : List UInt8} {i : Nat} : txtR [] acc i = .error 5 := by rw [txtR]
theorem txtR_quote {c : UInt8} {r acc : List UInt8} {i : Nat} (h : c.toNat = 34) : txtR (c :: r) acc i = .ok (acc, i + 1) := by rw [txtR.eq_def]; simp [h]
theorem txtR_line {c : UInt8} {r acc : List UInt8} {i : Nat} (h : c.toNat = 10) : txtR (c :: r) acc i = .error 4 := by rw [txtR.eq_def]; simp [h]
theorem txtR_plain {c : UInt8} {r acc : List UInt8} {i : Nat} (h1 : ¬ c.toNat = 34) (h2 : ¬ c.toNat = 10) (h3 : ¬ c.toNat = 92) : txtR (c :: r) acc i = txtR r (acc ++ [c]) (i + 1) := by rw [txtR.eq_def]; simp [h1, h2, h3]
theorem txtR_open {c : UInt8} {acc : List UInt8} {i : Nat} (h : c.toNat = 92) : txtR [c] acc i = .error 5 := by rw [txtR.eq_def]; simp [h]
theorem txtR_esc {c d : UInt8} {r acc : List UInt8} {i : Nat} (h : c.toNat = 92) : txtR (c :: d :: r) acc i = if d.toNat = 34 ∨ d.toNat = 92 then txtR r (acc ++ [d]) (i + 2) else if d.toNat = 110 then txtR r (acc ++ [10]) (i + 2) else .error 4 := by
  rw [txtR.eq_def]; simp [h]

/-- What an escape tells, as a byte. -/
theorem escR_byte {d : UInt8} {v : Int} (h : escR d = .ok v) : ∃ b : UInt8, v = b.toNat ∧ ∀ (r acc : List UInt8) (i : Nat) (c : UInt8), c.toNat = 92 → txtR (c :: d :: r) acc i = txtR r (acc ++ [b]) (i + 2) := by
  unfold escR at h
  split at h
  · rename_i hh
    cases h
    exact ⟨d, rfl, fun r acc i c hc => by rw [txtR_esc hc, if_pos hh]⟩
  · rename_i hh
    split at h
    · rename_i hn
      cases h
      exact ⟨10, rfl, fun r acc i c hc => by rw [txtR_esc hc, if_neg hh, if_pos hn]⟩
    · cases h
theorem escR_err {d : UInt8} {er : Int} (h : escR d = .error er) : ∀ (r acc : List UInt8) (i : Nat) (c : UInt8), c.toNat = 92 → txtR (c :: d :: r) acc i = .error er := by
  unfold escR at h
  split at h
  · cases h
  · rename_i hh
    split at h
    · cases h
    · rename_i hn
      cases h
      exact fun r acc i c hc => by rw [txtR_esc hc, if_neg hh, if_neg hn]

/-- What holds ahead of each round. -/
structure TxI (s : ByteArray) (w wr : World) (TX : Except Int (List UInt8 × Nat)) (acc : List UInt8) (i : Nat) : Prop where
  eq : TX = txtR (s.toList.drop i) acc i
  len : acc.length ≤ i
  low : Below w.heap.size w wr
  box : Bx w.heap.size [.int .i64 0, .string ⟨#[]⟩, .int .i64 0] 84 wr
  bd : Bd (w.heap.size + 1) (w.heap.size + 1) acc wr

theorem TxI.next {s : ByteArray} {w wr w2 : World} {TX : Except Int (List UInt8 × Nat)} {acc acc' : List UInt8} {i i' : Nat} (h : TxI s w wr TX acc i) (heq : TX = txtR (s.toList.drop i') acc' i') (hlen : acc'.length ≤ i') (hb : Below (w.heap.size + 1) wr w2) (hd : Bd (w.heap.size + 1) (w.heap.size + 1) acc' w2) : TxI s w w2 TX acc' i' :=
  ⟨heq, hlen, h.low.trans (hb.mono (Nat.le_succ _)), (hb.block _ (Nat.lt_succ_self _)).trans h.box, hd⟩

def textV (p : List UInt8 × Nat) : Value := .tuple #[.agg #[.int .i64 3, .string (bs p.1), .int .i64 0], .int .i64 p.2]

set_option maxHeartbeats 4000000 in
set_option maxRecDepth 100000 in
theorem firstText_c (s : ByteArray) (w : World) (h1 : s.size ≤ 6000) (h0 : 0 < s.size) :
    Calls Tryz.prog 60 #[.string s] w fun e w' => EndN (txtR s.toList.tail [] 1) textV e ∧ Below w.heap.size w w' := by
  obtain ⟨TX, hTX⟩ : ∃ TX, TX = txtR s.toList.tail [] 1 := ⟨_, rfl⟩
  rw [← hTX]
  obtain ⟨W, hW⟩ : ∃ W, W = (w.alloc (.cells #[.int .i64 0, .string ⟨#[]⟩, .int .i64 0] 84)).alloc (.cells #[.pointer none, .slice none 0 0] 69) := ⟨_, rfl⟩
  have hz : (w.alloc (.cells #[.int .i64 0, .string ⟨#[]⟩, .int .i64 0] 84)).heap.size = w.heap.size + 1 := by simp
  have HI0 : Hid (TxI s w W TX [] 1) := by
    have hbd := Bd.new (w.alloc (.cells #[.int .i64 0, .string ⟨#[]⟩, .int .i64 0] 84))
    rw [hz] at hbd
    rw [hW]
    exact ⟨by rw [hTX, List.drop_one], by simp, ((Below.refl _ _).alloc (Nat.le_refl _) _).alloc (by rw [hz]; omega) _, (Bx.new w _ _).below ((Below.refl _ _).alloc (Nat.le_refl _) _), hbd⟩
  have HWW : Hid (W = _) := hW
  clear hW hTX hz
  go_enter Tryz.func60, Tryz.ntmps60
  go_wp2_with fail
  rw [← HWW.out]
  clear HWW
  go_loopw [5] (fun v wr => ∃ i : Nat, v = .int .i64 i ∧ i ≤ s.size + 1 ∧ 1 ≤ i ∧ Hid (∃ acc, TxI s w wr TX acc i)) (fun v _ => s.size + 2 - (intOf v).toNat)
  case atStart => exact ⟨1, rfl, by omega, by omega, _, HI0.out⟩
  case round =>
    obtain ⟨i, rfl, hi, hi1, HI1⟩ := hrel
    clear HI0
    obtain ⟨acc, HI2⟩ := HI1.out
    have HI : Hid (TxI s w wr TX acc i) := HI2
    clear HI1 HI2
    by_cases hlt : i < s.size
    · have i1 : (i : Int) < (s.size : Int) := by omega
      have i2 : (0 : Int) ≤ (i : Int) := by omega
      have hdrop := bytes_at s i hlt
      have HD : Hid (TX = txtR (s[i] :: s.toList.drop (i + 1)) acc i) := by unfold Hid; rw [HI.out.eq, hdrop]
      clear hdrop
      by_cases c34 : s[i].toNat = 34
      · have b1 := byte_t c34
        have HC : Hid _ := HI.out.bd.string (by have := HI.out.bd.lt; omega)
        have HT : Hid (TX = .ok (acc, i + 1)) := by unfold Hid; rw [HD.out, txtR_quote c34]
        clear c34
        have b1' : ((s[i].toNat : Int) == 34) = true := b1
        clear b1
        go_wp2_with fail
        refine Calls.mono HC.out ?_
        rintro e w2 ⟨rfl, hb⟩
        have HX : Hid (Bx w.heap.size [.int .i64 0, .string ⟨#[]⟩, .int .i64 0] 84 w2 ∧ Below w.heap.size w w2) := ⟨(hb.block _ (Nat.lt_succ_self _)).trans HI.out.box, HI.out.low.trans (hb.mono (Nat.le_succ _))⟩
        have g0 := HX.out.1.cell 0
        have g1 := HX.out.1.cell 1
        have g2 := HX.out.1.cell 2
        have z0 := HX.out.1.thaw 0
        have z1 := HX.out.1.thaw 1
        have z2 := HX.out.1.thaw 2
        simp only [List.getElem?_cons_zero, List.getElem?_cons_succ] at g0 g1 g2
        clear hb HC
        go_wp2_with fail
        refine bodyPost_ret (v := .tuple #[.agg #[.int .i64 3, .string (bs acc), .int .i64 0], .int .i64 ((i : Int) + 1)]) (by simp [results, Tryz.results60, go_sem, g0, g1, g2]) rfl ?_
        exact ⟨EndN.ok HT.out (by simp [textV]), ((HX.out.2.setCell (p := ⟨w.heap.size, 0, none⟩) (Nat.le_refl _) _).setCell (p := ⟨w.heap.size, 1, none⟩) (Nat.le_refl _) _).setCell (p := ⟨w.heap.size, 2, none⟩) (Nat.le_refl _) _⟩
      have b34 : ((s[i].toNat : Int) == 34) = false := byte_f c34
      by_cases c10 : s[i].toNat = 10
      · have b10 : ((s[i].toNat : Int) == 10) = true := byte_t c10
        have HT : Hid (TX = .error 4) := by unfold Hid; rw [HD.out, txtR_line c10]
        have HB : Hid (Below w.heap.size w wr) := HI.out.low
        clear c10 c34
        go_wp2_with fail
        exact ⟨rfl, EndN.err HT.out, HB.out⟩
      have b10 : ((s[i].toNat : Int) == 10) = false := byte_f c10
      by_cases c92 : s[i].toNat = 92
      · have b92 : ((s[i].toNat : Int) == 92) = true := byte_t c92
        by_cases hl2 : i + 1 < s.size
        · have j1 : (i : Int) + 1 < (s.size : Int) := by omega
          have j2 : (0 : Int) ≤ (i : Int) + 1 := by omega
          have hd2 := bytes_at s (i + 1) hl2
          have HD2 : Hid (TX = txtR (s[i] :: s[i + 1] :: s.toList.drop (i + 2)) acc i) := by unfold Hid; rw [HD.out, hd2]
          have HC : Hid _ := escaped_c s[i + 1]
          clear hd2
          cases he : escR s[i + 1] with
          | error er =>
            rw [he] at HC
            have HT : Hid (TX = .error er) := by unfold Hid; rw [HD2.out]; exact escR_err he _ _ _ _ c92
            have HB : Hid (Below w.heap.size w wr) := HI.out.low
            clear c10 c34 c92 he
            go_wp2_with fail
            refine (HC.out _).mono ?_
            rintro e w2 ⟨hr, hw2⟩
            obtain rfl : e = .panicked [errP er] := hr
            rw [hw2]
            clear hw2 w2
            go_wp2_with fail
            exact ⟨rfl, EndN.err HT.out, HB.out⟩
          | ok v =>
            rw [he] at HC
            obtain ⟨b, hv, hb⟩ := escR_byte he
            have HT : Hid (TX = txtR (s.toList.drop (i + 2)) (acc ++ [b]) (i + 2)) := by unfold Hid; rw [HD2.out]; exact hb _ _ _ _ c92
            have HCB : Hid _ := HI.out.bd.byte b (by have := HI.out.len; omega) (by have := HI.out.bd.lt; omega)
            subst hv
            clear c10 c34 c92 he hb
            go_wp2_with fail
            refine (HC.out _).mono ?_
            rintro e w2 ⟨hr, hw2⟩
            obtain rfl : e = .returned (.int .u8 b.toNat) := hr
            rw [hw2]
            clear hw2 w2
            go_wp2_with fail
            refine Calls.mono HCB.out ?_
            rintro e w3 ⟨rfl, hbd, hlow⟩
            have HN : Hid (TxI s w w3 TX (acc ++ [b]) (i + 2)) := HI.out.next HT.out (by have := HI.out.len; simp; omega) hlow hbd
            clear hbd hlow HCB HC
            go_wp2_with fail
            go_roundw
            case rel => exact ⟨i + 2, by go_num, by omega, by omega, _, HN.out⟩
            case measure => simp [intOf]; omega
        · have j1 : ¬ (i : Int) + 1 < (s.size : Int) := by omega
          have HN : Hid (TxI s w wr TX acc (i + 2)) := HI.out.next (by
            have e1 : s.toList.drop (i + 1) = [] := List.drop_eq_nil_of_le (by rw [bytes_len]; omega)
            have e2 : s.toList.drop (i + 2) = [] := List.drop_eq_nil_of_le (by rw [bytes_len]; omega)
            rw [HD.out, e1, e2, txtR_open c92, txtR_end]) (by have := HI.out.len; omega) (Below.refl _ _) HI.out.bd
          clear c10 c34 c92
          go_wp2_with fail
          go_roundw
          case rel => exact ⟨i + 2, by go_num, by omega, by omega, _, HN.out⟩
          case measure => simp [intOf]; omega
      · have b92 : ((s[i].toNat : Int) == 92) = false := byte_f c92
        have HT : Hid (TX = txtR (s.toList.drop (i + 1)) (acc ++ [s[i]]) (i + 1)) := by unfold Hid; rw [HD.out, txtR_plain c34 c10 c92]
        have HCB : Hid _ := HI.out.bd.byte s[i] (by have := HI.out.len; omega) (by have := HI.out.bd.lt; omega)
        clear c10 c34 c92
        go_wp2_with fail
        refine Calls.mono HCB.out ?_
        rintro e w3 ⟨rfl, hbd, hlow⟩
        have HN : Hid (TxI s w w3 TX (acc ++ [s[i]]) (i + 1)) := HI.out.next HT.out (by have := HI.out.len; simp; omega) hlow hbd
        clear hbd hlow HCB
        go_wp2_with fail
        go_roundw
        case rel => exact ⟨i + 1, by go_num, by omega, by omega, _, HN.out⟩
        case measure => simp [intOf]; omega
    · have i1 : ¬ (i : Int) < (s.size : Int) := by omega
      have HT : Hid (TX = .error 5) := by
        have e1 : s.toList.drop i = [] := List.drop_eq_nil_of_le (by rw [bytes_len]; omega)
        unfold Hid; rw [HI.out.eq, e1, txtR_end]
      have HB : Hid (Below w.heap.size w wr) := HI.out.low
      go_wp2_with fail
      exact ⟨rfl, EndN.err HT.out, HB.out⟩
end Go.Proofs.YtcmipgonogbolaaGreatDoor
