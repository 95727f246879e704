/-
  The program's exprText and what it stands on: kind by kind, then its contract.
-/
import Derived.Test.YtfbpkbochhfnhaaGreatDoorPrSpec
import Derived.WalkKit
import Derived.ProofKit
import Derived.PlainAid
import Derived.Handy
import Derived.Test.YtfbpkbochhfnhaaGreatDoorPrShelf
import Derived.Test.YtfbpkbochhfnhaaGreatDoorCkMem
import Derived.Test.YtfbpkbochhfnhaaGreatDoorCheckC
import Derived.Lib.AppendIntMem
import Derived.Lib.ItoaMem
import Derived.Deep.OwnRows
import Derived.BigQuiet
namespace Go.Proofs.YtfbpkbochhfnhaaGreatDoor
open Go.ChangeShapes Go.WideShapes Go.ChangeAt Go.RowKit Go.Joins
set_option linter.unusedVariables false
set_option maxRecDepth 100000

theorem take_more (s : ByteArray) (k : Nat) (hk : k < s.size) : s.toList.take (k + 1) = s.toList.take k ++ [s[k]] := by
  have hl := toL_len s
  rw [List.take_succ_eq_append_getElem (by omega)]
  congr 2
  simp [ByteArray.toList_eq]
  rfl

theorem one_more (s : ByteArray) (k : Nat) (hk : k < s.size) : (s.extract k (k + 1)).toList = [s[k]] := by
  rw [ByteArray.toList_eq, ByteArray.data_extract, Array.toList_extract, List.extract_eq_take_drop]
  have e : s.data.toList.length = s.size := by simp
  rw [List.drop_eq_getElem_cons (by omega)]
  simp
  rfl

theorem quote_step {s O P : ByteArray} {k : Nat} (hk : k < s.size) (h : O.toList = [34] ++ (s.toList.take k).flatMap quoteB) (hP : P.toList = quoteB s[k]) : (O ++ P).toList = [34] ++ (s.toList.take (k + 1)).flatMap quoteB := by
  rw [toL_append, h, hP, take_more s k hk, List.flatMap_append]
  simp

theorem quote_sz {s O : ByteArray} {k : Nat} (h : O.toList = [34] ++ (s.toList.take k).flatMap quoteB) : O.size ≤ 1 + 2 * k := by
  rw [← toL_len, h]
  have h1 := quoteF_len (s.toList.take k)
  have h2 : (s.toList.take k).length ≤ k := by rw [List.length_take]; omega
  simp only [List.length_append, List.length_cons, List.length_nil]
  omega

end Go.Proofs.YtfbpkbochhfnhaaGreatDoor

namespace Go.Proofs.YtfbpkbochhfnhaaGreatDoor
open Go.ChangeShapes Go.WideShapes Go.ChangeAt Go.RowKit Go.Joins
set_option linter.unusedVariables false
set_option maxRecDepth 100000

theorem quote_more {s : ByteArray} {k : Nat} (hk : k < s.size) : [34] ++ (s.toList.take (k + 1)).flatMap quoteB = [34] ++ (s.toList.take k).flatMap quoteB ++ quoteB s[k] := by
  rw [take_more s k hk, List.flatMap_append]
  simp

theorem quote_ln (s : ByteArray) (k : Nat) (hs : s.size ≤ 200) : ([34] ++ (s.toList.take k).flatMap quoteB).length ≤ 401 := by
  have h1 := quoteF_len (s.toList.take k)
  have h2 : (s.toList.take k).length ≤ s.toList.length := by rw [List.length_take]; omega
  have h3 := toL_len s
  simp only [List.length_append, List.length_cons, List.length_nil]
  omega

set_option maxHeartbeats 2000000 in
theorem quoted_c (s : ByteArray) (hs : s.size ≤ 200) (w : World) :
    Calls Tryz.prog 72 #[.string s] w fun e w' => e = .returned (.string (bs (quoteL s.toList))) ∧ Below w.heap.size w w' := by
  obtain ⟨o, ho⟩ : ∃ o, o = Obj.cells #[.pointer none, .slice none 0 0] 69 := ⟨_, rfl⟩
  have HB0 : Hid (Bd w.heap.size w.heap.size [] (w.alloc o)) := by rw [ho]; exact Bd.new w
  have HW0 : Hid (Below w.heap.size w (w.alloc o)) := (Below.refl _ _).alloc (Nat.le_refl _) o
  have HS : Hid (s.size ≤ 200) := hs
  go_enter Tryz.func72, Tryz.ntmps72
  go_wp2_with fail
  rw [← ho]
  clear ho
  refine (HB0.out.byte 34 (by simp) (by simp)).mono ?_
  rintro e w1 ⟨rfl, hb1, hw1⟩
  have HB1 : Hid (Bd w.heap.size w.heap.size ([34] ++ (s.toList.take 0).flatMap quoteB) w1) := show Bd _ _ _ _ by simpa using hb1
  have HW1 : Hid (Below w.heap.size w w1) := HW0.out.trans hw1
  clear hb1 hw1 HB0 HW0
  go_wp2_with fail
  go_loopw [8] (fun v wr => ∃ k : Nat, k ≤ s.size ∧ v = .int .i64 k ∧ Hid (Bd w.heap.size w.heap.size ([34] ++ (s.toList.take k).flatMap quoteB) wr ∧ Below w.heap.size w wr)) (fun v _ => s.size - (intOf v).toNat)
  case atStart => exact ⟨0, by omega, rfl, HB1.out, HW1.out⟩
  case round =>
    obtain ⟨k, hk, rfl, HR⟩ := hrel
    clear HB1 HW1
    by_cases hk2 : k < s.size
    · have i1 : (k : Int) < (s.size : Int) := by omega
      have i2 : (0 : Int) ≤ (k : Int) := by omega
      have hx : s[k]? = some s[k] := by simp [hk2]
      have HL : Hid (([34] ++ (s.toList.take k).flatMap quoteB).length ≤ 401) := quote_ln s k hs
      have HM : Hid ([34] ++ (s.toList.take (k + 1)).flatMap quoteB = [34] ++ (s.toList.take k).flatMap quoteB ++ quoteB s[k]) := quote_more hk2
      by_cases h34 : s[k].toNat = 34 ∨ s[k].toNat = 92
      · have HQ : Hid (quoteB s[k] = [92] ++ [s[k]]) := by
          unfold quoteB Hid
          rw [if_pos (by rcases h34 with h | h; exact .inl (UInt8.toNat_inj.1 h); exact .inr (UInt8.toNat_inj.1 h))]
          rfl
        rcases h34 with h | h
        · have b34 : ((s[k].toNat : Int) == 34) = true := by simp [h]
          clear h
          go_wp2_with fail
          refine (HR.out.1.byte 92 (by have := HL.out; omega) HR.out.2.size).mono ?_
          rintro e w2 ⟨rfl, hb2, hw2⟩
          have HB2 : Hid (Bd w.heap.size w.heap.size ([34] ++ (s.toList.take k).flatMap quoteB ++ [92]) w2) := hb2
          have HW2 : Hid (Below w.heap.size w w2) := HR.out.2.trans hw2
          clear hb2 hw2
          go_wp2_with fail
          refine (HB2.out.byte s[k] (by have := HL.out; simp only [List.length_append, List.length_cons, List.length_nil] at this ⊢; omega) HW2.out.size).mono ?_
          rintro e w3 ⟨rfl, hb3, hw3⟩
          have HN : Hid (Bd w.heap.size w.heap.size ([34] ++ (s.toList.take (k + 1)).flatMap quoteB) w3 ∧ Below w.heap.size w w3) := ⟨by rw [HM.out, HQ.out, ← List.append_assoc]; exact hb3, HW2.out.trans hw3⟩
          clear hb3 hw3
          go_wp2_with fail
          go_roundw
          case rel => exact ⟨k + 1, by omega, by go_num, HN⟩
          case measure => simp [intOf]; omega
        · have b34 : ((s[k].toNat : Int) == 34) = false := by simp [h]
          have b92 : ((s[k].toNat : Int) == 92) = true := by simp [h]
          clear h
          go_wp2_with fail
          refine (HR.out.1.byte 92 (by have := HL.out; omega) HR.out.2.size).mono ?_
          rintro e w2 ⟨rfl, hb2, hw2⟩
          have HB2 : Hid (Bd w.heap.size w.heap.size ([34] ++ (s.toList.take k).flatMap quoteB ++ [92]) w2) := hb2
          have HW2 : Hid (Below w.heap.size w w2) := HR.out.2.trans hw2
          clear hb2 hw2
          go_wp2_with fail
          refine (HB2.out.byte s[k] (by have := HL.out; simp only [List.length_append, List.length_cons, List.length_nil] at this ⊢; omega) HW2.out.size).mono ?_
          rintro e w3 ⟨rfl, hb3, hw3⟩
          have HN : Hid (Bd w.heap.size w.heap.size ([34] ++ (s.toList.take (k + 1)).flatMap quoteB) w3 ∧ Below w.heap.size w w3) := ⟨by rw [HM.out, HQ.out, ← List.append_assoc]; exact hb3, HW2.out.trans hw3⟩
          clear hb3 hw3
          go_wp2_with fail
          go_roundw
          case rel => exact ⟨k + 1, by omega, by go_num, HN⟩
          case measure => simp [intOf]; omega
      · have b34 : ((s[k].toNat : Int) == 34) = false := by simp; omega
        have b92 : ((s[k].toNat : Int) == 92) = false := by simp; omega
        have hno : ¬ (s[k] = 34 ∨ s[k] = 92) := fun h => h34 (by rcases h with h | h; exact .inl (by rw [h]; rfl); exact .inr (by rw [h]; rfl))
        by_cases h10 : s[k].toNat = 10
        · have b10 : ((s[k].toNat : Int) == 10) = true := by simp [h10]
          have HQ : Hid (quoteB s[k] = [92, 110]) := by
            unfold quoteB Hid
            rw [if_neg hno, if_pos (UInt8.toNat_inj.1 h10)]
          clear h10 h34 hno
          go_wp2_with fail
          refine (HR.out.1.write ⟨#[92, 110]⟩ (by have := HL.out; have e : (⟨#[92, 110]⟩ : ByteArray).size = 2 := rfl; omega) HR.out.2.size).mono ?_
          rintro e w3 ⟨rfl, hb3, hw3⟩
          have HN : Hid (Bd w.heap.size w.heap.size ([34] ++ (s.toList.take (k + 1)).flatMap quoteB) w3 ∧ Below w.heap.size w w3) := ⟨by rw [HM.out, HQ.out]; rw [toL_mk [92, 110]] at hb3; exact hb3, HR.out.2.trans hw3⟩
          clear hb3 hw3
          go_wp2_with fail
          go_roundw
          case rel => exact ⟨k + 1, by omega, by go_num, HN⟩
          case measure => simp [intOf]; omega
        · have b10 : ((s[k].toNat : Int) == 10) = false := by simp; omega
          have HQ : Hid (quoteB s[k] = [s[k]]) := by
            unfold quoteB Hid
            rw [if_neg hno, if_neg (fun h => h10 (by rw [h]; rfl))]
          clear h10 h34 hno
          go_wp2_with fail
          refine (HR.out.1.byte s[k] (by have := HL.out; omega) HR.out.2.size).mono ?_
          rintro e w3 ⟨rfl, hb3, hw3⟩
          have HN : Hid (Bd w.heap.size w.heap.size ([34] ++ (s.toList.take (k + 1)).flatMap quoteB) w3 ∧ Below w.heap.size w w3) := ⟨by rw [HM.out, HQ.out]; exact hb3, HR.out.2.trans hw3⟩
          clear hb3 hw3
          go_wp2_with fail
          go_roundw
          case rel => exact ⟨k + 1, by omega, by go_num, HN⟩
          case measure => simp [intOf]; omega
    · have i1 : ¬ (k : Int) < (s.size : Int) := by omega
      have HL : Hid (([34] ++ (s.toList.take k).flatMap quoteB).length ≤ 401) := quote_ln s k hs
      have HQ : Hid ([34] ++ (s.toList.take k).flatMap quoteB ++ [34] = quoteL s.toList) := by
        have hl := toL_len s
        unfold quoteL Hid
        rw [List.take_of_length_le (by omega)]
      go_wp2_with fail
      refine (HR.out.1.byte 34 (by have := HL.out; omega) HR.out.2.size).mono ?_
      rintro e w2 ⟨rfl, hb2, hw2⟩
      have HB2 : Hid (Bd w.heap.size w.heap.size (quoteL s.toList) w2) := by rw [← HQ.out]; exact hb2
      have HW2 : Hid (Below w.heap.size w w2) := HR.out.2.trans hw2
      clear hb2 hw2
      go_wp2_with fail
      refine (HB2.out.string HW2.out.size).mono ?_
      rintro e w3 ⟨rfl, hw3⟩
      have HW3 : Hid (Below w.heap.size w w3) := HW2.out.trans hw3
      clear hw3
      go_wp2_with fail
      go_ret
      exact ⟨rfl, HW3.out⟩
end Go.Proofs.YtfbpkbochhfnhaaGreatDoor

namespace Go.Proofs.YtfbpkbochhfnhaaGreatDoor
open Go.ChangeShapes Go.WideShapes Go.ChangeAt Go.RowKit Go.Joins
set_option linter.unusedVariables false
set_option maxRecDepth 100000

/-- The table that strconv.Itoa reads holds the powers of ten. -/
def Pow (w : World) : Prop := Lib.TabIs Tryz.prog w "internal/strconv.uint64pow10" .u64 Lib.pow10Tab

theorem gPow : ∃ g, Tryz.prog.globalNamed "internal/strconv.uint64pow10" = some g := by
  cases h : Tryz.prog.globalNamed "internal/strconv.uint64pow10" with
  | none =>
    have e : (Tryz.prog.globalNamed "internal/strconv.uint64pow10").isSome = true := by kernel_rfl
    rw [h] at e; cases e
  | some g => exact ⟨g, rfl⟩

theorem Pow.stays {w w' : World} (h : Pow w) (hb : Below w.heap.size w w') : Pow w' := by
  obtain ⟨g, hg⟩ := gPow
  exact tab_stays hg h hb (Nat.le_refl _)

theorem below_grown_k {w w' : World} (h : ∃ k os, w' = Sort.grow (w.drewN k) os) : Below w.heap.size w w' := by
  obtain ⟨k, os, rfl⟩ := h
  exact Lib.below_grow w.heap.size w (Nat.le_refl _) k os

/-- An element of a list of expressions, at the offset o. -/
theorem kid {B m b off : Nat} {w : World} {l : List Ex} (hi : ∀ i, i < l.length → ∃ cs : List Value, cs.length = 4 ∧ (∀ j, j < 4 → w.cell? ⟨b, off + i * 4 + j, none⟩ = cs[j]?) ∧ ∃ x, l[i]? = some x ∧ ExA B w m cs x) (i o : Nat) (ho : off + i * 4 = o) (h : i < l.length) :
    ∃ (k n : Int) (s : ByteArray) (a : Option Addr) (len cap : Nat), w.cell? ⟨b, o, none⟩ = some (.int .i64 k) ∧ w.cell? ⟨b, o + 1, none⟩ = some (.int .i64 n) ∧ w.cell? ⟨b, o + 2, none⟩ = some (.string s) ∧ w.cell? ⟨b, o + 3, none⟩ = some (.slice a len cap) ∧ Hid (ExA B w m [.int .i64 k, .int .i64 n, .string s, .slice a len cap] (l.getD i default)) ∧ l.getD i default ∈ l := by
  obtain ⟨cs, hcl, hcell, x, hx, hex⟩ := hi i h
  obtain ⟨k, n, s, a, len, cap, rfl⟩ := hex.shape
  subst ho
  have hx2 : l.getD i default = x := by simp [List.getD_eq_getElem?_getD, hx]
  refine ⟨k, n, s, a, len, cap, hcell 0 (by omega), hcell 1 (by omega), hcell 2 (by omega), hcell 3 (by omega), by rw [hx2]; exact hex, ?_⟩
  rw [hx2]
  exact List.mem_of_getElem? hx

theorem ret_str {a b : ByteArray} (h : a = b) : Ending.returned (.string a) = .returned (.string b) := by rw [h]

/-- The texts of a function's answers, up to 10^8 bytes. -/
def TextE (F : FuncId) (m : Nat) : Prop := ∀ (B : Nat) (x : Ex) (cs : List Value) (w : World), ExA B w m cs x → B ≤ w.heap.size → okE m x → (exT m x).length ≤ 100000000 → Pow w →
  Calls Tryz.prog F #[.agg cs.toArray] w fun e w' => e = .returned (.string (bs (exT m x))) ∧ Below w.heap.size w w'

/-- A callee within a region that draws: in each world of the class. -/
theorem kid_c {F : FuncId} {m B : Nat} {x : Ex} {cs : List Value} {w W : World} {T : ByteArray} (hX : TextE F m) (hx : ExA B w m cs x) (hw : Below w.heap.size w W) (hB : B ≤ w.heap.size) (hok : okE m x) (hlen : (exT m x).length ≤ 100000000) (hP : Pow w) (hT : T = bs (exT m x)) (d : Nat) (os : Array Obj) :
    Calls Tryz.prog F #[.agg cs.toArray] (Sort.grow (redrawn W d) os) fun e w'' => e = .returned (.string T) ∧ ∃ p : Regrown, w'' = Sort.grow (redrawn W p.d) p.os := by
  have hb : Below w.heap.size w (Sort.grow (redrawn W d) os) := bl_trans hw (below_regrown W d os)
  subst hT
  exact Calls.regrown_of (hX B x cs _ (hx.below (hb.mono hB)) (Nat.le_trans hB hb.size) hok hlen (hP.stays hb))

/-- A list of expressions that lies in memory. -/
def Kids (B b off m : Nat) (w : World) (l : List Ex) : Prop := ∀ i, i < l.length → ∃ cs : List Value, cs.length = 4 ∧ (∀ j, j < 4 → w.cell? ⟨b, off + i * 4 + j, none⟩ = cs[j]?) ∧ ∃ x, l[i]? = some x ∧ ExA B w m cs x
end Go.Proofs.YtfbpkbochhfnhaaGreatDoor

namespace Go.Proofs.YtfbpkbochhfnhaaGreatDoor
open Go.ChangeShapes Go.WideShapes Go.ChangeAt Go.RowKit Go.Joins
set_option linter.unusedVariables false
set_option maxRecDepth 100000

theorem infoStr : (Tryz.prog.info? 9).map (fun i => (i.zero, i.size, i.bytes)) = some (some (.string ⟨#[]⟩), 1, 16) := by kernel_rfl

theorem joinTail_is (x : List UInt8) (r : List (List UInt8)) : joinL (x :: r) = x ++ Lib.joinTail [44, 32] r := by
  induction r generalizing x with
  | nil => simp [joinL, Lib.joinTail]
  | cons y r ih => rw [joinL, ih y]; simp [Lib.joinTail]

theorem join_is (l : List (List UInt8)) : Lib.join l [44, 32] = joinL l := by
  cases l with
  | nil => rfl
  | cons x r => rw [Lib.join_cons, joinTail_is]

set_option maxHeartbeats 2000000 in
theorem elemText_c {m : Nat} (hX : TextE 50 m) (B : Nat) (s : ByteArray) (x : Ex) (cs : List Value) (w : World) (hx : ExA B w m cs x) (hB : B ≤ w.heap.size) (hok : okE m x) (hlen : (exT m x).length ≤ 100000000) (hs : s.size ≤ 200) (hP : Pow w) :
    Calls Tryz.prog 73 #[.string s, .agg cs.toArray] w fun e w' => e = .returned (.string (bs (s.toList ++ [91] ++ exT m x ++ [93]))) ∧ Below w.heap.size w w' := by
  obtain ⟨k0, n0, s0, a0, len0, cap0, rfl⟩ := hx.shape
  obtain ⟨W, hW⟩ : ∃ W, W = w.alloc (.cells #[.int .i64 k0, .int .i64 n0, .string s0, .slice a0 len0 cap0] 57) := ⟨_, rfl⟩
  have HW : Hid (Below w.heap.size w W) := by rw [hW]; exact (Below.refl _ _).alloc (Nat.le_refl _) _
  have HX : Hid (ExA B W m [.int .i64 k0, .int .i64 n0, .string s0, .slice a0 len0 cap0] x) := hx.below (HW.out.mono hB)
  have HP : Hid (Pow W) := hP.stays HW.out
  obtain ⟨T0, hT0⟩ : ∃ T, T = bs (exT m x) := ⟨_, rfl⟩
  have t0 : T0.size = (exT m x).length := by rw [hT0, bs_size]
  have HE : Hid (s ++ ⟨#[91]⟩ ++ T0 ++ ⟨#[93]⟩ = bs (s.toList ++ [91] ++ exT m x ++ [93])) := bs_of (by rw [hT0]; simp only [toL_append, bs_list, toL_mk])
  have z1 : ¬ 9223372036854775807 < s.size + 1 := by omega
  have z2 : ¬ 9223372036854775807 < s.size + 1 + T0.size := by omega
  have z3 : ¬ 9223372036854775807 < s.size + 1 + T0.size + 1 := by omega
  have HB : Hid (B ≤ W.heap.size) := Nat.le_trans hB HW.out.size
  have hc := hX B x _ W HX.out HB.out hok hlen HP.out
  rw [← hT0] at hc
  have HC : Hid _ := hc
  have HWW : Hid (W = _) := hW
  clear hW hc hX hx hP t0 hT0 hlen hs
  go_enter Tryz.func73, Tryz.ntmps73
  go_wp2_with fail
  rw [← HWW.out]
  clear HWW
  refine Calls.mono HC.out ?_
  rintro e w1 ⟨rfl, hb1⟩
  have HB1 : Hid (Below w.heap.size w w1) := bl_trans HW.out hb1
  clear hb1 HC
  go_wp2_with fail
  go_ret
  exact ⟨ret_str HE.out, HB1.out⟩

/-- The texts that were made so far. -/
def Made (w : World) (g : Nat) (m : Nat) (l : List Ex) (i : Nat) (wr : World) : Prop :=
  Below g w wr ∧ ∃ cs : Array Value, wr.heap[g]? = some (.cells cs 9 (0, 0)) ∧ cs.size = l.length ∧ ∀ j, j < i → cs[j]? = some (.string (bs (exT m (l.getD j default))))

set_option maxHeartbeats 4000000 in
theorem exprsText_c {m : Nat} (hX : TextE 50 m) (B : Nat) (l : List Ex) (v : Value) (w : World) (hv : Sl w B 4 v l.length (fun i c => ∃ x, l[i]? = some x ∧ ExA B w m c x)) (hB : B ≤ w.heap.size) (hok : ∀ x ∈ l, okE m x) (hlen : (joinL (l.map (exT m))).length ≤ 100000000) (hl2 : l.length ≤ 100000000) (hl0 : 0 < l.length) (hP : Pow w) :
    Calls Tryz.prog 74 #[v] w fun e w' => e = .returned (.string (bs (joinL (l.map (exT m))))) ∧ Below w.heap.size w w' := by
  obtain ⟨a, cap, rfl, hmax, hsl⟩ := hv
  obtain ⟨b, off, rfl, hb, hi⟩ := hsl hl0
  have hbw : b < w.heap.size := by omega
  have HI : Hid (∀ i, i < l.length → ∃ cs : List Value, cs.length = 4 ∧ (∀ j, j < 4 → w.cell? ⟨b, off + i * 4 + j, none⟩ = cs[j]?) ∧ ∃ x, l[i]? = some x ∧ ExA B w m cs x) := hi
  have HX : Hid (TextE 50 m) := hX
  have HOK : Hid (∀ x ∈ l, okE m x) := hok
  have HL : Hid ((joinL (l.map (exT m))).length ≤ 100000000) := hlen
  have HP : Hid (Pow w) := hP
  have hmk := run_make_row' (P := Tryz.prog) 33 9 (.string ⟨#[]⟩) 16 Tryz.underlying33 infoStr rfl .i64 .i64 l.length (by omega) (by omega)
  obtain ⟨W, hW⟩ : ∃ W, W = w.alloc (.cells (madeCells #[.string ⟨#[]⟩] l.length) 9) := ⟨_, rfl⟩
  have HM0 : Hid (Made w w.heap.size m l 0 W) := by
    rw [hW]
    exact ⟨(Below.refl _ _).alloc (Nat.le_refl _) _, _, by show (w.heap.push _)[w.heap.size]? = _; rw [Array.getElem?_push_size], size_madeCells _ _, fun j hj => absurd hj (Nat.not_lt_zero j)⟩
  have HWW : Hid (W = _) := hW
  clear hi hX hok hP hsl hW hlen
  go_enter Tryz.func74, Tryz.ntmps74
  go_wp2_with fail
  rw [← HWW.out]
  clear HWW hmk
  go_loopw [11] (fun v wr => ∃ i : Nat, i ≤ l.length ∧ v = .int .i64 i ∧ Hid (Made w w.heap.size m l i wr)) (fun v _ => l.length - (intOf v).toNat)
  case atStart => exact ⟨0, by omega, rfl, HM0.out⟩
  case round =>
    obtain ⟨i, hil, rfl, HR⟩ := hrel
    clear HM0
    by_cases hlt : i < l.length
    · have i1 : (i : Int) < (l.length : Int) := by omega
      have i2 : (0 : Int) ≤ (i : Int) := by omega
      obtain ⟨k0, n0, s0, a0, len0, cap0, p0, p1, p2, p3, hx0, hm0⟩ := kid HI.out i (off + i * 4) rfl hlt
      obtain ⟨hbr, cs, hg, hcs, hj⟩ := HR.out
      have HBR : Hid (Below w.heap.size w wr) := hbr
      have q0 : wr.cell? ⟨b, off + i * 4, none⟩ = some (.int .i64 k0) := (HBR.out.cell (p := ⟨b, off + i * 4, none⟩) hbw).trans p0
      have q1 : wr.cell? ⟨b, off + i * 4 + 1, none⟩ = some (.int .i64 n0) := (HBR.out.cell (p := ⟨b, off + i * 4 + 1, none⟩) hbw).trans p1
      have q2 : wr.cell? ⟨b, off + i * 4 + 2, none⟩ = some (.string s0) := (HBR.out.cell (p := ⟨b, off + i * 4 + 2, none⟩) hbw).trans p2
      have q3 : wr.cell? ⟨b, off + i * 4 + 3, none⟩ = some (.slice a0 len0 cap0) := (HBR.out.cell (p := ⟨b, off + i * 4 + 3, none⟩) hbw).trans p3
      have HG : Hid (wr.heap[w.heap.size]? = some (.cells cs 9 (0, 0)) ∧ cs.size = l.length ∧ ∀ j, j < i → cs[j]? = some (.string (bs (exT m (l.getD j default))))) := ⟨hg, hcs, hj⟩
      have HGL : Hid (w.heap.size < wr.heap.size) := by
        show w.heap.size < wr.heap.size
        rcases Nat.lt_or_ge w.heap.size wr.heap.size with h' | h'
        · exact h'
        · simp [Array.getElem?_eq_none h'] at hg
      have HM : Hid (l.getD i default ∈ l) := hm0
      clear hg hcs hj hbr p0 p1 p2 p3 hm0
      have HB1 : Hid (Below wr.heap.size wr (wr.alloc (.cells #[.int .i64 k0, .int .i64 n0, .string s0, .slice a0 len0 cap0] 57))) := (Below.refl _ _).alloc (Nat.le_refl _) _
      have HSZ : Hid ((exT m (l.getD i default)).length ≤ 100000000) := Nat.le_trans (joinL_mem_len (List.mem_map.2 ⟨_, HM.out, rfl⟩)) HL.out
      obtain ⟨W1, hW1⟩ : ∃ W1, W1 = wr.alloc (.cells #[.int .i64 k0, .int .i64 n0, .string s0, .slice a0 len0 cap0] 57) := ⟨_, rfl⟩
      rw [← hW1] at HB1
      have HWW : Hid (W1 = _) := hW1
      clear hW1
      go_wp2_with fail
      rw [← HWW.out]
      clear HWW q0 q1 q2 q3
      have HB2 : Hid (Below w.heap.size w W1) := bl_trans HBR.out HB1.out
      refine (HX.out B (l.getD i default) [.int .i64 k0, .int .i64 n0, .string s0, .slice a0 len0 cap0] W1 (hx0.out.below (HB2.out.mono hB)) (Nat.le_trans hB HB2.out.size) (HOK.out _ HM.out) HSZ.out (HP.out.stays HB2.out)).mono ?_
      rintro e w2 ⟨rfl, hb2⟩
      have HB3 : Hid (Below wr.heap.size wr w2) := bl_trans HB1.out hb2
      have HG2 : Hid (w2.heap[w.heap.size]? = some (.cells cs 9 (0, 0))) := by
        show w2.heap[w.heap.size]? = _
        rw [HB3.out.block _ HGL.out]
        exact HG.out.1
      have q4 : w2.cell? ⟨w.heap.size, i, none⟩ = cs[i]? := Lib.cell_of_heap HG2.out i
      rw [Array.getElem?_eq_getElem (by rw [HG.out.2.1]; exact hlt)] at q4
      have q5 : w2.frozen? ⟨w.heap.size, i, none⟩ = false := Lib.frozen_of_heap HG2.out i
      have HN : Hid (Made w w.heap.size m l (i + 1) (w2.setCell ⟨w.heap.size, i, none⟩ (.string (bs (exT m (l.getD i default)))))) := by
        refine ⟨(bl_trans HBR.out HB3.out).setCell (p := ⟨w.heap.size, i, none⟩) (Nat.le_refl _) _, cs.setIfInBounds i (.string (bs (exT m (l.getD i default)))), ?_, by simp [HG.out.2.1], ?_⟩
        · simp [World.setCell, Array.getElem?_modify, HG2.out]
        · intro j hj
          by_cases hji : j = i
          · subst hji
            simp [HG.out.2.1, hlt]
          · rw [Array.getElem?_setIfInBounds_ne (by omega)]
            exact HG.out.2.2 j (by omega)
      clear hb2
      obtain ⟨T0, hT0⟩ : ∃ T, T = bs (exT m (l.getD i default)) := ⟨_, rfl⟩
      rw [← hT0] at HN ⊢
      clear hT0
      go_wp2_with fail
      go_roundw
      case rel => exact ⟨i + 1, by omega, by go_num, HN⟩
      case measure => simp [intOf]; omega
    · have i1 : ¬ (i : Int) < (l.length : Int) := by omega
      obtain ⟨hbr, cs, hg, hcs, hj⟩ := HR.out
      have HBR : Hid (Below w.heap.size w wr) := hbr
      have HC : Hid (Calls Tryz.prog 101 #[.slice (some ⟨w.heap.size, 0, none⟩) l.length l.length, .string ⟨#[44, 32]⟩] wr fun e w' => e = .returned (.string (bs (joinL (l.map (exT m))))) ∧ Below wr.heap.size wr w') := by
        have hgl : w.heap.size < wr.heap.size := by
          rcases Nat.lt_or_ge w.heap.size wr.heap.size with h' | h'
          · exact h'
          · simp [Array.getElem?_eq_none h'] at hg
        have e1 : (l.map fun x => bs (exT m x)).map (·.data.toList) = l.map (exT m) := by
          rw [List.map_map]
          exact List.map_congr_left fun x _ => by simp [bs]
        have e2 : (⟨#[44, 32]⟩ : ByteArray).data.toList = [44, 32] := rfl
        have h := Tryz.strings_Join w.heap.size 0 l.length (l.map fun x => bs (exT m x)) ⟨#[44, 32]⟩ wr (fun j x hx => by
            rw [Lib.cell_of_heap hg]
            have hjl : j < l.length := by have := (List.getElem?_eq_some_iff.1 hx).1; simpa using this
            rw [Nat.zero_add, hj j (by omega)]
            simp only [List.getElem?_map, List.getElem?_eq_getElem hjl, Option.map_some, Option.some.injEq] at hx
            rw [List.getD_eq_getElem?_getD, List.getElem?_eq_getElem hjl, Option.getD_some, hx]) hgl (by simp; omega) (by simp) (by rw [e1, e2, join_is]; have := HL.out; omega)
        rw [e1, e2, join_is, List.length_map] at h
        exact h
      clear hg hcs hj hbr
      go_wp2_with fail
      refine Calls.mono HC.out ?_
      rintro e w3 ⟨rfl, hw3⟩
      have HW3 : Hid (Below w.heap.size w w3) := bl_trans HBR.out hw3
      clear hw3
      go_wp2_with fail
      go_ret
      exact ⟨rfl, HW3.out⟩
end Go.Proofs.YtfbpkbochhfnhaaGreatDoor

namespace Go.Proofs.YtfbpkbochhfnhaaGreatDoor
open Go.ChangeShapes Go.WideShapes Go.ChangeAt Go.RowKit Go.Joins
set_option linter.unusedVariables false
set_option maxRecDepth 100000

set_option maxHeartbeats 2000000 in
theorem prE_6 {m : Nat} (hX : TextE 50 m) (B : Nat) (n : Int) (s : ByteArray) (l : List Ex) (cs : List Value) (w : World) (hx : ExA B w (m + 1) cs (.mk 6 n s l)) (hB : B ≤ w.heap.size) (hok : okE (m + 1) (.mk 6 n s l)) (hlen : (exT (m + 1) (.mk 6 n s l)).length ≤ 100000000) (hP : Pow w) :
    Calls Tryz.prog 50 #[.agg cs.toArray] w fun e w' => e = .returned (.string (bs (exT (m + 1) (.mk 6 n s l)))) ∧ Below w.heap.size w w' := by
  obtain ⟨v, rfl, wk, wn, ws, a, cap, rfl, hmax, hsl⟩ := hx
  obtain ⟨-, -, hpa, hs2, hn0, hn1, hall⟩ := hok
  have hll : l.length = 2 := by have := argsN_of hpa; simp [argsN] at this; omega
  have HT : Hid (exT (m + 1) (.mk 6 n s l) = [40] ++ exT m (l.getD 0 default) ++ [32] ++ s.toList ++ [32] ++ exT m (l.getD 1 default) ++ [41]) := by simp [exT, Hid]
  obtain ⟨b, off, rfl, hb, hi⟩ := hsl (by omega)
  show Calls Tryz.prog 50 #[.agg #[.int .i64 6, .int .i64 n, .string s, .slice (some ⟨b, off, none⟩) l.length cap]] w _
  rw [hll]
  obtain ⟨k0, n0, s0, a0, len0, cap0, p00, p01, p02, p03, hx0, hm0⟩ := kid hi 0 off (by omega) (by omega)
  obtain ⟨k1, n1, s1, a1, len1, cap1, p10, p11, p12, p13, hx1, hm1⟩ := kid hi 1 (off + 4) (by omega) (by omega)
  have hlt := congrArg List.length HT.out
  simp only [List.length_append, List.length_cons, List.length_nil] at hlt
  have HW : Hid (Below w.heap.size w (w.alloc (.cells #[.int .i64 6, .int .i64 n, .string s, .slice (some ⟨b, off, none⟩) 2 cap] 57))) := (Below.refl _ _).alloc (Nat.le_refl _) _
  have HR : Hid (RowAt (w.alloc (.cells #[.int .i64 6, .int .i64 n, .string s, .slice (some ⟨b, off, none⟩) 2 cap] 57)) w.heap.size #[.int .i64 6, .int .i64 n, .string s, .slice (some ⟨b, off, none⟩) 2 cap]) := RowAt.new w _ _
  obtain ⟨W, hW⟩ : ∃ W, W = w.alloc (.cells #[.int .i64 6, .int .i64 n, .string s, .slice (some ⟨b, off, none⟩) 2 cap] 57) := ⟨_, rfl⟩
  rw [← hW] at HW HR
  have HWW : Hid (W = _) := hW
  clear hW
  obtain ⟨T0, hT0⟩ : ∃ T, T = bs (exT m (l.getD 0 default)) := ⟨_, rfl⟩
  obtain ⟨T1, hT1⟩ : ∃ T, T = bs (exT m (l.getD 1 default)) := ⟨_, rfl⟩
  have t0 : T0.size = (exT m (l.getD 0 default)).length := by rw [hT0, bs_size]
  have t1 : T1.size = (exT m (l.getD 1 default)).length := by rw [hT1, bs_size]
  have c0 := kid_c hX hx0.out HW.out hB (hall _ hm0) (by omega) hP hT0
  have c1 := kid_c hX hx1.out HW.out hB (hall _ hm1) (by omega) hP hT1
  have HE : Hid (⟨#[40]⟩ ++ T0 ++ ⟨#[32]⟩ ++ s ++ ⟨#[32]⟩ ++ T1 ++ ⟨#[41]⟩ = bs (exT (m + 1) (.mk 6 n s l))) := bs_of (by rw [HT.out, hT0, hT1]; simp only [toL_append, bs_list, toL_mk])
  have z1 : ¬ 9223372036854775807 < 1 + T0.size := by omega
  have z2 : ¬ 9223372036854775807 < 1 + T0.size + 1 := by omega
  have z3 : ¬ 9223372036854775807 < 1 + T0.size + 1 + s.size := by omega
  have z4 : ¬ 9223372036854775807 < 1 + T0.size + 1 + s.size + 1 := by omega
  have z5 : ¬ 9223372036854775807 < 1 + T0.size + 1 + s.size + 1 + T1.size := by omega
  have z6 : ¬ 9223372036854775807 < 1 + T0.size + 1 + s.size + 1 + T1.size + 1 := by omega
  have hbw : b < w.heap.size := by omega
  have r00 := cell_regrown ((HW.out.cell (p := ⟨b, off, none⟩) hbw).trans p00)
  have r01 := cell_regrown ((HW.out.cell (p := ⟨b, off + 1, none⟩) hbw).trans p01)
  have r02 := cell_regrown ((HW.out.cell (p := ⟨b, off + 2, none⟩) hbw).trans p02)
  have r03 := cell_regrown ((HW.out.cell (p := ⟨b, off + 3, none⟩) hbw).trans p03)
  have r10 := cell_regrown ((HW.out.cell (p := ⟨b, off + 4, none⟩) hbw).trans p10)
  have r11 := cell_regrown ((HW.out.cell (p := ⟨b, off + 4 + 1, none⟩) hbw).trans p11)
  have r12 := cell_regrown ((HW.out.cell (p := ⟨b, off + 4 + 2, none⟩) hbw).trans p12)
  have r13 := cell_regrown ((HW.out.cell (p := ⟨b, off + 4 + 3, none⟩) hbw).trans p13)
  have q0 := HR.out.cell 0
  have q2 := HR.out.cell 2
  have q3 := HR.out.cell 3
  simp only [List.getElem?_toArray, List.getElem?_cons_zero, List.getElem?_cons_succ] at q0 q2 q3
  have Q2 := cell_regrown q2
  have Q3 := cell_regrown q3
  clear hX hi hall hx0 hx1 p00 p01 p02 p03 p10 p11 p12 p13 hT0 hT1 t0 t1 hlt HT hpa hlen hs2 hm0 hm1 hP hsl wk wn ws hll
  go_enter Tryz.func50, Tryz.ntmps50
  go_wp2_with fail
  rw [← HWW.out]
  clear HWW
  refine wp_region_quiet_below (by kernel_rfl) (by kernel_rfl) ?_
  repeat (go_big_quiet_step (first | with_reducible exact c0 _ _ | with_reducible exact c1 _ _))
  refine wpQuiet_nil ?_
  intro _ hw'
  obtain ⟨⟨dq, osq⟩, hw''⟩ := hw'
  subst hw''
  go_wp2
  go_ret
  exact ⟨ret_str HE.out, bl_trans HW.out (below_regrown W dq osq)⟩

set_option maxHeartbeats 2000000 in
theorem prE_4 {m : Nat} (hX : TextE 50 m) (B : Nat) (n : Int) (s : ByteArray) (l : List Ex) (cs : List Value) (w : World) (hx : ExA B w (m + 1) cs (.mk 4 n s l)) (hB : B ≤ w.heap.size) (hok : okE (m + 1) (.mk 4 n s l)) (hlen : (exT (m + 1) (.mk 4 n s l)).length ≤ 100000000) (hP : Pow w) :
    Calls Tryz.prog 50 #[.agg cs.toArray] w fun e w' => e = .returned (.string (bs (exT (m + 1) (.mk 4 n s l)))) ∧ Below w.heap.size w w' := by
  obtain ⟨v, rfl, wk, wn, ws, a, cap, rfl, hmax, hsl⟩ := hx
  obtain ⟨-, -, hpa, hs2, hn0, hn1, hall⟩ := hok
  have hll : l.length = 1 := by have := argsN_of hpa; simp [argsN] at this; omega
  have HT : Hid (exT (m + 1) (.mk 4 n s l) = [40, 36] ++ exT m (l.getD 0 default) ++ [41]) := by simp [exT, Hid]
  obtain ⟨b, off, rfl, hb, hi⟩ := hsl (by omega)
  show Calls Tryz.prog 50 #[.agg #[.int .i64 4, .int .i64 n, .string s, .slice (some ⟨b, off, none⟩) l.length cap]] w _
  rw [hll]
  obtain ⟨k0, n0, s0, a0, len0, cap0, p00, p01, p02, p03, hx0, hm0⟩ := kid hi 0 off (by omega) (by omega)
  have hlt := congrArg List.length HT.out
  simp only [List.length_append, List.length_cons, List.length_nil] at hlt
  have HW : Hid (Below w.heap.size w (w.alloc (.cells #[.int .i64 4, .int .i64 n, .string s, .slice (some ⟨b, off, none⟩) 1 cap] 57))) := (Below.refl _ _).alloc (Nat.le_refl _) _
  have HR : Hid (RowAt (w.alloc (.cells #[.int .i64 4, .int .i64 n, .string s, .slice (some ⟨b, off, none⟩) 1 cap] 57)) w.heap.size #[.int .i64 4, .int .i64 n, .string s, .slice (some ⟨b, off, none⟩) 1 cap]) := RowAt.new w _ _
  obtain ⟨W, hW⟩ : ∃ W, W = w.alloc (.cells #[.int .i64 4, .int .i64 n, .string s, .slice (some ⟨b, off, none⟩) 1 cap] 57) := ⟨_, rfl⟩
  rw [← hW] at HW HR
  have HWW : Hid (W = _) := hW
  clear hW
  obtain ⟨T0, hT0⟩ : ∃ T, T = bs (exT m (l.getD 0 default)) := ⟨_, rfl⟩
  have t0 : T0.size = (exT m (l.getD 0 default)).length := by rw [hT0, bs_size]
  have HC0 : Hid (Calls Tryz.prog 50 #[.agg #[.int .i64 k0, .int .i64 n0, .string s0, .slice a0 len0 cap0]] W fun e w' => e = .returned (.string T0) ∧ Below W.heap.size W w') := by rw [hT0]; exact hX B _ _ W (hx0.out.below (HW.out.mono hB)) (Nat.le_trans hB HW.out.size) (hall _ hm0) (by omega) (hP.stays HW.out)
  have HE : Hid (⟨#[40, 36]⟩ ++ T0 ++ ⟨#[41]⟩ = bs (exT (m + 1) (.mk 4 n s l))) := bs_of (by rw [HT.out, hT0]; simp only [toL_append, bs_list, toL_mk])
  have z1 : ¬ 9223372036854775807 < 2 + T0.size := by omega
  have z2 : ¬ 9223372036854775807 < 2 + T0.size + 1 := by omega
  have hbw : b < w.heap.size := by omega
  have hbn : ¬ b = w.heap.size := by omega
  clear hX hi hall hx0 hm0 hT0 t0  hlt HT hpa hlen hs2 hP hsl wk wn ws hll HR
  go_enter Tryz.func50, Tryz.ntmps50
  go_wp2_with fail
  rw [← HWW.out]
  clear HWW
  refine Calls.mono HC0.out ?_
  rintro e w1 ⟨rfl, hb1⟩
  have HB1 : Hid (Below w.heap.size w w1) := bl_trans HW.out hb1
  clear hb1 HC0
  go_wp2_with fail
  go_ret
  exact ⟨ret_str HE.out, HB1.out⟩

set_option maxHeartbeats 2000000 in
theorem prE_7 {m : Nat} (hX : TextE 50 m) (B : Nat) (n : Int) (s : ByteArray) (l : List Ex) (cs : List Value) (w : World) (hx : ExA B w (m + 1) cs (.mk 7 n s l)) (hB : B ≤ w.heap.size) (hok : okE (m + 1) (.mk 7 n s l)) (hlen : (exT (m + 1) (.mk 7 n s l)).length ≤ 100000000) (hP : Pow w) :
    Calls Tryz.prog 50 #[.agg cs.toArray] w fun e w' => e = .returned (.string (bs (exT (m + 1) (.mk 7 n s l)))) ∧ Below w.heap.size w w' := by
  obtain ⟨v, rfl, wk, wn, ws, a, cap, rfl, hmax, hsl⟩ := hx
  obtain ⟨-, -, hpa, hs2, hn0, hn1, hall⟩ := hok
  have hll : l.length = 1 := by have := argsN_of hpa; simp [argsN] at this; omega
  have HT : Hid (exT (m + 1) (.mk 7 n s l) = [40, 45] ++ exT m (l.getD 0 default) ++ [41]) := by simp [exT, Hid]
  obtain ⟨b, off, rfl, hb, hi⟩ := hsl (by omega)
  show Calls Tryz.prog 50 #[.agg #[.int .i64 7, .int .i64 n, .string s, .slice (some ⟨b, off, none⟩) l.length cap]] w _
  rw [hll]
  obtain ⟨k0, n0, s0, a0, len0, cap0, p00, p01, p02, p03, hx0, hm0⟩ := kid hi 0 off (by omega) (by omega)
  have hlt := congrArg List.length HT.out
  simp only [List.length_append, List.length_cons, List.length_nil] at hlt
  have HW : Hid (Below w.heap.size w (w.alloc (.cells #[.int .i64 7, .int .i64 n, .string s, .slice (some ⟨b, off, none⟩) 1 cap] 57))) := (Below.refl _ _).alloc (Nat.le_refl _) _
  have HR : Hid (RowAt (w.alloc (.cells #[.int .i64 7, .int .i64 n, .string s, .slice (some ⟨b, off, none⟩) 1 cap] 57)) w.heap.size #[.int .i64 7, .int .i64 n, .string s, .slice (some ⟨b, off, none⟩) 1 cap]) := RowAt.new w _ _
  obtain ⟨W, hW⟩ : ∃ W, W = w.alloc (.cells #[.int .i64 7, .int .i64 n, .string s, .slice (some ⟨b, off, none⟩) 1 cap] 57) := ⟨_, rfl⟩
  rw [← hW] at HW HR
  have HWW : Hid (W = _) := hW
  clear hW
  obtain ⟨T0, hT0⟩ : ∃ T, T = bs (exT m (l.getD 0 default)) := ⟨_, rfl⟩
  have t0 : T0.size = (exT m (l.getD 0 default)).length := by rw [hT0, bs_size]
  have HC0 : Hid (Calls Tryz.prog 50 #[.agg #[.int .i64 k0, .int .i64 n0, .string s0, .slice a0 len0 cap0]] W fun e w' => e = .returned (.string T0) ∧ Below W.heap.size W w') := by rw [hT0]; exact hX B _ _ W (hx0.out.below (HW.out.mono hB)) (Nat.le_trans hB HW.out.size) (hall _ hm0) (by omega) (hP.stays HW.out)
  have HE : Hid (⟨#[40, 45]⟩ ++ T0 ++ ⟨#[41]⟩ = bs (exT (m + 1) (.mk 7 n s l))) := bs_of (by rw [HT.out, hT0]; simp only [toL_append, bs_list, toL_mk])
  have z1 : ¬ 9223372036854775807 < 2 + T0.size := by omega
  have z2 : ¬ 9223372036854775807 < 2 + T0.size + 1 := by omega
  have hbw : b < w.heap.size := by omega
  have hbn : ¬ b = w.heap.size := by omega
  clear hX hi hall hx0 hm0 hT0 t0  hlt HT hpa hlen hs2 hP hsl wk wn ws hll HR
  go_enter Tryz.func50, Tryz.ntmps50
  go_wp2_with fail
  rw [← HWW.out]
  clear HWW
  refine Calls.mono HC0.out ?_
  rintro e w1 ⟨rfl, hb1⟩
  have HB1 : Hid (Below w.heap.size w w1) := bl_trans HW.out hb1
  clear hb1 HC0
  go_wp2_with fail
  go_ret
  exact ⟨ret_str HE.out, HB1.out⟩

set_option maxHeartbeats 2000000 in
theorem prE_8 {m : Nat} (hX : TextE 50 m) (B : Nat) (n : Int) (s : ByteArray) (l : List Ex) (cs : List Value) (w : World) (hx : ExA B w (m + 1) cs (.mk 8 n s l)) (hB : B ≤ w.heap.size) (hok : okE (m + 1) (.mk 8 n s l)) (hlen : (exT (m + 1) (.mk 8 n s l)).length ≤ 100000000) (hP : Pow w) :
    Calls Tryz.prog 50 #[.agg cs.toArray] w fun e w' => e = .returned (.string (bs (exT (m + 1) (.mk 8 n s l)))) ∧ Below w.heap.size w w' := by
  obtain ⟨v, rfl, wk, wn, ws, a, cap, rfl, hmax, hsl⟩ := hx
  obtain ⟨-, -, hpa, hs2, hn0, hn1, hall⟩ := hok
  have hll : l.length = 1 := by have := argsN_of hpa; simp [argsN] at this; omega
  have HT : Hid (exT (m + 1) (.mk 8 n s l) = [40, 33] ++ exT m (l.getD 0 default) ++ [41]) := by simp [exT, Hid]
  obtain ⟨b, off, rfl, hb, hi⟩ := hsl (by omega)
  show Calls Tryz.prog 50 #[.agg #[.int .i64 8, .int .i64 n, .string s, .slice (some ⟨b, off, none⟩) l.length cap]] w _
  rw [hll]
  obtain ⟨k0, n0, s0, a0, len0, cap0, p00, p01, p02, p03, hx0, hm0⟩ := kid hi 0 off (by omega) (by omega)
  have hlt := congrArg List.length HT.out
  simp only [List.length_append, List.length_cons, List.length_nil] at hlt
  have HW : Hid (Below w.heap.size w (w.alloc (.cells #[.int .i64 8, .int .i64 n, .string s, .slice (some ⟨b, off, none⟩) 1 cap] 57))) := (Below.refl _ _).alloc (Nat.le_refl _) _
  have HR : Hid (RowAt (w.alloc (.cells #[.int .i64 8, .int .i64 n, .string s, .slice (some ⟨b, off, none⟩) 1 cap] 57)) w.heap.size #[.int .i64 8, .int .i64 n, .string s, .slice (some ⟨b, off, none⟩) 1 cap]) := RowAt.new w _ _
  obtain ⟨W, hW⟩ : ∃ W, W = w.alloc (.cells #[.int .i64 8, .int .i64 n, .string s, .slice (some ⟨b, off, none⟩) 1 cap] 57) := ⟨_, rfl⟩
  rw [← hW] at HW HR
  have HWW : Hid (W = _) := hW
  clear hW
  obtain ⟨T0, hT0⟩ : ∃ T, T = bs (exT m (l.getD 0 default)) := ⟨_, rfl⟩
  have t0 : T0.size = (exT m (l.getD 0 default)).length := by rw [hT0, bs_size]
  have HC0 : Hid (Calls Tryz.prog 50 #[.agg #[.int .i64 k0, .int .i64 n0, .string s0, .slice a0 len0 cap0]] W fun e w' => e = .returned (.string T0) ∧ Below W.heap.size W w') := by rw [hT0]; exact hX B _ _ W (hx0.out.below (HW.out.mono hB)) (Nat.le_trans hB HW.out.size) (hall _ hm0) (by omega) (hP.stays HW.out)
  have HE : Hid (⟨#[40, 33]⟩ ++ T0 ++ ⟨#[41]⟩ = bs (exT (m + 1) (.mk 8 n s l))) := bs_of (by rw [HT.out, hT0]; simp only [toL_append, bs_list, toL_mk])
  have z1 : ¬ 9223372036854775807 < 2 + T0.size := by omega
  have z2 : ¬ 9223372036854775807 < 2 + T0.size + 1 := by omega
  have hbw : b < w.heap.size := by omega
  have hbn : ¬ b = w.heap.size := by omega
  clear hX hi hall hx0 hm0 hT0 t0  hlt HT hpa hlen hs2 hP hsl wk wn ws hll HR
  go_enter Tryz.func50, Tryz.ntmps50
  go_wp2_with fail
  rw [← HWW.out]
  clear HWW
  refine Calls.mono HC0.out ?_
  rintro e w1 ⟨rfl, hb1⟩
  have HB1 : Hid (Below w.heap.size w w1) := bl_trans HW.out hb1
  clear hb1 HC0
  go_wp2_with fail
  go_ret
  exact ⟨ret_str HE.out, HB1.out⟩

set_option maxHeartbeats 2000000 in
theorem prE_1 {m : Nat} (hX : TextE 50 m) (B : Nat) (n : Int) (s : ByteArray) (l : List Ex) (cs : List Value) (w : World) (hx : ExA B w (m + 1) cs (.mk 1 n s l)) (hB : B ≤ w.heap.size) (hok : okE (m + 1) (.mk 1 n s l)) (hlen : (exT (m + 1) (.mk 1 n s l)).length ≤ 100000000) (hP : Pow w) :
    Calls Tryz.prog 50 #[.agg cs.toArray] w fun e w' => e = .returned (.string (bs (exT (m + 1) (.mk 1 n s l)))) ∧ Below w.heap.size w w' := by
  obtain ⟨v, rfl, wk, wn, ws, a, cap, rfl, hmax, hsl⟩ := hx
  obtain ⟨-, -, hpa, hs2, hn0, hn1, hall⟩ := hok
  have HT : Hid (exT (m + 1) (.mk 1 n s l) = Lib.itoa n) := by simp [exT, Hid]
  show Calls Tryz.prog 50 #[.agg #[.int .i64 1, .int .i64 n, .string s, .slice a l.length cap]] w _
  obtain ⟨W, hW⟩ : ∃ W, W = w.alloc (.cells #[.int .i64 1, .int .i64 n, .string s, .slice a l.length cap] 57) := ⟨_, rfl⟩
  have HW : Hid (Below w.heap.size w W) := by rw [hW]; exact (Below.refl _ _).alloc (Nat.le_refl _) _
  have HWW : Hid (W = _) := hW
  have HP : Hid (Pow W) := hP.stays HW.out
  clear hW hP
  have HC : Hid (Calls Tryz.prog 33 #[.int .i64 n] W fun e w' => e = .returned (.string (bs (Lib.itoa n))) ∧ Below W.heap.size W w') := by
    refine (Tryz.strconv_Itoa n (by omega) (by omega) W HP.out).mono ?_
    rintro e w' ⟨he, hw⟩
    exact ⟨he, below_grown_k hw⟩
  clear hX hall hpa hlen hs2 hsl wk ws hmax
  go_enter Tryz.func50, Tryz.ntmps50
  go_wp2_with fail
  rw [← HWW.out]
  clear HWW
  refine Calls.mono HC.out ?_
  rintro e w1 ⟨rfl, hb1⟩
  have HB1 : Hid (Below w.heap.size w w1) := bl_trans HW.out hb1
  clear hb1 HC
  go_wp2_with fail
  go_ret
  exact ⟨ret_str (by rw [HT.out]), HB1.out⟩

set_option maxHeartbeats 2000000 in
theorem prE_2 {m : Nat} (hX : TextE 50 m) (B : Nat) (n : Int) (s : ByteArray) (l : List Ex) (cs : List Value) (w : World) (hx : ExA B w (m + 1) cs (.mk 2 n s l)) (hB : B ≤ w.heap.size) (hok : okE (m + 1) (.mk 2 n s l)) (hlen : (exT (m + 1) (.mk 2 n s l)).length ≤ 100000000) (hP : Pow w) :
    Calls Tryz.prog 50 #[.agg cs.toArray] w fun e w' => e = .returned (.string (bs (exT (m + 1) (.mk 2 n s l)))) ∧ Below w.heap.size w w' := by
  obtain ⟨v, rfl, wk, wn, ws, a, cap, rfl, hmax, hsl⟩ := hx
  obtain ⟨-, -, hpa, hs2, hn0, hn1, hall⟩ := hok
  have HT : Hid (exT (m + 1) (.mk 2 n s l) = quoteL s.toList) := by simp [exT, Hid]
  show Calls Tryz.prog 50 #[.agg #[.int .i64 2, .int .i64 n, .string s, .slice a l.length cap]] w _
  obtain ⟨W, hW⟩ : ∃ W, W = w.alloc (.cells #[.int .i64 2, .int .i64 n, .string s, .slice a l.length cap] 57) := ⟨_, rfl⟩
  have HW : Hid (Below w.heap.size w W) := by rw [hW]; exact (Below.refl _ _).alloc (Nat.le_refl _) _
  have HWW : Hid (W = _) := hW
  have HP : Hid (Pow W) := hP.stays HW.out
  clear hW hP
  have HC : Hid (Calls Tryz.prog 72 #[.string s] W fun e w' => e = .returned (.string (bs (quoteL s.toList))) ∧ Below W.heap.size W w') := quoted_c s hs2 W
  clear hX hall hpa hlen hs2 hsl wk ws hmax
  go_enter Tryz.func50, Tryz.ntmps50
  go_wp2_with fail
  rw [← HWW.out]
  clear HWW
  refine Calls.mono HC.out ?_
  rintro e w1 ⟨rfl, hb1⟩
  have HB1 : Hid (Below w.heap.size w w1) := bl_trans HW.out hb1
  clear hb1 HC
  go_wp2_with fail
  go_ret
  exact ⟨ret_str (by rw [HT.out]), HB1.out⟩

set_option maxHeartbeats 2000000 in
theorem prE_3 {m : Nat} (hX : TextE 50 m) (B : Nat) (n : Int) (s : ByteArray) (l : List Ex) (cs : List Value) (w : World) (hx : ExA B w (m + 1) cs (.mk 3 n s l)) (hB : B ≤ w.heap.size) (hok : okE (m + 1) (.mk 3 n s l)) (hlen : (exT (m + 1) (.mk 3 n s l)).length ≤ 100000000) (hP : Pow w) :
    Calls Tryz.prog 50 #[.agg cs.toArray] w fun e w' => e = .returned (.string (bs (exT (m + 1) (.mk 3 n s l)))) ∧ Below w.heap.size w w' := by
  obtain ⟨v, rfl, wk, wn, ws, a, cap, rfl, hmax, hsl⟩ := hx
  obtain ⟨-, -, hpa, hs2, hn0, hn1, hall⟩ := hok
  have HT : Hid (exT (m + 1) (.mk 3 n s l) = s.toList) := by simp [exT, Hid]
  show Calls Tryz.prog 50 #[.agg #[.int .i64 3, .int .i64 n, .string s, .slice a l.length cap]] w _
  obtain ⟨W, hW⟩ : ∃ W, W = w.alloc (.cells #[.int .i64 3, .int .i64 n, .string s, .slice a l.length cap] 57) := ⟨_, rfl⟩
  have HW : Hid (Below w.heap.size w W) := by rw [hW]; exact (Below.refl _ _).alloc (Nat.le_refl _) _
  have HWW : Hid (W = _) := hW
  have HP : Hid (Pow W) := hP.stays HW.out
  clear hW hP
  clear hX hall hpa hlen hs2 hsl wk ws hmax
  go_enter Tryz.func50, Tryz.ntmps50
  go_wp2_with fail
  go_ret
  refine ⟨ret_str (by rw [HT.out, bs_toList]), ?_⟩
  rw [← HWW.out]
  exact HW.out

set_option maxHeartbeats 2000000 in
theorem prE_12 {m : Nat} (hX : TextE 50 m) (B : Nat) (n : Int) (s : ByteArray) (l : List Ex) (cs : List Value) (w : World) (hx : ExA B w (m + 1) cs (.mk 12 n s l)) (hB : B ≤ w.heap.size) (hok : okE (m + 1) (.mk 12 n s l)) (hlen : (exT (m + 1) (.mk 12 n s l)).length ≤ 100000000) (hP : Pow w) :
    Calls Tryz.prog 50 #[.agg cs.toArray] w fun e w' => e = .returned (.string (bs (exT (m + 1) (.mk 12 n s l)))) ∧ Below w.heap.size w w' := by
  obtain ⟨v, rfl, wk, wn, ws, a, cap, rfl, hmax, hsl⟩ := hx
  obtain ⟨-, -, hpa, hs2, hn0, hn1, hall⟩ := hok
  have HT : Hid (exT (m + 1) (.mk 12 n s l) = s.toList) := by simp [exT, Hid]
  show Calls Tryz.prog 50 #[.agg #[.int .i64 12, .int .i64 n, .string s, .slice a l.length cap]] w _
  obtain ⟨W, hW⟩ : ∃ W, W = w.alloc (.cells #[.int .i64 12, .int .i64 n, .string s, .slice a l.length cap] 57) := ⟨_, rfl⟩
  have HW : Hid (Below w.heap.size w W) := by rw [hW]; exact (Below.refl _ _).alloc (Nat.le_refl _) _
  have HWW : Hid (W = _) := hW
  have HP : Hid (Pow W) := hP.stays HW.out
  clear hW hP
  clear hX hall hpa hlen hs2 hsl wk ws hmax
  go_enter Tryz.func50, Tryz.ntmps50
  go_wp2_with fail
  go_ret
  refine ⟨ret_str (by rw [HT.out, bs_toList]), ?_⟩
  rw [← HWW.out]
  exact HW.out

set_option maxHeartbeats 2000000 in
theorem prE_9 {m : Nat} (hX : TextE 50 m) (B : Nat) (n : Int) (s : ByteArray) (l : List Ex) (cs : List Value) (w : World) (hx : ExA B w (m + 1) cs (.mk 9 n s l)) (hB : B ≤ w.heap.size) (hok : okE (m + 1) (.mk 9 n s l)) (hlen : (exT (m + 1) (.mk 9 n s l)).length ≤ 100000000) (hP : Pow w) :
    Calls Tryz.prog 50 #[.agg cs.toArray] w fun e w' => e = .returned (.string (bs (exT (m + 1) (.mk 9 n s l)))) ∧ Below w.heap.size w w' := by
  obtain ⟨v, rfl, wk, wn, ws, a, cap, rfl, hmax, hsl⟩ := hx
  obtain ⟨-, -, hpa, hs2, hn0, hn1, hall⟩ := hok
  have hll : l.length = 1 := by have := argsN_of hpa; simp [argsN] at this; omega
  have HT : Hid (exT (m + 1) (.mk 9 n s l) = [40] ++ exT m (l.getD 0 default) ++ [32, 105, 110, 32] ++ s.toList ++ [41]) := by simp [exT, Hid]
  obtain ⟨b, off, rfl, hb, hi⟩ := hsl (by omega)
  show Calls Tryz.prog 50 #[.agg #[.int .i64 9, .int .i64 n, .string s, .slice (some ⟨b, off, none⟩) l.length cap]] w _
  rw [hll]
  obtain ⟨k0, n0, s0, a0, len0, cap0, p00, p01, p02, p03, hx0, hm0⟩ := kid hi 0 off (by omega) (by omega)
  have hlt := congrArg List.length HT.out
  simp only [List.length_append, List.length_cons, List.length_nil] at hlt
  have HW : Hid (Below w.heap.size w (w.alloc (.cells #[.int .i64 9, .int .i64 n, .string s, .slice (some ⟨b, off, none⟩) 1 cap] 57))) := (Below.refl _ _).alloc (Nat.le_refl _) _
  have HR : Hid (RowAt (w.alloc (.cells #[.int .i64 9, .int .i64 n, .string s, .slice (some ⟨b, off, none⟩) 1 cap] 57)) w.heap.size #[.int .i64 9, .int .i64 n, .string s, .slice (some ⟨b, off, none⟩) 1 cap]) := RowAt.new w _ _
  obtain ⟨W, hW⟩ : ∃ W, W = w.alloc (.cells #[.int .i64 9, .int .i64 n, .string s, .slice (some ⟨b, off, none⟩) 1 cap] 57) := ⟨_, rfl⟩
  rw [← hW] at HW HR
  have HWW : Hid (W = _) := hW
  clear hW
  obtain ⟨T0, hT0⟩ : ∃ T, T = bs (exT m (l.getD 0 default)) := ⟨_, rfl⟩
  have t0 : T0.size = (exT m (l.getD 0 default)).length := by rw [hT0, bs_size]
  have c0 := kid_c hX hx0.out HW.out hB (hall _ hm0) (by omega) hP hT0
  have HE : Hid (⟨#[40]⟩ ++ T0 ++ ⟨#[32, 105, 110, 32]⟩ ++ s ++ ⟨#[41]⟩ = bs (exT (m + 1) (.mk 9 n s l))) := bs_of (by rw [HT.out, hT0]; simp only [toL_append, bs_list, toL_mk])
  have z1 : ¬ 9223372036854775807 < 1 + T0.size := by omega
  have z2 : ¬ 9223372036854775807 < 1 + T0.size + 4 := by omega
  have z3 : ¬ 9223372036854775807 < 1 + T0.size + 4 + s.size := by omega
  have z4 : ¬ 9223372036854775807 < 1 + T0.size + 4 + s.size + 1 := by omega
  have hbw : b < w.heap.size := by omega
  have r00 := cell_regrown ((HW.out.cell (p := ⟨b, off, none⟩) hbw).trans p00)
  have r01 := cell_regrown ((HW.out.cell (p := ⟨b, off + 1, none⟩) hbw).trans p01)
  have r02 := cell_regrown ((HW.out.cell (p := ⟨b, off + 2, none⟩) hbw).trans p02)
  have r03 := cell_regrown ((HW.out.cell (p := ⟨b, off + 3, none⟩) hbw).trans p03)
  have q0 := HR.out.cell 0
  have q2 := HR.out.cell 2
  have q3 := HR.out.cell 3
  simp only [List.getElem?_toArray, List.getElem?_cons_zero, List.getElem?_cons_succ] at q0 q2 q3
  have Q2 := cell_regrown q2
  have Q3 := cell_regrown q3
  clear hX hi hall hx0 hm0 hT0 t0 p00 p01 p02 p03 hlt HT hpa hlen hs2 hP hsl wk wn ws hll
  go_enter Tryz.func50, Tryz.ntmps50
  go_wp2_with fail
  rw [← HWW.out]
  clear HWW
  refine wp_region_quiet_below (by kernel_rfl) (by kernel_rfl) ?_
  repeat (go_big_quiet_step (first | with_reducible exact c0 _ _))
  refine wpQuiet_nil ?_
  intro _ hw'
  obtain ⟨⟨dq, osq⟩, hw''⟩ := hw'
  subst hw''
  go_wp2
  go_ret
  exact ⟨ret_str HE.out, bl_trans HW.out (below_regrown W dq osq)⟩

set_option maxHeartbeats 2000000 in
theorem prE_10 {m : Nat} (hX : TextE 50 m) (B : Nat) (n : Int) (s : ByteArray) (l : List Ex) (cs : List Value) (w : World) (hx : ExA B w (m + 1) cs (.mk 10 n s l)) (hB : B ≤ w.heap.size) (hok : okE (m + 1) (.mk 10 n s l)) (hlen : (exT (m + 1) (.mk 10 n s l)).length ≤ 100000000) (hP : Pow w) :
    Calls Tryz.prog 50 #[.agg cs.toArray] w fun e w' => e = .returned (.string (bs (exT (m + 1) (.mk 10 n s l)))) ∧ Below w.heap.size w w' := by
  obtain ⟨v, rfl, wk, wn, ws, a, cap, rfl, hmax, hsl⟩ := hx
  obtain ⟨-, -, hpa, hs2, hn0, hn1, hall⟩ := hok
  have hll : l.length = 3 := by have := argsN_of hpa; simp [argsN] at this; omega
  have HT : Hid (exT (m + 1) (.mk 10 n s l) = [40] ++ exT m (l.getD 0 default) ++ [32, 63, 32] ++ exT m (l.getD 1 default) ++ [32, 58, 32] ++ exT m (l.getD 2 default) ++ [41]) := by simp [exT, Hid]
  obtain ⟨b, off, rfl, hb, hi⟩ := hsl (by omega)
  show Calls Tryz.prog 50 #[.agg #[.int .i64 10, .int .i64 n, .string s, .slice (some ⟨b, off, none⟩) l.length cap]] w _
  rw [hll]
  obtain ⟨k0, n0, s0, a0, len0, cap0, p00, p01, p02, p03, hx0, hm0⟩ := kid hi 0 off (by omega) (by omega)
  obtain ⟨k1, n1, s1, a1, len1, cap1, p10, p11, p12, p13, hx1, hm1⟩ := kid hi 1 (off + 4) (by omega) (by omega)
  obtain ⟨k2, n2, s2, a2, len2, cap2, p20, p21, p22, p23, hx2, hm2⟩ := kid hi 2 (off + 8) (by omega) (by omega)
  have hlt := congrArg List.length HT.out
  simp only [List.length_append, List.length_cons, List.length_nil] at hlt
  have HW : Hid (Below w.heap.size w (w.alloc (.cells #[.int .i64 10, .int .i64 n, .string s, .slice (some ⟨b, off, none⟩) 3 cap] 57))) := (Below.refl _ _).alloc (Nat.le_refl _) _
  have HR : Hid (RowAt (w.alloc (.cells #[.int .i64 10, .int .i64 n, .string s, .slice (some ⟨b, off, none⟩) 3 cap] 57)) w.heap.size #[.int .i64 10, .int .i64 n, .string s, .slice (some ⟨b, off, none⟩) 3 cap]) := RowAt.new w _ _
  obtain ⟨W, hW⟩ : ∃ W, W = w.alloc (.cells #[.int .i64 10, .int .i64 n, .string s, .slice (some ⟨b, off, none⟩) 3 cap] 57) := ⟨_, rfl⟩
  rw [← hW] at HW HR
  have HWW : Hid (W = _) := hW
  clear hW
  obtain ⟨T0, hT0⟩ : ∃ T, T = bs (exT m (l.getD 0 default)) := ⟨_, rfl⟩
  have t0 : T0.size = (exT m (l.getD 0 default)).length := by rw [hT0, bs_size]
  obtain ⟨T1, hT1⟩ : ∃ T, T = bs (exT m (l.getD 1 default)) := ⟨_, rfl⟩
  have t1 : T1.size = (exT m (l.getD 1 default)).length := by rw [hT1, bs_size]
  obtain ⟨T2, hT2⟩ : ∃ T, T = bs (exT m (l.getD 2 default)) := ⟨_, rfl⟩
  have t2 : T2.size = (exT m (l.getD 2 default)).length := by rw [hT2, bs_size]
  have c0 := kid_c hX hx0.out HW.out hB (hall _ hm0) (by omega) hP hT0
  have c1 := kid_c hX hx1.out HW.out hB (hall _ hm1) (by omega) hP hT1
  have c2 := kid_c hX hx2.out HW.out hB (hall _ hm2) (by omega) hP hT2
  have HE : Hid (⟨#[40]⟩ ++ T0 ++ ⟨#[32, 63, 32]⟩ ++ T1 ++ ⟨#[32, 58, 32]⟩ ++ T2 ++ ⟨#[41]⟩ = bs (exT (m + 1) (.mk 10 n s l))) := bs_of (by rw [HT.out, hT0, hT1, hT2]; simp only [toL_append, bs_list, toL_mk])
  have z1 : ¬ 9223372036854775807 < 1 + T0.size := by omega
  have z2 : ¬ 9223372036854775807 < 1 + T0.size + 3 := by omega
  have z3 : ¬ 9223372036854775807 < 1 + T0.size + 3 + T1.size := by omega
  have z4 : ¬ 9223372036854775807 < 1 + T0.size + 3 + T1.size + 3 := by omega
  have z5 : ¬ 9223372036854775807 < 1 + T0.size + 3 + T1.size + 3 + T2.size := by omega
  have z6 : ¬ 9223372036854775807 < 1 + T0.size + 3 + T1.size + 3 + T2.size + 1 := by omega
  have hbw : b < w.heap.size := by omega
  have r00 := cell_regrown ((HW.out.cell (p := ⟨b, off, none⟩) hbw).trans p00)
  have r01 := cell_regrown ((HW.out.cell (p := ⟨b, off + 1, none⟩) hbw).trans p01)
  have r02 := cell_regrown ((HW.out.cell (p := ⟨b, off + 2, none⟩) hbw).trans p02)
  have r03 := cell_regrown ((HW.out.cell (p := ⟨b, off + 3, none⟩) hbw).trans p03)
  have r10 := cell_regrown ((HW.out.cell (p := ⟨b, off + 4, none⟩) hbw).trans p10)
  have r11 := cell_regrown ((HW.out.cell (p := ⟨b, off + 4 + 1, none⟩) hbw).trans p11)
  have r12 := cell_regrown ((HW.out.cell (p := ⟨b, off + 4 + 2, none⟩) hbw).trans p12)
  have r13 := cell_regrown ((HW.out.cell (p := ⟨b, off + 4 + 3, none⟩) hbw).trans p13)
  have r20 := cell_regrown ((HW.out.cell (p := ⟨b, off + 8, none⟩) hbw).trans p20)
  have r21 := cell_regrown ((HW.out.cell (p := ⟨b, off + 8 + 1, none⟩) hbw).trans p21)
  have r22 := cell_regrown ((HW.out.cell (p := ⟨b, off + 8 + 2, none⟩) hbw).trans p22)
  have r23 := cell_regrown ((HW.out.cell (p := ⟨b, off + 8 + 3, none⟩) hbw).trans p23)
  have q0 := HR.out.cell 0
  have q2 := HR.out.cell 2
  have q3 := HR.out.cell 3
  simp only [List.getElem?_toArray, List.getElem?_cons_zero, List.getElem?_cons_succ] at q0 q2 q3
  have Q2 := cell_regrown q2
  have Q3 := cell_regrown q3
  clear hX hi hall hx0 hm0 hT0 t0 hx1 hm1 hT1 t1 hx2 hm2 hT2 t2 p00 p01 p02 p03 p10 p11 p12 p13 p20 p21 p22 p23 hlt HT hpa hlen hs2 hP hsl wk wn ws hll
  go_enter Tryz.func50, Tryz.ntmps50
  go_wp2_with fail
  rw [← HWW.out]
  clear HWW
  refine wp_region_quiet_below (by kernel_rfl) (by kernel_rfl) ?_
  repeat (go_big_quiet_step (first | with_reducible exact c0 _ _ | with_reducible exact c1 _ _ | with_reducible exact c2 _ _))
  refine wpQuiet_nil ?_
  intro _ hw'
  obtain ⟨⟨dq, osq⟩, hw''⟩ := hw'
  subst hw''
  go_wp2
  go_ret
  exact ⟨ret_str HE.out, bl_trans HW.out (below_regrown W dq osq)⟩

set_option maxHeartbeats 2000000 in
theorem prE_5 {m : Nat} (hX : TextE 50 m) (B : Nat) (n : Int) (s : ByteArray) (l : List Ex) (cs : List Value) (w : World) (hx : ExA B w (m + 1) cs (.mk 5 n s l)) (hB : B ≤ w.heap.size) (hok : okE (m + 1) (.mk 5 n s l)) (hlen : (exT (m + 1) (.mk 5 n s l)).length ≤ 100000000) (hP : Pow w) :
    Calls Tryz.prog 50 #[.agg cs.toArray] w fun e w' => e = .returned (.string (bs (exT (m + 1) (.mk 5 n s l)))) ∧ Below w.heap.size w w' := by
  obtain ⟨v, rfl, wk, wn, ws, a, cap, rfl, hmax, hsl⟩ := hx
  obtain ⟨-, -, hpa, hs2, hn0, hn1, hall⟩ := hok
  have hll : l.length = 1 := by have := argsN_of hpa; simp [argsN] at this; omega
  have HT : Hid (exT (m + 1) (.mk 5 n s l) = s.toList ++ [91] ++ exT m (l.getD 0 default) ++ [93]) := by simp [exT, Hid]
  obtain ⟨b, off, rfl, hb, hi⟩ := hsl (by omega)
  show Calls Tryz.prog 50 #[.agg #[.int .i64 5, .int .i64 n, .string s, .slice (some ⟨b, off, none⟩) l.length cap]] w _
  rw [hll]
  obtain ⟨k0, n0, s0, a0, len0, cap0, p00, p01, p02, p03, hx0, hm0⟩ := kid hi 0 off (by omega) (by omega)
  have hlt := congrArg List.length HT.out
  simp only [List.length_append, List.length_cons, List.length_nil] at hlt
  have HW : Hid (Below w.heap.size w (w.alloc (.cells #[.int .i64 5, .int .i64 n, .string s, .slice (some ⟨b, off, none⟩) 1 cap] 57))) := (Below.refl _ _).alloc (Nat.le_refl _) _
  have HR : Hid (RowAt (w.alloc (.cells #[.int .i64 5, .int .i64 n, .string s, .slice (some ⟨b, off, none⟩) 1 cap] 57)) w.heap.size #[.int .i64 5, .int .i64 n, .string s, .slice (some ⟨b, off, none⟩) 1 cap]) := RowAt.new w _ _
  obtain ⟨W, hW⟩ : ∃ W, W = w.alloc (.cells #[.int .i64 5, .int .i64 n, .string s, .slice (some ⟨b, off, none⟩) 1 cap] 57) := ⟨_, rfl⟩
  rw [← hW] at HW HR
  have HWW : Hid (W = _) := hW
  clear hW
  obtain ⟨T0, hT0⟩ : ∃ T, T = bs (s.toList ++ [91] ++ exT m (l.getD 0 default) ++ [93]) := ⟨_, rfl⟩
  have c0 : ∀ (d : Nat) (os : Array Obj), Calls Tryz.prog 73 #[.string s, .agg #[.int .i64 k0, .int .i64 n0, .string s0, .slice a0 len0 cap0]] (Sort.grow (redrawn W d) os) fun e w'' => e = .returned (.string T0) ∧ ∃ p : Regrown, w'' = Sort.grow (redrawn W p.d) p.os := fun d os => by
    have hbb : Below w.heap.size w (Sort.grow (redrawn W d) os) := bl_trans HW.out (below_regrown W d os)
    rw [hT0]
    exact Calls.regrown_of (elemText_c hX B s _ _ _ (hx0.out.below (hbb.mono hB)) (Nat.le_trans hB hbb.size) (hall _ hm0) (by omega) hs2 (hP.stays hbb))
  have HE : Hid (T0 = bs (exT (m + 1) (.mk 5 n s l))) := by rw [HT.out]; exact hT0
  have hbw : b < w.heap.size := by omega
  have r00 := cell_regrown ((HW.out.cell (p := ⟨b, off, none⟩) hbw).trans p00)
  have r01 := cell_regrown ((HW.out.cell (p := ⟨b, off + 1, none⟩) hbw).trans p01)
  have r02 := cell_regrown ((HW.out.cell (p := ⟨b, off + 2, none⟩) hbw).trans p02)
  have r03 := cell_regrown ((HW.out.cell (p := ⟨b, off + 3, none⟩) hbw).trans p03)
  have q0 := HR.out.cell 0
  have q2 := HR.out.cell 2
  have q3 := HR.out.cell 3
  simp only [List.getElem?_toArray, List.getElem?_cons_zero, List.getElem?_cons_succ] at q0 q2 q3
  have Q2 := cell_regrown q2
  have Q3 := cell_regrown q3
  clear hX hi hall hx0 hm0 hT0 p00 p01 p02 p03 hlt HT hpa hlen hs2 hP hsl wk wn ws hll
  go_enter Tryz.func50, Tryz.ntmps50
  go_wp2_with fail
  rw [← HWW.out]
  clear HWW
  refine wp_region_quiet_below (by kernel_rfl) (by kernel_rfl) ?_
  repeat (go_big_quiet_step (first | with_reducible exact c0 _ _))
  refine wpQuiet_nil ?_
  intro _ hw'
  obtain ⟨⟨dq, osq⟩, hw''⟩ := hw'
  subst hw''
  go_wp2
  go_ret
  exact ⟨ret_str HE.out, bl_trans HW.out (below_regrown W dq osq)⟩

set_option maxHeartbeats 2000000 in
theorem prE_11 {m : Nat} (hX : TextE 50 m) (B : Nat) (n : Int) (s : ByteArray) (l : List Ex) (cs : List Value) (w : World) (hx : ExA B w (m + 1) cs (.mk 11 n s l)) (hB : B ≤ w.heap.size) (hok : okE (m + 1) (.mk 11 n s l)) (hlen : (exT (m + 1) (.mk 11 n s l)).length ≤ 100000000) (hP : Pow w) :
    Calls Tryz.prog 50 #[.agg cs.toArray] w fun e w' => e = .returned (.string (bs (exT (m + 1) (.mk 11 n s l)))) ∧ Below w.heap.size w w' := by
  obtain ⟨v, rfl, wk, wn, ws, a, cap, rfl, hmax, hsl⟩ := hx
  obtain ⟨-, -, hpa, hs2, hn0, hn1, hall⟩ := hok
  have hl0 : 0 < l.length := asks_of hpa
  have HT : Hid (exT (m + 1) (.mk 11 n s l) = s.toList ++ [40] ++ joinL (l.map (exT m)) ++ [41]) := by simp [exT, Hid]
  show Calls Tryz.prog 50 #[.agg #[.int .i64 11, .int .i64 n, .string s, .slice a l.length cap]] w _
  have hl3 : l.length ≤ 3 := by
    have h1 := argsN_of hpa
    simp only [argsN, asksN, if_true] at h1
    split at h1
    · omega
    · split at h1
      · omega
      · split at h1 <;> omega
  have hlt := congrArg List.length HT.out
  simp only [List.length_append, List.length_cons, List.length_nil] at hlt
  have HW : Hid (Below w.heap.size w (w.alloc (.cells #[.int .i64 11, .int .i64 n, .string s, .slice a l.length cap] 57))) := (Below.refl _ _).alloc (Nat.le_refl _) _
  have HR : Hid (RowAt (w.alloc (.cells #[.int .i64 11, .int .i64 n, .string s, .slice a l.length cap] 57)) w.heap.size #[.int .i64 11, .int .i64 n, .string s, .slice a l.length cap]) := RowAt.new w _ _
  obtain ⟨W, hW⟩ : ∃ W, W = w.alloc (.cells #[.int .i64 11, .int .i64 n, .string s, .slice a l.length cap] 57) := ⟨_, rfl⟩
  rw [← hW] at HW HR
  have HWW : Hid (W = _) := hW
  clear hW
  obtain ⟨T0, hT0⟩ : ∃ T, T = bs (joinL (l.map (exT m))) := ⟨_, rfl⟩
  have t0 : T0.size = (joinL (l.map (exT m))).length := by rw [hT0, bs_size]
  have c0 : ∀ (d : Nat) (os : Array Obj), Calls Tryz.prog 74 #[.slice a l.length cap] (Sort.grow (redrawn W d) os) fun e w'' => e = .returned (.string T0) ∧ ∃ p : Regrown, w'' = Sort.grow (redrawn W p.d) p.os := fun d os => by
    have hbb : Below w.heap.size w (Sort.grow (redrawn W d) os) := bl_trans HW.out (below_regrown W d os)
    rw [hT0]
    exact Calls.regrown_of (exprsText_c hX B l _ _ (Sl.below (show Sl w B 4 (.slice a l.length cap) l.length _ from ⟨a, cap, rfl, hmax, hsl⟩) (hbb.mono hB) fun i c ⟨x, h1, h2⟩ => ⟨x, h1, h2.below (hbb.mono hB)⟩) (Nat.le_trans hB hbb.size) hall (by omega) (by omega) hl0 (hP.stays hbb))
  have HE : Hid (s ++ ⟨#[40]⟩ ++ T0 ++ ⟨#[41]⟩ = bs (exT (m + 1) (.mk 11 n s l))) := bs_of (by rw [HT.out, hT0]; simp only [toL_append, bs_list, toL_mk])
  have z1 : ¬ 9223372036854775807 < s.size + 1 := by omega
  have z2 : ¬ 9223372036854775807 < s.size + 1 + T0.size := by omega
  have z3 : ¬ 9223372036854775807 < s.size + 1 + T0.size + 1 := by omega
  have q0 := HR.out.cell 0
  have q2 := HR.out.cell 2
  have q3 := HR.out.cell 3
  simp only [List.getElem?_toArray, List.getElem?_cons_zero, List.getElem?_cons_succ] at q0 q2 q3
  have Q2 := cell_regrown q2
  have Q3 := cell_regrown q3
  clear hX hall hT0 t0 hlt HT hpa hlen hs2 hP hsl wk wn ws hl0 hl3 hmax
  go_enter Tryz.func50, Tryz.ntmps50
  go_wp2_with fail
  rw [← HWW.out]
  clear HWW
  refine wp_region_quiet_below (by kernel_rfl) (by kernel_rfl) ?_
  repeat (go_big_quiet_step (first | with_reducible exact c0 _ _))
  refine wpQuiet_nil ?_
  intro _ hw'
  obtain ⟨⟨dq, osq⟩, hw''⟩ := hw'
  subst hw''
  go_wp2
  go_ret
  exact ⟨ret_str HE.out, bl_trans HW.out (below_regrown W dq osq)⟩

theorem exprText_c : ∀ m, TextE 50 m := by
  intro m
  induction m with
  | zero => intro B x cs w hx; exact hx.elim
  | succ m ih =>
    intro B x cs w hx hB hok hlen hP
    cases x with
    | mk k n s l =>
      have h1 := hok.1
      have h2 := hok.2.1
      obtain rfl | rfl | rfl | rfl | rfl | rfl | rfl | rfl | rfl | rfl | rfl | rfl : k = 1 ∨ k = 2 ∨ k = 3 ∨ k = 4 ∨ k = 5 ∨ k = 6 ∨ k = 7 ∨ k = 8 ∨ k = 9 ∨ k = 10 ∨ k = 11 ∨ k = 12 := by omega
      · exact prE_1 ih B n s l cs w hx hB hok hlen hP
      · exact prE_2 ih B n s l cs w hx hB hok hlen hP
      · exact prE_3 ih B n s l cs w hx hB hok hlen hP
      · exact prE_4 ih B n s l cs w hx hB hok hlen hP
      · exact prE_5 ih B n s l cs w hx hB hok hlen hP
      · exact prE_6 ih B n s l cs w hx hB hok hlen hP
      · exact prE_7 ih B n s l cs w hx hB hok hlen hP
      · exact prE_8 ih B n s l cs w hx hB hok hlen hP
      · exact prE_9 ih B n s l cs w hx hB hok hlen hP
      · exact prE_10 ih B n s l cs w hx hB hok hlen hP
      · exact prE_11 ih B n s l cs w hx hB hok hlen hP
      · exact prE_12 ih B n s l cs w hx hB hok hlen hP
end Go.Proofs.YtfbpkbochhfnhaaGreatDoor
