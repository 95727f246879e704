/-
  Contract of cut: the pieces of a source.
-/
import Derived.Test.YtcmipgonogbolaaGreatDoorCutD
import Derived.Test.YtcmipgonogbolaaGreatDoorRdApp
import Derived.Deep.RegionHeld3
import Derived.Deep.AppendLies
import Derived.OwnWalk
namespace Go.Proofs.YtcmipgonogbolaaGreatDoor
open Go.ChangeShapes Go.WideShapes Go.ChangeAt Go.RowKit Go.Joins Go.Maps
set_option linter.unusedVariables false

/-! ### What a piece takes -/
theorem txtR_bounds : ∀ (m : Nat) (r acc : List UInt8) (i : Nat) (t : List UInt8) (j : Nat), r.length ≤ m → txtR r acc i = .ok (t, j) → i < j ∧ j ≤ i + r.length ∧ t.length ≤ acc.length + r.length := by
  intro m
  induction m with
  | zero =>
    intro r acc i t j hm h
    have : r = [] := List.eq_nil_of_length_eq_zero (by omega)
    subst this
    rw [txtR_end] at h; cases h
  | succ m ih =>
    intro r acc i t j hm h
    cases r with
    | nil => rw [txtR_end] at h; cases h
    | cons c r =>
      simp only [List.length_cons] at hm ⊢
      by_cases h1 : c.toNat = 34
      · rw [txtR_quote h1] at h
        simp only [Except.ok.injEq, Prod.mk.injEq] at h
        obtain ⟨rfl, rfl⟩ := h
        omega
      by_cases h2 : c.toNat = 10
      · rw [txtR_line h2] at h; cases h
      by_cases h3 : c.toNat = 92
      · cases r with
        | nil => rw [txtR_open h3] at h; cases h
        | cons d r =>
          simp only [List.length_cons] at hm ⊢
          rw [txtR_esc h3] at h
          split at h
          · have := ih r (acc ++ [d]) (i + 2) t j (by omega) h
            simp at this; omega
          · split at h
            · have := ih r (acc ++ [10]) (i + 2) t j (by omega) h
              simp at this; omega
            · cases h
      · rw [txtR_plain h1 h2 h3] at h
        have := ih r (acc ++ [c]) (i + 1) t j (by omega) h
        simp at this; omega

theorem pieceR_bounds {l : List UInt8} {p : Pc} {i : Nat} (hl : l.length ≤ 6000) (h : pieceR l = .ok (p, i)) : 1 ≤ i ∧ i ≤ l.length ∧ p.s.length ≤ 6000 ∧ (Lit.int .i64 p.n).wf = true ∧ (Lit.int .i64 p.k).wf = true := by
  have w0 : (Lit.int .i64 0).wf = true := by decide
  have w1 : (Lit.int .i64 1).wf = true := by decide
  have w2 : (Lit.int .i64 2).wf = true := by decide
  have w3 : (Lit.int .i64 3).wf = true := by decide
  have w4 : (Lit.int .i64 4).wf = true := by decide
  have tl : ∀ q : UInt8 → Bool, (l.takeWhile q).length ≤ l.length := fun q => (List.takeWhile_prefix q).length_le
  unfold pieceR at h
  split at h
  · rename_i h1
    simp only [Except.ok.injEq, Prod.mk.injEq] at h
    obtain ⟨rfl, rfl⟩ := h
    have := tl letterB
    exact ⟨h1, this, by simpa using (by omega : (l.takeWhile letterB).length ≤ 6000), w0, w1⟩
  split at h
  · rename_i h2
    cases hn : numR (l.takeWhile digitB) with
    | error e => rw [hn] at h; cases h
    | ok n =>
      rw [hn] at h
      simp only [Except.ok.injEq, Prod.mk.injEq] at h
      obtain ⟨rfl, rfl⟩ := h
      have hnb : 0 ≤ n ∧ n ≤ 1099511627776 := by
        unfold numR at hn
        split at hn
        · cases hn
        · split at hn
          · cases hn
          · simp only [Except.ok.injEq] at hn
            omega
      have := tl digitB
      refine ⟨h2, this, by simp, ?_, w2⟩
      simp only [Lit.wf, Bool.and_eq_true]
      exact ⟨decide_eq_true (by show (-9223372036854775808 : Int) ≤ n; omega), decide_eq_true (by show n ≤ 9223372036854775807; omega)⟩
  split at h
  · rename_i h3
    cases ht : txtR l.tail [] 1 with
    | error e => rw [ht] at h; cases h
    | ok q =>
      obtain ⟨t, j⟩ := q
      rw [ht] at h
      simp only [Except.ok.injEq, Prod.mk.injEq] at h
      obtain ⟨rfl, rfl⟩ := h
      have := txtR_bounds _ _ _ _ _ _ (Nat.le_refl _) ht
      cases l with
      | nil => simp at h3
      | cons c r => simp at this hl ⊢; exact ⟨by omega, by omega, by omega, w0, w3⟩
  · split at h
    · rename_i t ht
      simp only [Except.ok.injEq, Prod.mk.injEq] at h
      obtain ⟨rfl, rfl⟩ := h
      have hp := List.find?_some ht
      have hm := List.mem_of_find?_eq_some ht
      have hp2 := (List.isPrefixOf_iff_prefix.1 hp).length_le
      have hall : ∀ t ∈ signsL, 1 ≤ t.length ∧ t.length ≤ 2 := by decide
      have := hall t hm
      exact ⟨this.1, hp2, by simp; omega, w0, w4⟩
    · cases h

/-! ### The pieces -/
def cutT (f : Nat) (l : List UInt8) (acc : List Pc) : Except Int (List Pc) := match l with
  | [] => .ok acc
  | c :: r => match pieceR (c :: r) with
    | .error e => .error e
    | .ok (p, i) => match cutR f ((c :: r).drop i) with
      | .error e => .error e
      | .ok ps => .ok (acc ++ p :: ps)
theorem cutR_is (f : Nat) (l : List UInt8) : cutR (f + 1) l = cutT f (l.dropWhile blankB) [] := by
  rw [cutR, cutT.eq_def]
  cases l.dropWhile blankB with
  | nil => rfl
  | cons c r =>
    simp only
    cases pieceR (c :: r) with
    | error e => rfl
    | ok q =>
      obtain ⟨p, i⟩ := q
      simp only
      cases cutR f ((c :: r).drop i) <;> rfl
theorem cutT_acc (f : Nat) (l : List UInt8) (acc : List Pc) : cutT f l acc = match cutT f l [] with
    | .error e => .error e
    | .ok ps => .ok (acc ++ ps) := by
  unfold cutT
  cases l with
  | nil => simp
  | cons c r =>
    simp only
    cases pieceR (c :: r) with
    | error e => rfl
    | ok q =>
      obtain ⟨p, i⟩ := q
      simp only
      cases cutR f ((c :: r).drop i) with
      | error e => rfl
      | ok ps => simp
theorem cutT_err {f : Nat} {l : List UInt8} {acc : List Pc} {er : Int} (h0 : 0 < l.length) (h : pieceR l = .error er) : cutT f l acc = .error er := by
  cases l with
  | nil => simp at h0
  | cons c r => rw [cutT.eq_def]; simp only [h]
theorem cutT_step {f : Nat} {l : List UInt8} {acc : List Pc} {p : Pc} {i : Nat} (h0 : 0 < l.length) (h : pieceR l = .ok (p, i)) : cutT (f + 1) l acc = cutT f ((l.drop i).dropWhile blankB) (acc ++ [p]) := by
  cases l with
  | nil => simp at h0
  | cons c r =>
    rw [cutT_acc f _ (acc ++ [p])]
    rw [← cutR_is]
    rw [cutT.eq_def]
    simp only [h]
    cases cutR (f + 1) ((c :: r).drop i) with
    | error e => rfl
    | ok ps => simp

def pcT : Nat → (Nat → Prop) → World → List Value → Pc → Prop := fun _ _ _ c p => c = [.int .i64 p.k, .string (bs p.s), .int .i64 p.n]
theorem pcLaw : TreeLaw pcT := ⟨fun _ _ _ h => h, fun h => h⟩

theorem PcA.of {w : World} {base r : Nat} {v : Value} {ps : List Pc} {css : List (List Value)} (H : GrL pcT 0 base 84 3 w v ps css) (hlen : ps.length ≤ 6000) (hr : w.heap.size ≤ r) : PcA w r v ps := by
  rcases H.row.2 with ⟨rfl, h0⟩ | ⟨g, cap, cur, rfl, h2, h3, h4, h5, h6, h7⟩
  · exact ⟨none, 0, by rw [h0], by omega, hlen, fun h => by omega⟩
  · refine ⟨_, cap, rfl, h4, hlen, fun h0 => ⟨g, 0, rfl, ?_, fun i p hp => ?_⟩⟩
    · rcases Nat.lt_or_ge g w.heap.size with h' | h'
      · omega
      · rw [Array.getElem?_eq_none h'] at h3; cases h3
    · obtain ⟨c, h8, h9⟩ := H.tree i p hp
      have hi : i < ps.length := by
        rcases Nat.lt_or_ge i ps.length with h' | h'
        · exact h'
        · rw [List.getElem?_eq_none h'] at hp; cases hp
      have hlt : ∀ j, j < 3 → i * 3 + j < ps.length * 3 := fun j hj => by omega
      have hc : ∀ j, j < 3 → w.cell? ⟨g, 0 + i * 3 + j, none⟩ = c[j]? := fun j hj => by
        rw [Nat.zero_add, World.ownsRow.cellAt H.row (i * 3 + j) (hlt j hj)]
        exact flat_at H.each h8 j hj
      have h9' : c = [.int .i64 p.k, .string (bs p.s), .int .i64 p.n] := h9
      subst h9'
      exact ⟨hc 0 (by omega), hc 1 (by omega), hc 2 (by omega)⟩

/-- What holds ahead of each round. -/
structure CtI (s : ByteArray) (w wr : World) (v : Value) (t : ByteArray) (acc : List Pc) (css : List (List Value)) (f : Nat) : Prop where
  eq : cutR (s.size + 1) s.toList = cutT f t.toList acc
  fu : t.size ≤ f
  cnt : acc.length + t.size ≤ s.size
  fit : ∀ p ∈ acc, p.s.length ≤ 6000 ∧ (Lit.int .i64 p.n).wf = true
  low : Below w.heap.size w wr
  gr : GrL pcT 0 w.heap.size 84 3 wr v acc css

theorem infoPc : (Tryz.prog.info? 84).map (fun i => (i.zero, i.size, i.bytes)) = some (some (.agg #[.int .i64 0, .string ⟨#[]⟩, .int .i64 0]), 3, 32) := by kernel_rfl

/-- The pieces of a source, in new memory; or what is wrong. -/
def CutOut (s : ByteArray) (w : World) (e : Ending) (w' : World) : Prop := Below w.heap.size w w' ∧ match cutR (s.size + 1) s.toList with
  | .ok ps => ∃ v, e = .returned v ∧ PcA w' w'.heap.size v ps ∧ ∀ p ∈ ps, p.s.length ≤ 6000 ∧ (Lit.int .i64 p.n).wf = true
  | .error er => e = .panicked [errP er]

theorem dw_len (l : List UInt8) : (l.dropWhile blankB).length ≤ l.length := (List.dropWhile_suffix blankB).length_le
theorem sub_drop (t : ByteArray) (i : Nat) : (t.extract i t.size).toList = t.toList.drop i := by
  simp only [ByteArray.toList_eq, ByteArray.data_extract, Array.toList_extract, List.extract_eq_take_drop]
  rw [List.take_of_length_le]
  simp

/-- A round that goes on. -/
theorem ct_next {s t : ByteArray} {w wr w1 w2 : World} {v v' : Value} {acc : List Pc} {css : List (List Value)} {f : Nat} {p : Pc} {i : Nat} {ob : Obj} {ob2 : Obj} (h1 : s.size ≤ 6000) (H : CtI s w wr v t acc css f) (h0 : 0 < t.size) (hp : pieceR t.toList = .ok (p, i)) (hb : Below wr.heap.size wr w1)
    (hown : w2.ownsRow w.heap.size 84 3 v' (acc.length + 1) (css.flatten ++ [.int .i64 p.k, .string (bs p.s), .int .i64 p.n])) (hg : ((w1.alloc ob).alloc ob2).grownBy w2 v.ownBlock) (hat : v'.ownBlock = v.ownBlock ∨ v'.ownBlock = some ((w1.alloc ob).alloc ob2).heap.size) :
    ∃ f', CtI s w w2 v' (bs ((t.toList.drop i).dropWhile blankB)) (acc ++ [p]) (css ++ [[.int .i64 p.k, .string (bs p.s), .int .i64 p.n]]) f' := by
  have hts : t.toList.length = t.size := bytes_len t
  have hcn := H.cnt
  have hfu := H.fu
  obtain ⟨b1, b2, b3, b4, b5⟩ := pieceR_bounds (by omega) hp
  obtain ⟨f', rfl⟩ : ∃ f', f = f' + 1 := ⟨f - 1, by omega⟩
  have hdl := dw_len (t.toList.drop i)
  have hdd : (t.toList.drop i).length = t.size - i := by rw [List.length_drop, hts]
  have hal : Below wr.heap.size wr ((w1.alloc ob).alloc ob2) := bl_trans hb (((Below.refl _ _).alloc (Nat.le_refl _) ob).alloc (by simp) ob2)
  have hrow := fun k (hk : v.ownBlock = some k) => H.gr.row.lt k hk
  refine ⟨f', ?_, ?_, ?_, ?_, ?_, ?_⟩
  · rw [H.eq, cutT_step (by omega) hp, bs_list]
  · rw [bs_size]; omega
  · rw [bs_size]; simp; omega
  · intro q hq
    simp only [List.mem_append, List.mem_singleton] at hq
    rcases hq with hq | rfl
    · exact H.fit q hq
    · exact ⟨b3, b4⟩
  · have hlow := H.low
    refine hlow.trans ⟨hg.os.trans hal.os, hg.tape.trans hal.tape, hg.output.trans hal.output, Nat.le_trans hal.size hg.size, fun k hk => ?_⟩
    have hk2 : k < wr.heap.size := Nat.lt_of_lt_of_le hk hlow.size
    refine (hg.block k (Nat.lt_of_lt_of_le hk2 hal.size) (fun e => ?_)).trans (hal.block k hk2)
    have := (hrow k e.symm).1
    omega
  · exact H.gr.push pcLaw hal rfl rfl hown hg hat

set_option maxHeartbeats 8000000 in
set_option maxRecDepth 100000 in
theorem cut_c (s : ByteArray) (w : World) (h1 : s.size ≤ 6000) (hS : SignsAt w) (hE : ErrA w) :
    Calls Tryz.prog 20 #[.string s] w (CutOut s w) := by
  have HS : Hid (SignsAt w) := hS
  have HE : Hid (ErrA w) := hE
  obtain ⟨i0, hi, hz0, hz1, hz2⟩ := info_parts infoPc
  have HI : Hid (Tryz.prog.info? 84 = some i0 ∧ i0.zero = some (.agg #[.int .i64 0, .string ⟨#[]⟩, .int .i64 0]) ∧ i0.size = 3 ∧ i0.bytes = 32) := ⟨hi, hz0, hz1, hz2⟩
  clear hi hz0 hz1 hz2 hS hE
  have HC : Hid _ := skipBlanks_c s w
  go_enter Tryz.func20, Tryz.ntmps20
  go_wp2_with fail
  refine Calls.mono HC.out ?_
  rintro e w1 ⟨rfl, hb⟩
  have HI0 : Hid (∃ acc css f, CtI s w w1 (.slice none 0 0) (bs (s.toList.dropWhile blankB)) acc css f) := by
    have hd := dw_len s.toList
    have hl := bytes_len s
    exact ⟨[], [], s.size, by rw [cutR_is, bs_list], by rw [bs_size]; omega, by rw [bs_size]; simp; omega, (by simp), hb, GrL.nil _ _ _ _ _ _⟩
  obtain ⟨t0, ht0⟩ : ∃ t, t = bs (s.toList.dropWhile blankB) := ⟨_, rfl⟩
  rw [← ht0] at HI0 ⊢
  clear hb HC ht0
  go_wp2_with fail
  go_loopw [0, 3] (fun v0 v3 wr => ∃ (t : ByteArray) (a : Option Addr) (len cap : Nat), v0 = .string t ∧ v3 = .slice a len cap ∧ Hid (∃ acc css f, CtI s w wr v3 t acc css f)) (fun v0 _ _ => match v0 with
    | .string t => t.size
    | _ => 0)
  case atStart => exact ⟨t0, _, _, _, rfl, rfl, HI0.out⟩
  case round =>
    obtain ⟨t, a, len, cap, rfl, rfl, HI1⟩ := hrel
    clear HI0
    obtain ⟨acc, css, f, HI2⟩ := HI1.out
    have HW : Hid (CtI s w wr _ t acc css f) := HI2
    clear HI1 HI2
    by_cases h0 : 0 < t.size
    · have he := ise_f h0
      have hts : t.size ≤ 6000 := by have := HW.out.cnt; omega
      have HC : Hid _ := firstPiece_c t wr h0 hts (HS.out.stays (HW.out.low.block _ HS.out.lt)) (HE.out.stays HW.out.low)
      cases hp : pieceR t.toList with
      | error er =>
        rw [hp] at HC
        have HB : Hid (CutOut s w (.panicked [errP er]) wr → True) := fun _ => trivial
        have HX : Hid (cutR (s.size + 1) s.toList = .error er) := by unfold Hid; rw [HW.out.eq, cutT_err (by rw [bytes_len]; exact h0) hp]
        clear hp HB
        go_wp2_with fail
        refine Calls.mono HC.out ?_
        rintro e w2 ⟨hr, hb⟩
        obtain rfl : e = .panicked [errP er] := hr
        have HF : Hid (CutOut s w (.panicked [errP er]) w2) := ⟨bl_trans HW.out.low hb, by rw [HX.out]⟩
        clear hb HC
        go_wp2_with fail
        exact ⟨rfl, HF.out⟩
      | ok q =>
        obtain ⟨p, i⟩ := q
        rw [hp] at HC
        have HP : Hid (pieceR t.toList = .ok (p, i)) := hp
        obtain ⟨b1, b2, b3, b4, b5⟩ := pieceR_bounds (by rw [bytes_len]; exact hts) hp
        have b2' : i ≤ t.size := by rw [← bytes_len]; exact b2
        obtain ⟨K, hK⟩ : ∃ K, K = p.k := ⟨_, rfl⟩
        obtain ⟨N, hN⟩ : ∃ N, N = p.n := ⟨_, rfl⟩
        obtain ⟨S, hSS⟩ : ∃ S, S = bs p.s := ⟨_, rfl⟩
        have HK : Hid (K = p.k ∧ N = p.n ∧ S = bs p.s) := ⟨hK, hN, hSS⟩
        have hpv : pieceV (p, i) = .tuple #[.agg #[.int .i64 K, .string S, .int .i64 N], .int .i64 i] := by rw [hK, hN, hSS]; rfl
        have HPV : Hid _ := hpv
        have i1 : (0 : Int) ≤ (i : Int) := by omega
        have i2 : (i : Int) ≤ (t.size : Int) := by omega
        clear hp b1 b2 b3 b4 b5 hK hN hSS hpv
        go_wp2_with fail
        refine Calls.mono HC.out ?_
        rintro e w2 ⟨hr, hb⟩
        obtain rfl : e = .returned (.tuple #[.agg #[.int .i64 K, .string S, .int .i64 N], .int .i64 i]) := by
          have h2 : e = .returned (pieceV (p, i)) := hr
          rw [h2, HPV.out]
        have HB2 : Hid (Below wr.heap.size wr w2) := hb
        clear hb HC hr
        go_wp2_with fail
        have HLN : Hid (len = acc.length) := by
          rcases HW.out.gr.row.2 with ⟨h1, h2⟩ | ⟨_, _, _, h1, _⟩
          · cases h1; exact h2.symm
          · cases h1; rfl
        have HRW : Hid (w2.ownsRow w.heap.size 84 3 (.slice a len cap) acc.length css.flatten) := (HW.out.gr.below pcLaw (Nat.le_refl _) HB2.out).row
        have HCT : Hid (acc.length ≤ 6000) := by have := HW.out.cnt; unfold Hid; omega
        have HSZ : Hid (w.heap.size ≤ w2.heap.size) := Nat.le_trans HW.out.low.size HB2.out.size
        have HNE : Hid ((Value.slice a len cap).ownBlock ≠ some w2.heap.size) := fun e => by
          have := (HRW.out.lt _ e).2
          omega
        have HNW : Hid (∀ j u, [Value.int .i64 K, .string S, .int .i64 N][j]? = some u → ((w2.alloc (.cells #[.int .i64 K, .string S, .int .i64 N] 84)).alloc (.cells #[.int .i64 K, .string S, .int .i64 N] 84)).drew.cell? ((⟨w2.heap.size + 1, 0, none⟩ : Addr).add j) = some u) := fun j u h => by
          have h2 := cells_new (w2.alloc (.cells #[.int .i64 K, .string S, .int .i64 N] 84)) [.int .i64 K, .string S, .int .i64 N] 84 j u h
          have e : (w2.alloc (.cells #[.int .i64 K, .string S, .int .i64 N] 84)).heap.size = w2.heap.size + 1 := by simp
          rw [e] at h2
          exact h2
        have HOX : Hid (((w2.alloc (.cells #[.int .i64 K, .string S, .int .i64 N] 84)).alloc (.cells #[.int .i64 K, .string S, .int .i64 N] 84)).drew.ownsRow w.heap.size 84 3 (.slice a len cap) acc.length css.flatten) := (HRW.out.alloc _).alloc _
        go_region_held3 (fun w' => w'.cell? ⟨w2.heap.size, 0, none⟩ = some (.int .i64 K) ∧ w'.cell? ⟨w2.heap.size, 1, none⟩ = some (.string S) ∧ w'.cell? ⟨w2.heap.size, 2, none⟩ = some (.int .i64 N)) (first
          | go_keep
          | (go_split_ands
             refine ⟨?_, ?_, ?_⟩
             · (rw [hgrow.cell_far _ (by simp; omega) HNE.out.symm]; simp)
             · (rw [hgrow.cell_far _ (by simp; omega) HNE.out.symm]; simp)
             · (rw [hgrow.cell_far _ (by simp; omega) HNE.out.symm]; simp)))
          ((refine step_append_lies _ (by rfl) _ _ 50 (by rfl) w.heap.size 84 i0 (.agg #[.int .i64 0, .string ⟨#[]⟩, .int .i64 0]) 3 32 Tryz.underlying50 HI.out.1 HI.out.2.1 HI.out.2.2.1 HI.out.2.2.2 rfl (by decide) (.slice a len cap) acc.length css.flatten (by rfl) HOX.out ⟨w2.heap.size + 1, 0, none⟩ 1 1 [.int .i64 K, .string S, .int .i64 N] (by rfl) rfl HNW.out (by intro u hu; simp at hu; rcases hu with rfl | rfl | rfl <;> rfl) (by omega) (by have := HCT.out; unfold maxLen; omega) (by have := HCT.out; omega) (by simp; exact Nat.le_trans HSZ.out (by omega)) (w2.heap.size + 2) (by simp) ?_; intro g cap' w5 hown hgrow hat hlt5))
        all_goals
          have HNX : Hid (∃ acc' css f, acc'.length = acc.length + 1 ∧ CtI s w w5 (.slice (some ⟨g, 0, none⟩) (acc.length + 1) cap') (bs ((t.toList.drop i).dropWhile blankB)) acc' css f ∧ (bs ((t.toList.drop i).dropWhile blankB)).size < t.size) := by
            have hg2 : ((w2.alloc (.cells #[.int .i64 K, .string S, .int .i64 N] 84)).alloc (.cells #[.int .i64 K, .string S, .int .i64 N] 84)).grownBy w5 (Value.slice a len cap).ownBlock := ⟨hgrow.os, hgrow.tape, hgrow.output, hgrow.size, hgrow.block⟩
            have hz : ((w2.alloc (.cells #[.int .i64 K, .string S, .int .i64 N] 84)).alloc (.cells #[.int .i64 K, .string S, .int .i64 N] 84)).heap.size = w2.heap.size + 2 := by simp
            rw [HK.out.1, HK.out.2.1, HK.out.2.2] at hown
            obtain ⟨f', hc⟩ := ct_next h1 HW.out h0 HP.out HB2.out hown hg2 (by
              rcases hat with e | e
              · exact .inl (by rw [e]; rfl)
              · exact .inr (by rw [hz, e]; rfl))
            obtain ⟨b1, b2, _⟩ := pieceR_bounds (by rw [bytes_len]; exact hts) HP.out
            have hd := dw_len (t.toList.drop i)
            rw [List.length_drop, bytes_len] at hd
            exact ⟨_, _, f', by simp, hc, by rw [bs_size]; omega⟩
        all_goals
          obtain ⟨u, hu⟩ : ∃ u, u = t.extract i t.size := ⟨_, rfl⟩
          have HU : Hid (u.toList = t.toList.drop i) := by unfold Hid; rw [hu]; exact sub_drop t i
          have HCS : Hid _ := skipBlanks_c u w5
        all_goals clear hown hgrow hat HNW HOX HRW
        rw [← hu]
        clear hu
        go_wp2_with fail
        refine Calls.mono HCS.out ?_
        rintro e w6 ⟨rfl, hb⟩
        obtain ⟨acc', css', f', hen, hnx, hsz⟩ := HNX.out
        rw [HU.out]
        obtain ⟨u2, hu2⟩ : ∃ u2, u2 = bs ((t.toList.drop i).dropWhile blankB) := ⟨_, rfl⟩
        rw [← hu2] at hnx hsz ⊢
        obtain ⟨len0, hl0⟩ : ∃ n, n = acc.length := ⟨_, rfl⟩
        rw [← hl0] at hnx ⊢
        have HRL : Hid (∃ acc css f, CtI s w w6 (.slice (some ⟨g, 0, none⟩) (len0 + 1) cap') u2 acc css f) := ⟨acc', css', f', hnx.eq, hnx.fu, hnx.cnt, hnx.fit, hnx.low.trans (hb.mono hnx.low.size), hnx.gr.below pcLaw (Nat.le_refl _) hb⟩
        clear hb HCS hnx hu2 hen hl0
        go_wp2_with fail
        go_roundw
        case rel => exact ⟨u2, _, _, _, rfl, rfl, HRL.out⟩
        case measure => simpa using hsz
    · have he := ise_t h0
      have HX : Hid (cutR (s.size + 1) s.toList = .ok acc) := by
        have : t.toList = [] := List.eq_nil_of_length_eq_zero (by rw [bytes_len]; omega)
        unfold Hid; rw [HW.out.eq, this]; rfl
      have HF : Hid (CutOut s w (.returned (.slice a len cap)) wr) := by
        refine ⟨HW.out.low, ?_⟩
        rw [HX.out]
        have := HW.out.cnt
        exact ⟨_, rfl, PcA.of HW.out.gr (by omega) (Nat.le_refl _), HW.out.fit⟩
      go_wp2_with fail
      go_ret
      exact HF.out
end Go.Proofs.YtcmipgonogbolaaGreatDoor
