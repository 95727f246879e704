/-
  Braces: counted in a text outside its strings, and in its pieces. / Braces: what is read of pieces opens as many as it shuts. / A source that is cut within its last rule is not read. / Reading takes pieces; with the fuel that a source is given it never stops for want of it: what is wrong is told by a number that is not 0. / Reading never stops for want of fuel: statements, rules, sources. So a source that is cut within its last rule is refused. / SourcesTorn's walk. / SourcesTorn: for every list of raw numbers and every number the law returns true: the source that is made of the list, cut within its last rule, is refused by syntax.Read; what was in memory stays. The row lists tables of package syntax and of the library, tied to the text of the program. No condition.
-/
import Derived.Test.YtfbpkbochhfnhaaGreatDoorSrcX0
import Derived.Test.YtfbpkbochhfnhaaGreatDoorRdSpec
import Derived.Lib.LastIndexLaws
import Derived.Test.YtfbpkbochhfnhaaGreatDoorSrcX5
import Derived.Test.YtfbpkbochhfnhaaGreatDoorShelfL
import Derived.Test.YtfbpkbochhfnhaaGreatDoorTie
import Derived.Test.YtfbpkbochhfnhaaGreatDoorCards
import Derived.Lib.LaidTab
namespace Go.Proofs.YtfbpkbochhfnhaaGreatDoor
open Go.RowKit
set_option maxRecDepth 100000

/-- Braces that are open behind a text; nothing, where a string holds one or does not end. -/
def scan : Bool → List UInt8 → Option Int
  | false, [] => some 0
  | true, [] => none
  | false, c :: r => if c.toNat = 34 then scan true r else if c.toNat = 123 then (scan false r).map (· + 1) else if c.toNat = 125 then (scan false r).map (· - 1) else scan false r
  | true, c :: r => if c.toNat = 34 then scan false r else if c.toNat = 123 ∨ c.toNat = 125 ∨ c.toNat = 92 then none else scan true r

theorem scan_app {x y : Int} {b : List UInt8} (hb : scan false b = some y) : ∀ (f : Bool) (a : List UInt8) (x : Int), scan f a = some x → scan f (a ++ b) = some (x + y)
  | false, [], x, h => by
    simp only [scan, Option.some.injEq] at h
    rw [List.nil_append, hb, ← h]; simp
  | true, [], x, h => by simp [scan] at h
  | false, c :: r, x, h => by
    rw [List.cons_append]
    unfold scan at h ⊢
    split at h
    · rename_i h1; rw [if_pos h1]; exact scan_app (x := x) hb true r _ h
    · rename_i h1
      rw [if_neg h1]
      split at h
      · rename_i h2
        rw [if_pos h2]
        obtain ⟨z, hz, rfl⟩ := Option.map_eq_some_iff.1 h
        rw [scan_app (x := x) hb false r _ hz]; simp; omega
      · rename_i h2
        rw [if_neg h2]
        split at h
        · rename_i h3
          rw [if_pos h3]
          obtain ⟨z, hz, rfl⟩ := Option.map_eq_some_iff.1 h
          rw [scan_app (x := x) hb false r _ hz]; simp; omega
        · rename_i h3
          rw [if_neg h3]; exact scan_app (x := x) hb false r _ h
  | true, c :: r, x, h => by
    rw [List.cons_append]
    unfold scan at h ⊢
    split at h
    · rename_i h1; rw [if_pos h1]; exact scan_app (x := x) hb false r _ h
    · rename_i h1
      rw [if_neg h1]
      split at h
      · cases h
      · rename_i h2; rw [if_neg h2]; exact scan_app (x := x) hb true r _ h
theorem scan_two {a b : List UInt8} {x y : Int} (ha : scan false a = some x) (hb : scan false b = some y) : scan false (a ++ b) = some (x + y) := scan_app (x := x) hb false a x ha
theorem scan_0 {a b : List UInt8} (ha : scan false a = some 0) (hb : scan false b = some 0) : scan false (a ++ b) = some 0 := scan_two ha hb

theorem scan_sum {a b : List UInt8} {z : Int} (x y : Int) (ha : scan false a = some x) (hb : scan false b = some y) (hz : x + y = z) : scan false (a ++ b) = some z := hz ▸ scan_two ha hb
/-- A byte that is no quote and no brace. -/
def plainB (c : UInt8) : Bool := decide (c.toNat ≠ 34 ∧ c.toNat ≠ 123 ∧ c.toNat ≠ 125)
theorem scan_plain {c : UInt8} {r : List UInt8} (h : plainB c = true) : scan false (c :: r) = scan false r := by
  simp only [plainB, decide_eq_true_eq] at h
  rw [scan, if_neg h.1, if_neg h.2.1, if_neg h.2.2]
theorem scan_run {q : UInt8 → Bool} (hq : ∀ c, q c = true → plainB c = true) : ∀ l : List UInt8, scan false (l.drop (l.takeWhile q).length) = scan false l
  | [] => rfl
  | c :: r => by
    by_cases h : q c = true
    · rw [List.takeWhile_cons_of_pos h, List.length_cons, List.drop_succ_cons, scan_run hq r, scan_plain (hq c h)]
    · rw [List.takeWhile_cons_of_neg h]; rfl
theorem scan_blank : ∀ l : List UInt8, scan false (l.dropWhile blankB) = scan false l
  | [] => rfl
  | c :: r => by
    by_cases h : blankB c = true
    · rw [List.dropWhile_cons_of_pos h, scan_blank r, scan_plain]
      simp only [blankB, decide_eq_true_eq] at h
      simp only [plainB, decide_eq_true_eq]; omega
    · rw [List.dropWhile_cons_of_neg h]

/-- A string's end. -/
theorem scan_txt : ∀ (n : Nat) (l acc t : List UInt8) (i j : Nat) (x : Int), l.length ≤ n → txtR l acc i = .ok (t, j) → scan true l = some x → i < j ∧ scan false (l.drop (j - i)) = some x
  | n, [], acc, t, i, j, x, _, h, _ => by simp [txtR] at h
  | 0, c :: r, acc, t, i, j, x, hn, _, _ => by simp at hn
  | n + 1, c :: r, acc, t, i, j, x, hn, h, hs => by
    unfold txtR at h
    unfold scan at hs
    split at h
    · rename_i h1
      rw [if_pos h1] at hs
      simp only [Except.ok.injEq, Prod.mk.injEq] at h
      obtain ⟨-, rfl⟩ := h
      exact ⟨by omega, by rw [show i + 1 - i = 1 by omega]; exact hs⟩
    · rename_i h1
      rw [if_neg h1] at hs
      split at h
      · cases h
      · rename_i h2
        split at h
        · rename_i h3
          rw [if_pos (.inr (.inr h3))] at hs
          cases hs
        · split at hs
          · cases hs
          · obtain ⟨h4, h5⟩ := scan_txt n r _ t (i + 1) j x (by simp at hn; omega) h hs
            refine ⟨by omega, ?_⟩
            rw [show j - i = (j - (i + 1)) + 1 by omega, List.drop_succ_cons]
            exact h5

/-- What a piece opens. -/
def wt (p : Pc) : Int := if p.k ≠ 3 ∧ p.s = [123] then 1 else if p.k ≠ 3 ∧ p.s = [125] then -1 else 0
def wsum (ps : List Pc) : Int := (ps.map wt).sum
theorem wsum_cons (p : Pc) (ps : List Pc) : wsum (p :: ps) = wt p + wsum ps := by simp [wsum]

theorem scan_sign (r : List UInt8) : ∀ t ∈ signsL, ∀ x, scan false (t ++ r) = some x → ∃ y, scan false r = some y ∧ x = wt ⟨4, t, 0⟩ + y := by
  intro t ht x h
  have hp : ∀ t ∈ signsL, t = [123] ∨ t = [125] ∨ (t.all plainB = true ∧ wt ⟨4, t, 0⟩ = 0) := by decide
  rcases hp t ht with rfl | rfl | ⟨h1, h2⟩
  · simp only [List.cons_append, List.nil_append] at h
    unfold scan at h
    rw [if_neg (by decide), if_pos (by decide)] at h
    obtain ⟨z, hz, rfl⟩ := Option.map_eq_some_iff.1 h
    exact ⟨z, hz, by rw [show wt ⟨4, [123], 0⟩ = 1 by decide]; omega⟩
  · simp only [List.cons_append, List.nil_append] at h
    unfold scan at h
    rw [if_neg (by decide), if_neg (by decide), if_pos (by decide)] at h
    obtain ⟨z, hz, rfl⟩ := Option.map_eq_some_iff.1 h
    exact ⟨z, hz, by rw [show wt ⟨4, [125], 0⟩ = -1 by decide]; omega⟩
  · refine ⟨x, ?_, by rw [h2]; omega⟩
    rw [← h]
    have : ∀ t : List UInt8, t.all plainB = true → scan false (t ++ r) = scan false r := by
      intro t
      induction t with
      | nil => intro _; rfl
      | cons c u ih =>
        intro hc
        rw [List.all_cons, Bool.and_eq_true] at hc
        rw [List.cons_append, scan_plain hc.1, ih hc.2]
    exact (this t h1).symm

theorem mem_tw {q : UInt8 → Bool} {c : UInt8} : ∀ l : List UInt8, c ∈ l.takeWhile q → q c = true
  | [], h => by simp at h
  | d :: r, h => by
    by_cases hd : q d = true
    · rw [List.takeWhile_cons_of_pos hd] at h
      rcases List.mem_cons.1 h with rfl | h
      · exact hd
      · exact mem_tw r h
    · rw [List.takeWhile_cons_of_neg hd] at h; simp at h
theorem letter_plain (c : UInt8) (hc : letterB c = true) : plainB c = true := by
  simp only [letterB, decide_eq_true_eq] at hc
  simp only [plainB, decide_eq_true_eq]; omega
theorem digit_plain (c : UInt8) (hc : digitB c = true) : plainB c = true := by
  simp only [digitB, decide_eq_true_eq] at hc
  simp only [plainB, decide_eq_true_eq]; omega
theorem scan_piece {l : List UInt8} {p : Pc} {i : Nat} {x : Int} (h : pieceR l = .ok (p, i)) (hs : scan false l = some x) : 0 < i ∧ ∃ y, scan false (l.drop i) = some y ∧ x = wt p + y := by
  unfold pieceR at h
  split at h
  · simp only [Except.ok.injEq, Prod.mk.injEq] at h
    obtain ⟨rfl, rfl⟩ := h
    rename_i h0
    refine ⟨h0, x, by rw [scan_run letter_plain, hs], ?_⟩
    · have : ∀ l : List UInt8, wt ⟨1, l.takeWhile letterB, 0⟩ = 0 := fun l => by
        have hl : ∀ c ∈ l.takeWhile letterB, letterB c = true := fun c hc => mem_tw l hc
        unfold wt
        rw [if_neg, if_neg]
        · rintro ⟨-, h⟩
          simp only at h
          have := hl 125 (by rw [h]; simp)
          revert this; decide
        · rintro ⟨-, h⟩
          simp only at h
          have := hl 123 (by rw [h]; simp)
          revert this; decide
      rw [this]; omega
  · split at h
    · split at h
      · cases h
      · simp only [Except.ok.injEq, Prod.mk.injEq] at h
        obtain ⟨rfl, rfl⟩ := h
        rename_i h0 _ _ _
        exact ⟨h0, x, by rw [scan_run digit_plain, hs], by unfold wt; simp⟩
    · split at h
      · rename_i hq
        split at h
        · cases h
        · rename_i t j ht
          simp only [Except.ok.injEq, Prod.mk.injEq] at h
          obtain ⟨rfl, rfl⟩ := h
          match l, hq with
          | c :: r, hq =>
            simp only [List.head?_cons, Option.some.injEq] at hq
            subst hq
            unfold scan at hs
            rw [if_pos (by decide)] at hs
            obtain ⟨h1, h2⟩ := scan_txt r.length r [] t 1 j x (Nat.le_refl _) ht hs
            refine ⟨by omega, x, ?_, by unfold wt; simp⟩
            rw [show j = (j - 1) + 1 by omega, List.drop_succ_cons]
            exact h2
      · split at h
        · rename_i t ht
          simp only [Except.ok.injEq, Prod.mk.injEq] at h
          obtain ⟨rfl, rfl⟩ := h
          have hm := List.mem_of_find?_eq_some ht
          have hpre := List.find?_some ht
          obtain ⟨r, rfl⟩ := List.isPrefixOf_iff_prefix.1 hpre
          rw [List.drop_left]
          have hp : ∀ t ∈ signsL, 0 < t.length := by decide
          exact ⟨hp t hm, scan_sign r t hm x hs⟩
        · cases h

/-- Pieces open as many as their text. -/
theorem scan_cut : ∀ (m : Nat) (l : List UInt8) (ps : List Pc) (x : Int), l.length < m → cutR m l = .ok ps → scan false l = some x → wsum ps = x
  | 0, l, ps, x, hl, _, _ => by omega
  | m + 1, l, ps, x, hl, h, hs => by
    unfold cutR at h
    rw [← scan_blank] at hs
    have hle : (l.dropWhile blankB).length ≤ l.length := (List.dropWhile_suffix blankB).length_le
    split at h
    · rename_i he
      rw [he] at hs
      simp only [Except.ok.injEq] at h
      simp only [scan, Option.some.injEq] at hs
      rw [← h, ← hs]; rfl
    · rename_i c r he
      rw [he] at hs hle
      split at h
      · cases h
      · rename_i p i hp
        split at h
        · cases h
        · rename_i qs hq
          simp only [Except.ok.injEq] at h
          obtain ⟨hi, y, hy, rfl⟩ := scan_piece hp hs
          have hd : ((c :: r).drop i).length < m := by
            rw [List.length_drop]
            have : 0 < (c :: r).length := by simp
            omega
          rw [← h, wsum_cons, scan_cut m _ qs y hd hq hy]

/-! ### The grammar's texts -/
theorem scan_digs {n : Nat} (h : n < 30) : scan false (digs n) = some 0 := by
  have h1 : (List.range 30).all (fun n => decide (scan false (digs n) = some 0)) = true := by kernel_rfl
  exact of_decide_eq_true (List.all_eq_true.1 h1 n (List.mem_range.2 h))
theorem scan_in {L : List (List UInt8)} (hL : (L.all fun v => decide (scan false v = some 0)) = true) {v : List UInt8} (h : v ∈ L) : scan false v = some 0 := of_decide_eq_true (List.all_eq_true.1 hL v h)
theorem GE.scan {d : Nat} {b : Bool} {s : List UInt8} (h : GE d b s) : scan false s = some 0 := by
  induction h with
  | num h => exact scan_digs h
  | var h => exact scan_in (by decide) h
  | st | st2 | nr | nf => decide
  | elem h0 h => exact scan_0 (scan_0 (by decide) (scan_digs (by omega))) (by decide)
  | field h => exact scan_0 (scan_0 (by decide) (scan_digs (by omega))) (by decide)
  | op ho _ _ i1 i2 => exact scan_0 (scan_0 (scan_0 (scan_0 (by decide) i1) (scan_in (by decide) ho)) i2) (by decide)
  | cond _ _ _ i1 i2 i3 => exact scan_0 (scan_0 (scan_0 (scan_0 (scan_0 (scan_0 (by decide) i1) (by decide)) i2) (by decide)) i3) (by decide)
  | elemv ha _ i1 => exact scan_0 (scan_0 (scan_0 (scan_in (by decide) ha) (by decide)) i1) (by decide)
  | isin ha _ i1 => exact scan_0 (scan_0 (scan_0 (scan_0 (by decide) i1) (by decide)) (scan_in (by decide) ha)) (by decide)
  | sub _ _ i1 i2 => exact scan_0 (scan_0 (scan_0 (scan_0 (by decide) i1) (by decide)) i2) (by decide)
  | lenf _ i1 | neg _ i1 | no _ i1 | index _ i1 => exact scan_0 (scan_0 (by decide) i1) (by decide)
theorem GS.scan {d : Nat} {b : Bool} {s : List UInt8} (h : GS d b s) : scan false s = some 0 := by
  induction h with
  | set hv hs => exact scan_0 (scan_0 (scan_0 (scan_in (by decide) hv) (by decide)) hs.scan) (by decide)
  | put hs ht => exact scan_0 (scan_0 (scan_0 (scan_0 (by decide) hs.scan) (by decide)) ht.scan) (by decide)
  | print hs ht => exact scan_0 (scan_0 (scan_0 (scan_0 (by decide) hs.scan) (by decide)) ht.scan) (by decide)
  | load | print2 => decide
  | write h0 h hs => exact scan_0 (scan_0 (scan_0 (scan_0 (by decide) (scan_digs (by omega))) (by decide)) hs.scan) (by decide)
  | delete hs => exact scan_0 (scan_0 (by decide) hs.scan) (by decide)
  | next hs => exact scan_0 (scan_0 (by decide) hs.scan) (by decide)
  | branch hs _ _ i1 i2 => exact scan_sum 1 (-1) (scan_sum 1 0 (scan_sum 1 0 (scan_sum 1 0 (scan_sum 0 1 (scan_0 (by decide) hs.scan) (by decide) rfl) i1 rfl) (by decide) rfl) i2 rfl) (by decide) rfl
  | each hv ha _ ht i1 => exact scan_sum 1 (-1) (scan_sum 1 0 (scan_sum 1 0 (scan_sum 1 0 (scan_sum 0 1 (scan_0 (scan_0 (scan_0 (by decide) (scan_in (by decide) hv)) (by decide)) (scan_in (by decide) ha)) (by decide) rfl) i1 rfl) (by decide) rfl) ht.scan rfl) (by decide) rfl
  | loop h0 h _ i1 => exact scan_sum 1 (-1) (scan_sum 1 0 (scan_sum 0 1 (scan_0 (by decide) (scan_digs (by omega))) (by decide) rfl) i1 rfl) (by decide) rfl
theorem GL.scan {b : Bool} {n : Nat} {s : List UInt8} (h : GL b n s) : scan false s = some 1 := by
  induction h with
  | nil => decide
  | snoc _ ht i => exact scan_sum 1 0 i (scan_0 ht.scan (by decide)) rfl
theorem GB.scan {b : Bool} {m : Nat} {s : List UInt8} (h : GB b m s) : scan false s = some 0 := by
  obtain ⟨n, t, -, -, hl, rfl⟩ := h
  exact scan_sum 1 (-1) hl.scan (by decide) rfl
theorem GR.scan {n : Nat} {s : List UInt8} (h : GR n s) : scan false s = some 0 := by
  induction h with
  | first => decide
  | begin _ ht i => exact scan_0 i (scan_0 (by decide) ht.scan)
  | main _ ht i => exact scan_0 i ht.scan
  | pat _ he ht i => exact scan_0 (scan_0 i (scan_0 he.scan (by decide))) ht.scan
/-- What is open behind so much of the last rule. -/
theorem scan_end (m : Nat) (h0 : 5 ≤ m) (h : m ≤ 58) : ∃ x : Int, 0 < x ∧ scan false (endL.take m) = some x := by
  have h1 : (List.range 59).all (fun m => decide (m < 5) || (match scan false (endL.take m) with | some x => decide (0 < x) | none => false)) = true := by kernel_rfl
  have h2 := List.all_eq_true.1 h1 m (List.mem_range.2 (by omega))
  rw [decide_eq_false (by omega), Bool.false_or] at h2
  split at h2
  · rename_i x hx; exact ⟨x, of_decide_eq_true h2, hx⟩
  · cases h2
end Go.Proofs.YtfbpkbochhfnhaaGreatDoor
namespace Go.Proofs.YtfbpkbochhfnhaaGreatDoor
open Go.RowKit
set_option maxRecDepth 100000

theorem wsum_app (a b : List Pc) : wsum (a ++ b) = wsum a + wsum b := by simp [wsum]
/-- What was read ahead of the rest opens nothing. -/
def Zr (ps rest : List Pc) : Prop := ∃ pre, ps = pre ++ rest ∧ wsum pre = 0
theorem Zr.refl (ps : List Pc) : Zr ps ps := ⟨[], rfl, rfl⟩
theorem Zr.trans {a b c : List Pc} (h : Zr a b) (k : Zr b c) : Zr a c := by
  obtain ⟨p, rfl, hp⟩ := h
  obtain ⟨q, rfl, hq⟩ := k
  exact ⟨p ++ q, by simp, by rw [wsum_app, hp, hq]; rfl⟩
theorem Zr.one {p : Pc} {r : List Pc} (h : wt p = 0) : Zr (p :: r) r := ⟨[p], rfl, by rw [wsum_cons, h]; rfl⟩
/-- As pieces of a text are. -/
def Good (ps : List Pc) : Prop := ∀ p ∈ ps, (p.k = 2 → p.s = []) ∧ (p.k = 1 → p.s ≠ [123] ∧ p.s ≠ [125])
theorem Good.rest {a b : List Pc} (h : Good a) (k : Zr a b) : Good b := by
  obtain ⟨p, rfl, _⟩ := k
  exact fun q hq => h q (List.mem_append_right _ hq)
theorem wt_s {p : Pc} (h1 : p.s ≠ [123]) (h2 : p.s ≠ [125]) : wt p = 0 := by
  unfold wt
  rw [if_neg (fun h => h1 h.2), if_neg (fun h => h2 h.2)]
theorem wt_3 {p : Pc} (h : p.k = 3) : wt p = 0 := by
  unfold wt
  rw [if_neg (fun k => k.1 h), if_neg (fun k => k.1 h)]
theorem sees_z {t : List UInt8} {ps : List Pc} (h : seesB t ps = true) (h1 : t ≠ [123] := by decide) (h2 : t ≠ [125] := by decide) : Zr ps ps.tail := by
  match ps, h with
  | p :: r, h =>
    simp only [seesB, Bool.and_eq_true, decide_eq_true_eq] at h
    exact Zr.one (wt_s (h.2 ▸ h1) (h.2 ▸ h2))
theorem need_z {t : List UInt8} {ps r : List Pc} {u : Unit} (h : needR t ps = .ok (u, r)) (h1 : t ≠ [123] := by decide) (h2 : t ≠ [125] := by decide) : Zr ps r := by
  match ps with
  | [] => simp [needR] at h
  | p :: q =>
    simp only [needR] at h
    split at h
    · rename_i hs
      simp only [Except.ok.injEq, Prod.mk.injEq] at h
      rw [← h.2]
      exact sees_z hs h1 h2
    · cases h
theorem nm_z {ps r : List Pc} {s : List UInt8} (h : nmR ps = .ok (s, r)) : Zr ps r := by
  match ps with
  | [] => simp [nmR] at h
  | p :: q =>
    simp only [nmR] at h
    split at h
    · rename_i hs
      simp only [Except.ok.injEq, Prod.mk.injEq] at h
      rw [← h.2]
      refine Zr.one (wt_s (fun e => ?_) (fun e => ?_))
      · have := hs.2; rw [e] at this; revert this; decide
      · have := hs.2; rw [e] at this; revert this; decide
    · cases h
theorem lvl_z {p : Pc} {r : List Pc} {d : Int} (hd : 0 < d) (h : levelR (p :: r) = d) : wt p = 0 := by
  simp only [levelR] at h
  split at h
  · rename_i h3; exact wt_3 h3
  · refine wt_s (fun e => ?_) (fun e => ?_)
    · rw [e, show lvlL [123] = 0 by decide] at h; omega
    · rw [e, show lvlL [125] = 0 by decide] at h; omega

theorem exprs_z : ∀ m : Nat,
    (∀ o ps x r, Good ps → wholeR m o ps = .ok (x, r) → Zr ps r) ∧
    (∀ d o ps x r, 0 < d → Good ps → binR m d o ps = .ok (x, r) → Zr ps r) ∧
    (∀ d o y ps x r, 0 < d → Good ps → binL m d o y ps = .ok (x, r) → Zr ps r) ∧
    (∀ o ps x r, Good ps → opR m o ps = .ok (x, r) → Zr ps r) ∧
    (∀ k o ps x r, Good ps → preR m k o ps = .ok (x, r) → Zr ps r) ∧
    (∀ o ps x r, Good ps → sgnR m o ps = .ok (x, r) → Zr ps r) ∧
    (∀ o s ps x r, Good ps → wordR m o s ps = .ok (x, r) → Zr ps r) ∧
    (∀ o ps x r, Good ps → keyR m o ps = .ok (x, r) → Zr ps r) ∧
    (∀ o ps x r, Good ps → wholesR m o ps = .ok (x, r) → Zr ps r) ∧
    (∀ o y ps x r, Good ps → moreR m o y ps = .ok (x, r) → Zr ps r) := by
  intro m
  induction m with
  | zero => refine ⟨?_, ?_, ?_, ?_, ?_, ?_, ?_, ?_, ?_, ?_⟩ <;> intros <;> simp_all [wholeR, binR, binL, opR, preR, sgnR, wordR, keyR, wholesR, moreR]
  | succ m ih =>
    obtain ⟨hw, hb, hl, ho, hp, hs, hwd, hk, hws, hm⟩ := ih
    refine ⟨?_, ?_, ?_, ?_, ?_, ?_, ?_, ?_, ?_, ?_⟩
    · intro o ps x r hg h
      unfold wholeR at h
      split at h
      · cases h
      split at h
      · cases h
      rename_i x1 p1 h1
      have z1 := hb _ _ _ _ _ (by decide) hg h1
      split at h
      · rename_i h2
        have z2 := z1.trans (sees_z h2)
        split at h
        · cases h
        rename_i y p2 h3
        have z3 := z2.trans (hw _ _ _ _ (hg.rest z2) h3)
        split at h
        · cases h
        rename_i u p3 h4
        have z4 := z3.trans (need_z h4)
        split at h
        · cases h
        rename_i w p4 h5
        have z5 := z4.trans (hw _ _ _ _ (hg.rest z4) h5)
        simp only [Except.ok.injEq, Prod.mk.injEq] at h
        exact h.2 ▸ z5
      · simp only [Except.ok.injEq, Prod.mk.injEq] at h
        exact h.2 ▸ z1
    · intro d o ps x r hd hg h
      unfold binR at h
      split at h
      · exact ho _ _ _ _ hg h
      split at h
      · cases h
      rename_i x1 p1 h1
      have z1 := hb _ _ _ _ _ (by omega) hg h1
      exact z1.trans (hl _ _ _ _ _ _ hd (hg.rest z1) h)
    · intro d o y ps x r hd hg h
      unfold binL at h
      split at h
      · rename_i hlv
        split at h
        · simp only [Except.ok.injEq, Prod.mk.injEq] at h
          exact h.2 ▸ Zr.refl _
        rename_i p q
        have z0 : Zr (p :: q) q := Zr.one (lvl_z hd hlv)
        split at h
        · split at h
          · cases h
          rename_i t r1 h1
          have z1 := z0.trans (nm_z h1)
          exact z1.trans (hl _ _ _ _ _ _ hd (hg.rest z1) h)
        · split at h
          · cases h
          rename_i t r1 h1
          have z1 := z0.trans (hb _ _ _ _ _ (by omega) (hg.rest z0) h1)
          exact z1.trans (hl _ _ _ _ _ _ hd (hg.rest z1) h)
      · simp only [Except.ok.injEq, Prod.mk.injEq] at h
        exact h.2 ▸ Zr.refl _
    · intro o ps x r hg h
      unfold opR at h
      split at h
      · rename_i h1
        have z1 := sees_z h1
        exact z1.trans (hp _ _ _ _ _ (hg.rest z1) h)
      split at h
      · rename_i h1
        have z1 := sees_z h1
        exact z1.trans (hp _ _ _ _ _ (hg.rest z1) h)
      split at h
      · rename_i h1
        have z1 := sees_z h1
        exact z1.trans (hp _ _ _ _ _ (hg.rest z1) h)
      split at h
      · cases h
      rename_i p q _ _ _
      have gp := hg p (by simp)
      split at h
      · rename_i h2
        simp only [Except.ok.injEq, Prod.mk.injEq] at h
        exact h.2 ▸ Zr.one (wt_s (by rw [gp.1 h2]; simp) (by rw [gp.1 h2]; simp))
      split at h
      · rename_i h3
        simp only [Except.ok.injEq, Prod.mk.injEq] at h
        exact h.2 ▸ Zr.one (wt_3 h3)
      split at h
      · rename_i h1
        have z0 : Zr (p :: q) q := Zr.one (wt_s (gp.2 h1).1 (gp.2 h1).2)
        exact z0.trans (hwd _ _ _ _ _ (hg.rest z0) h)
      split at h
      · rename_i h4
        have z0 : Zr (p :: q) q := Zr.one (wt_s (by rw [h4]; decide) (by rw [h4]; decide))
        split at h
        · cases h
        rename_i y r1 h5
        have z1 := z0.trans (hw _ _ _ _ (hg.rest z0) h5)
        split at h
        · cases h
        rename_i u r2 h6
        simp only [Except.ok.injEq, Prod.mk.injEq] at h
        exact h.2 ▸ z1.trans (need_z h6)
      · cases h
    · intro k o ps x r hg h
      unfold preR at h
      split at h
      · cases h
      rename_i y r1 h1
      simp only [Except.ok.injEq, Prod.mk.injEq] at h
      exact h.2 ▸ hs _ _ _ _ hg h1
    · intro o ps x r hg h
      unfold sgnR at h
      split at h
      · cases h
      exact ho _ _ _ _ hg h
    · intro o s ps x r hg h
      unfold wordR at h
      split at h
      · simp only [Except.ok.injEq, Prod.mk.injEq] at h
        exact h.2 ▸ Zr.refl _
      split at h
      · split at h
        · cases h
        rename_i u p1 h1
        have z1 := need_z h1
        split at h
        · cases h
        rename_i y p2 h2
        have z2 := z1.trans (hws _ _ _ _ (hg.rest z1) h2)
        split at h
        · cases h
        rename_i u3 p3 h3
        simp only [Except.ok.injEq, Prod.mk.injEq] at h
        exact h.2 ▸ z2.trans (need_z h3)
      split at h
      · cases h
      split at h
      · split at h
        · cases h
        rename_i y p1 h1
        simp only [Except.ok.injEq, Prod.mk.injEq] at h
        exact h.2 ▸ hk _ _ _ _ hg h1
      · simp only [Except.ok.injEq, Prod.mk.injEq] at h
        exact h.2 ▸ Zr.refl _
    · intro o ps x r hg h
      unfold keyR at h
      split at h
      · cases h
      rename_i u p1 h1
      have z1 := need_z h1
      split at h
      · cases h
      rename_i y p2 h2
      have z2 := z1.trans (hw _ _ _ _ (hg.rest z1) h2)
      split at h
      · cases h
      rename_i u3 p3 h3
      simp only [Except.ok.injEq, Prod.mk.injEq] at h
      exact h.2 ▸ z2.trans (need_z h3)
    · intro o ps x r hg h
      unfold wholesR at h
      split at h
      · cases h
      rename_i y p1 h1
      have z1 := hw _ _ _ _ hg h1
      exact z1.trans (hm _ _ _ _ _ (hg.rest z1) h)
    · intro o y ps x r hg h
      unfold moreR at h
      split at h
      · rename_i h1
        have z1 := sees_z h1
        split at h
        · cases h
        rename_i y p1 h2
        have z2 := z1.trans (hw _ _ _ _ (hg.rest z1) h2)
        exact z2.trans (hm _ _ _ _ _ (hg.rest z2) h)
      · simp only [Except.ok.injEq, Prod.mk.injEq] at h
        exact h.2 ▸ Zr.refl _

/-! ### Statements and rules -/
theorem asked_z {m : Nat} {o : Int} {ps r : List Pc} {x : Ex} (hg : Good ps) (h : askedR m o ps = .ok (x, r)) : Zr ps r := by
  unfold askedR at h
  split at h
  · cases h
  rename_i u p1 h1
  have z1 := need_z h1
  split at h
  · cases h
  rename_i y p2 h2
  have z2 := z1.trans ((exprs_z m).1 _ _ _ _ (hg.rest z1) h2)
  split at h
  · cases h
  rename_i u3 p3 h3
  simp only [Except.ok.injEq, Prod.mk.injEq] at h
  exact h.2 ▸ z2.trans (need_z h3)
theorem set_z {m : Nat} {o : Int} {ps r : List Pc} {x : Ex} (hg : Good ps) (h : setR m o ps = .ok (x, r)) : Zr ps r := by
  unfold setR at h
  split at h
  · cases h
  rename_i u p1 h1
  have z1 := need_z h1
  exact z1.trans ((exprs_z m).1 _ _ _ _ (hg.rest z1) h)
theorem key_z {m : Nat} {o : Int} {ps r : List Pc} {x : Ex} (hg : Good ps) (h : keyR m o ps = .ok (x, r)) : Zr ps r := (exprs_z m).2.2.2.2.2.2.2.1 _ _ _ _ hg h
theorem put_z {m : Nat} {o : Int} {ps r : List Pc} {x : Sm} (hg : Good ps) (h : putR m o ps = .ok (x, r)) : Zr ps r := by
  unfold putR at h
  split at h
  · cases h
  rename_i s p1 h1
  have z1 := nm_z h1
  split at h
  · split at h
    · cases h
    rename_i y p2 h2
    have z2 := z1.trans (key_z (hg.rest z1) h2)
    split at h
    · cases h
    rename_i y3 p3 h3
    simp only [Except.ok.injEq, Prod.mk.injEq] at h
    exact h.2 ▸ z2.trans (set_z (hg.rest z2) h3)
  · split at h
    · cases h
    rename_i y3 p3 h3
    simp only [Except.ok.injEq, Prod.mk.injEq] at h
    exact h.2 ▸ z1.trans (set_z (hg.rest z1) h3)
theorem simp_z {m : Nat} {o : Int} {ps r : List Pc} {x : Sm} (hg : Good ps) (h : simpR m o ps = .ok (x, r)) : Zr ps r := by
  unfold simpR at h
  split at h
  · rename_i h1
    have z1 := sees_z h1
    split at h
    · cases h
    rename_i y p2 h2
    simp only [Except.ok.injEq, Prod.mk.injEq] at h
    exact h.2 ▸ z1.trans ((exprs_z m).2.2.2.2.2.2.2.2.1 _ _ _ _ (hg.rest z1) h2)
  split at h
  · rename_i h1
    simp only [Except.ok.injEq, Prod.mk.injEq] at h
    exact h.2 ▸ sees_z h1
  split at h
  · rename_i h1
    have z1 := sees_z h1
    split at h
    · cases h
    rename_i s p1 h2
    have z2 := z1.trans (nm_z h2)
    split at h
    · cases h
    rename_i y p2 h3
    simp only [Except.ok.injEq, Prod.mk.injEq] at h
    exact h.2 ▸ z2.trans (key_z (hg.rest z2) h3)
  split at h
  · rename_i h1
    have z1 := sees_z h1
    split at h
    · cases h
    rename_i f p1 hf
    split at h
    · cases h
    rename_i h3
    split at h
    · cases h
    rename_i s p2 h4
    simp only [Except.ok.injEq, Prod.mk.injEq] at h
    rw [hf] at z1
    exact h.2 ▸ (z1.trans (Zr.one (wt_3 (by omega)))).trans (nm_z h4)
  split at h
  · rename_i h1
    have z1 := sees_z h1
    split at h
    · cases h
    rename_i y p1 h2
    have z2 := z1.trans ((exprs_z m).2.2.2.2.2.1 _ _ _ _ (hg.rest z1) h2)
    split at h
    · cases h
    rename_i y3 p2 h3
    simp only [Except.ok.injEq, Prod.mk.injEq] at h
    exact h.2 ▸ z2.trans (set_z (hg.rest z2) h3)
  · exact put_z hg h

/-- A piece that shuts. -/
def shutB (p : Pc) : Bool := decide (p.k ≠ 3) && decide (p.s = [125])
/-- What was read ahead of the rest ends with a brace, and opens so many. -/
def Zb (x : Int) (ps rest : List Pc) : Prop := ∃ pre p, ps = pre ++ p :: rest ∧ shutB p = true ∧ wsum pre + wt p = x
theorem Zb.zr {ps rest : List Pc} (h : Zb 0 ps rest) : Zr ps rest := by
  obtain ⟨pre, p, rfl, _, hw⟩ := h
  exact ⟨pre ++ [p], by simp, by rw [wsum_app, wsum_cons]; simp [wsum] at hw ⊢; omega⟩
theorem Zr.zb {a b c : List Pc} {x : Int} (h : Zr a b) (k : Zb x b c) : Zb x a c := by
  obtain ⟨p, rfl, hp⟩ := h
  obtain ⟨q, s, rfl, hs, hq⟩ := k
  exact ⟨p ++ q, s, by simp, hs, by rw [wsum_app]; omega⟩

theorem stmts_z : ∀ m : Nat,
    (∀ o ps x r, Good ps → blockR m o ps = .ok (x, r) → Zb 0 ps r) ∧
    (∀ o y ps x r, Good ps → stmtsR m o y ps = .ok (x, r) → Zb (-1) ps r) ∧
    (∀ o ps x r, Good ps → stmtR m o ps = .ok (x, r) → Zr ps r) := by
  intro m
  induction m with
  | zero => refine ⟨?_, ?_, ?_⟩ <;> intros <;> simp_all [blockR, stmtsR, stmtR]
  | succ m ih =>
    obtain ⟨hb, hl, hs⟩ := ih
    refine ⟨?_, ?_, ?_⟩
    · intro o ps x r hg h
      unfold blockR at h
      split at h
      · cases h
      split at h
      · cases h
      rename_i u p1 h1
      match ps with
      | [] => simp [needR] at h1
      | p :: q =>
        simp only [needR] at h1
        split at h1
        · rename_i h2
          simp only [Except.ok.injEq, Prod.mk.injEq] at h1
          obtain ⟨-, rfl⟩ := h1
          obtain ⟨pre, c, he, hc, hw⟩ := hl _ _ _ _ _ (fun p hp => hg p (List.mem_cons_of_mem _ hp)) h
          simp only [seesB, Bool.and_eq_true, decide_eq_true_eq] at h2
          refine ⟨p :: pre, c, by rw [he]; rfl, hc, ?_⟩
          rw [wsum_cons, show wt p = 1 by unfold wt; rw [if_pos h2]]
          omega
        · cases h1
    · intro o y ps x r hg h
      unfold stmtsR at h
      split at h
      · rename_i h1
        simp only [Except.ok.injEq, Prod.mk.injEq] at h
        match ps, h1 with
        | p :: q, h1 =>
          simp only [seesB, Bool.and_eq_true, decide_eq_true_eq] at h1
          refine ⟨[], p, by rw [← h.2]; rfl, by simp [shutB, h1], ?_⟩
          unfold wt
          rw [if_neg (by rintro ⟨-, e⟩; rw [h1.2] at e; revert e; decide), if_pos h1]
          rfl
      split at h
      · cases h
      rename_i z p1 h1
      have z1 := hs _ _ _ _ hg h1
      exact z1.zb (hl _ _ _ _ _ (hg.rest z1) h)
    · intro o ps x r hg h
      unfold stmtR at h
      split at h
      · rename_i h1
        have z1 := sees_z h1
        split at h
        · cases h
        rename_i y p1 h2
        have z2 := z1.trans (asked_z (hg.rest z1) h2)
        split at h
        · cases h
        rename_i b p2 h3
        have z3 := z2.trans (hb _ _ _ _ (hg.rest z2) h3).zr
        split at h
        · rename_i h4
          have z4 := z3.trans (sees_z h4)
          split at h
          · cases h
          rename_i e p3 h5
          simp only [Except.ok.injEq, Prod.mk.injEq] at h
          exact h.2 ▸ z4.trans (hb _ _ _ _ (hg.rest z4) h5).zr
        · simp only [Except.ok.injEq, Prod.mk.injEq] at h
          exact h.2 ▸ z3
      split at h
      · rename_i h1
        have z1 := sees_z h1
        split at h
        · cases h
        rename_i y p1 h2
        have z2 := z1.trans (asked_z (hg.rest z1) h2)
        split at h
        · cases h
        rename_i b p2 h3
        simp only [Except.ok.injEq, Prod.mk.injEq] at h
        exact h.2 ▸ z2.trans (hb _ _ _ _ (hg.rest z2) h3).zr
      split at h
      · rename_i h1
        have z1 := sees_z h1
        split at h
        · cases h
        rename_i u p1 h2
        have z2 := z1.trans (need_z h2)
        split at h
        · cases h
        rename_i s p2 h3
        have z3 := z2.trans (nm_z h3)
        split at h
        · cases h
        rename_i u3 p3 h4
        have z4 := z3.trans (need_z h4)
        split at h
        · cases h
        rename_i s4 p4 h5
        have z5 := z4.trans (nm_z h5)
        split at h
        · cases h
        rename_i u5 p5 h6
        have z6 := z5.trans (need_z h6)
        split at h
        · cases h
        rename_i b p6 h7
        simp only [Except.ok.injEq, Prod.mk.injEq] at h
        exact h.2 ▸ z6.trans (hb _ _ _ _ (hg.rest z6) h7).zr
      split at h
      · cases h
      rename_i y p1 h1
      have z1 := simp_z hg h1
      split at h
      · cases h
      rename_i u p2 h2
      simp only [Except.ok.injEq, Prod.mk.injEq] at h
      exact h.2 ▸ z1.trans (need_z h2)

theorem rule_z {m : Nat} {o : Int} {ps r : List Pc} {x : Ru} (hg : Good ps) (h : ruleR m o ps = .ok (x, r)) : Zb 0 ps r := by
  unfold ruleR at h
  split at h
  · rename_i h1
    have z1 := sees_z h1
    split at h
    · cases h
    rename_i b p1 h2
    simp only [Except.ok.injEq, Prod.mk.injEq] at h
    exact h.2 ▸ z1.zb ((stmts_z m).1 _ _ _ _ (hg.rest z1) h2)
  split at h
  · rename_i h1
    have z1 := sees_z h1
    split at h
    · cases h
    rename_i b p1 h2
    simp only [Except.ok.injEq, Prod.mk.injEq] at h
    exact h.2 ▸ z1.zb ((stmts_z m).1 _ _ _ _ (hg.rest z1) h2)
  split at h
  · split at h
    · cases h
    rename_i b p1 h2
    simp only [Except.ok.injEq, Prod.mk.injEq] at h
    exact h.2 ▸ (stmts_z m).1 _ _ _ _ hg h2
  split at h
  · cases h
  rename_i y p1 h1
  have z1 := (exprs_z m).1 _ _ _ _ hg h1
  split at h
  · cases h
  rename_i b p2 h2
  simp only [Except.ok.injEq, Prod.mk.injEq] at h
  exact h.2 ▸ z1.zb ((stmts_z m).1 _ _ _ _ (hg.rest z1) h2)
/-- Rules that are read: as many braces are shut as are opened, and the last piece shuts. -/
theorem rules_z {m : Nat} : ∀ (j : Nat) (l x : List Ru) (ps : List Pc), Good ps → rulesR m j l ps = .ok x → ps = [] ∨ Zb 0 ps []
  | 0, l, x, ps, _, h => by simp [rulesR] at h
  | j + 1, l, x, ps, hg, h => by
    unfold rulesR at h
    split at h
    · exact .inl rfl
    · split at h
      · cases h
      rename_i p q y p1 h1
      have z1 := rule_z hg h1
      rcases rules_z j _ x p1 (hg.rest z1.zr) h with rfl | h2
      · exact .inr z1
      · exact .inr (z1.zr.zb h2)
end Go.Proofs.YtfbpkbochhfnhaaGreatDoor
namespace Go.Proofs.YtfbpkbochhfnhaaGreatDoor
open Go.RowKit
set_option maxRecDepth 100000

/-- One piece: as it must be; and where it shuts. -/
theorem piece_facts {l : List UInt8} {p : Pc} {i : Nat} (h : pieceR l = .ok (p, i)) : ((p.k = 2 → p.s = []) ∧ (p.k = 1 → p.s ≠ [123] ∧ p.s ≠ [125])) ∧ (shutB p = true → ∃ r, l = 125 :: r ∧ i = 1) := by
  unfold pieceR at h
  split at h
  · simp only [Except.ok.injEq, Prod.mk.injEq] at h
    obtain ⟨rfl, rfl⟩ := h
    have hl : ∀ c ∈ l.takeWhile letterB, letterB c = true := fun c hc => mem_tw l hc
    have h1 : l.takeWhile letterB ≠ [123] := fun e => by have := hl 123 (by rw [e]; simp); revert this; decide
    have h2 : l.takeWhile letterB ≠ [125] := fun e => by have := hl 125 (by rw [e]; simp); revert this; decide
    refine ⟨⟨fun h => by simp at h, fun _ => ⟨h1, h2⟩⟩, fun hs => ?_⟩
    simp only [shutB, Bool.and_eq_true, decide_eq_true_eq] at hs
    exact absurd hs.2 h2
  · split at h
    · split at h
      · cases h
      · simp only [Except.ok.injEq, Prod.mk.injEq] at h
        obtain ⟨rfl, rfl⟩ := h
        exact ⟨⟨fun _ => rfl, fun h => by simp at h⟩, fun hs => by simp [shutB] at hs⟩
    · split at h
      · split at h
        · cases h
        · simp only [Except.ok.injEq, Prod.mk.injEq] at h
          obtain ⟨rfl, rfl⟩ := h
          exact ⟨⟨fun h => by simp at h, fun h => by simp at h⟩, fun hs => by simp [shutB] at hs⟩
      · split at h
        · rename_i t ht
          simp only [Except.ok.injEq, Prod.mk.injEq] at h
          obtain ⟨rfl, rfl⟩ := h
          refine ⟨⟨fun h => by simp at h, fun h => by simp at h⟩, fun hs => ?_⟩
          simp only [shutB, Bool.and_eq_true, decide_eq_true_eq] at hs
          obtain ⟨-, rfl⟩ := hs
          have hpre := List.find?_some ht
          obtain ⟨r, rfl⟩ := List.isPrefixOf_iff_prefix.1 hpre
          exact ⟨r, rfl, rfl⟩
        · cases h
theorem cut_good : ∀ (m : Nat) (l : List UInt8) (ps : List Pc), cutR m l = .ok ps → Good ps
  | 0, l, ps, h => by
    simp only [cutR, Except.ok.injEq] at h
    rw [← h]; exact fun _ h => by simp at h
  | m + 1, l, ps, h => by
    unfold cutR at h
    split at h
    · simp only [Except.ok.injEq] at h
      rw [← h]; exact fun _ h => by simp at h
    · split at h
      · cases h
      · rename_i p i hp
        split at h
        · cases h
        · rename_i qs hq
          simp only [Except.ok.injEq] at h
          rw [← h]
          intro q hq'
          rcases List.mem_cons.1 hq' with rfl | hq'
          · exact (piece_facts hp).1
          · exact cut_good m _ qs hq q hq'

/-- The last byte that is no blank. -/
def lastB (l : List UInt8) : Option UInt8 := (l.reverse.dropWhile blankB).head?
theorem last_app (a : List UInt8) {b : List UInt8} {c : UInt8} (h : lastB b = some c) : lastB (a ++ b) = some c := by
  unfold lastB at h ⊢
  rw [List.reverse_append]
  have : ∀ u v : List UInt8, (u.dropWhile blankB).head? = some c → ((u ++ v).dropWhile blankB).head? = some c := by
    intro u v
    induction u with
    | nil => intro h; simp at h
    | cons d u ih =>
      intro h
      by_cases hd : blankB d = true
      · rw [List.dropWhile_cons_of_pos hd] at h
        rw [List.cons_append, List.dropWhile_cons_of_pos hd]
        exact ih h
      · rw [List.dropWhile_cons_of_neg hd] at h
        rw [List.cons_append, List.dropWhile_cons_of_neg hd]
        exact h
  exact this _ _ h
theorem last_blank {c : UInt8} (hc : blankB c = false) : ∀ b : List UInt8, b.dropWhile blankB = [] → lastB (c :: b) = some c := by
  intro b hb
  unfold lastB
  rw [List.reverse_cons]
  have hall : ∀ x ∈ b, blankB x = true := by
    clear hc
    induction b with
    | nil => intro x hx; simp at hx
    | cons d r ih =>
      by_cases hd : blankB d = true
      · rw [List.dropWhile_cons_of_pos hd] at hb
        intro x hx
        rcases List.mem_cons.1 hx with rfl | hx
        · exact hd
        · exact ih hb x hx
      · rw [List.dropWhile_cons_of_neg hd] at hb; cases hb
  have : ∀ u : List UInt8, (∀ x ∈ u, blankB x = true) → ((u ++ [c]).dropWhile blankB).head? = some c := by
    intro u
    induction u with
    | nil => intro _; simp [hc]
    | cons d u ih =>
      intro h
      rw [List.cons_append, List.dropWhile_cons_of_pos (h d (by simp))]
      exact ih fun x hx => h x (by simp [hx])
  exact this _ fun x hx => hall x (by simpa using hx)
theorem last_drop {l : List UInt8} {c : UInt8} (h : lastB (l.dropWhile blankB) = some c) : lastB l = some c := by
  have := last_app (l.takeWhile blankB) h
  rwa [List.takeWhile_append_dropWhile] at this
theorem last_from {l : List UInt8} {i : Nat} {c : UInt8} (h : lastB (l.drop i) = some c) : lastB l = some c := by
  have := last_app (l.take i) h
  rwa [List.take_append_drop] at this

theorem piece_pos {l : List UInt8} {p : Pc} {i : Nat} (h : pieceR l = .ok (p, i)) : 0 < i := by
  unfold pieceR at h
  split at h
  · simp only [Except.ok.injEq, Prod.mk.injEq] at h
    omega
  · split at h
    · split at h
      · cases h
      · simp only [Except.ok.injEq, Prod.mk.injEq] at h
        omega
    · split at h
      · split at h
        · cases h
        · rename_i t j ht
          simp only [Except.ok.injEq, Prod.mk.injEq] at h
          have : ∀ (n : Nat) (l acc t : List UInt8) (i j : Nat), l.length ≤ n → txtR l acc i = .ok (t, j) → i < j := by
            intro n
            induction n with
            | zero =>
              intro l acc t i j hn h
              match l with
              | [] => simp [txtR] at h
              | c :: r => simp at hn
            | succ n ih =>
              intro l acc t i j hn h
              match l with
              | [] => simp [txtR] at h
              | c :: r =>
                unfold txtR at h
                split at h
                · simp only [Except.ok.injEq, Prod.mk.injEq] at h; omega
                · split at h
                  · cases h
                  · split at h
                    · split at h
                      · cases h
                      · rename_i d r' _
                        simp only [List.length_cons] at hn
                        split at h
                        · have := ih _ _ _ _ _ (by omega) h; omega
                        · split at h
                          · have := ih _ _ _ _ _ (by omega) h; omega
                          · cases h
                    · simp only [List.length_cons] at hn
                      have := ih _ _ _ _ _ (by omega) h; omega
          have := this _ _ _ _ _ _ (Nat.le_refl _) ht
          omega
      · split at h
        · rename_i t ht
          simp only [Except.ok.injEq, Prod.mk.injEq] at h
          have hp : ∀ t ∈ signsL, 0 < t.length := by decide
          have := hp t (List.mem_of_find?_eq_some ht)
          omega
        · cases h
theorem cut_nil {m : Nat} {l : List UInt8} (hl : l.length < m) (h : cutR m l = .ok []) : l.dropWhile blankB = [] := by
  match m, hl with
  | m + 1, hl =>
    unfold cutR at h
    split at h
    · rename_i he; exact he
    · split at h
      · cases h
      · split at h
        · cases h
        · simp at h
/-- Where the last piece shuts, the last byte that is no blank is that brace. -/
theorem cut_last : ∀ (m : Nat) (l : List UInt8) (ps pre : List Pc) (p : Pc), l.length < m → cutR m l = .ok ps → ps = pre ++ [p] → shutB p = true → lastB l = some 125
  | 0, l, ps, pre, p, hl, _, _, _ => by omega
  | m + 1, l, ps, pre, p, hl, h, he, hp => by
    unfold cutR at h
    have hle : (l.dropWhile blankB).length ≤ l.length := (List.dropWhile_suffix blankB).length_le
    split at h
    · simp only [Except.ok.injEq] at h
      rw [← h] at he
      simp at he
    · rename_i c r hcr
      rw [hcr] at hle
      split at h
      · cases h
      · rename_i p0 i hp0
        split at h
        · cases h
        · rename_i qs hq
          simp only [Except.ok.injEq] at h
          have hi := piece_pos hp0
          have hd : ((c :: r).drop i).length < m := by
            rw [List.length_drop]
            have : 0 < (c :: r).length := by simp
            omega
          refine last_drop ?_
          rw [hcr]
          rw [← h] at he
          match pre with
          | [] =>
            simp only [List.nil_append, List.cons.injEq] at he
            obtain ⟨rfl, rfl⟩ := he
            obtain ⟨r', hr', rfl⟩ := (piece_facts hp0).2 hp
            rw [hr'] at hd hq ⊢
            exact last_blank (by decide) r' (cut_nil hd hq)
          | a :: pre' =>
            simp only [List.cons_append, List.cons.injEq] at he
            exact last_from (cut_last m _ qs pre' p hd hq he.2 hp)

/-- A source that is cut within its last rule is not read. -/
theorem torn {n : Nat} {t : List UInt8} (ht : GR n t) (m : Nat) (h1 : 1 ≤ m) (hm : m ≤ 58) (x : List Ru) : readR (t ++ endL.take m) ≠ .ok x := by
  intro h
  unfold readR at h
  split at h
  · cases h
  split at h
  · cases h
  rename_i ps hc
  split at h
  · cases h
  rename_i l hr
  clear h
  have hlt : (t ++ endL.take m).length < (t ++ endL.take m).length + 1 := Nat.lt_succ_self _
  have hz := rules_z _ _ _ _ (cut_good _ _ _ hc) hr
  by_cases h5 : 5 ≤ m
  · obtain ⟨y, hy, hs⟩ := scan_end m h5 hm
    have hw := scan_cut _ _ _ _ hlt hc (scan_two ht.scan hs)
    rcases hz with rfl | hz
    · simp [wsum] at hw; omega
    · obtain ⟨pre, e, hp⟩ := hz.zr
      rw [List.append_nil] at e
      rw [e] at hw
      omega
  · have hl : ∃ c, lastB (endL.take m) = some c ∧ c ≠ 125 := by
      have : m = 1 ∨ m = 2 ∨ m = 3 ∨ m = 4 := by omega
      rcases this with rfl | rfl | rfl | rfl
      · exact ⟨69, by decide, by decide⟩
      · exact ⟨78, by decide, by decide⟩
      · exact ⟨68, by decide, by decide⟩
      · exact ⟨68, by decide, by decide⟩
    obtain ⟨c, hc1, hc2⟩ := hl
    have hL := last_app t hc1
    rcases hz with rfl | ⟨pre, p, e, hp, _⟩
    · have hn := cut_nil hlt hc
      unfold lastB at hL
      have hall : ∀ x ∈ t ++ endL.take m, blankB x = true := by
        have : ∀ u : List UInt8, u.dropWhile blankB = [] → ∀ x ∈ u, blankB x = true := by
          intro u
          induction u with
          | nil => intro _ x hx; simp at hx
          | cons d r ih =>
            intro hb x hx
            by_cases hd : blankB d = true
            · rw [List.dropWhile_cons_of_pos hd] at hb
              rcases List.mem_cons.1 hx with rfl | hx
              · exact hd
              · exact ih hb x hx
            · rw [List.dropWhile_cons_of_neg hd] at hb; cases hb
        exact this _ hn
      have : (t ++ endL.take m).reverse.dropWhile blankB = [] := by
        have : ∀ u : List UInt8, (∀ x ∈ u, blankB x = true) → u.dropWhile blankB = [] := by
          intro u
          induction u with
          | nil => intro _; rfl
          | cons d r ih => intro h; rw [List.dropWhile_cons_of_pos (h d (by simp))]; exact ih fun x hx => h x (by simp [hx])
        exact this _ fun x hx => hall x (List.mem_reverse.1 hx)
      rw [this] at hL
      simp at hL
    · have := cut_last _ _ ps pre p hlt hc e hp
      rw [hL] at this
      exact hc2 (Option.some.inj this)
end Go.Proofs.YtfbpkbochhfnhaaGreatDoor
namespace Go.Proofs.YtfbpkbochhfnhaaGreatDoor
open Go.RowKit
set_option maxRecDepth 100000

theorem sees_l {t : List UInt8} {ps : List Pc} (h : seesB t ps = true) : ps.tail.length + 1 = ps.length := by
  match ps, h with
  | p :: r, _ => rfl
theorem need_l {t : List UInt8} {ps r : List Pc} {u : Unit} (h : needR t ps = .ok (u, r)) : r.length + 1 = ps.length := by
  match ps with
  | [] => simp [needR] at h
  | p :: q =>
    simp only [needR] at h
    split at h
    · simp only [Except.ok.injEq, Prod.mk.injEq] at h
      rw [← h.2]; rfl
    · cases h
theorem need_e {t : List UInt8} {ps : List Pc} (h : needR t ps = .error 0) : False := by
  match ps with
  | [] => simp [needR] at h
  | p :: q =>
    simp only [needR] at h
    split at h <;> simp at h
theorem nm_l {ps r : List Pc} {s : List UInt8} (h : nmR ps = .ok (s, r)) : r.length + 1 = ps.length := by
  match ps with
  | [] => simp [nmR] at h
  | p :: q =>
    simp only [nmR] at h
    split at h
    · simp only [Except.ok.injEq, Prod.mk.injEq] at h
      rw [← h.2]; rfl
    · cases h
theorem nm_e {ps : List Pc} (h : nmR ps = .error 0) : False := by
  match ps with
  | [] => simp [nmR] at h
  | p :: q =>
    simp only [nmR] at h
    split at h <;> simp at h
theorem ok_len {α : Type} {x y : α} {a b : List Pc} (h : (Except.ok (x, a) : Rd α) = .ok (y, b)) : a.length = b.length := by
  simp only [Except.ok.injEq, Prod.mk.injEq] at h
  rw [h.2]

theorem exprs_l : ∀ m : Nat,
    (∀ o ps x r, wholeR m o ps = .ok (x, r) → r.length < ps.length) ∧
    (∀ d o ps x r, binR m d o ps = .ok (x, r) → r.length < ps.length) ∧
    (∀ d o y ps x r, binL m d o y ps = .ok (x, r) → r.length ≤ ps.length) ∧
    (∀ o ps x r, opR m o ps = .ok (x, r) → r.length < ps.length) ∧
    (∀ k o ps x r, preR m k o ps = .ok (x, r) → r.length < ps.length) ∧
    (∀ o ps x r, sgnR m o ps = .ok (x, r) → r.length < ps.length) ∧
    (∀ o s ps x r, wordR m o s ps = .ok (x, r) → r.length ≤ ps.length) ∧
    (∀ o ps x r, keyR m o ps = .ok (x, r) → r.length < ps.length) ∧
    (∀ o ps x r, wholesR m o ps = .ok (x, r) → r.length < ps.length) ∧
    (∀ o y ps x r, moreR m o y ps = .ok (x, r) → r.length ≤ ps.length) := by
  intro m
  induction m with
  | zero => refine ⟨?_, ?_, ?_, ?_, ?_, ?_, ?_, ?_, ?_, ?_⟩ <;> intros <;> simp_all [wholeR, binR, binL, opR, preR, sgnR, wordR, keyR, wholesR, moreR]
  | succ m ih =>
    obtain ⟨hw, hb, hl, ho, hp, hs, hwd, hk, hws, hm⟩ := ih
    refine ⟨?_, ?_, ?_, ?_, ?_, ?_, ?_, ?_, ?_, ?_⟩
    · intro o ps x r h
      unfold wholeR at h
      split at h
      · cases h
      split at h
      · cases h
      rename_i x1 p1 h1
      have z1 := hb _ _ _ _ _ h1
      split at h
      · rename_i h2
        have z2 := sees_l h2
        split at h
        · cases h
        rename_i y p2 h3
        have z3 := hw _ _ _ _ h3
        split at h
        · cases h
        rename_i u p3 h4
        have z4 := need_l h4
        split at h
        · cases h
        rename_i w p4 h5
        have z5 := hw _ _ _ _ h5
        have z6 := ok_len h
        omega
      · have z6 := ok_len h
        omega
    · intro d o ps x r h
      unfold binR at h
      split at h
      · exact ho _ _ _ _ h
      split at h
      · cases h
      rename_i x1 p1 h1
      have z1 := hb _ _ _ _ _ h1
      have z2 := hl _ _ _ _ _ _ h
      omega
    · intro d o y ps x r h
      unfold binL at h
      split at h
      · split at h
        · have z6 := ok_len h
          omega
        rename_i p q _
        simp only [List.length_cons]
        split at h
        · split at h
          · cases h
          rename_i t r1 h1
          have z1 := nm_l h1
          have z2 := hl _ _ _ _ _ _ h
          omega
        · split at h
          · cases h
          rename_i t r1 h1
          have z1 := hb _ _ _ _ _ h1
          have z2 := hl _ _ _ _ _ _ h
          omega
      · have z6 := ok_len h
        omega
    · intro o ps x r h
      unfold opR at h
      split at h
      · rename_i h1
        have z1 := sees_l h1
        have z2 := hp _ _ _ _ _ h
        omega
      split at h
      · rename_i h1
        have z1 := sees_l h1
        have z2 := hp _ _ _ _ _ h
        omega
      split at h
      · rename_i h1
        have z1 := sees_l h1
        have z2 := hp _ _ _ _ _ h
        omega
      split at h
      · cases h
      rename_i p q _ _ _
      simp only [List.length_cons]
      split at h
      · have z6 := ok_len h
        omega
      split at h
      · have z6 := ok_len h
        omega
      split at h
      · have z2 := hwd _ _ _ _ _ h
        omega
      split at h
      · split at h
        · cases h
        rename_i y r1 h5
        have z1 := hw _ _ _ _ h5
        split at h
        · cases h
        rename_i u r2 h6
        have z2 := need_l h6
        have z6 := ok_len h
        omega
      · cases h
    · intro k o ps x r h
      unfold preR at h
      split at h
      · cases h
      rename_i y r1 h1
      have z1 := hs _ _ _ _ h1
      have z6 := ok_len h
      omega
    · intro o ps x r h
      unfold sgnR at h
      split at h
      · cases h
      exact ho _ _ _ _ h
    · intro o s ps x r h
      unfold wordR at h
      split at h
      · have z6 := ok_len h
        omega
      split at h
      · split at h
        · cases h
        rename_i u p1 h1
        have z1 := need_l h1
        split at h
        · cases h
        rename_i y p2 h2
        have z2 := hws _ _ _ _ h2
        split at h
        · cases h
        rename_i u3 p3 h3
        have z3 := need_l h3
        have z6 := ok_len h
        omega
      split at h
      · cases h
      split at h
      · split at h
        · cases h
        rename_i y p1 h1
        have z1 := hk _ _ _ _ h1
        have z6 := ok_len h
        omega
      · have z6 := ok_len h
        omega
    · intro o ps x r h
      unfold keyR at h
      split at h
      · cases h
      rename_i u p1 h1
      have z1 := need_l h1
      split at h
      · cases h
      rename_i y p2 h2
      have z2 := hw _ _ _ _ h2
      split at h
      · cases h
      rename_i u3 p3 h3
      have z3 := need_l h3
      have z6 := ok_len h
      omega
    · intro o ps x r h
      unfold wholesR at h
      split at h
      · cases h
      rename_i y p1 h1
      have z1 := hw _ _ _ _ h1
      have z2 := hm _ _ _ _ _ h
      omega
    · intro o y ps x r h
      unfold moreR at h
      split at h
      · rename_i h1
        have z1 := sees_l h1
        split at h
        · cases h
        rename_i y p1 h2
        have z2 := hw _ _ _ _ h2
        have z3 := hm _ _ _ _ _ h
        omega
      · have z6 := ok_len h
        omega

theorem exprs_e : ∀ m : Nat,
    (∀ o ps, 20 * ps.length + 9 ≤ m → wholeR m o ps ≠ .error 0) ∧
    (∀ (d : Int) o ps, 1 ≤ d → d ≤ 7 → 20 * ps.length + 9 ≤ m + d.toNat → binR m d o ps ≠ .error 0) ∧
    (∀ (d : Int) o y ps, 1 ≤ d → d ≤ 6 → 20 * ps.length + 11 ≤ m → binL m d o y ps ≠ .error 0) ∧
    (∀ o ps, 20 * ps.length + 1 ≤ m → opR m o ps ≠ .error 0) ∧
    (∀ k o ps, 20 * ps.length + 3 ≤ m → preR m k o ps ≠ .error 0) ∧
    (∀ o ps, 20 * ps.length + 2 ≤ m → sgnR m o ps ≠ .error 0) ∧
    (∀ o s ps, 20 * ps.length + 2 ≤ m → wordR m o s ps ≠ .error 0) ∧
    (∀ o ps, 20 * ps.length + 1 ≤ m → keyR m o ps ≠ .error 0) ∧
    (∀ o ps, 20 * ps.length + 10 ≤ m → wholesR m o ps ≠ .error 0) ∧
    (∀ o y ps, 20 * ps.length + 1 ≤ m → moreR m o y ps ≠ .error 0) := by
  intro m
  induction m with
  | zero =>
    refine ⟨?_, ?_, ?_, ?_, ?_, ?_, ?_, ?_, ?_, ?_⟩ <;> intros <;> omega
  | succ m ih =>
    obtain ⟨hw, hb, hl, ho, hp, hs, hwd, hk, hws, hm⟩ := ih
    have L := exprs_l m
    obtain ⟨lw, lb, ll, lo, lp, ls, lwd, lk, lws, lm⟩ := L
    refine ⟨?_, ?_, ?_, ?_, ?_, ?_, ?_, ?_, ?_, ?_⟩
    · intro o ps hf h
      unfold wholeR at h
      split at h
      · simp at h
      split at h
      · rename_i e he
        obtain rfl : e = 0 := by simpa using h
        exact hb 1 _ _ (by decide) (by decide) (by simpa using hf) he
      rename_i x1 p1 h1
      have z1 := lb _ _ _ _ _ h1
      split at h
      · rename_i h2
        have z2 := sees_l h2
        split at h
        · rename_i e he
          obtain rfl : e = 0 := by simpa using h
          exact hw _ _ (by omega) he
        rename_i y p2 h3
        have z3 := lw _ _ _ _ h3
        split at h
        · rename_i e he
          obtain rfl : e = 0 := by simpa using h
          exact need_e he
        rename_i u p3 h4
        have z4 := need_l h4
        split at h
        · rename_i e he
          obtain rfl : e = 0 := by simpa using h
          exact hw _ _ (by omega) he
        · cases h
      · cases h
    · intro d o ps hd1 hd2 hf h
      unfold binR at h
      split at h
      · exact ho _ _ (by omega) h
      split at h
      · rename_i e he
        obtain rfl : e = 0 := by simpa using h
        exact hb _ _ _ (by omega) (by omega) (by omega) he
      rename_i x1 p1 h1
      have z1 := lb _ _ _ _ _ h1
      exact hl _ _ _ _ hd1 (by omega) (by omega) h
    · intro d o y ps hd1 hd2 hf h
      unfold binL at h
      split at h
      · split at h
        · cases h
        rename_i p q _
        simp only [List.length_cons] at hf
        split at h
        · split at h
          · rename_i e he
            obtain rfl : e = 0 := by simpa using h
            exact nm_e he
          rename_i t r1 h1
          have z1 := nm_l h1
          exact hl _ _ _ _ hd1 hd2 (by omega) h
        · split at h
          · rename_i e he
            obtain rfl : e = 0 := by simpa using h
            exact hb _ _ _ (by omega) (by omega) (by omega) he
          rename_i t r1 h1
          have z1 := lb _ _ _ _ _ h1
          exact hl _ _ _ _ hd1 hd2 (by omega) h
      · cases h
    · intro o ps hf h
      unfold opR at h
      split at h
      · rename_i h1
        have z1 := sees_l h1
        exact hp _ _ _ (by omega) h
      split at h
      · rename_i h1
        have z1 := sees_l h1
        exact hp _ _ _ (by omega) h
      split at h
      · rename_i h1
        have z1 := sees_l h1
        exact hp _ _ _ (by omega) h
      split at h
      · simp at h
      rename_i p q _ _ _
      simp only [List.length_cons] at hf
      split at h
      · cases h
      split at h
      · cases h
      split at h
      · exact hwd _ _ _ (by omega) h
      split at h
      · split at h
        · rename_i e he
          obtain rfl : e = 0 := by simpa using h
          exact hw _ _ (by omega) he
        rename_i y r1 h5
        split at h
        · rename_i e he
          obtain rfl : e = 0 := by simpa using h
          exact need_e he
        · cases h
      · simp at h
    · intro k o ps hf h
      unfold preR at h
      split at h
      · rename_i e he
        obtain rfl : e = 0 := by simpa using h
        exact hs _ _ (by omega) he
      · cases h
    · intro o ps hf h
      unfold sgnR at h
      split at h
      · simp at h
      exact ho _ _ (by omega) h
    · intro o s ps hf h
      unfold wordR at h
      split at h
      · cases h
      split at h
      · split at h
        · rename_i e he
          obtain rfl : e = 0 := by simpa using h
          exact need_e he
        rename_i u p1 h1
        have z1 := need_l h1
        split at h
        · rename_i e he
          obtain rfl : e = 0 := by simpa using h
          exact hws _ _ (by omega) he
        rename_i y p2 h2
        split at h
        · rename_i e he
          obtain rfl : e = 0 := by simpa using h
          exact need_e he
        · cases h
      split at h
      · simp at h
      split at h
      · split at h
        · rename_i e he
          obtain rfl : e = 0 := by simpa using h
          exact hk _ _ (by omega) he
        · cases h
      · cases h
    · intro o ps hf h
      unfold keyR at h
      split at h
      · rename_i e he
        obtain rfl : e = 0 := by simpa using h
        exact need_e he
      rename_i u p1 h1
      have z1 := need_l h1
      split at h
      · rename_i e he
        obtain rfl : e = 0 := by simpa using h
        exact hw _ _ (by omega) he
      rename_i y p2 h2
      split at h
      · rename_i e he
        obtain rfl : e = 0 := by simpa using h
        exact need_e he
      · cases h
    · intro o ps hf h
      unfold wholesR at h
      split at h
      · rename_i e he
        obtain rfl : e = 0 := by simpa using h
        exact hw _ _ (by omega) he
      rename_i y p1 h1
      have z1 := lw _ _ _ _ h1
      exact hm _ _ _ (by omega) h
    · intro o y ps hf h
      unfold moreR at h
      split at h
      · rename_i h1
        have z1 := sees_l h1
        split at h
        · rename_i e he
          obtain rfl : e = 0 := by simpa using h
          exact hw _ _ (by omega) he
        rename_i y p1 h2
        have z2 := lw _ _ _ _ h2
        exact hm _ _ _ (by omega) h
      · cases h
end Go.Proofs.YtfbpkbochhfnhaaGreatDoor
namespace Go.Proofs.YtfbpkbochhfnhaaGreatDoor
open Go.RowKit
set_option maxRecDepth 100000

theorem asked_l {m : Nat} {o : Int} {ps r : List Pc} {x : Ex} (h : askedR m o ps = .ok (x, r)) : r.length < ps.length := by
  unfold askedR at h
  split at h
  · cases h
  rename_i u p1 h1
  have z1 := need_l h1
  split at h
  · cases h
  rename_i y p2 h2
  have z2 := (exprs_l m).1 _ _ _ _ h2
  split at h
  · cases h
  rename_i u3 p3 h3
  have z3 := need_l h3
  have z6 := ok_len h
  omega
theorem asked_e {m : Nat} {o : Int} {ps : List Pc} (hf : 20 * ps.length ≤ m) (h : askedR m o ps = .error 0) : False := by
  unfold askedR at h
  split at h
  · rename_i e he
    obtain rfl : e = 0 := by simpa using h
    exact need_e he
  rename_i u p1 h1
  have z1 := need_l h1
  split at h
  · rename_i e he
    obtain rfl : e = 0 := by simpa using h
    exact (exprs_e m).1 _ _ (by omega) he
  split at h
  · rename_i e he
    obtain rfl : e = 0 := by simpa using h
    exact need_e he
  · cases h
theorem set_l {m : Nat} {o : Int} {ps r : List Pc} {x : Ex} (h : setR m o ps = .ok (x, r)) : r.length < ps.length := by
  unfold setR at h
  split at h
  · cases h
  rename_i u p1 h1
  have z1 := need_l h1
  have z2 := (exprs_l m).1 _ _ _ _ h
  omega
theorem set_e {m : Nat} {o : Int} {ps : List Pc} (hf : 20 * ps.length ≤ m) (h : setR m o ps = .error 0) : False := by
  unfold setR at h
  split at h
  · rename_i e he
    obtain rfl : e = 0 := by simpa using h
    exact need_e he
  rename_i u p1 h1
  have z1 := need_l h1
  exact (exprs_e m).1 _ _ (by omega) h
theorem key_l {m : Nat} {o : Int} {ps r : List Pc} {x : Ex} (h : keyR m o ps = .ok (x, r)) : r.length < ps.length := (exprs_l m).2.2.2.2.2.2.2.1 _ _ _ _ h
theorem key_e {m : Nat} {o : Int} {ps : List Pc} (hf : 20 * ps.length + 1 ≤ m) (h : keyR m o ps = .error 0) : False := (exprs_e m).2.2.2.2.2.2.2.1 _ _ hf h
theorem put_l {m : Nat} {o : Int} {ps r : List Pc} {x : Sm} (h : putR m o ps = .ok (x, r)) : r.length < ps.length := by
  unfold putR at h
  split at h
  · cases h
  rename_i s p1 h1
  have z1 := nm_l h1
  split at h
  · split at h
    · cases h
    rename_i y p2 h2
    have z2 := key_l h2
    split at h
    · cases h
    rename_i y3 p3 h3
    have z3 := set_l h3
    have z6 := ok_len h
    omega
  · split at h
    · cases h
    rename_i y3 p3 h3
    have z3 := set_l h3
    have z6 := ok_len h
    omega
theorem put_e {m : Nat} {o : Int} {ps : List Pc} (hf : 20 * ps.length ≤ m) (h : putR m o ps = .error 0) : False := by
  unfold putR at h
  split at h
  · rename_i e he
    obtain rfl : e = 0 := by simpa using h
    exact nm_e he
  rename_i s p1 h1
  have z1 := nm_l h1
  split at h
  · split at h
    · rename_i e he
      obtain rfl : e = 0 := by simpa using h
      exact key_e (by omega) he
    rename_i y p2 h2
    have z2 := key_l h2
    split at h
    · rename_i e he
      obtain rfl : e = 0 := by simpa using h
      exact set_e (by omega) he
    · cases h
  · split at h
    · rename_i e he
      obtain rfl : e = 0 := by simpa using h
      exact set_e (by omega) he
    · cases h
theorem simp_l {m : Nat} {o : Int} {ps r : List Pc} {x : Sm} (h : simpR m o ps = .ok (x, r)) : r.length < ps.length := by
  unfold simpR at h
  split at h
  · rename_i h1
    have z1 := sees_l h1
    split at h
    · cases h
    rename_i y p2 h2
    have z2 := (exprs_l m).2.2.2.2.2.2.2.2.1 _ _ _ _ h2
    have z6 := ok_len h
    omega
  split at h
  · rename_i h1
    have z1 := sees_l h1
    have z6 := ok_len h
    omega
  split at h
  · rename_i h1
    have z1 := sees_l h1
    split at h
    · cases h
    rename_i s p1 h2
    have z2 := nm_l h2
    split at h
    · cases h
    rename_i y p2 h3
    have z3 := key_l h3
    have z6 := ok_len h
    omega
  split at h
  · rename_i h1
    have z1 := sees_l h1
    split at h
    · cases h
    rename_i f p1 hf
    rw [hf] at z1
    simp only [List.length_cons] at z1
    split at h
    · cases h
    split at h
    · cases h
    rename_i s p2 h4
    have z4 := nm_l h4
    have z6 := ok_len h
    omega
  split at h
  · rename_i h1
    have z1 := sees_l h1
    split at h
    · cases h
    rename_i y p1 h2
    have z2 := (exprs_l m).2.2.2.2.2.1 _ _ _ _ h2
    split at h
    · cases h
    rename_i y3 p2 h3
    have z3 := set_l h3
    have z6 := ok_len h
    omega
  · exact put_l h
theorem simp_e {m : Nat} {o : Int} {ps : List Pc} (hf : 20 * ps.length ≤ m) (h : simpR m o ps = .error 0) : False := by
  unfold simpR at h
  split at h
  · rename_i h1
    have z1 := sees_l h1
    split at h
    · rename_i e he
      obtain rfl : e = 0 := by simpa using h
      exact (exprs_e m).2.2.2.2.2.2.2.2.1 _ _ (by omega) he
    · cases h
  split at h
  · cases h
  split at h
  · rename_i h1
    have z1 := sees_l h1
    split at h
    · rename_i e he
      obtain rfl : e = 0 := by simpa using h
      exact nm_e he
    rename_i s p1 h2
    have z2 := nm_l h2
    split at h
    · rename_i e he
      obtain rfl : e = 0 := by simpa using h
      exact key_e (by omega) he
    · cases h
  split at h
  · split at h
    · simp at h
    split at h
    · simp at h
    split at h
    · rename_i e he
      obtain rfl : e = 0 := by simpa using h
      exact nm_e he
    · cases h
  split at h
  · rename_i h1
    have z1 := sees_l h1
    split at h
    · rename_i e he
      obtain rfl : e = 0 := by simpa using h
      exact (exprs_e m).2.2.2.2.2.1 _ _ (by omega) he
    rename_i y p1 h2
    have z2 := (exprs_l m).2.2.2.2.2.1 _ _ _ _ h2
    split at h
    · rename_i e he
      obtain rfl : e = 0 := by simpa using h
      exact set_e (by omega) he
    · cases h
  · exact put_e hf h

theorem stmts_l : ∀ m : Nat,
    (∀ o ps x r, blockR m o ps = .ok (x, r) → r.length < ps.length) ∧
    (∀ o y ps x r, stmtsR m o y ps = .ok (x, r) → r.length < ps.length) ∧
    (∀ o ps x r, stmtR m o ps = .ok (x, r) → r.length < ps.length) := by
  intro m
  induction m with
  | zero => refine ⟨?_, ?_, ?_⟩ <;> intros <;> simp_all [blockR, stmtsR, stmtR]
  | succ m ih =>
    obtain ⟨hb, hl, hs⟩ := ih
    refine ⟨?_, ?_, ?_⟩
    · intro o ps x r h
      unfold blockR at h
      split at h
      · cases h
      split at h
      · cases h
      rename_i u p1 h1
      have z1 := need_l h1
      have z2 := hl _ _ _ _ _ h
      omega
    · intro o y ps x r h
      unfold stmtsR at h
      split at h
      · rename_i h1
        have z1 := sees_l h1
        have z6 := ok_len h
        omega
      split at h
      · cases h
      rename_i z p1 h1
      have z1 := hs _ _ _ _ h1
      have z2 := hl _ _ _ _ _ h
      omega
    · intro o ps x r h
      unfold stmtR at h
      split at h
      · rename_i h1
        have z1 := sees_l h1
        split at h
        · cases h
        rename_i y p1 h2
        have z2 := asked_l h2
        split at h
        · cases h
        rename_i b p2 h3
        have z3 := hb _ _ _ _ h3
        split at h
        · rename_i h4
          have z4 := sees_l h4
          split at h
          · cases h
          rename_i e p3 h5
          have z5 := hb _ _ _ _ h5
          have z6 := ok_len h
          omega
        · have z6 := ok_len h
          omega
      split at h
      · rename_i h1
        have z1 := sees_l h1
        split at h
        · cases h
        rename_i y p1 h2
        have z2 := asked_l h2
        split at h
        · cases h
        rename_i b p2 h3
        have z3 := hb _ _ _ _ h3
        have z6 := ok_len h
        omega
      split at h
      · rename_i h1
        have z1 := sees_l h1
        split at h
        · cases h
        rename_i u p1 h2
        have z2 := need_l h2
        split at h
        · cases h
        rename_i s p2 h3
        have z3 := nm_l h3
        split at h
        · cases h
        rename_i u3 p3 h4
        have z4 := need_l h4
        split at h
        · cases h
        rename_i s4 p4 h5
        have z5 := nm_l h5
        split at h
        · cases h
        rename_i u5 p5 h6
        have z6 := need_l h6
        split at h
        · cases h
        rename_i b p6 h7
        have z7 := hb _ _ _ _ h7
        have z8 := ok_len h
        omega
      split at h
      · cases h
      rename_i y p1 h1
      have z1 := simp_l h1
      split at h
      · cases h
      rename_i u p2 h2
      have z2 := need_l h2
      have z6 := ok_len h
      omega
theorem stmts_e : ∀ m : Nat,
    (∀ o ps, 20 * ps.length + 3 ≤ m → blockR m o ps ≠ .error 0) ∧
    (∀ o y ps, 20 * ps.length + 2 ≤ m → stmtsR m o y ps ≠ .error 0) ∧
    (∀ o ps, 20 * ps.length + 1 ≤ m → stmtR m o ps ≠ .error 0) := by
  intro m
  induction m with
  | zero => refine ⟨?_, ?_, ?_⟩ <;> intros <;> omega
  | succ m ih =>
    obtain ⟨hb, hl, hs⟩ := ih
    obtain ⟨lb, -, ls⟩ := stmts_l m
    refine ⟨?_, ?_, ?_⟩
    · intro o ps hf h
      unfold blockR at h
      split at h
      · simp at h
      split at h
      · rename_i e he
        obtain rfl : e = 0 := by simpa using h
        exact need_e he
      rename_i u p1 h1
      have z1 := need_l h1
      exact hl _ _ _ (by omega) h
    · intro o y ps hf h
      unfold stmtsR at h
      split at h
      · cases h
      split at h
      · rename_i e he
        obtain rfl : e = 0 := by simpa using h
        exact hs _ _ (by omega) he
      rename_i z p1 h1
      have z1 := ls _ _ _ _ h1
      exact hl _ _ _ (by omega) h
    · intro o ps hf h
      unfold stmtR at h
      split at h
      · rename_i h1
        have z1 := sees_l h1
        split at h
        · rename_i e he
          obtain rfl : e = 0 := by simpa using h
          exact asked_e (by omega) he
        rename_i y p1 h2
        have z2 := asked_l h2
        split at h
        · rename_i e he
          obtain rfl : e = 0 := by simpa using h
          exact hb _ _ (by omega) he
        rename_i b p2 h3
        have z3 := lb _ _ _ _ h3
        split at h
        · rename_i h4
          have z4 := sees_l h4
          split at h
          · rename_i e he
            obtain rfl : e = 0 := by simpa using h
            exact hb _ _ (by omega) he
          · cases h
        · cases h
      split at h
      · rename_i h1
        have z1 := sees_l h1
        split at h
        · rename_i e he
          obtain rfl : e = 0 := by simpa using h
          exact asked_e (by omega) he
        rename_i y p1 h2
        have z2 := asked_l h2
        split at h
        · rename_i e he
          obtain rfl : e = 0 := by simpa using h
          exact hb _ _ (by omega) he
        · cases h
      split at h
      · rename_i h1
        have z1 := sees_l h1
        split at h
        · rename_i e he
          obtain rfl : e = 0 := by simpa using h
          exact need_e he
        rename_i u p1 h2
        have z2 := need_l h2
        split at h
        · rename_i e he
          obtain rfl : e = 0 := by simpa using h
          exact nm_e he
        rename_i s p2 h3
        have z3 := nm_l h3
        split at h
        · rename_i e he
          obtain rfl : e = 0 := by simpa using h
          exact need_e he
        rename_i u3 p3 h4
        have z4 := need_l h4
        split at h
        · rename_i e he
          obtain rfl : e = 0 := by simpa using h
          exact nm_e he
        rename_i s4 p4 h5
        have z5 := nm_l h5
        split at h
        · rename_i e he
          obtain rfl : e = 0 := by simpa using h
          exact need_e he
        rename_i u5 p5 h6
        have z6 := need_l h6
        split at h
        · rename_i e he
          obtain rfl : e = 0 := by simpa using h
          exact hb _ _ (by omega) he
        · cases h
      split at h
      · rename_i e he
        obtain rfl : e = 0 := by simpa using h
        exact simp_e (by omega) he
      split at h
      · rename_i e he
        obtain rfl : e = 0 := by simpa using h
        exact need_e he
      · cases h

theorem rule_l {m : Nat} {o : Int} {ps r : List Pc} {x : Ru} (h : ruleR m o ps = .ok (x, r)) : r.length < ps.length := by
  unfold ruleR at h
  split at h
  · rename_i h1
    have z1 := sees_l h1
    split at h
    · cases h
    rename_i b p1 h2
    have z2 := (stmts_l m).1 _ _ _ _ h2
    have z6 := ok_len h
    omega
  split at h
  · rename_i h1
    have z1 := sees_l h1
    split at h
    · cases h
    rename_i b p1 h2
    have z2 := (stmts_l m).1 _ _ _ _ h2
    have z6 := ok_len h
    omega
  split at h
  · split at h
    · cases h
    rename_i b p1 h2
    have z2 := (stmts_l m).1 _ _ _ _ h2
    have z6 := ok_len h
    omega
  split at h
  · cases h
  rename_i y p1 h1
  have z1 := (exprs_l m).1 _ _ _ _ h1
  split at h
  · cases h
  rename_i b p2 h2
  have z2 := (stmts_l m).1 _ _ _ _ h2
  have z6 := ok_len h
  omega
theorem rule_e {m : Nat} {o : Int} {ps : List Pc} (hf : 20 * ps.length + 9 ≤ m) (h : ruleR m o ps = .error 0) : False := by
  unfold ruleR at h
  split at h
  · rename_i h1
    have z1 := sees_l h1
    split at h
    · rename_i e he
      obtain rfl : e = 0 := by simpa using h
      exact (stmts_e m).1 _ _ (by omega) he
    · cases h
  split at h
  · rename_i h1
    have z1 := sees_l h1
    split at h
    · rename_i e he
      obtain rfl : e = 0 := by simpa using h
      exact (stmts_e m).1 _ _ (by omega) he
    · cases h
  split at h
  · split at h
    · rename_i e he
      obtain rfl : e = 0 := by simpa using h
      exact (stmts_e m).1 _ _ (by omega) he
    · cases h
  split at h
  · rename_i e he
    obtain rfl : e = 0 := by simpa using h
    exact (exprs_e m).1 _ _ hf he
  rename_i y p1 h1
  have z1 := (exprs_l m).1 _ _ _ _ h1
  split at h
  · rename_i e he
    obtain rfl : e = 0 := by simpa using h
    exact (stmts_e m).1 _ _ (by omega) he
  · cases h
theorem rules_e {m : Nat} : ∀ (j : Nat) (l : List Ru) (ps : List Pc), ps.length < j → 20 * ps.length + 9 ≤ m → rulesR m j l ps ≠ .error 0
  | 0, l, ps, hj, _ => by omega
  | j + 1, l, ps, hj, hf => by
    intro h
    unfold rulesR at h
    split at h
    · cases h
    · split at h
      · rename_i e he
        obtain rfl : e = 0 := by simpa using h
        exact rule_e hf he
      rename_i p q y p1 h1
      have z1 := rule_l h1
      exact rules_e j _ p1 (by omega) (by omega) h
theorem txt_e : ∀ (n : Nat) (l acc : List UInt8) (i : Nat), l.length ≤ n → txtR l acc i ≠ .error 0
  | n, [], acc, i, _ => by simp [txtR]
  | 0, c :: r, acc, i, hn => by simp at hn
  | n + 1, c :: r, acc, i, hn => by
    intro h
    simp only [List.length_cons] at hn
    unfold txtR at h
    split at h
    · cases h
    split at h
    · simp at h
    split at h
    · split at h
      · simp at h
      · rename_i d r'
        simp only [List.length_cons] at hn
        split at h
        · exact txt_e n r' _ _ (by omega) h
        · split at h
          · exact txt_e n r' _ _ (by omega) h
          · simp at h
    · exact txt_e n r _ _ (by omega) h
theorem piece_e (l : List UInt8) : pieceR l ≠ .error 0 := by
  intro h
  unfold pieceR at h
  split at h
  · cases h
  split at h
  · split at h
    · rename_i e he
      obtain rfl : e = 0 := by simpa using h
      unfold numR at he
      split at he
      · simp at he
      · split at he <;> simp at he
    · cases h
  split at h
  · split at h
    · rename_i e he
      obtain rfl : e = 0 := by simpa using h
      exact txt_e _ _ _ _ (Nat.le_refl _) he
    · cases h
  split at h <;> simp at h
theorem cut_e : ∀ (m : Nat) (l : List UInt8), cutR m l ≠ .error 0
  | 0, l => by simp [cutR]
  | m + 1, l => by
    intro h
    unfold cutR at h
    split at h
    · cases h
    split at h
    · rename_i e he
      obtain rfl : e = 0 := by simpa using h
      exact piece_e _ he
    split at h
    · rename_i e he
      obtain rfl : e = 0 := by simpa using h
      exact cut_e m _ he
    · cases h
/-- What is wrong with a source has a number that is not 0. -/
theorem read_e (s : List UInt8) : readR s ≠ .error 0 := by
  intro h
  unfold readR at h
  split at h
  · simp at h
  split at h
  · rename_i e he
    obtain rfl : e = 0 := by simpa using h
    exact cut_e _ _ he
  split at h
  · rename_i e he
    obtain rfl : e = 0 := by simpa using h
    exact rules_e _ _ _ (Nat.lt_succ_self _) (by omega) he
  split at h
  · cases h
  · rename_i hk
    exact hk (by simpa using h)
/-- A source that is cut within its last rule is refused. -/
theorem torn_err {n : Nat} {t : List UInt8} (ht : GR n t) (m : Nat) (h1 : 1 ≤ m) (hm : m ≤ 58) : ∃ er : Int, er ≠ 0 ∧ readR (t ++ endL.take m) = .error er := by
  cases h : readR (t ++ endL.take m) with
  | ok x => exact absurd h (torn ht m h1 hm x)
  | error er => exact ⟨er, fun e => read_e _ (e ▸ h), rfl⟩

/-- The last rule is found. -/
theorem last_end (t : List UInt8) : Lib.lastIndex (t ++ endL) [69, 78, 68, 32] = (t.length : Int) := by
  have hlen : endL.length = 61 := by decide
  have hocc : ∀ i, Lib.occAt (t ++ endL) [69, 78, 68, 32] (t.length + i) = ([69, 78, 68, 32] : List UInt8).isPrefixOf (endL.drop i) := fun i => by
    unfold Lib.occAt
    rw [List.drop_append, List.drop_eq_nil_of_le (by omega), List.nil_append, show t.length + i - t.length = i by omega]
  have key : ∀ n, n ≤ 57 → Lib.lastOcc (t ++ endL) [69, 78, 68, 32] (t.length + n + 1) = (t.length : Int) := by
    intro n
    induction n with
    | zero =>
      intro _
      exact Lib.lastOcc_hit _ _ _ (by have h := hocc 0; rw [Nat.add_zero] at h; rw [h]; decide)
    | succ n ih =>
      intro hn
      rw [show t.length + (n + 1) + 1 = (t.length + (n + 1)) + 1 by omega, Lib.lastOcc_miss _ _ _ ?_]
      · exact ih (by omega)
      · rw [hocc]
        have h1 : (List.range 57).all (fun n => !([69, 78, 68, 32] : List UInt8).isPrefixOf (endL.drop (n + 1))) = true := by kernel_rfl
        have h2 := List.all_eq_true.1 h1 n (List.mem_range.2 (by omega))
        simpa using h2
  unfold Lib.lastIndex
  rw [if_pos (by simp [hlen]), List.length_append, hlen]
  exact key 57 (Nat.le_refl _)
end Go.Proofs.YtfbpkbochhfnhaaGreatDoor
namespace Go.Proofs.YtfbpkbochhfnhaaGreatDoor
open Go.ChangeShapes Go.WideShapes Go.ChangeAt Go.RowKit Go.Joins
set_option linter.unusedVariables false
set_option maxRecDepth 100000

theorem source_c (l : List Rw) (v : Value) (w : World) (hv : RwA w w.heap.size v l) (hP : Pow w) :
    Calls Tryz.prog 6 #[v] w fun e w' => ∃ s, e = .returned (.string (bs s)) ∧ GSrc s ∧ Below w.heap.size w w' := source_of mkE_two mkS_two l v w hv hP

set_option maxHeartbeats 4000000 in
theorem torn_walk (l : List Rw) (v : Value) (cut : Int) (w : World) (hv : RwA w w.heap.size v l) (hcut : (Lit.int .i64 cut).wf = true) (hT : Tr w) (hP : Pow w) :
    Calls Tryz.prog 3 #[v, .int .i64 cut] w fun e w' => e = .returned (.bool true) ∧ Below w.heap.size w w' := by
  have HC : Hid _ := source_c l v w hv hP
  have HT : Hid (Tr w) := hT
  have HCU : Hid ((Lit.int .i64 cut).wf = true) := hcut
  obtain ⟨a, cap, rfl, -, -, -⟩ := hv
  clear hT hP hcut
  go_enter Tryz.func3, Tryz.ntmps3
  go_wp2_with fail
  refine Calls.mono HC.out ?_
  rintro e w1 ⟨s, rfl, hG, hb1⟩
  obtain ⟨n, t, hn, hR, rfl⟩ := hG
  have HR : Hid (GR n t) := hR
  have HB1 : Hid (Below w.heap.size w w1) := hb1
  obtain ⟨L, hL⟩ : ∃ L : Int, L = (t.length : Int) := ⟨_, rfl⟩
  obtain ⟨S, hS⟩ : ∃ S, S = bs (t ++ endL) := ⟨_, rfl⟩
  rw [← hS]
  have hsz : (S.size : Int) = L + 61 := by
    have h : endL.length = 61 := by decide
    rw [hS, bs_size, List.length_append, h, hL]; simp
  have hle : L ≤ 400000 := by
    have := hR.len
    omega
  have hL0 : (0 : Int) ≤ L := by omega
  obtain ⟨z, hz⟩ : ∃ z : Int, z = (S.size : Int) := ⟨_, rfl⟩
  have HLI : Hid (Calls Tryz.prog 7 #[.string S, .string ⟨#[69, 78, 68, 32]⟩] w1 fun e w' => e = .returned (.int .i64 L) ∧ w' = w1) := by
    have h := Tryz.strings_LastIndex S ⟨#[69, 78, 68, 32]⟩ (by omega) w1
    rw [hS] at h ⊢
    rw [show (bs (t ++ endL)).data.toList = t ++ endL by simp [bs], show ((⟨#[69, 78, 68, 32]⟩ : ByteArray).data.toList) = [69, 78, 68, 32] by rfl, last_end, ← hL] at h
    exact h
  have HS : Hid (S = _ ∧ L = _) := ⟨hS, hL⟩
  have HZ : Hid ((S.size : Int) = L + 61 ∧ L ≤ 400000 ∧ 0 ≤ L) := ⟨hsz, hle, hL0⟩
  clear hb1 hR HC hS hL hz hsz hle hL0
  go_wp2_with fail
  refine Calls.mono HLI.out ?_
  rintro e w2 ⟨rfl, hw2⟩
  rw [hw2]
  clear hw2 w2 HLI
  obtain ⟨h1, h2, h3⟩ := HZ.out
  have i1 : (-9223372036854775808 : Int) ≤ L + 1 := by omega
  have i2 : L + 1 ≤ 9223372036854775807 := by omega
  have i3 : (-9223372036854775808 : Int) ≤ (S.size : Int) - L := by omega
  have i4 : (S.size : Int) - L ≤ 9223372036854775807 := by omega
  have i5 : (-9223372036854775808 : Int) ≤ (S.size : Int) - L - 3 := by omega
  have i6 : (S.size : Int) - L - 3 ≤ 9223372036854775807 := by omega
  have HPK : Hid (∀ W : World, Calls Tryz.prog 8 #[.int .i64 cut, .int .i64 ((S.size : Int) - L - 3)] W fun e w' => ∃ k : Nat, k < 58 ∧ e = .returned (.int .i64 k) ∧ w' = W) := fun W => by
    rw [show (S.size : Int) - L - 3 = ((58 : Nat) : Int) by omega]
    exact picked_c cut 58 W HCU.out (by decide) (by decide)
  clear h1 h2 h3
  go_wp2_with fail
  refine Calls.mono (HPK.out _) ?_
  rintro e w2 ⟨k, hk, rfl, hw2⟩
  rw [hw2]
  clear hw2 w2 HPK i3 i4 i5 i6
  obtain ⟨h1, h2, h3⟩ := HZ.out
  have j1 : (-9223372036854775808 : Int) ≤ L + 1 + (k : Int) := by omega
  have j2 : L + 1 + (k : Int) ≤ 9223372036854775807 := by omega
  have j3 : (0 : Int) ≤ L + 1 + (k : Int) := by omega
  have j4 : L + 1 + (k : Int) ≤ (S.size : Int) := by omega
  have HX : Hid (∀ W : World, Tr W → ∃ er : Int, er ≠ 0 ∧ Calls Tryz.prog 9 #[.string (S.extract 0 (L + 1 + (k : Int)).toNat)] W fun e w' => e = .returned (.tuple #[.agg #[.slice none 0 0], .int .i64 er]) ∧ Below W.heap.size W w') := by
    intro W hT
    obtain ⟨hS, hL⟩ := HS.out
    have hx : (S.extract 0 (L + 1 + (k : Int)).toNat).toList = t ++ endL.take (k + 1) := by
      rw [hS, show (L + 1 + (k : Int)).toNat = t.length + (k + 1) by omega]
      rw [ByteArray.toList_eq]
      simp [bs, List.take_append]
      exact List.take_of_length_le (by omega)
    obtain ⟨er, he, hr⟩ := torn_err HR.out (k + 1) (by omega) (by omega)
    refine ⟨er, he, (read_c _ W ?_ hT).mono fun e w' ho => ?_⟩
    · have h := congrArg List.length hx
      rw [bytes_len] at h
      rw [h, List.length_append]
      have := HR.out.len
      have := List.length_take_le (k + 1) endL
      unfold maxLen
      omega
    · obtain ⟨hb, ho⟩ := ho
      rw [hx, hr] at ho
      exact ⟨ho, hb⟩
  obtain ⟨er, he, HRD⟩ := HX.out w1 (HT.out.stays HB1.out)
  have HRD' : Hid _ := HRD
  have eb : (er != 0) = true := by simpa using he
  clear h1 h2 h3 HX HRD
  go_wp2_with fail
  refine Calls.mono HRD'.out ?_
  rintro e w3 ⟨rfl, hb3⟩
  have HB3 : Hid (Below w.heap.size w w3) := bl_trans HB1.out hb3
  clear hb3 HRD'
  go_wp2_with fail
  go_ret
  exact ⟨rfl, HB3.out.alloc HB3.out.size _⟩
end Go.Proofs.YtfbpkbochhfnhaaGreatDoor
namespace Go.Proofs.YtfbpkbochhfnhaaGreatDoor
open Go.ChangeShapes Go.WideShapes Go.ChangeAt Go.RowKit Go.Joins
set_option linter.unusedVariables false
set_option maxRecDepth 100000

theorem pow_of {W : World} {r : List (String × DataW Unit)} (hL : laidMet Tryz.prog (("internal/strconv.uint64pow10", Rows.laid_internal_strconv_uint64pow10) :: r) W) : Pow W := by
  obtain ⟨g, hg⟩ := gPow
  have ht : (Tryz.prog.globals[g]?).map (·.type) = some 157 := by
    have e : (match Tryz.prog.globalNamed "internal/strconv.uint64pow10" with | some g => (Tryz.prog.globals[g]?).map (·.type) | none => none) = some 157 := by kernel_rfl
    rw [hg] at e; exact e
  exact Lib.tabIs_of_head hg ht Tryz.underlying157 Tryz.underlying96 (by kernel_rfl) (by kernel_rfl) hL

theorem cellsRw : Tryz.prog.cellsOf 44 = 4 := by kernel_rfl
/-- Four numbers that came in, opened. -/
theorem open_raw {H : Type} {enc : TypeId × Value → H} {w : World} {base : Nat} {spare : Nat → Bool} {held : Bool} {fuel : Nat} {cs : List Value} {y : DataW H × List MemPlace} (hl : cs.length = 4)
    (h : DataW.trod enc Tryz.prog w base spare held fuel 44 cs = some y) : ∃ x : Rw, cs = [.int .i64 x.kind, .int .i64 x.a, .int .i64 x.b, .int .i64 x.c] ∧ x.ok := by
  obtain ⟨xs, n, rfl, _, _, hxl, hfd⟩ := DataW.trod_struct Tryz.underlying44 h
  match cs, hl with
  | [v0, v1, v2, v3], _ =>
    match xs, hxl with
    | [y0, y1, y2, y3], _ =>
      obtain ⟨n0, f0, _, w0⟩ := DataW.trod_int Tryz.underlying3 (hfd 0 _ rfl)
      obtain ⟨n1, f1, _, w1⟩ := DataW.trod_int Tryz.underlying3 (hfd 1 _ rfl)
      obtain ⟨n2, f2, _, w2⟩ := DataW.trod_int Tryz.underlying3 (hfd 2 _ rfl)
      obtain ⟨n3, f3, _, w3⟩ := DataW.trod_int Tryz.underlying3 (hfd 3 _ rfl)
      simp [cellsI] at f0 f1 f2 f3
      subst f0 f1 f2 f3
      exact ⟨⟨n0, n1, n2, n3⟩, rfl, w0, w1, w2, w3⟩
theorem open_raws {H : Type} {enc : TypeId × Value → H} {w : World} {base : Nat} {spare : Nat → Bool} {held : Bool} {fuel : Nat} {cs : List Value} {y : DataW H × List MemPlace}
    (h : DataW.trod enc Tryz.prog w base spare held fuel 22 cs = some y) : ∃ (v : Value) (l : List Rw), cs = [v] ∧ RwA w w.heap.size v l := by
  obtain ⟨v, len, e, hs⟩ := open_sl Tryz.underlying22 cellsRw (by omega) h
  have hs' : Sl w w.heap.size 4 v len (fun _ c => ∃ x : Rw, c = [.int .i64 x.kind, .int .i64 x.a, .int .i64 x.b, .int .i64 x.c] ∧ x.ok) := by
    obtain ⟨a, cap, hv, hl, hh⟩ := hs
    exact ⟨a, cap, hv, hl, fun h0 => let ⟨b, off, ha, hb, hi⟩ := hh h0; ⟨b, off, ha, hb, fun i hi' => let ⟨c, h1, h2, n, y, _, h3⟩ := hi i hi'; ⟨c, h1, h2, open_raw h1 h3⟩⟩⟩
  obtain ⟨l, hll, a, cap, hv, hmax, hh⟩ := Sl.list (E := fun c (x : Rw) => c = [.int .i64 x.kind, .int .i64 x.a, .int .i64 x.b, .int .i64 x.c] ∧ x.ok) hs'
  refine ⟨v, l, e, a, cap, hv, hmax, fun x hx => ?_, fun h0 => ?_⟩
  · obtain ⟨i, hi, hxi⟩ := List.mem_iff_getElem.1 hx
    obtain ⟨b, off, _, _, hc⟩ := hh (by omega)
    obtain ⟨c, _, _, x', hx', _, hok⟩ := hc i hi
    rw [List.getElem?_eq_getElem hi, Option.some.injEq] at hx'
    rw [← hxi, hx']
    exact hok
  · obtain ⟨b, off, ha, hb, hc⟩ := hh h0
    refine ⟨b, off, ha, hb, fun i x hx => ?_⟩
    have hi : i < l.length := by
      by_cases h : i < l.length
      · exact h
      · rw [List.getElem?_eq_none (by omega)] at hx; cases hx
    obtain ⟨c, _, hcell, x', hx', rfl, _⟩ := hc i hi
    obtain rfl := Option.some.inj (hx.symm.trans hx')
    exact ⟨hcell 0 (by omega), hcell 1 (by omega), hcell 2 (by omega), hcell 3 (by omega)⟩
theorem cellsLW : Tryz.prog.cellsOf 22 = 1 := by kernel_rfl
end Go.Proofs.YtfbpkbochhfnhaaGreatDoor
namespace Go.Proofs.YtfbpkbochhfnhaaGreatDoor.sourcesTorn
open Go.ChangeShapes Go.WideShapes Go.ChangeAt Go.RowKit Go.Joins
set_option linter.unusedVariables false
set_option maxRecDepth 100000

theorem lifted (os : Os) (started : os.Started) (H : Type) (enc : TypeId × Value → H) :
    ReturnsInHanded {} Tryz.checked os 3 .any (fun w args => (Rows.sourcesTornSpec.pre enc Tryz.prog Tryz.f3 Rows.sourcesTornRow.domain false w args ∧ laidMetH Tryz.prog Rows.sourcesTornRow.laid w) ∧ sizedMet enc Tryz.prog Tryz.f3 (OpenSpec.ofChange Rows.sourcesTornSpec) false w args)
      (Rows.sourcesTornSpec.post enc Tryz.prog Tryz.f3 false true false false) := by
  refine returnsInHanded_of_change_and (C := Tryz.checked) (X := fun w _ => laidMetH Tryz.prog Rows.sourcesTornRow.laid w) (fun _ _ _ hh h => h.of_heap hh) own started (by kernel_rfl) Tryz.func3
    (ChangeSpec.witness_shaped (enc := enc) (C := Tryz.checked) (os := os) (X := fun w _ => laidMetH Tryz.prog Rows.sourcesTornRow.laid w) false (World.laidAll Tryz.prog os Rows.sourcesTornRow.laid) #[.slice none 0 0, .int .i64 0] 8 (World.laidAll_os _ _ _)
      (World.shaped_of_ZipB (by kernel_rfl) (by kernel_rfl)) (by kernel_rfl) (by kernel_rfl) (by kernel_rfl)
      (by rw [MakeChecks.laidMetH_plain _ _ _ (by kernel_rfl)]; exact laidMet_laidAll _ (by kernel_rfl) (by kernel_rfl))) ?_
  intro W base args ds gs before hval0 hW hcnd hsz hL _
  rw [MakeChecks.laidMetH_plain _ _ _ (by kernel_rfl)] at hL
  have hval : ∀ (j : Nat) t v, Tryz.f3.params[j]? = some t → args[j]? = some v → Value.okWide Tryz.prog W .any base t v := hval0
  have hW' := hW
  obtain ⟨p, q, hA0, hV, rfl, hfz, hnd⟩ := hW
  have hA : DataW.TrodAll enc Tryz.prog W 0 (fun _ => true) true Tryz.f3.params.toList args.toList ds p := hA0
  rw [Tryz.params3] at hA hval
  obtain ⟨v0, vs0, d0, ds0, p0, q0, hargs, rfl, rfl, h0, r0⟩ := trodAll_cons hA
  obtain ⟨v1, vs1, d1, ds1, p1, q1, rfl, rfl, rfl, h1, r1⟩ := trodAll_cons r0
  obtain ⟨rfl, rfl, rfl⟩ := trodAll_nil r1
  obtain rfl : args = #[v0, v1] := by cases args; simp_all
  obtain ⟨rfl, rfl⟩ := trodVars_none hV
  have k0 := h0
  have lt0 : ∀ x ∈ p0, x.block < W.heap.size := by obtain ⟨m, hm⟩ := k0; exact DataW.trod_lt m _ _ _ hm
  obtain ⟨a0, len0, cap0, rfl⟩ := okWide_slice Tryz.underlying22 (hval 0 22 v0 rfl rfl)
  obtain ⟨fuel, hf⟩ := h0
  obtain ⟨v, l, hv, hrw⟩ := open_raws hf
  obtain rfl : Value.slice a0 len0 cap0 = v := (List.cons.inj (show [Value.slice a0 len0 cap0] = [v] from hv)).1
  have k1 := h1
  have lt1 : ∀ x ∈ p1, x.block < W.heap.size := by obtain ⟨m, hm⟩ := k1; exact DataW.trod_lt m _ _ _ hm
  obtain ⟨n1, rfl, rfl, rfl, w1⟩ := open_int Tryz.underlying3 (hval 1 3 v1 rfl rfl) h1
  clear hA0 hval0
  refine (torn_walk l _ n1 W hrw w1 (tr_of (show laidMet Tryz.prog ((_, Rows.laid_tillage_syntax_words) :: _) W from (laidMet.tail (laidMet.tail (laidMet.tail (laidMet.tail (laidMet.tail (laidMet.tail (hL)))))))) (show laidMet Tryz.prog ((_, Rows.laid_tillage_syntax_levels) :: _) W from (laidMet.tail (laidMet.tail (laidMet.tail (laidMet.tail (laidMet.tail (laidMet.tail (laidMet.tail (laidMet.tail (hL)))))))))) (show laidMet Tryz.prog ((_, Rows.laid_tillage_syntax_functions) :: _) W from (laidMet.tail (laidMet.tail (laidMet.tail (laidMet.tail (laidMet.tail (laidMet.tail (laidMet.tail (laidMet.tail (laidMet.tail (laidMet.tail (hL)))))))))))) (show laidMet Tryz.prog ((_, Rows.laid_tillage_syntax_argsOfKind) :: _) W from (laidMet.tail (laidMet.tail (laidMet.tail (laidMet.tail (laidMet.tail (laidMet.tail (laidMet.tail (laidMet.tail (laidMet.tail (laidMet.tail (laidMet.tail (hL))))))))))))) (show laidMet Tryz.prog ((_, Rows.laid_tillage_syntax_exprsOfKind) :: _) W from (laidMet.tail (laidMet.tail (laidMet.tail (laidMet.tail (laidMet.tail (laidMet.tail (laidMet.tail (laidMet.tail (laidMet.tail (laidMet.tail (laidMet.tail (laidMet.tail (hL)))))))))))))) (show laidMet Tryz.prog ((_, Rows.laid_tillage_syntax_prefixes) :: _) W from (laidMet.tail (laidMet.tail (laidMet.tail (laidMet.tail (laidMet.tail (laidMet.tail (laidMet.tail (laidMet.tail (laidMet.tail (hL))))))))))) (show laidMet Tryz.prog ((_, Rows.laid_tillage_syntax_signs) :: _) W from (laidMet.tail (laidMet.tail (laidMet.tail (laidMet.tail (laidMet.tail (laidMet.tail (laidMet.tail (hL))))))))) (show laidMet Tryz.prog ((_, Rows.laid_strconv_ErrRange) :: _) W from (laidMet.tail (laidMet.tail (laidMet.tail (laidMet.tail (hL))))))) (pow_of (show laidMet Tryz.prog ((_, Rows.laid_internal_strconv_uint64pow10) :: _) W from (laidMet.tail (laidMet.tail (hL)))))).mono fun e W' ⟨he, bel⟩ => ?_
  subst he
  exact ⟨_, rfl, _, _, _, [], _, [], hW', trodAll_mk1 (shut_bool Tryz.underlying4 _), (trodAll_cons_mk (Below.trod laidOut (by kernel_rfl) (of_decide_eq_true (by kernel_rfl)) k0 bel lt0) (trodAll_cons_mk (Below.trod laidOut (by kernel_rfl) (of_decide_eq_true (by kernel_rfl)) k1 bel lt1) trodAll_mk0)), rfl, bel.frame _, fun h => by cases h⟩

theorem over : Rows.sourcesTornRow.holds Tryz.pinned (OpenSpec.ofChange Rows.sourcesTornSpec) :=
  OpenClaim.holds_of_wide 3 Tryz.f3 rfl rfl rfl rfl rfl rfl rfl ⟨rfl, rfl, rfl, rfl, rfl⟩ rfl rfl rfl rfl rfl (by kernel_rfl) Tryz.func3 (by kernel_rfl)
    (of_decide_eq_true (by kernel_rfl)) (by unfold Func.isWrapper; rw [if_neg (of_decide_eq_false (by kernel_rfl))]; exact ⟨rfl, rfl⟩)
    (fun os started H enc _ => lifted os started H enc)

theorem card : Rows.SourcesTornCardSaid :=
  Claim7.holds_tied_plain_at .later [] [.data, .data, .data, .data, .sentinel, .sentinel, .data, .data, .data, .data, .data, .data, .data, .pinned] true (true, "5f47e39fed11de7b8a812e8ee81e6ec1c972562c3b9e5644b0991903c8b36874") true
    over (fun _ h => by cases h) (by kernel_rfl) (fun _ h => by cases h) sourcesTorn_row_tie rfl ⟨rfl, rfl⟩ (by kernel_rfl) rfl
    (fun f fn hf hfn => by
      obtain rfl : f = 3 := Option.some.inj ((show Tryz.prog.funcNamed Rows.sourcesTornRow.func = some 3 by kernel_rfl).symm.trans hf) |>.symm
      obtain rfl : fn = Tryz.f3 := (Option.some.inj (Tryz.func3.symm.trans hfn)).symm
      exact ⟨by kernel_rfl, fun j t ht => by
        rw [Tryz.params3] at ht
        have hm : t ∈ [22, 3] := by simpa using Array.mem_of_getElem? ht
        have hall : ([22, 3].all fun u => !Tryz.prog.wantsStandIn u) = true := by kernel_rfl
        exact (show Tryz.prog.wantsStandIn t = false by simpa using List.all_eq_true.1 hall t hm)⟩)
    (by kernel_rfl)
end Go.Proofs.YtfbpkbochhfnhaaGreatDoor.sourcesTorn

namespace Go.Proofs.YtfbpkbochhfnhaaGreatDoor
/-- THE STATEMENT. -/
theorem sourcesTorn_card : Rows.SourcesTornCardSaid := sourcesTorn.card
#print axioms sourcesTorn_card
end Go.Proofs.YtfbpkbochhfnhaaGreatDoor
