/-
  A loop that counts: its source is read, and what its runs do, with enough fuel and with less. Of data alone. / Runs as data: what a statement that prints does, and rules, when fuel lasts.
-/
import Derived.Test.YtffnilcihneniaaGreatDoorMSpec
import Derived.Test.YtffnilcihneniaaGreatDoorGround
namespace Go.Proofs.YtffnilcihneniaaGreatDoor
open Go.RowKit
set_option linter.unusedVariables false
set_option maxRecDepth 100000

def nX : ByteArray := ⟨#[120]⟩
def loopL (k : Nat) : List UInt8 := [66, 69, 71, 73, 78, 32, 123, 32, 119, 104, 105, 108, 101, 32, 40, 120, 32, 60, 32] ++ Lib.itoa (k : Int) ++ [41, 32, 123, 32, 120, 32, 61, 32, 120, 32, 43, 32, 49, 59, 32, 112, 114, 105, 110, 116, 32, 120, 59, 32, 125, 32, 125]
def loopQ (k : Nat) : Ex := .mk 6 0 ⟨#[60]⟩ [.mk 3 0 nX [], .mk 1 (k : Int) ⟨#[]⟩ []]
def loopA : Ex := .mk 6 0 ⟨#[43]⟩ [.mk 3 0 nX [], .mk 1 1 ⟨#[]⟩ []]
def loopB : List Sm := [.mk 1 nX ⟨#[]⟩ [loopA] [] [], .mk 4 ⟨#[]⟩ ⟨#[]⟩ [.mk 3 0 nX []] [] []]
def loopP (k : Nat) : List Ru := [⟨0, false, .mk 0 0 ⟨#[]⟩ [], [.mk 6 ⟨#[]⟩ ⟨#[]⟩ [loopQ k] loopB []]⟩]

theorem loop_reads : (List.range 50).map (fun k => readR (loopL k)) = (List.range 50).map (fun k => (.ok (loopP k) : Except Int (List Ru))) := by kernel_rfl
theorem loop_read (k : Nat) (hk : k < 50) : readR (loopL k) = .ok (loopP k) := by
  have h := congrArg (fun l => l[k]?) loop_reads
  simpa [hk] using h
theorem loop_cks : (List.range 50).all (fun k => decide (ckP 6000 (loopP k) = 0) && decide ((loopL k).length ≤ 100)) = true := by kernel_rfl
theorem loop_ck (k : Nat) (hk : k < 50) : ckP 6000 (loopP k) = 0 ∧ (loopL k).length ≤ 100 := by
  have h := List.all_eq_true.1 loop_cks k (List.mem_range.2 hk)
  simpa using h

/-- What was printed after i rounds. -/
def outsL (i : Nat) : List ByteArray := (List.range i).map fun (j : Nat) => ⟨(Lib.itoa ((j : Int) + 1)).toArray⟩
theorem outsL_len (i : Nat) : (outsL i).length = i := by simp [outsL]
theorem outsL_succ (i : Nat) : outsL (i + 1) = outsL i ++ [⟨(Lib.itoa ((i : Int) + 1)).toArray⟩] := by simp [outsL, List.range_succ]

structure LpI (i : Nat) (s : Ms) : Prop where
  x : s.vars nX = vN (i : Int)
  out : s.out = outsL i

theorem less60 (a b : Int) (s t : ByteArray) : opSpec ⟨#[60]⟩ false a s false b t = rN (b2i (decide (a < b))) := by
  have e : (⟨#[60]⟩ : ByteArray).toList = [60] := by kernel_rfl
  unfold opSpec
  rw [if_pos (Or.inl e), ordV_n]
  have h : (decide (Lib.compareInt a b < 0)) = decide (a < b) := by
    unfold Lib.compareInt
    by_cases h : a < b
    · simp [h]
    · rw [if_neg h]
      split <;> simp [h]
  rw [h]
  rfl
theorem plus43 (a b : Int) (s t : ByteArray) (ha : 0 ≤ a) (ha2 : a ≤ 1000) (hb : 0 ≤ b) (hb2 : b ≤ 1000) : opSpec ⟨#[43]⟩ false a s false b t = rN (a + b) := by
  have e : (⟨#[43]⟩ : ByteArray).toList = [43] := by kernel_rfl
  unfold opSpec
  rw [e, if_neg (by decide), if_neg (by decide)]
  simp only [numOf, Bool.false_eq_true, if_false]
  rw [if_pos (by omega)]
  unfold reck bnd
  rw [if_pos rfl, if_pos (by omega)]

theorem lp_ask {i k m : Nat} {s : Ms} (hx : s.vars nX = vN (i : Int)) : askM s (m + 2) (loopQ k) = .ok (vB (decide ((i : Int) < k))) := by
  show opM ⟨#[60]⟩ (.ok (s.vars nX)) (.ok (vN k)) = _
  rw [hx]
  show sureM (opSpec ⟨#[60]⟩ false (i : Int) ⟨#[]⟩ false (k : Int) ⟨#[]⟩) = _
  rw [less60]
  rfl
theorem lp_add {i m : Nat} {s : Ms} (hx : s.vars nX = vN (i : Int)) (hi : i < 1000) : askM s (m + 2) loopA = .ok (vN ((i : Int) + 1)) := by
  show opM ⟨#[43]⟩ (.ok (s.vars nX)) (.ok (vN 1)) = _
  rw [hx]
  show sureM (opSpec ⟨#[43]⟩ false (i : Int) ⟨#[]⟩ false 1 ⟨#[]⟩) = _
  rw [plus43 _ _ _ _ (by omega) (by omega) (by decide) (by decide)]
  rfl
theorem burn_some {s : Ms} {f : Ms → Om} (h : ¬ s.left = 0) : burnM s f = f { s with left := s.left - 1 } := by unfold burnM; rw [if_neg h]
theorem burn_none {s : Ms} {f : Ms → Om} (h : s.left = 0) : burnM s f = .stop s 1 := by unfold burnM; rw [if_pos h]

theorem lp_set {F : List Fl} {i m : Nat} {s : Ms} (hx : s.vars nX = vN (i : Int)) (hi : i < 1000) (h : ¬ s.left = 0) : stmtM F (m + 3) s (.mk 1 nX ⟨#[]⟩ [loopA] [] []) = .go (setM { s with left := s.left - 1 } nX (vN ((i : Int) + 1))) true := by
  show burnM s _ = _
  rw [burn_some h]
  show orM _ (askM { s with left := s.left - 1 } (m + 2) loopA) _ = _
  rw [lp_add (s := { s with left := s.left - 1 }) hx hi]
  rfl
theorem blanks_one (x : ByteArray) : blanksM [x] = x.data.toList := by
  unfold blanksM
  simp [Lib.join]
theorem lp_print {F : List Fl} {i m : Nat} {s : Ms} (hx : s.vars nX = vN (i : Int)) (h2 : (Lib.itoa (i : Int)).length ≤ 200) (h3 : ¬ s.out.length = 2000) (h : ¬ s.left = 0) : stmtM F (m + 3) s (.mk 4 ⟨#[]⟩ ⟨#[]⟩ [.mk 3 0 nX []] [] []) = .go { s with left := s.left - 1, out := s.out ++ [⟨(Lib.itoa (i : Int)).toArray⟩] } true := by
  show burnM s _ = _
  rw [burn_some h]
  show printM { s with left := s.left - 1 } [(s.vars nX).str] = _
  rw [hx]
  have e : blanksM [(vN (i : Int)).str] = Lib.itoa (i : Int) := blanks_one _
  unfold printM
  rw [e, if_neg (by show ¬ (200 < _ ∨ s.out.length = 2000); omega)]

theorem itoa_short (i : Nat) (h : i < 100) : (Lib.itoa (i : Int)).length ≤ 200 := by
  have h1 : (List.range 100).all (fun k => decide ((Lib.itoa (k : Int)).length ≤ 200)) = true := by kernel_rfl
  simpa using List.all_eq_true.1 h1 i (List.mem_range.2 h)

/-- The body: what is printed stays; with fuel for two it is one round more. -/
theorem lp_body {F : List Fl} {i m : Nat} {s : Ms} (hI : LpI i s) (hi : i < 50) :
    (s.left < 2 → ∃ s', runM (stmtM F (m + 3)) loopB s = .stop s' 1 ∧ s'.left = 0 ∧ s'.out = outsL i) ∧ (2 ≤ s.left → ∃ s', runM (stmtM F (m + 3)) loopB s = .go s' true ∧ LpI (i + 1) s' ∧ s'.left = s.left - 2) := by
  have e0 : runM (stmtM F (m + 3)) loopB s = (stmtM F (m + 3) s (.mk 1 nX ⟨#[]⟩ [loopA] [] [])).then (runM (stmtM F (m + 3)) [.mk 4 ⟨#[]⟩ ⟨#[]⟩ [.mk 3 0 nX []] [] []]) := rfl
  by_cases h0 : s.left = 0
  · refine ⟨fun _ => ⟨s, ?_, h0, hI.out⟩, fun h => by omega⟩
    rw [e0]
    show (burnM s _).then _ = _
    rw [burn_none h0]
    rfl
  rw [e0, lp_set hI.x (by omega) h0]
  obtain ⟨s1, hs1⟩ : ∃ s1, s1 = setM { s with left := s.left - 1 } nX (vN ((i : Int) + 1)) := ⟨_, rfl⟩
  rw [← hs1]
  have hx1 : s1.vars nX = vN ((i + 1 : Nat) : Int) := by rw [hs1]; show (if nX = nX then vN ((i : Int) + 1) else s.vars nX) = _; rw [if_pos rfl]; simp
  have hl1 : s1.left = s.left - 1 := by rw [hs1]; rfl
  have ho1 : s1.out = outsL i := by rw [hs1]; exact hI.out
  show (_ → ∃ s', (stmtM F (m + 3) s1 (.mk 4 ⟨#[]⟩ ⟨#[]⟩ [.mk 3 0 nX []] [] [])).then (runM (stmtM F (m + 3)) []) = _ ∧ _) ∧ (_ → ∃ s', (stmtM F (m + 3) s1 (.mk 4 ⟨#[]⟩ ⟨#[]⟩ [.mk 3 0 nX []] [] [])).then (runM (stmtM F (m + 3)) []) = _ ∧ _)
  by_cases h1 : s1.left = 0
  · refine ⟨fun _ => ⟨s1, ?_, h1, ho1⟩, fun h => by omega⟩
    show (burnM s1 _).then _ = _
    rw [burn_none h1]
    rfl
  rw [lp_print hx1 (itoa_short _ (by omega)) (by rw [ho1, outsL_len]; omega) h1]
  refine ⟨fun h => by omega, fun _ => ⟨_, rfl, ⟨hx1, ?_⟩, ?_⟩⟩
  · show s1.out ++ _ = _
    rw [ho1, outsL_succ]
    simp
  · show s1.left - 1 = _
    omega

/-- All rounds that fuel allows. -/
theorem lp_while {F : List Fl} {k m : Nat} (hk : k ≤ 50) : ∀ (d i n : Nat) (s : Ms), i + d = k → LpI i s → s.left < n →
    (3 * d ≤ s.left → ∃ s', whileM (fun s => askM s (m + 3) (loopQ k)) (runM (stmtM F (m + 3)) loopB) n s = .go s' true ∧ s'.out = outsL k ∧ s'.left = s.left - 3 * d) ∧
    (s.left < 3 * d → ∃ s' j, whileM (fun s => askM s (m + 3) (loopQ k)) (runM (stmtM F (m + 3)) loopB) n s = .stop s' 1 ∧ s'.left = 0 ∧ j ≤ k ∧ s'.out = outsL j)
  | d, i, 0, s, _, _, h => by omega
  | 0, i, n + 1, s, hd, hI, hn => by
    refine ⟨fun _ => ⟨s, ?_, ?_, by omega⟩, fun h => by omega⟩
    · unfold whileM
      rw [lp_ask (m := m + 1) hI.x, decide_eq_false (by omega)]
      rfl
    · rw [hI.out, show i = k by omega]
  | d + 1, i, n + 1, s, hd, hI, hn => by
    have e : whileM (fun s => askM s (m + 3) (loopQ k)) (runM (stmtM F (m + 3)) loopB) (n + 1) s = burnM s fun s1 => (runM (stmtM F (m + 3)) loopB s1).then (whileM (fun s => askM s (m + 3) (loopQ k)) (runM (stmtM F (m + 3)) loopB) n) := by
      rw [whileM, lp_ask (m := m + 1) hI.x, decide_eq_true (show (i : Int) < k by omega)]
      rfl
    rw [e]
    by_cases h0 : s.left = 0
    · refine ⟨fun h => by omega, fun _ => ⟨s, i, burn_none h0, h0, by omega, hI.out⟩⟩
    rw [burn_some h0]
    obtain ⟨b1, b2⟩ := lp_body (F := F) (m := m) (s := { s with left := s.left - 1 }) (i := i) ⟨hI.x, hI.out⟩ (by omega)
    have hl : ({ s with left := s.left - 1 } : Ms).left = s.left - 1 := rfl
    rw [hl] at b1 b2
    by_cases h2 : s.left - 1 < 2
    · obtain ⟨s', c1, c2, c3⟩ := b1 h2
      refine ⟨fun h => by omega, fun _ => ⟨s', i, ?_, c2, by omega, c3⟩⟩
      rw [c1]
      rfl
    · obtain ⟨s', c1, c2, c3⟩ := b2 (by omega)
      rw [c1]
      clear b1 b2
      obtain ⟨d1, d2⟩ := lp_while (F := F) (m := m) hk d (i + 1) n s' (by omega) c2 (by omega)
      refine ⟨fun h => ?_, fun h => ?_⟩
      · clear d2
        have h4 : 3 * d ≤ s'.left := by omega
        obtain ⟨s2, g1, g2, g3⟩ := d1 h4
        clear d1
        exact ⟨s2, g1, g2, by omega⟩
      · clear d1
        have h4 : s'.left < 3 * d := by omega
        exact d2 h4

/-- What a run tells: what was printed, how it ended, what fuel is left. -/
theorem loop_run {F : List Fl} {k m fuel : Nat} (hk : k ≤ 50) :
    (2 + 3 * k ≤ fuel → ∃ s, finishM F (m + 4) (loopP k) [] (startM fuel) = .go s true ∧ s.out = outsL k ∧ s.left = fuel - (2 + 3 * k)) ∧
    (fuel < 2 + 3 * k → ∃ s j, finishM F (m + 4) (loopP k) [] (startM fuel) = .stop s 1 ∧ s.left = 0 ∧ j ≤ k ∧ s.out = outsL j) := by
  have e : ∀ s, finishM F (m + 4) (loopP k) [] s = (rulesM F (m + 4) (loopP k) 0 s).then fun s => .go (takeM s ⟨#[]⟩) true := fun s => rfl
  have e2 : ∀ s, rulesM F (m + 4) (loopP k) 0 s = match (burnM s fun s => (stmtM F (m + 4) s (.mk 6 ⟨#[]⟩ ⟨#[]⟩ [loopQ k] loopB [])).then (runM (stmtM F (m + 4)) [])).then (runM (ruleM F (m + 4)) []) with
    | .go s _ => .go s true
    | .stop s e => .stop s e := fun s => rfl
  have e3 : ∀ s, stmtM F (m + 4) s (.mk 6 ⟨#[]⟩ ⟨#[]⟩ [loopQ k] loopB []) = burnM s fun s => whileM (fun s => askM s (m + 3) (loopQ k)) (runM (stmtM F (m + 3)) loopB) (s.left + 1) s := fun s => rfl
  have bs : ∀ (f : Nat) (g : Ms → Om), ¬ f = 0 → burnM (startM f) g = g (startM (f - 1)) := fun f g h => burn_some h
  rw [e, e2]
  by_cases h0 : fuel = 0
  · refine ⟨fun h => by omega, fun _ => ⟨startM fuel, 0, ?_, h0, by omega, rfl⟩⟩
    rw [burn_none (s := startM fuel) h0]
    rfl
  rw [bs _ _ h0, e3]
  by_cases h1 : fuel - 1 = 0
  · refine ⟨fun h => by omega, fun _ => ⟨startM (fuel - 1), 0, ?_, h1, by omega, rfl⟩⟩
    rw [burn_none (s := startM (fuel - 1)) h1]
    rfl
  rw [bs _ _ h1]
  obtain ⟨g, hg⟩ : ∃ g, g = fuel - 1 - 1 := ⟨_, rfl⟩
  rw [← hg]
  have hl : (startM g).left = g := rfl
  obtain ⟨d1, d2⟩ := lp_while (F := F) (m := m) hk k 0 ((startM g).left + 1) (startM g) (by omega) ⟨rfl, rfl⟩ (by omega)
  rw [hl] at d1 d2
  refine ⟨fun h => ?_, fun h => ?_⟩
  · clear d2
    have h4 : 3 * k ≤ g := by omega
    obtain ⟨s', g1, g2, g3⟩ := d1 h4
    clear d1
    refine ⟨takeM s' ⟨#[]⟩, ?_, g2, ?_⟩
    · skip
      rw [hl, g1]
      rfl
    · show s'.left = _
      omega
  · clear d1
    have h4 : g < 3 * k := by omega
    obtain ⟨s', j, g1, g2, g3, g4⟩ := d2 h4
    clear d2
    refine ⟨s', j, ?_, g2, g3, g4⟩
    rw [hl, g1]
    rfl
end Go.Proofs.YtffnilcihneniaaGreatDoor
namespace Go.Proofs.YtffnilcihneniaaGreatDoor
open Go.RowKit
set_option linter.unusedVariables false
set_option maxRecDepth 100000

def nil0 : Ex := .mk 0 0 ⟨#[]⟩ []
theorem rs_go (s : Ms) (f : Ms → Om) : (Om.go s true).then f = f s := rfl
theorem rs_stop (s : Ms) (e : Int) (f : Ms → Om) : (Om.stop s e).then f = .stop s e := rfl
theorem rs_nil {α : Type} (f : Ms → α → Om) (s : Ms) : runM f [] s = .go s true := rfl
theorem rs_cons {α : Type} (f : Ms → α → Om) (x : α) (l : List α) (s : Ms) : runM f (x :: l) s = (f s x).then (runM f l) := rfl
theorem print_ok {F : List Fl} {m : Nat} {s : Ms} {a t : ByteArray} {es : List Ex} {b e : List Sm} {vs : List Vl} (hl : ¬ s.left = 0) (ha : allM (askM { s with left := s.left - 1 } m) es = .ok vs) (hb : (blanksM (vs.map Vl.str)).length ≤ 200) (ho : s.out.length < 2000) :
    stmtM F (m + 1) s (.mk 4 a t es b e) = .go { s with left := s.left - 1, out := s.out ++ [⟨(blanksM (vs.map Vl.str)).toArray⟩] } true := by
  show burnM s _ = _
  rw [burn_some hl]
  show orM _ (allM (askM { s with left := s.left - 1 } m) es) _ = _
  rw [ha]
  show printM { s with left := s.left - 1 } (vs.map Vl.str) = _
  unfold printM
  rw [if_neg (by show ¬ (200 < _ ∨ s.out.length = 2000); omega)]
theorem blanks_two (x y : ByteArray) : blanksM [x, y] = x.data.toList ++ [32] ++ y.data.toList := by unfold blanksM; simp [Lib.join, List.intercalate]
theorem blanks_three (x y z : ByteArray) : blanksM [x, y, z] = x.data.toList ++ [32] ++ y.data.toList ++ [32] ++ z.data.toList := by unfold blanksM; simp [Lib.join, List.intercalate]
theorem itoa_le (i : Nat) (h : i ≤ 1000000) : (Lib.itoa (i : Int)).length ≤ 21 := Lib.itoa_length_le _ (by omega) (by omega)
theorem vn_str (i : Int) : (vN i).str.data.toList = Lib.itoa i := by unfold Vl.str vN strOf; simp

/-- A rule of this time that always holds, with one statement. -/
theorem rule_one {F : List Fl} {m : Nat} {s : Ms} {when : Int} {p : Ex} {x : Sm} (hl : ¬ s.left = 0) : ruleM F m s ⟨when, false, p, [x]⟩ = (stmtM F m { s with left := s.left - 1 } x).then (fun s => .go s true) := by
  show burnM s _ = _
  rw [burn_some hl]
  rfl
end Go.Proofs.YtffnilcihneniaaGreatDoor
