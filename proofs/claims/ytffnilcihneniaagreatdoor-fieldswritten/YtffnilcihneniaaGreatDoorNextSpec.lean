/-
  A Next: the source is read, and what its runs print. Of data alone.
-/
import Derived.Test.YtffnilcihneniaaGreatDoorRunSpec
namespace Go.Proofs.YtffnilcihneniaaGreatDoor
open Go.RowKit
set_option linter.unusedVariables false
set_option maxRecDepth 100000
def nxtL (k : Nat) : List UInt8 := [78, 82, 32, 61, 61, 32] ++ Lib.itoa ((k + 1 : Nat) : Int) ++ [32, 123, 32, 110, 101, 120, 116, 59, 32, 112, 114, 105, 110, 116, 32, 49, 59, 32, 125, 32, 123, 32, 112, 114, 105, 110, 116, 32, 36, 49, 59, 32, 125]
def nxtQ (k : Nat) : Ex := .mk 6 0 ⟨#[61, 61]⟩ [.mk 12 0 ⟨#[78, 82]⟩ [], .mk 1 ((k + 1 : Nat) : Int) ⟨#[]⟩ []]
def nxtA : List Sm := [.mk 8 ⟨#[]⟩ ⟨#[]⟩ [] [] [], .mk 4 ⟨#[]⟩ ⟨#[]⟩ [.mk 1 1 ⟨#[]⟩ []] [] []]
def nxtE : List Ex := [.mk 4 0 ⟨#[]⟩ [.mk 1 1 ⟨#[]⟩ []]]
def nxtS : Sm := .mk 4 ⟨#[]⟩ ⟨#[]⟩ nxtE [] []
def nxtP (k : Nat) : List Ru := [⟨1, true, nxtQ k, nxtA⟩, ⟨1, false, nil0, [nxtS]⟩]
theorem nxt_reads : (List.range 8).map (fun k => readR (nxtL k)) = (List.range 8).map (fun k => (.ok (nxtP k) : Except Int (List Ru))) := by kernel_rfl
theorem nxt_read (k : Nat) (hk : k < 8) : readR (nxtL k) = .ok (nxtP k) := by
  have h := congrArg (fun l => l[k]?) nxt_reads
  simpa [hk] using h
theorem nxt_cks : (List.range 8).all (fun k => decide (ckP 6000 (nxtP k) = 0) && decide ((nxtL k).length ≤ 100)) = true := by kernel_rfl
theorem nxt_ck (k : Nat) (hk : k < 8) : ckP 6000 (nxtP k) = 0 ∧ (nxtL k).length ≤ 100 := by
  have h := List.all_eq_true.1 nxt_cks k (List.mem_range.2 hk)
  simpa using h
def txN (n : Nat) : ByteArray := ⟨(Lib.itoa (n : Int)).toArray⟩
theorem num_cuts : (List.range 100).map (fun n => Lib.goFieldsP sepB (txN n)) = (List.range 100).map (fun n => [txN n]) := by kernel_rfl
theorem num_cut (n : Nat) (h : n < 100) : Lib.goFieldsP sepB (txN n) = [txN n] := by
  have h1 := congrArg (fun l => l[n]?) num_cuts
  simpa [h] using h1
theorem same61 (a b : Int) (s t : ByteArray) : opSpec ⟨#[61, 61]⟩ false a s false b t = rN (b2i (decide (a = b))) := by
  have e : (⟨#[61, 61]⟩ : ByteArray).toList = [61, 61] := by kernel_rfl
  have e2 : (⟨#[61, 61]⟩ : ByteArray).data.toList = [61, 61] := rfl
  unfold opSpec
  rw [if_pos (Or.inr (Or.inr (Or.inl e))), ordV_n, e2]
  have h : (decide (Lib.compareInt a b = 0)) = decide (a = b) := by
    unfold Lib.compareInt
    by_cases h : a < b
    · rw [if_pos h, decide_eq_false (by decide), decide_eq_false (by omega)]
    · rw [if_neg h]
      by_cases h2 : a = b
      · subst h2; simp
      · rw [decide_eq_false h2]
        split <;> simp <;> omega
  rw [h]
  rfl
theorem nxt_ask {k m : Nat} {s : Ms} : askM s (m + 2) (nxtQ k) = .ok (vB (decide (s.recs = k + 1))) := by
  show opM ⟨#[61, 61]⟩ (.ok (vN s.recs)) (.ok (vN ((k + 1 : Nat) : Int))) = _
  show sureM (opSpec ⟨#[61, 61]⟩ false (s.recs : Int) ⟨#[]⟩ false ((k + 1 : Nat) : Int) ⟨#[]⟩) = _
  rw [same61]
  have e : decide ((s.recs : Int) = ((k + 1 : Nat) : Int)) = decide (s.recs = k + 1) := by
    by_cases h : s.recs = k + 1
    · rw [decide_eq_true h, decide_eq_true (by omega)]
    · rw [decide_eq_false h, decide_eq_false (by omega)]
  rw [e]
  rfl
def nxtW (k : Nat) : Nat → List Nat → List ByteArray
  | _, [] => []
  | i, n :: ns => (if i = k then [] else [txN n]) ++ nxtW k (i + 1) ns
theorem nxtW_snoc (k : Nat) : ∀ (ns : List Nat) (i n : Nat), nxtW k i (ns ++ [n]) = nxtW k i ns ++ (if i + ns.length = k then [] else [txN n])
  | [], i, n => by simp [nxtW]
  | x :: ns, i, n => by
    rw [List.cons_append, nxtW, nxtW, nxtW_snoc k ns (i + 1) n, List.append_assoc, List.length_cons, show i + 1 + ns.length = i + (ns.length + 1) by omega]
theorem nxtW_len (k : Nat) : ∀ (ns : List Nat) (i : Nat), (nxtW k i ns).length ≤ ns.length
  | [], i => Nat.le_refl _
  | x :: ns, i => by
    have := nxtW_len k ns (i + 1)
    rw [nxtW, List.length_append, List.length_cons]
    split <;> simp <;> omega
theorem nxt_line {F : List Fl} {k m n : Nat} {s : Ms} (hl : 3 ≤ s.left) (ho : s.out.length < 2000) (hf : s.flds = [txN n]) (hn : n < 100) :
    ∃ s', rulesM F (m + 3) (nxtP k) 1 s = .go s' true ∧ s'.recs = s.recs ∧ s.left - 3 ≤ s'.left ∧ s'.out = s.out ++ (if s.recs = k + 1 then [] else [txN n]) := by
  have e : rulesM F (m + 3) (nxtP k) 1 s = match (ruleM F (m + 3) s ⟨1, true, nxtQ k, nxtA⟩).then (runM (ruleM F (m + 3)) [⟨1, false, nil0, [nxtS]⟩]) with
    | .go s _ => .go s true
    | .stop s e => .stop s e := rfl
  have e1 : ruleM F (m + 3) s ⟨1, true, nxtQ k, nxtA⟩ = if (vB (decide (s.recs = k + 1))).so then runM (stmtM F (m + 3)) nxtA { s with left := s.left - 1 } else .go { s with left := s.left - 1 } true := by
    show burnM s _ = _
    rw [burn_some (by omega)]
    show orM _ (askM { s with left := s.left - 1 } (m + 3) (nxtQ k)) _ = _
    rw [nxt_ask (m := m + 1) (s := { s with left := s.left - 1 })]
    rfl
  by_cases h : s.recs = k + 1
  · refine ⟨{ s with left := s.left - 1 - 1 }, ?_, rfl, by show _ ≤ s.left - 1 - 1; omega, by rw [if_pos h, List.append_nil]⟩
    rw [e, e1, decide_eq_true h]
    have e2 : runM (stmtM F (m + 3)) nxtA { s with left := s.left - 1 } = .go { s with left := s.left - 1 - 1 } false := by
      show (burnM { s with left := s.left - 1 } _).then _ = _
      rw [burn_some (s := { s with left := s.left - 1 }) (by show ¬ s.left - 1 = 0; omega)]
      rfl
    rw [if_pos (by rfl), e2]
    rfl
  · have b1 : (blanksM ([vS (txN n)].map Vl.str)).length ≤ 200 := by
      have := itoa_le n (by omega)
      simp only [List.map_cons, List.map_nil]
      rw [blanks_one]
      show (txN n).data.toList.length ≤ 200
      unfold txN
      simpa using (by omega : (Lib.itoa (n : Int)).length ≤ 200)
    refine ⟨{ s with left := s.left - 1 - 1 - 1, out := s.out ++ [txN n] }, ?_, rfl, by show _ ≤ s.left - 1 - 1 - 1; omega, by rw [if_neg h]⟩
    rw [e, e1, decide_eq_false h, if_neg (by decide), rs_go, rs_cons, rule_one (s := { s with left := s.left - 1 }) (by show ¬ s.left - 1 = 0; omega)]
    have ha : allM (askM { s with left := s.left - 1 - 1 - 1 } (m + 2)) nxtE = .ok [vS (txN n)] := by
      show (Except.ok [vS (s.flds.getD 0 ⟨#[]⟩)] : Except Int (List Vl)) = _
      rw [hf]
      rfl
    rw [show nxtS = .mk 4 ⟨#[]⟩ ⟨#[]⟩ nxtE [] [] from rfl, print_ok (s := { s with left := s.left - 1 - 1 }) (by show ¬ s.left - 1 - 1 = 0; omega) ha b1 ho]
    have e3 : (⟨(blanksM ([vS (txN n)].map Vl.str)).toArray⟩ : ByteArray) = txN n := by
      simp only [List.map_cons, List.map_nil]
      rw [blanks_one]
      rfl
    rw [e3]
    rfl
theorem nxt_lines {F : List Fl} {k m : Nat} : ∀ (ns : List Nat) (s : Ms) (i : Nat), (∀ n ∈ ns, n < 100) → s.recs = i → 3 * ns.length ≤ s.left → s.out.length + ns.length < 2000 →
    ∃ s', runM (fun s x => rulesM F (m + 3) (nxtP k) 1 (takeM { s with recs := s.recs + 1 } x)) (ns.map txN) s = .go s' true ∧ s'.out = s.out ++ nxtW k i ns
  | [], s, i, _, hr, _, _ => ⟨s, rfl, by simp [nxtW]⟩
  | n :: ns, s, i, hn, hr, hl, ho => by
    simp only [List.length_cons] at hl ho
    obtain ⟨s1, hs1⟩ : ∃ s1 : Ms, s1 = takeM { s with recs := s.recs + 1 } (txN n) := ⟨_, rfl⟩
    have f1 : s1.flds = [txN n] := by rw [hs1]; exact num_cut n (hn n (List.mem_cons_self ..))
    have f2 : s1.recs = i + 1 := by rw [hs1]; show s.recs + 1 = _; omega
    have f3 : s1.left = s.left := by rw [hs1]; rfl
    have f4 : s1.out = s.out := by rw [hs1]; rfl
    obtain ⟨s2, c1, c2, c3, c4⟩ := nxt_line (F := F) (k := k) (m := m) (n := n) (s := s1) (by omega) (by rw [f4]; omega) f1 (hn n (List.mem_cons_self ..))
    have o2 : s2.out.length ≤ s.out.length + 1 := by rw [c4, List.length_append, f4]; split <;> simp
    obtain ⟨s', g1, g2⟩ := nxt_lines (F := F) (k := k) (m := m) ns s2 (i + 1) (fun x hx => hn x (List.mem_cons_of_mem _ hx)) (by omega) (by omega) (by omega)
    refine ⟨s', ?_, ?_⟩
    · rw [List.map_cons, rs_cons, ← hs1, c1, rs_go]
      exact g1
    · rw [g2, c4, f4, f2, nxtW, List.append_assoc]
      congr 2
      by_cases h : i = k
      · rw [if_pos h, if_pos (by omega)]
      · rw [if_neg h, if_neg (by omega)]
theorem nxt_run {F : List Fl} {k m : Nat} (ns : List Nat) (hn : ∀ n ∈ ns, n < 100) (hl : ns.length ≤ 10) :
    ∃ s, finishM F (m + 3) (nxtP k) (ns.map txN) (startM 50000) = .go s true ∧ s.out = nxtW k 0 ns := by
  have l0 : (startM 50000).left = 50000 := rfl
  have o0 : (startM 50000).out = [] := rfl
  obtain ⟨s1, g1, g2⟩ := nxt_lines (F := F) (k := k) (m := m) ns (startM 50000) 0 hn rfl (by omega) (by rw [o0]; simp; omega)
  have e : finishM F (m + 3) (nxtP k) (ns.map txN) (startM 50000) = (runM (fun s x => rulesM F (m + 3) (nxtP k) 1 (takeM { s with recs := s.recs + 1 } x)) (ns.map txN) (startM 50000)).then fun s => .go (takeM s ⟨#[]⟩) true := rfl
  rw [e, g1, rs_go]
  exact ⟨_, rfl, g2⟩
end Go.Proofs.YtffnilcihneniaaGreatDoor
