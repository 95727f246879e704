/-
  Runs that can't go on: their sources are read, and how their runs end. Of data alone.
-/
import Derived.Test.YtffnilcihneniabGreatDoorRunSpec
namespace Go.Proofs.YtffnilcihneniabGreatDoor
open Go.RowKit
set_option linter.unusedVariables false
set_option maxRecDepth 100000
def endA : List UInt8 := [66, 69, 71, 73, 78, 32, 123, 32, 112, 114, 105, 110, 116, 32, 34, 115, 111, 34, 59, 32]
def endZ : List UInt8 := [32, 112, 114, 105, 110, 116, 32, 34, 102, 97, 114, 34, 59, 32, 125, 32, 69, 78, 68, 32, 123, 32, 112, 114, 105, 110, 116, 32, 34, 101, 110, 100, 34, 59, 32, 125]
def endOf0 : Om → Int × List ByteArray
  | .go s _ => (0, s.out)
  | .stop s e => (e, s.out)
def oddL : List (List UInt8) := [[120, 32, 61, 32, 49, 32, 47, 32, 48, 59], [120, 32, 61, 32, 49, 32, 37, 32, 121, 59], [120, 32, 61, 32, 49, 48, 57, 57, 53, 49, 49, 54, 50, 55, 55, 55, 54, 32, 43, 32, 49, 59], [120, 32, 61, 32, 36, 40, 48, 32, 45, 32, 49, 41, 59], [36, 48, 32, 61, 32, 49, 59], [36, 49, 48, 49, 32, 61, 32, 49, 59], [120, 32, 61, 32, 34, 57, 57, 57, 57, 57, 57, 57, 57, 57, 57, 57, 57, 57, 57, 34, 32, 43, 32, 49, 59], [119, 104, 105, 108, 101, 32, 40, 49, 41, 32, 123, 32, 115, 32, 61, 32, 115, 32, 46, 46, 32, 34, 48, 49, 50, 51, 52, 53, 54, 55, 56, 57, 34, 59, 32, 125], [119, 104, 105, 108, 101, 32, 40, 49, 41, 32, 123, 32, 110, 32, 61, 32, 110, 32, 43, 32, 49, 59, 32, 97, 91, 110, 93, 32, 61, 32, 49, 59, 32, 125], [119, 104, 105, 108, 101, 32, 40, 49, 41, 32, 123, 32, 125]]
def oddS : List Sm := [.mk 1 ⟨#[120]⟩ ⟨#[]⟩ [.mk 6 0 ⟨#[47]⟩ [.mk 1 1 ⟨#[]⟩ [], .mk 1 0 ⟨#[]⟩ []]] [] [], .mk 1 ⟨#[120]⟩ ⟨#[]⟩ [.mk 6 0 ⟨#[37]⟩ [.mk 1 1 ⟨#[]⟩ [], .mk 3 0 ⟨#[121]⟩ []]] [] [], .mk 1 ⟨#[120]⟩ ⟨#[]⟩ [.mk 6 0 ⟨#[43]⟩ [.mk 1 1099511627776 ⟨#[]⟩ [], .mk 1 1 ⟨#[]⟩ []]] [] [], .mk 1 ⟨#[120]⟩ ⟨#[]⟩ [.mk 4 0 ⟨#[]⟩ [.mk 6 0 ⟨#[45]⟩ [.mk 1 0 ⟨#[]⟩ [], .mk 1 1 ⟨#[]⟩ []]]] [] [], .mk 3 ⟨#[]⟩ ⟨#[]⟩ [.mk 1 0 ⟨#[]⟩ [], .mk 1 1 ⟨#[]⟩ []] [] [], .mk 3 ⟨#[]⟩ ⟨#[]⟩ [.mk 1 101 ⟨#[]⟩ [], .mk 1 1 ⟨#[]⟩ []] [] [], .mk 1 ⟨#[120]⟩ ⟨#[]⟩ [.mk 6 0 ⟨#[43]⟩ [.mk 2 0 ⟨#[57, 57, 57, 57, 57, 57, 57, 57, 57, 57, 57, 57, 57, 57]⟩ [], .mk 1 1 ⟨#[]⟩ []]] [] [], .mk 6 ⟨#[]⟩ ⟨#[]⟩ [.mk 1 1 ⟨#[]⟩ []] [.mk 1 ⟨#[115]⟩ ⟨#[]⟩ [.mk 6 0 ⟨#[46, 46]⟩ [.mk 3 0 ⟨#[115]⟩ [], .mk 2 0 ⟨#[48, 49, 50, 51, 52, 53, 54, 55, 56, 57]⟩ []]] [] []] [], .mk 6 ⟨#[]⟩ ⟨#[]⟩ [.mk 1 1 ⟨#[]⟩ []] [.mk 1 ⟨#[110]⟩ ⟨#[]⟩ [.mk 6 0 ⟨#[43]⟩ [.mk 3 0 ⟨#[110]⟩ [], .mk 1 1 ⟨#[]⟩ []]] [] [], .mk 2 ⟨#[97]⟩ ⟨#[]⟩ [.mk 3 0 ⟨#[110]⟩ [], .mk 1 1 ⟨#[]⟩ []] [] []] [], .mk 6 ⟨#[]⟩ ⟨#[]⟩ [.mk 1 1 ⟨#[]⟩ []] [] []]
def oddE : List Int := [2, 2, 3, 4, 4, 4, 3, 3, 3, 1]
def prS (s : List UInt8) : Sm := .mk 4 ⟨#[]⟩ ⟨#[]⟩ [.mk 2 0 (bs s) []] [] []
def endPr (x : Sm) : List Ru := [⟨0, false, nil0, [prS [115, 111], x, prS [102, 97, 114]]⟩, ⟨2, false, nil0, [prS [101, 110, 100]]⟩]
theorem ends_read : oddL.map (fun o => readR (endA ++ o ++ endZ)) = oddS.map (fun x => (.ok (endPr x) : Except Int (List Ru))) := by kernel_rfl
theorem ends_ck : oddS.all (fun x => decide (ckP 6000 (endPr x) = 0)) = true := by kernel_rfl
theorem ends_run : (oddS.take 9).map (fun x => let r := endOf0 (finishM [] 6000 (endPr x) [⟨#[108, 105, 110, 101]⟩] (startM 50000)); (r.1, r.2)) = (oddE.take 9).map (fun e => (e, [(⟨#[115, 111]⟩ : ByteArray)])) := by kernel_rfl
theorem ever {q : Ms → Except Int Vl} {b : Ms → Om} (hq : ∀ s, q s = .ok (vN 1)) (hb : ∀ s, b s = .go s true) : ∀ (n : Nat) (s : Ms), s.left < n → ∃ s', whileM q b n s = .stop s' 1 ∧ s'.out = s.out
  | 0, s, h => by omega
  | n + 1, s, h => by
    have e : whileM q b (n + 1) s = burnM s fun s1 => (b s1).then (whileM q b n) := by
      unfold whileM
      rw [hq]
      rfl
    rw [e]
    by_cases h0 : s.left = 0
    · exact ⟨s, burn_none h0, rfl⟩
    · rw [burn_some h0, hb, rs_go]
      obtain ⟨s', h1, h2⟩ := ever hq hb n { s with left := s.left - 1 } (by show s.left - 1 < n; omega)
      exact ⟨s', h1, h2⟩
def whS : Sm := .mk 6 ⟨#[]⟩ ⟨#[]⟩ [.mk 1 1 ⟨#[]⟩ []] [] []
theorem ever_run (m : Nat) (ls : List ByteArray) : ∃ s, finishM [] (m + 3) (endPr whS) ls (startM 50000) = .stop s 1 ∧ s.out = [⟨#[115, 111]⟩] := by
  obtain ⟨s1, hs1⟩ : ∃ s1 : Ms, s1 = { startM 50000 with left := 49999 } := ⟨_, rfl⟩
  have hb : blanksM ([vS (bs [115, 111])].map Vl.str) = [115, 111] := by
    simp only [List.map_cons, List.map_nil]
    rw [blanks_one]
    rfl
  have l1 : s1.left = 49999 := by rw [hs1]
  have o1 : s1.out = [] := by rw [hs1]; rfl
  have p1 : stmtM [] (m + 3) s1 (prS [115, 111]) = _ := print_ok (F := []) (m := m + 2) (s := s1) (vs := [vS (bs [115, 111])]) (by rw [l1]; omega) rfl (by rw [hb]; decide) (by rw [o1]; decide)
  rw [hb] at p1
  obtain ⟨s2, hs2⟩ : ∃ s2 : Ms, s2 = { s1 with left := s1.left - 1, out := s1.out ++ [⟨([115, 111] : List UInt8).toArray⟩] } := ⟨_, rfl⟩
  rw [← hs2] at p1
  have l2 : s2.left = 49998 := by rw [hs2]; show s1.left - 1 = _; omega
  have o2 : s2.out = [⟨#[115, 111]⟩] := by rw [hs2]; show s1.out ++ _ = _; rw [o1]; rfl
  obtain ⟨s', h1, h2⟩ := ever (q := fun s => askM s (m + 2) (.mk 1 1 ⟨#[]⟩ [])) (b := runM (stmtM [] (m + 2)) []) (fun s => rfl) (fun s => rfl) ({ s2 with left := s2.left - 1 }.left + 1) { s2 with left := s2.left - 1 } (by omega)
  have w1 : stmtM [] (m + 3) s2 whS = .stop s' 1 := by
    show (burnM s2 fun s => whileM (fun s => askM s (m + 2) (.mk 1 1 ⟨#[]⟩ [])) (runM (stmtM [] (m + 2)) []) (s.left + 1) s) = _
    rw [burn_some (by omega)]
    exact h1
  have r1 : ruleM [] (m + 3) (startM 50000) ⟨0, false, nil0, [prS [115, 111], whS, prS [102, 97, 114]]⟩ = .stop s' 1 := by
    show burnM (startM 50000) _ = _
    rw [burn_some (show ¬ (50000 : Nat) = 0 by omega)]
    show runM (stmtM [] (m + 3)) [prS [115, 111], whS, prS [102, 97, 114]] { startM 50000 with left := 49999 } = _
    rw [← hs1, rs_cons, p1, rs_go, rs_cons, w1]
    rfl
  refine ⟨s', ?_, h2.trans o2⟩
  have e : ∀ s0, finishM [] (m + 3) (endPr whS) ls s0 = (match (ruleM [] (m + 3) s0 ⟨0, false, nil0, [prS [115, 111], whS, prS [102, 97, 114]]⟩).then (runM (ruleM [] (m + 3)) []) with
    | .go s _ => Om.go s true
    | .stop s e => Om.stop s e).then fun s => (runM (fun s x => rulesM [] (m + 3) (endPr whS) 1 (takeM { s with recs := s.recs + 1 } x)) ls s).then fun s => rulesM [] (m + 3) (endPr whS) 2 (takeM s ⟨#[]⟩) := fun s0 => rfl
  rw [e, r1]
  rfl
theorem end_run {i : Nat} (hi : i < 10) : ∃ x e r, oddS[i]? = some x ∧ oddE[i]? = some e ∧ finishM [] 6000 (endPr x) [⟨#[108, 105, 110, 101]⟩] (startM 50000) = r ∧ endOf0 r = (e, [⟨#[115, 111]⟩]) := by
  by_cases h9 : i < 9
  · have h := congrArg (fun l => l[i]?) ends_run
    have hx : ∃ x, oddS[i]? = some x := ⟨oddS[i]'(by show i < 10; omega), List.getElem?_eq_getElem _⟩
    have he : ∃ e, oddE[i]? = some e := ⟨oddE[i]'(by show i < 10; omega), List.getElem?_eq_getElem _⟩
    obtain ⟨x, hx⟩ := hx
    obtain ⟨e, he⟩ := he
    simp only [List.getElem?_map, List.getElem?_take, if_pos h9, hx, he, Option.map_some, Option.some.injEq] at h
    exact ⟨x, e, _, hx, he, rfl, h⟩
  · obtain rfl : i = 9 := by omega
    obtain ⟨s, h1, h2⟩ := ever_run 5997 [⟨#[108, 105, 110, 101]⟩]
    exact ⟨whS, 1, _, rfl, rfl, h1, by show (1, s.out) = _; rw [h2]⟩
theorem end_read {i : Nat} (hi : i < 10) : ∃ x o, oddS[i]? = some x ∧ oddL[i]? = some o ∧ readR (endA ++ o ++ endZ) = .ok (endPr x) ∧ ckP 6000 (endPr x) = 0 := by
  have hx : oddS[i]? = some (oddS[i]'(by show i < 10; omega)) := List.getElem?_eq_getElem _
  have ho : oddL[i]? = some (oddL[i]'(by show i < 10; omega)) := List.getElem?_eq_getElem _
  have h := congrArg (fun l => l[i]?) ends_read
  simp only [List.getElem?_map, hx, ho, Option.map_some, Option.some.injEq] at h
  exact ⟨_, _, hx, ho, h, by simpa using List.all_eq_true.1 ends_ck _ (List.mem_of_getElem? hx)⟩
def goneL : List UInt8 := [66, 69, 71, 73, 78, 32, 123, 32, 108, 111, 97, 100, 32, 34, 103, 111, 110, 101, 34, 32, 97, 59, 32, 125]
def goneP : List Ru := [⟨0, false, nil0, [.mk 10 ⟨#[97]⟩ ⟨#[103, 111, 110, 101]⟩ [] [] []]⟩]
theorem gone_read : readR goneL = .ok goneP := by kernel_rfl
theorem gone_ck : ckP 6000 goneP = 0 := by kernel_rfl
theorem gone_run : (endOf0 (finishM [] 6000 goneP [] (startM 10))).1 = 5 := by kernel_rfl
end Go.Proofs.YtffnilcihneniabGreatDoor
