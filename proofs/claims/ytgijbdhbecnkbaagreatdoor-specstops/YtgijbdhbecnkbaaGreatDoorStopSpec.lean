/-
  Programs whose rule of Begin does not come to its end, whatever the fuel. Of data alone.
-/
import Derived.Test.YtgijbdhbecnkbaaGreatDoorRunSpec
namespace Go.Proofs.YtgijbdhbecnkbaaGreatDoor
open Go.RowKit
set_option linter.unusedVariables false
set_option maxRecDepth 100000
def stopA : List UInt8 := [66, 69, 71, 73, 78, 32, 123, 32]
def stopZ : List UInt8 := [32, 125]
def stopL : List (List UInt8) := [[120, 32, 61, 32, 49, 32, 47, 32, 48, 59], [119, 104, 105, 108, 101, 32, 40, 49, 41, 32, 123, 32, 125], [108, 111, 97, 100, 32, 34, 103, 111, 110, 101, 34, 32, 97, 59], [36, 48, 32, 61, 32, 49, 59]]
def stopS : List Sm := [.mk 1 ⟨#[120]⟩ ⟨#[]⟩ [.mk 6 0 ⟨#[47]⟩ [.mk 1 1 ⟨#[]⟩ [], .mk 1 0 ⟨#[]⟩ []]] [] [], .mk 6 ⟨#[]⟩ ⟨#[]⟩ [.mk 1 1 ⟨#[]⟩ []] [] [], .mk 10 ⟨#[97]⟩ ⟨#[103, 111, 110, 101]⟩ [] [] [], .mk 3 ⟨#[]⟩ ⟨#[]⟩ [.mk 1 0 ⟨#[]⟩ [], .mk 1 1 ⟨#[]⟩ []] [] []]
def stopPr (x : Sm) : List Ru := [⟨0, false, nil0, [x]⟩]
theorem stops_read : stopL.map (fun o => readR (stopA ++ o ++ stopZ)) = stopS.map (fun x => (.ok (stopPr x) : Except Int (List Ru))) := by kernel_rfl
theorem stops_ck : stopS.all (fun x => decide (ckP 6000 (stopPr x) = 0)) = true := by kernel_rfl
theorem ever0 {q : Ms -> Except Int Vl} {b : Ms -> Om} (hq : ∀ s, q s = .ok (vN 1)) (hb : ∀ s, b s = .go s true) : ∀ (n : Nat) (s : Ms), ∃ s', whileM q b n s = .stop s' 1
 | 0, s => ⟨s, rfl⟩
 | n + 1, s => by
  have e : whileM q b (n + 1) s = burnM s fun s1 => (b s1).then (whileM q b n) := by
   unfold whileM
   rw [hq]
   rfl
  rw [e]
  by_cases h0 : s.left = 0
  . exact ⟨s, burn_none h0⟩
  . rw [burn_some h0, hb, rs_go]
    exact ever0 hq hb n _
theorem stop_stmt {x : Sm} (hx : x ∈ stopS) (s : Ms) : ∃ s' e, stmtM [] 6000 s x = .stop s' e /\ e ≠ 0 := by
 have hp : ∀ (k : Int) (a t : ByteArray) (es : List Ex), k = 1 \/ k = 3 \/ k = 10 -> stmtM [] 6000 s (.mk k a t es [] []) = burnM s fun z => plainM [] 5999 z (.mk k a t es [] []) := fun k a t es hk => by
  rcases hk with rfl | rfl | rfl <;> rfl
 have hs : ∀ (y : Sm) (g : Ms -> Om), stmtM [] 6000 s y = burnM s g -> (∀ z, ∃ s' e, g z = .stop s' e /\ e ≠ 0) -> ∃ s' e, stmtM [] 6000 s y = .stop s' e /\ e ≠ 0 := fun y g h1 h2 => by
  rw [h1]
  by_cases h0 : s.left = 0
  . exact ⟨s, 1, burn_none h0, by decide⟩
  . rw [burn_some h0]; exact h2 _
 simp only [stopS, List.mem_cons, List.not_mem_nil, or_false] at hx
 rcases hx with rfl | rfl | rfl | rfl
 . exact hs _ _ (hp _ _ _ _ (by decide)) fun z => ⟨z, 2, by kernel_rfl, by decide⟩
 . refine hs _ (fun z => whileM (fun s => askM s 5999 (.mk 1 1 ⟨#[]⟩ [])) (runM (stmtM [] 5999) []) (z.left + 1) z) rfl fun z => ?_
   obtain ⟨s', h⟩ := ever0 (q := fun s => askM s 5999 (.mk 1 1 ⟨#[]⟩ [])) (b := runM (stmtM [] 5999) []) (fun s => rfl) (fun s => rfl) (z.left + 1) z
   exact ⟨s', 1, h, by decide⟩
 . exact hs _ _ (hp _ _ _ _ (by decide)) fun z => ⟨z, 5, by kernel_rfl, by decide⟩
 . exact hs _ _ (hp _ _ _ _ (by decide)) fun z => ⟨z, 4, by kernel_rfl, by decide⟩
theorem stop_rules {x : Sm} (hx : x ∈ stopS) (s : Ms) : ∃ s' e, rulesM [] 6000 (stopPr x) 0 s = .stop s' e /\ e ≠ 0 := by
 obtain ⟨s', e, h, he⟩ : ∃ s' e, ruleM [] 6000 s ⟨0, false, nil0, [x]⟩ = .stop s' e /\ e ≠ 0 := by
  by_cases h0 : s.left = 0
  . exact ⟨s, 1, burn_none h0, by decide⟩
  . rw [rule_one h0]
    obtain ⟨s', e, h, he⟩ := stop_stmt hx { s with left := s.left - 1 }
    exact ⟨s', e, by rw [h]; rfl, he⟩
 refine ⟨s', e, ?_, he⟩
 show (match (ruleM [] 6000 s ⟨0, false, nil0, [x]⟩).then (runM (ruleM [] 6000) []) with
  | .go s _ => Om.go s true
  | .stop s e => Om.stop s e) = _
 rw [h]
 rfl
theorem stop_nth {i : Nat} (hi : i < 4) : ∃ o x, stopL[i]? = some o /\ x ∈ stopS /\ readR (stopA ++ o ++ stopZ) = .ok (stopPr x) /\ ckP 6000 (stopPr x) = 0 := by
 have h := congrArg (fun l => l[i]?) stops_read
 have ho : ∃ o, stopL[i]? = some o := ⟨stopL[i]'hi, List.getElem?_eq_getElem _⟩
 have hx : ∃ x, stopS[i]? = some x := ⟨stopS[i]'hi, List.getElem?_eq_getElem _⟩
 obtain ⟨o, ho⟩ := ho
 obtain ⟨x, hx⟩ := hx
 simp only [List.getElem?_map, ho, hx, Option.map_some, Option.some.injEq] at h
 have hm := List.mem_of_getElem? hx
 exact ⟨o, x, ho, hm, h, of_decide_eq_true (List.all_eq_true.1 stops_ck x hm)⟩
end Go.Proofs.YtgijbdhbecnkbaaGreatDoor
