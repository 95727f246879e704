/-
  A region that draws its order, in a function that catches: where a call within it ends all, what is deferred and two slots are as they were.
-/
import Derived.Test.YtfbpkbochhfnhaaGreatDoorRdE0
namespace Go.Proofs.YtfbpkbochhfnhaaGreatDoor
open Go.ChangeShapes Go.WideShapes Go.ChangeAt Go.RowKit Go.Joins Go.Maps

/-- A panic's end: what is deferred is known, and the slots i and j. -/
def Q2 (D : List Deferred) (i j : Nat) (x y : Value) (Q : Exit → Act → World → Prop) : Exit → Act → World → Prop
  | .panic c, a, w => a.defers = D ∧ ∀ tmps : Array Value, tmps[i]? = some x → tmps[j]? = some y → Q (.panic c) { tmps := tmps, defers := D } w
  | e, a, w => Q e a w

def Two (i j : Nat) (x y : Value) (a : Act) : Prop := a.tmps[i]? = some x ∧ a.tmps[j]? = some y
theorem Two.put {i j : Nat} {x y : Value} {a : Act} (h : Two i j x y a) {d : Option Nat} (h1 : d ≠ some i) (h2 : d ≠ some j) (v : Value) : Two i j x y (a.put d v) := by
  cases d with
  | none => exact h
  | some k =>
    have e1 : k ≠ i := fun e => h1 (by rw [e])
    have e2 : k ≠ j := fun e => h2 (by rw [e])
    exact ⟨by simp only [Act.put]; rw [Array.getElem?_setIfInBounds_ne e1]; exact h.1, by simp only [Act.put]; rw [Array.getElem?_setIfInBounds_ne e2]; exact h.2⟩

theorem wp_two {P : Program} {o : Oper} {a : Act} {w : World} {D : List Deferred} {i j : Nat} {x y : Value} {Q : Exit → Act → World → Prop} {K K' : Act → World → Prop} (ha : Two i j x y a) (h1 : o.dst ≠ some i) (h2 : o.dst ≠ some j) (hK : ∀ a w, Two i j x y a → K a w → K' a w) (h : o.wp P a w K (Q2 D i j x y Q)) : o.wp P a w K' Q := by
  have hp : ∀ c w, Q2 D i j x y Q (.panic c) a w → Q (.panic c) a w := fun c w ⟨e1, e2⟩ => by
    have := e2 a.tmps ha.1 ha.2
    rw [← e1] at this
    exact this
  unfold Oper.wp at *
  generalize (execOp a.eval o).run P w = r at *
  cases r with
  | ok n w' =>
    cases n with
    | value v => exact hK _ _ (ha.put h1 h2 v) h
    | skip => exact hK _ _ (ha.put h1 h2 _) h
    | defer d => exact hK _ _ (Two.put (a := { a with defers := d :: a.defers }) ha h1 h2 _) h
    | enter f args => exact Calls.mono h (fun e w'' he => by
        cases e with
        | returned v => exact hK _ _ (ha.put h1 h2 v) he
        | panicked c => exact hp _ _ he
        | outgrown => exact he)
    | row r args => exact Rows.mono h (fun _ _ he => hK _ _ (ha.put h1 h2 _) he)
    | _ => exact h
  | halt z w' =>
    cases z with
    | panic v => exact hp _ _ h
    | _ => exact h

theorem any_two {P : Program} {md : Region.Mode} {ops : Array Oper} {D : List Deferred} {i j : Nat} {x y : Value} {Q : Exit → Act → World → Prop} (hops : ∀ o ∈ ops.toList, o.dst ≠ some i ∧ o.dst ≠ some j) :
    ∀ (fuel : Nat) (listed : Array Bool) (a : Act) (w : World), Two i j x y a → wpAny P md ops (Q2 D i j x y Q) fuel listed a w → wpAny P md ops Q fuel listed a w
  | 0, _, _, _, _, h => h
  | fuel + 1, listed, a, w, ha, h => by
    refine ⟨h.1, fun k hk => ?_⟩
    have h2 := h.2 k hk
    unfold wpOp at h2 ⊢
    cases ho : ops[k]? with
    | none => simp only [ho] at h2 ⊢; exact any_two hops fuel _ _ _ ha h2
    | some o =>
      have hm : o ∈ ops.toList := by
        have := Array.mem_of_getElem? ho
        simpa using this
      obtain ⟨d1, d2⟩ := hops o hm
      simp only [ho] at h2 ⊢
      split
      · rename_i hw
        rw [if_pos hw] at h2
        rcases h2 with h2 | ⟨h2, h3⟩
        · exact .inl (wp_two ha d1 d2 (fun a w ha => any_two hops fuel _ a w ha) h2)
        · exact .inr ⟨h2, h3⟩
      · rename_i hw
        rw [if_neg hw] at h2
        exact any_two hops fuel _ _ _ (ha.put d1 d2 _) h2
end Go.Proofs.YtfbpkbochhfnhaaGreatDoor
