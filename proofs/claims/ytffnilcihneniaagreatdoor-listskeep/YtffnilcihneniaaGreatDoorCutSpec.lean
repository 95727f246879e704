/-
  A source cut piece by piece: what stands ahead is cut alone, where a blank stands between. Of data alone.
-/
import Derived.Test.YtffnilcihneniaaGreatDoorRunSpec
namespace Go.Proofs.YtffnilcihneniaaGreatDoor
open Go.RowKit
set_option linter.unusedVariables false
set_option maxRecDepth 100000
def glue1 (p : Pc) : Except Int (List Pc) -> Except Int (List Pc)
 | .error e => .error e
 | .ok qs => .ok (p :: qs)
def glueL (ps : List Pc) : Except Int (List Pc) -> Except Int (List Pc)
 | .error e => .error e
 | .ok qs => .ok (ps ++ qs)
def glueN (ps : List Pc) (x : Except Int (List Pc)) : Except Int (List Pc) := ps.foldr glue1 x
theorem glueN_L (ps : List Pc) (x : Except Int (List Pc)) : glueN ps x = glueL ps x := by
 induction ps with
 | nil => cases x <;> rfl
 | cons p ps ih =>
  show glue1 p (glueN ps x) = _
  rw [ih]
  cases x <;> rfl
theorem glueL_L (ps qs : List Pc) (x : Except Int (List Pc)) : glueL ps (glueL qs x) = glueL (ps ++ qs) x := by
 cases x with
 | error e => rfl
 | ok l => simp [glueL]
def CutsTo (s : List UInt8) (ps : List Pc) : Prop := ∀ (m : Nat) (r : List UInt8), cutR (m + ps.length + 1) (s ++ r) = glueL ps (cutR (m + 1) r)
theorem CutsTo.app {s t : List UInt8} {ps qs : List Pc} (h : CutsTo s ps) (k : CutsTo t qs) : CutsTo (s ++ t) (ps ++ qs) := by
 intro m r
 have e : m + (ps ++ qs).length + 1 = m + qs.length + ps.length + 1 := by rw [List.length_append]; omega
 rw [e, List.append_assoc, h, k, glueL_L]
theorem CutsTo.nil : CutsTo [] [] := fun m r => by
 show cutR (m + 1) r = glueL [] (cutR (m + 1) r)
 cases cutR (m + 1) r <;> rfl
theorem CutsTo.all {s : List UInt8} {ps : List Pc} (h : CutsTo s ps) (hl : ps.length <= s.length) : cutR (s.length + 1) s = .ok ps := by
 have h1 := h (s.length - ps.length) []
 rw [show s.length - ps.length + ps.length + 1 = s.length + 1 by omega, List.append_nil] at h1
 rw [h1]
 show glueL ps (.ok []) = _
 simp [glueL]
theorem CutsTo.range {n : Nat} {s : Nat -> List UInt8} {ps : Nat -> List Pc} (h : (List.range n).map (fun (v : Nat) => fun (m : Nat) (r : List UInt8) => cutR (m + (ps v).length + 1) (s v ++ r)) = (List.range n).map (fun (v : Nat) => fun (m : Nat) (r : List UInt8) => glueN (ps v) (cutR (m + 1) r))) {v : Nat} (hv : v < n) : CutsTo (s v) (ps v) := by
 have h1 := congrArg (fun l => l[v]?) h
 simp only [List.getElem?_map, List.getElem?_range hv, Option.map_some, Option.some.injEq] at h1
 intro m r
 rw [<- glueN_L]
 exact congrFun (congrFun h1 m) r
theorem read_of {s : List UInt8} {ps : List Pc} {l : List Ru} (hs : s.length <= 6000) (hc : cutR (s.length + 1) s = .ok ps) (hr : rulesR (20 * ps.length + 40) (ps.length + 1) [] ps = .ok l) (hk : ckP (20 * ps.length + 40) l = 0) : readR s = .ok l := by
 unfold readR
 rw [if_neg (by omega), hc]
 simp only
 rw [hr]
 simp only
 rw [if_pos hk]
end Go.Proofs.YtffnilcihneniaaGreatDoor
