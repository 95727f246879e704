/-
  Runs as data: what a statement that prints does, and rules, when fuel lasts.
-/
import Derived.Test.YtgijbdhbecnkbaaGreatDoorMSpec
import Derived.Test.YtgijbdhbecnkbaaGreatDoorGround
namespace Go.Proofs.YtgijbdhbecnkbaaGreatDoor
open Go.RowKit
set_option linter.unusedVariables false
set_option maxRecDepth 100000
theorem burn_some {s : Ms} {f : Ms -> Om} (h : ¬ s.left = 0) : burnM s f = f { s with left := s.left - 1 } := by unfold burnM; rw [if_neg h]
theorem burn_none {s : Ms} {f : Ms -> Om} (h : s.left = 0) : burnM s f = .stop s 1 := by unfold burnM; rw [if_pos h]
theorem blanks_one (x : ByteArray) : blanksM [x] = x.data.toList := by
 unfold blanksM
 simp [Lib.join]
def nil0 : Ex := .mk 0 0 ⟨#[]⟩ []
theorem rs_go (s : Ms) (f : Ms -> Om) : (Om.go s true).then f = f s := rfl
theorem rs_stop (s : Ms) (e : Int) (f : Ms -> Om) : (Om.stop s e).then f = .stop s e := rfl
theorem rs_nil {α : Type} (f : Ms -> α -> Om) (s : Ms) : runM f [] s = .go s true := rfl
theorem rs_cons {α : Type} (f : Ms -> α -> Om) (x : α) (l : List α) (s : Ms) : runM f (x :: l) s = (f s x).then (runM f l) := rfl
theorem print_ok {F : List Fl} {m : Nat} {s : Ms} {a t : ByteArray} {es : List Ex} {b e : List Sm} {vs : List Vl} (hl : ¬ s.left = 0) (ha : allM (askM { s with left := s.left - 1 } m) es = .ok vs) (hb : (blanksM (vs.map Vl.str)).length <= 200) (ho : s.out.length < 2000) :
 stmtM F (m + 1) s (.mk 4 a t es b e) = .go { s with left := s.left - 1, out := s.out ++ [⟨(blanksM (vs.map Vl.str)).toArray⟩] } true := by
 show burnM s _ = _
 rw [burn_some hl]
 show orM _ (allM (askM { s with left := s.left - 1 } m) es) _ = _
 rw [ha]
 show printM { s with left := s.left - 1 } (vs.map Vl.str) = _
 unfold printM
 rw [if_neg (by show ¬ (200 < _ \/ s.out.length = 2000); omega)]
theorem blanks_two (x y : ByteArray) : blanksM [x, y] = x.data.toList ++ [32] ++ y.data.toList := by unfold blanksM; simp [Lib.join, List.intercalate]
theorem blanks_three (x y z : ByteArray) : blanksM [x, y, z] = x.data.toList ++ [32] ++ y.data.toList ++ [32] ++ z.data.toList := by unfold blanksM; simp [Lib.join, List.intercalate]
theorem itoa_le (i : Nat) (h : i <= 1000000) : (Lib.itoa (i : Int)).length <= 21 := Lib.itoa_length_le _ (by omega) (by omega)
theorem vn_str (i : Int) : (vN i).str.data.toList = Lib.itoa i := by unfold Vl.str vN strOf; simp
theorem rule_one {F : List Fl} {m : Nat} {s : Ms} {when : Int} {p : Ex} {x : Sm} (hl : ¬ s.left = 0) : ruleM F m s ⟨when, false, p, [x]⟩ = (stmtM F m { s with left := s.left - 1 } x).then (fun s => .go s true) := by
 show burnM s _ = _
 rw [burn_some hl]
 rfl
end Go.Proofs.YtgijbdhbecnkbaaGreatDoor
