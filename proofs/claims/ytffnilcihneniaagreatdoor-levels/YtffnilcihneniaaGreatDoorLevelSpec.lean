/-
  Operators of all levels: two ways to write a program are read as one. Of data alone.
-/
import Derived.Test.YtffnilcihneniaaGreatDoorGround
namespace Go.Proofs.YtffnilcihneniaaGreatDoor
open Go.RowKit
set_option linter.unusedVariables false
set_option maxRecDepth 100000
def levO : List (List UInt8) := [[124, 124], [38, 38], [60], [46, 46], [43], [42]]
def levN (i : Nat) : List UInt8 := levO.getD i []
def levA (i j : Nat) : List UInt8 := [120, 32] ++ levN i ++ [32, 121, 32] ++ levN j ++ [32, 122, 32, 123, 32, 125]
def levB (i j : Nat) : List UInt8 := if j > i then [120, 32] ++ levN i ++ [32, 40, 121, 32] ++ levN j ++ [32, 122, 41, 32, 123, 32, 125] else [40, 120, 32] ++ levN i ++ [32, 121, 41, 32] ++ levN j ++ [32, 122, 32, 123, 32, 125]
def levE (i j : Nat) : Ex := if j > i then .mk 6 0 (bs (levN i)) [.mk 3 0 ⟨#[120]⟩ [], .mk 6 0 (bs (levN j)) [.mk 3 0 ⟨#[121]⟩ [], .mk 3 0 ⟨#[122]⟩ []]] else .mk 6 0 (bs (levN j)) [.mk 6 0 (bs (levN i)) [.mk 3 0 ⟨#[120]⟩ [], .mk 3 0 ⟨#[121]⟩ []], .mk 3 0 ⟨#[122]⟩ []]
def levP (i j : Nat) : List Ru := [⟨1, true, levE i j, []⟩]
theorem lev_readsA : (List.range 36).map (fun c => readR (levA (c / 6) (c % 6))) = (List.range 36).map (fun c => (.ok (levP (c / 6) (c % 6)) : Except Int (List Ru))) := by kernel_rfl
theorem lev_readsB : (List.range 36).map (fun c => readR (levB (c / 6) (c % 6))) = (List.range 36).map (fun c => (.ok (levP (c / 6) (c % 6)) : Except Int (List Ru))) := by kernel_rfl
theorem lev_readA {i j : Nat} (hi : i < 6) (hj : j < 6) : readR (levA i j) = .ok (levP i j) := by
 have h := congrArg (fun l => l[6 * i + j]?) lev_readsA
 have hc : 6 * i + j < 36 := by omega
 simp only [List.getElem?_map, List.getElem?_range hc, Option.map_some, Option.some.injEq, show (6 * i + j) / 6 = i by omega, show (6 * i + j) % 6 = j by omega] at h
 exact h
theorem lev_readB {i j : Nat} (hi : i < 6) (hj : j < 6) : readR (levB i j) = .ok (levP i j) := by
 have h := congrArg (fun l => l[6 * i + j]?) lev_readsB
 have hc : 6 * i + j < 36 := by omega
 simp only [List.getElem?_map, List.getElem?_range hc, Option.map_some, Option.some.injEq, show (6 * i + j) / 6 = i by omega, show (6 * i + j) % 6 = j by omega] at h
 exact h
theorem lev_len {i j : Nat} (hi : i < 6) (hj : j < 6) : (levA i j).length <= 100 /\ (levB i j).length <= 100 := by
 have h : (List.range 36).all (fun c => decide ((levA (c / 6) (c % 6)).length <= 100) && decide ((levB (c / 6) (c % 6)).length <= 100)) = true := by kernel_rfl
 have h1 := List.all_eq_true.1 h (6 * i + j) (List.mem_range.2 (by omega))
 simp only [show (6 * i + j) / 6 = i by omega, show (6 * i + j) % 6 = j by omega] at h1
 simpa using h1
def tellL : List UInt8 := [69, 78, 68, 32, 123, 32, 112, 114, 105, 110, 116, 32, 49, 32, 43, 32, 50, 59, 32, 125]
def tellR : List Ru := [⟨2, false, .mk 0 0 ⟨#[]⟩ [], [.mk 4 ⟨#[]⟩ ⟨#[]⟩ [.mk 6 0 ⟨#[43]⟩ [.mk 1 1 ⟨#[]⟩ [], .mk 1 2 ⟨#[]⟩ []]] [] []]⟩]
theorem tell_read : readR tellL = .ok tellR := by kernel_rfl
theorem tell_ck : ckP 6000 tellR = 0 := by kernel_rfl
end Go.Proofs.YtffnilcihneniaaGreatDoor
