/-
  Contract of eval.Run (P3.2): it answers what the function runR says, in new memory.
-/
import Derived.Test.YtgijbdhbecnkbaaGreatDoorMRules
import Derived.Test.YtgijbdhbecnkbaaGreatDoorMFin
import Derived.Test.YtgijbdhbecnkbaaGreatDoorWdMem
namespace Go.Proofs.YtgijbdhbecnkbaaGreatDoor
open Go.ChangeShapes Go.WideShapes Go.ChangeAt Go.RowKit Go.Joins Go.Maps
set_option maxHeartbeats 4000000
set_option linter.unusedVariables false
set_option maxRecDepth 100000
def runR (m : Nat) (l : List Ru) (F : List Fl) (ls : List ByteArray) (fuel : Int) : Except Int (List ByteArray × Int × Int) :=
 if ckP m l ≠ 0 then .error (ckP m l)
 else if worldR F ls ≠ 0 then .error (worldR F ls)
 else if fuel < 0 \/ 200000 < fuel then .error 2
 else .ok ((endOf (finishM F m l ls (startM fuel.toNat))).2.1, (endOf (finishM F m l ls (startM fuel.toNat))).1, fuel - ((endOf (finishM F m l ls (startM fuel.toNat))).2.2 : Int))
def CapOk (v : Value) : Prop := ∃ a len cap, v = .slice a len cap /\ len <= cap
theorem CapOk.le {a : Option Addr} {len cap : Nat} (h : CapOk (.slice a len cap)) : len <= cap := by
 obtain ⟨_, _, _, e, h⟩ := h
 cases e
 exact h
theorem row_cap {w : World} {b t z n : Nat} {v : Value} {xs : List Value} (h : w.ownsRow b t z v n xs) : CapOk v := by
 rcases h.2 with ⟨rfl, -⟩ | ⟨g, cap, cur, rfl, -, -, hn, -⟩
 . exact ⟨_, _, _, rfl, Nat.zero_le _⟩
 . exact ⟨_, _, _, rfl, hn⟩
def RunOut (w : World) (R : Except Int (List ByteArray × Int × Int)) (e : Ending) (w' : World) : Prop := Below w.heap.size w w' /\ match R with
 | .error er => e = .returned (.tuple #[.agg #[.slice none 0 0, .int .i64 0, .int .i64 0], .int .i64 er])
 | .ok r => ∃ v, e = .returned (.tuple #[.agg #[v, .int .i64 r.2.1, .int .i64 r.2.2], .int .i64 0]) /\ TxL w' w'.heap.size v r.1 /\ r.1.length <= 2000 /\ CapOk v
theorem linesR_fit {l : List ByteArray} (h : linesR l = 0) : ∀ x ∈ l, x.size <= 200 := by
 unfold linesR at h
 split at h
 . rename_i ha
   intro x hx
   have := List.all_eq_true.1 ha x hx
   unfold lineB at this
   simp only [Bool.and_eq_true, decide_eq_true_eq] at this
   exact this.1
 . omega
theorem worldR_fit {fs : List Fl} {ls : List ByteArray} (h : worldR fs ls = 0) : ls.length <= 200 /\ (∀ x ∈ ls, x.size <= 200) /\ ∀ f ∈ fs, f.lines.length <= 100 /\ ∀ l ∈ f.lines, l.size <= 200 := by
 unfold worldR at h
 split at h
 . omega
 . rename_i h8
   cases hf : ((List.range fs.length).map fun i => fileR (fs.getD i default) (fs.take i)).find? (· != 0) with
   | some x =>
    rw [hf] at h
    have := List.find?_some hf
    simp only [Option.getD_some] at h
    rw [h] at this
    cases this
   | none =>
    rw [hf] at h
    refine ⟨by omega, linesR_fit h, fun f hfm => ?_⟩
    obtain ⟨i, hi, rfl⟩ := List.getElem_of_mem hfm
    have h1 := List.find?_eq_none.1 hf (fileR (fs.getD i default) (fs.take i)) (List.mem_map.2 ⟨i, List.mem_range.2 hi, rfl⟩)
    have h2 : fileR (fs.getD i default) (fs.take i) = 0 := by simpa using h1
    rw [List.getD_eq_getElem?_getD, List.getElem?_eq_getElem hi, Option.getD_some] at h2
    unfold fileR at h2
    split at h2
    . omega
    . split at h2
      . omega
      . exact ⟨by omega, linesR_fit h2⟩
theorem RowIs.texts {O : Own} {ro : Ro} {w : World} {v : Value} {l : List ByteArray} (h : RowIs O ro w v l) (hl : ∀ x ∈ l, x.size <= 200) (hn : l.length <= 2000) : TxL w w.heap.size v l := by
 have hr := h.1
 rcases h.1.2 with ⟨rfl, h0⟩ | ⟨g, cap, cur, rfl, -, hg, -⟩
 . have e : l = [] := List.length_eq_zero_iff.1 h0
   subst e
   exact ⟨none, 0, rfl, by unfold maxLen; simp, fun h => absurd h (by simp)⟩
 . refine ⟨some ⟨g, 0, none⟩, cap, rfl, by unfold maxLen; omega, fun _ => ⟨g, 0, rfl, (Array.getElem?_eq_some_iff.1 hg).1, fun i hi => ⟨[.string l[i]], rfl, fun j hj => ?_, l[i], List.getElem?_eq_getElem hi, rfl, ?_⟩⟩⟩
   . have e : j = 0 := by omega
     subst e
     have := hr.cells (g := g) rfl i (.string l[i]) (by simp [hi])
     have e2 : (⟨g, 0, none⟩ : Addr).add i = ⟨g, i, none⟩ := by
      unfold Addr.add
      split
      . rename_i h; subst h; rfl
      . simp
     rw [e2] at this
     simpa using this
   . have := hl _ (List.getElem_mem hi)
     unfold maxLen
     omega
def Ob (g : Nat) (w : World) : Prop := w.heap[g]? = some (.cells #[.slice none 0 0, .int .i64 0, .int .i64 0] 52 (0, 0))
theorem Ob.below {g : Nat} {w w' : World} (h : Ob g w) (hb : Below w.heap.size w w') : Ob g w' := (hb.block g (Array.getElem?_eq_some_iff.1 h).1).trans h
theorem bx3 {g : Nat} {w : World} (h : Ob g w) : w.cell? ⟨g, 0, none⟩ = some (.slice none 0 0) /\ w.cell? ⟨g, 1, none⟩ = some (.int .i64 0) /\ w.cell? ⟨g, 2, none⟩ = some (.int .i64 0) /\ w.frozen? ⟨g, 0, none⟩ = false /\ w.frozen? ⟨g, 1, none⟩ = false /\ w.frozen? ⟨g, 2, none⟩ = false := by
 unfold Ob at h
 have hz : ∀ o, w.frozen? ⟨g, o, none⟩ = false := fun o => Lib.frozen_of_heap h o
 exact ⟨by simp [World.cell?, h], by simp [World.cell?, h], by simp [World.cell?, h], hz 0, hz 1, hz 2⟩
theorem over3 {B b : Nat} {w w' : World} {x y z : Value} (h : Below B w w') (hb : B <= b) : Below B w (((w'.setCell ⟨b, 0, none⟩ x).setCell ⟨b, 1, none⟩ y).setCell ⟨b, 2, none⟩ z) := ((h.setCell (p := ⟨b, 0, none⟩) hb _).setCell (p := ⟨b, 1, none⟩) hb _).setCell (p := ⟨b, 2, none⟩) hb _
end Go.Proofs.YtgijbdhbecnkbaaGreatDoor
