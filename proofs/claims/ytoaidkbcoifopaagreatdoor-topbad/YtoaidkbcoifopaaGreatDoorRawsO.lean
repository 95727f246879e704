/-
  Raw numbers that came in, opened.
-/
import Derived.Test.YtoaidkbcoifopaaGreatDoorSrcSpec
namespace Go.Proofs.YtoaidkbcoifopaaGreatDoor
open Go.ChangeShapes Go.WideShapes Go.ChangeAt Go.RowKit Go.Joins
set_option linter.unusedVariables false
set_option maxRecDepth 100000
theorem cellsRw : Tryz.prog.cellsOf 91 = 4 := by kernel_rfl
theorem open_raw {H : Type} {enc : TypeId × Value -> H} {w : World} {base : Nat} {spare : Nat -> Bool} {held : Bool} {fuel : Nat} {cs : List Value} {y : DataW H × List MemPlace} (hl : cs.length = 4)
    (h : DataW.trod enc Tryz.prog w base spare held fuel 91 cs = some y) : ∃ x : Rw, cs = [.int .i64 x.kind, .int .i64 x.a, .int .i64 x.b, .int .i64 x.c] /\ x.ok := by
  obtain ⟨xs, n, rfl, _, _, hxl, hfd⟩ := DataW.trod_struct Tryz.underlying91 h
  match cs, hl with
  | [v0, v1, v2, v3], _ =>
    match xs, hxl with
    | [y0, y1, y2, y3], _ =>
      obtain ⟨n0, f0, _, w0⟩ := DataW.trod_int Tryz.underlying3 (hfd 0 _ rfl)
      obtain ⟨n1, f1, _, w1⟩ := DataW.trod_int Tryz.underlying3 (hfd 1 _ rfl)
      obtain ⟨n2, f2, _, w2⟩ := DataW.trod_int Tryz.underlying3 (hfd 2 _ rfl)
      obtain ⟨n3, f3, _, w3⟩ := DataW.trod_int Tryz.underlying3 (hfd 3 _ rfl)
      simp [cellsI] at f0 f1 f2 f3
      subst f0 f1 f2 f3
      exact ⟨⟨n0, n1, n2, n3⟩, rfl, w0, w1, w2, w3⟩
theorem open_raws {H : Type} {enc : TypeId × Value -> H} {w : World} {base : Nat} {spare : Nat -> Bool} {held : Bool} {fuel : Nat} {cs : List Value} {y : DataW H × List MemPlace}
    (h : DataW.trod enc Tryz.prog w base spare held fuel 22 cs = some y) : ∃ (v : Value) (l : List Rw), cs = [v] /\ RwA w w.heap.size v l := by
  obtain ⟨v, len, e, hs⟩ := open_sl Tryz.underlying22 cellsRw (by omega) h
  have hs' : Sl w w.heap.size 4 v len (fun _ c => ∃ x : Rw, c = [.int .i64 x.kind, .int .i64 x.a, .int .i64 x.b, .int .i64 x.c] /\ x.ok) := by
    obtain ⟨a, cap, hv, hl, hh⟩ := hs
    exact ⟨a, cap, hv, hl, fun h0 => let ⟨b, off, ha, hb, hi⟩ := hh h0; ⟨b, off, ha, hb, fun i hi' => let ⟨c, h1, h2, n, y, _, h3⟩ := hi i hi'; ⟨c, h1, h2, open_raw h1 h3⟩⟩⟩
  obtain ⟨l, hll, a, cap, hv, hmax, hh⟩ := Sl.list (E := fun c (x : Rw) => c = [.int .i64 x.kind, .int .i64 x.a, .int .i64 x.b, .int .i64 x.c] /\ x.ok) hs'
  refine ⟨v, l, e, a, cap, hv, hmax, fun x hx => ?_, fun h0 => ?_⟩
  . obtain ⟨i, hi, hxi⟩ := List.mem_iff_getElem.1 hx
    obtain ⟨b, off, _, _, hc⟩ := hh (by omega)
    obtain ⟨c, _, _, x', hx', _, hok⟩ := hc i hi
    rw [List.getElem?_eq_getElem hi, Option.some.injEq] at hx'
    rw [<- hxi, hx']
    exact hok
  . obtain ⟨b, off, ha, hb, hc⟩ := hh h0
    refine ⟨b, off, ha, hb, fun i x hx => ?_⟩
    have hi : i < l.length := by
      by_cases h : i < l.length
      . exact h
      . rw [List.getElem?_eq_none (by omega)] at hx; cases hx
    obtain ⟨c, _, hcell, x', hx', rfl, _⟩ := hc i hi
    obtain rfl := Option.some.inj (hx.symm.trans hx')
    exact ⟨hcell 0 (by omega), hcell 1 (by omega), hcell 2 (by omega), hcell 3 (by omega)⟩
theorem cellsLW : Tryz.prog.cellsOf 22 = 1 := by kernel_rfl
end Go.Proofs.YtoaidkbcoifopaaGreatDoor
