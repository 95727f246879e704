/-
  value.Call and the answer CallOf of the document answer the same, at every name and every list of values that may be (P1.5); a list of values that came in, opened.
-/
import Derived.Test.YtejcmammdmpcoabDoorCallOfSub
import Derived.Test.YtejcmammdmpcoabDoorVf
import Derived.Deep.Slices
import Derived.Deep.Strs
namespace Go.Proofs.YtejcmammdmpcoabDoor
open Go.ChangeShapes Go.WideShapes Go.ChangeAt Go.RowKit Go.Joins
set_option linter.unusedVariables false

theorem vf_may {t : Bool} {n : Int} {s : ByteArray} (h : vf t n s = 0) : s.size ≤ 200 ∧ -1099511627776 ≤ n ∧ n ≤ 1099511627776 := by
  rcases vf_ok h with ⟨_, rfl, h1⟩ | ⟨_, rfl, h1, h2⟩
  · exact ⟨h1, by omega, by omega⟩
  · exact ⟨by decide, h1, h2⟩

/-- Neither of the three calls. -/
def Other (nm : ByteArray) (len : Nat) : Prop :=
  ((nm.toList == [108, 101, 110, 103, 116, 104]) = true ∧ ((len : Int) == 1) = false ∧ (nm.toList == [105, 110, 100, 101, 120]) = false ∧ (nm.toList == [115, 117, 98, 115, 116, 114]) = false) ∨
      ((nm.toList == [108, 101, 110, 103, 116, 104]) = false ∧ (nm.toList == [105, 110, 100, 101, 120]) = true ∧ ((len : Int) == 2) = false ∧ (nm.toList == [115, 117, 98, 115, 116, 114]) = false) ∨
      ((nm.toList == [108, 101, 110, 103, 116, 104]) = false ∧ (nm.toList == [105, 110, 100, 101, 120]) = false ∧ (nm.toList == [115, 117, 98, 115, 116, 114]) = true ∧ ((len : Int) == 3) = false) ∨
      ((nm.toList == [108, 101, 110, 103, 116, 104]) = false ∧ (nm.toList == [105, 110, 100, 101, 120]) = false ∧ (nm.toList == [115, 117, 98, 115, 116, 114]) = false)

theorem bne_l {l m : List UInt8} (h : ¬ l = m) : (l == m) = false := by simp [h]
theorem which (nm : ByteArray) (len : Nat) : (nm = ⟨#[108, 101, 110, 103, 116, 104]⟩ ∧ len = 1) ∨ (nm = ⟨#[105, 110, 100, 101, 120]⟩ ∧ len = 2) ∨ (nm = ⟨#[115, 117, 98, 115, 116, 114]⟩ ∧ len = 3) ∨ Other nm len := by
  by_cases h1 : nm.toList = [108, 101, 110, 103, 116, 104]
  · by_cases k : len = 1
    · exact .inl ⟨op_of h1, k⟩
    · refine .inr (.inr (.inr (.inl ⟨?_, ?_, ?_, ?_⟩)))
      · rw [h1]; rfl
      · simp; omega
      · rw [h1]; rfl
      · rw [h1]; rfl
  · by_cases h2 : nm.toList = [105, 110, 100, 101, 120]
    · by_cases k : len = 2
      · exact .inr (.inl ⟨op_of h2, k⟩)
      · refine .inr (.inr (.inr (.inr (.inl ⟨bne_l h1, ?_, ?_, ?_⟩))))
        · rw [h2]; rfl
        · simp; omega
        · rw [h2]; rfl
    · by_cases h3 : nm.toList = [115, 117, 98, 115, 116, 114]
      · by_cases k : len = 3
        · exact .inr (.inr (.inl ⟨op_of h3, k⟩))
        · refine .inr (.inr (.inr (.inr (.inr (.inl ⟨bne_l h1, bne_l h2, ?_, ?_⟩)))))
          · rw [h3]; rfl
          · simp; omega
      · exact .inr (.inr (.inr (.inr (.inr (.inr ⟨bne_l h1, bne_l h2, bne_l h3⟩)))))

/-- Where the list lies: the elements, from off on, three cells each. -/
def Els (w : World) (b off len : Nat) (t : Nat → Bool) (n : Nat → Int) (s : Nat → ByteArray) : Prop := ∀ i, i < len → LiesAt w b (off + i * 3) (t i) (n i) (s i)
theorem Els.below {w w' : World} {b off len : Nat} {t : Nat → Bool} {n : Nat → Int} {s : Nat → ByteArray} (h : Els w b off len t n s) (hb : Below w.heap.size w w') : Els w' b off len t n s := fun i hi => (h i hi).below hb

theorem both (nm : ByteArray) (b off len cap : Nat) (t : Nat → Bool) (n : Nat → Int) (s : Nat → ByteArray) (hv : ∀ i, i < len → vf (t i) (n i) (s i) = 0) :
    ∃ r : R4, (∀ w, Pow w → Mx w → Els w b off len t n s → Calls Tryd.prog 12 #[.string nm, .slice (some ⟨b, off, none⟩) len cap] w fun e w' => e = .returned (vt r) ∧ Below w.heap.size w w') ∧
      (∀ w, Els w b off len t n s → Calls Tryd.prog 13 #[.string nm, .slice (some ⟨b, off, none⟩) len cap] w fun e w' => e = .returned (vt r) ∧ Below w.heap.size w w') := by
  rcases which nm len with ⟨rfl, rfl⟩ | ⟨rfl, rfl⟩ | ⟨rfl, rfl⟩ | h
  · obtain ⟨z1, a1, a2⟩ := vf_may (hv 0 (by omega))
    have zA := strOf_len (t := t 0) a1 a2 z1
    refine ⟨_, fun w hp hm he => call_length b off cap (t 0) (n 0) (s 0) w z1 a1 a2 hp (by simpa using he 0 (by omega)) _ rfl zA, fun w he => callOf_length b off cap (t 0) (n 0) (s 0) w z1 a1 a2 (by simpa using he 0 (by omega)) _ rfl zA⟩
  · obtain ⟨z1, a1, a2⟩ := vf_may (hv 0 (by omega))
    obtain ⟨z2, b1, b2⟩ := vf_may (hv 1 (by omega))
    have zA := strOf_len (t := t 0) a1 a2 z1
    have zB := strOf_len (t := t 1) b1 b2 z2
    have j1 := Lib.index_ge (strOf (t 0) (n 0) (s 0)).data.toList (strOf (t 1) (n 1) (s 1)).data.toList
    have j2 := Lib.index_le (strOf (t 0) (n 0) (s 0)).data.toList (strOf (t 1) (n 1) (s 1)).data.toList
    have j3 : (strOf (t 0) (n 0) (s 0)).data.toList.length = (strOf (t 0) (n 0) (s 0)).size := by simp
    refine ⟨_, fun w hp hm he => call_index b off cap (t 0) (n 0) (s 0) (t 1) (n 1) (s 1) w z1 a1 a2 z2 b1 b2 hp hm (by simpa using he 0 (by omega)) (by simpa using he 1 (by omega)) _ _ rfl rfl zA zB _ rfl j1 (by omega),
      fun w he => callOf_index b off cap (t 0) (n 0) (s 0) (t 1) (n 1) (s 1) w z1 a1 a2 z2 b1 b2 (by simpa using he 0 (by omega)) (by simpa using he 1 (by omega)) _ _ rfl rfl zA zB _ rfl⟩
  · obtain ⟨z1, a1, a2⟩ := vf_may (hv 0 (by omega))
    obtain ⟨z2, b1, b2⟩ := vf_may (hv 1 (by omega))
    obtain ⟨z3, c1, c2⟩ := vf_may (hv 2 (by omega))
    have zA := strOf_len (t := t 0) a1 a2 z1
    refine ⟨pieceR (strOf (t 0) (n 0) (s 0)) (t 1) (n 1) (s 1) (t 2) (n 2) (s 2), fun w hp hm he => ?_, fun w he => ?_⟩
    · exact call_substr b off cap (t 0) (n 0) (s 0) (t 1) (n 1) (s 1) (t 2) (n 2) (s 2) w z1 a1 a2 z2 b1 b2 z3 c1 c2 hp (by simpa using he 0 (by omega)) (by simpa using he 1 (by omega)) (by simpa using he 2 (by omega)) _ rfl zA _ _ _ _ rfl
    · exact callOf_substr b off cap (t 0) (n 0) (s 0) (t 1) (n 1) (s 1) (t 2) (n 2) (s 2) w z1 a1 a2 z2 b1 b2 z3 c1 c2 (by simpa using he 0 (by omega)) (by simpa using he 1 (by omega)) (by simpa using he 2 (by omega)) _ rfl zA
  · exact ⟨rEnd 3, fun w hp hm he => call_other nm _ len cap w h, fun w he => callOf_other nm _ len cap w h⟩

theorem both_nil (nm : ByteArray) (a : Option Addr) (cap : Nat) :
    (∀ w, Calls Tryd.prog 12 #[.string nm, .slice a 0 cap] w fun e w' => e = .returned (vt (rEnd 3)) ∧ Below w.heap.size w w') ∧
      (∀ w, Calls Tryd.prog 13 #[.string nm, .slice a 0 cap] w fun e w' => e = .returned (vt (rEnd 3)) ∧ Below w.heap.size w w') := by
  rcases which nm 0 with ⟨_, h⟩ | ⟨_, h⟩ | ⟨_, h⟩ | h
  · cases h
  · cases h
  · cases h
  · exact ⟨fun w => call_other nm a 0 cap w h, fun w => callOf_other nm a 0 cap w h⟩

theorem addr_plain (b off j : Nat) : (⟨b, off, none⟩ : Addr).add j = ⟨b, off + j, none⟩ := by unfold Addr.add; split <;> simp_all

/-- A list of values that came in, opened. -/
theorem open_values {H : Type} {enc : TypeId × Value → H} {w : World} {base : Nat} {spare : Nat → Bool} {held : Bool} {fuel : Nat} {cs : List Value} {x : DataW H × List MemPlace}
    (h : DataW.trod enc Tryd.prog w base spare held fuel 29 cs = some x) :
    cs = [.slice none 0 0] ∨ ∃ (b off len cap : Nat) (t : Nat → Bool) (n : Nat → Int) (s : Nat → ByteArray), (cs = [.slice (some ⟨b, off, none⟩) len cap] ∧ 0 < len ∧ len ≤ maxLen ∧ Els w b off len t n s ∧ ∀ i, i < len → (s i).size ≤ maxLen) ∨ ∃ a, cs = [.slice (some a) 0 cap] := by
  rcases Go.Deep.open_slice Tryd.underlying29 h with ⟨h0, _⟩ | ⟨a, len, cap, m, k, D, Pl, rfl, hb, hl, hm, hmm, rfl, hx⟩
  · exact .inl h0
  refine .inr ?_
  by_cases hlen : 0 < len
  · have hlm : len ≤ m := by rw [hmm]; split <;> omega
    have each : ∀ i, i < len → ∃ q : Bool × Int × ByteArray, w.cell? (a.add (i * 3)) = some (.bool q.1) ∧ w.cell? (a.add (i * 3 + 1)) = some (.int .i64 q.2.1) ∧ w.cell? (a.add (i * 3 + 2)) = some (.string q.2.2) ∧ q.2.2.size ≤ maxLen := by
      intro i hi
      obtain ⟨cs', h1, h2⟩ := hx i (by omega)
      rw [cellsV] at h1
      obtain ⟨_, hlen3, hcell⟩ := World.cells?_some h1
      obtain ⟨y0, y1, y2, k2, _, _, g0, g1, g2⟩ := Go.Deep.trod_struct3 Tryd.underlying23 h2
      match cs', hlen3 with
      | [v0, v1, v2], _ =>
        have e0 := hcell 0 (by omega)
        have e1 := hcell 1 (by omega)
        have e2 := hcell 2 (by omega)
        rw [Go.Deep.add_add] at e0 e1 e2
        have o0 : Tryd.prog.cellsOf 4 = 1 := by kernel_rfl
        have o1 : Tryd.prog.cellsOf 3 = 1 := by kernel_rfl
        have o2 : Tryd.prog.cellsOf 9 = 1 := by kernel_rfl
        obtain ⟨tt, f0, _⟩ := DataW.trod_bool Tryd.underlying4 g0
        obtain ⟨nn, f1, _, _⟩ := DataW.trod_int Tryd.underlying3 g1
        obtain ⟨ss, f2, _, hs⟩ := DataW.trod_string Tryd.underlying9 g2
        simp [o0, o1, o2] at f0 f1 f2
        subst f0 f1 f2
        exact ⟨(tt, nn, ss), by simpa using e0, by simpa using e1, by simpa using e2, hs⟩
    obtain ⟨q, hq⟩ := Go.Deep.choose_lt each
    have hspot : a.spot = none := by
      have := World.cell?_spot (hq 0 hlen).1
      simpa [Addr.add] using this
    obtain ⟨b, off, sp⟩ := a
    simp only at hspot
    subst hspot
    refine ⟨b, off, len, cap, fun i => (q i).1, fun i => (q i).2.1, fun i => (q i).2.2, .inl ⟨rfl, hlen, by omega, fun i hi => ?_, fun i hi => (hq i hi).2.2.2⟩⟩
    have c0 : w.cell? ⟨b, off + i * 3, none⟩ = some (.bool (q i).1) := by rw [← addr_plain]; exact (hq i hi).1
    have c1 : w.cell? ⟨b, off + i * 3 + 1, none⟩ = some (.int .i64 (q i).2.1) := by rw [Nat.add_assoc, ← addr_plain]; exact (hq i hi).2.1
    have c2 : w.cell? ⟨b, off + i * 3 + 2, none⟩ = some (.string (q i).2.2) := by rw [Nat.add_assoc, ← addr_plain]; exact (hq i hi).2.2.1
    exact ⟨World.block_lt_of_cell? w ⟨b, off + i * 3, none⟩ c0, c0, c1, c2⟩
  · obtain rfl : len = 0 := by omega
    exact ⟨0, 0, 0, cap, fun _ => false, fun _ => 0, fun _ => ⟨#[]⟩, .inr ⟨a, rfl⟩⟩
end Go.Proofs.YtejcmammdmpcoabDoor
