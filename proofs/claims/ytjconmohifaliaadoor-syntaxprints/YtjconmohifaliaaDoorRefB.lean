/-
  Contracts of the document's isIn, variable, list, asks, levelOf and argsOf.
-/
import Derived.Test.YtjconmohifaliaaDoorRefA
namespace Go.Proofs.YtjconmohifaliaaDoor
open Go.ChangeShapes Go.WideShapes Go.ChangeAt Go.RowKit Go.Joins
set_option linter.unusedVariables false

theorem bytes_ext {a b : ByteArray} (h : a.toList = b.toList) : a = b := by
  rw [ByteArray.toList_eq, ByteArray.toList_eq] at h
  have : a.data = b.data := Array.ext' h
  cases a; cases b; simp_all

def memB (xs : List ByteArray) (s : ByteArray) : Bool := xs.any fun x => x.toList == s.toList
theorem memB_iff {xs : List ByteArray} {s : ByteArray} : memB xs s = true ↔ s ∈ xs := by
  unfold memB
  rw [List.any_eq_true]
  constructor
  · rintro ⟨x, hx, he⟩
    have e : x = s := bytes_ext (by simpa using he)
    rw [← e]; exact hx
  · intro h
    exact ⟨s, h, by simp⟩
theorem memB_f {xs : List ByteArray} {s : ByteArray} (h : ¬ s ∈ xs) : memB xs s = false := by
  cases hm : memB xs s with
  | false => rfl
  | true => exact absurd (memB_iff.1 hm) h

set_option maxHeartbeats 2000000 in
theorem isIn_c (base : Nat) (xs : List ByteArray) (v : Value) (s : ByteArray) (w : World) (h : w.ownsRow base 9 1 v xs.length (strs xs)) :
    Calls Tryd.prog 53 #[v, .string s] w fun e w' => e = .returned (.bool (memB xs s)) ∧ w' = w := by
  rcases h.2 with ⟨rfl, h0⟩ | ⟨g, cap, cur, rfl, hg, hh, hcap, hcm, hcs, htake⟩
  · have hx : xs = [] := List.eq_nil_of_length_eq_zero h0
    subst hx
    clear h h0
    go_enter Tryd.func53, Tryd.ntmps53
    go_wp2_with fail
    go_loop [5] (fun v => v = .int .i64 0) (fun _ => 0)
    case atStart => rfl
    case round =>
      subst hrel
      go_wp2_with fail
      go_ret
      exact ⟨rfl, rfl⟩
  · have hcell : ∀ i (hi : i < xs.length), w.cell? ⟨g, i, none⟩ = some (.string xs[i]) := fun i hi => by
      have := h.cells (g := g) rfl i (.string xs[i]) (by simp [strs, hi])
      rwa [Addr.add_mid, Nat.zero_add] at this
    have HC : Hid (∀ i (hi : i < xs.length), w.cell? ⟨g, i, none⟩ = some (.string xs[i])) := hcell
    unfold maxLen at hcm
    clear hcell h hh hcs htake hg
    go_enter Tryd.func53, Tryd.ntmps53
    go_wp2_with fail
    go_loop [5] (fun v => ∃ k : Nat, k ≤ xs.length ∧ v = .int .i64 k ∧ Hid (∀ q (hq : q < xs.length), q < k → ¬ xs[q] = s)) (fun v => xs.length - (intOf v).toNat)
    case atStart => exact ⟨0, by omega, rfl, fun q _ hq => absurd hq (Nat.not_lt_zero _)⟩
    case round =>
      obtain ⟨k, hk, rfl, HQ⟩ := hrel
      by_cases hk2 : k < xs.length
      · have i1 : (k : Int) < (xs.length : Int) := by omega
        have i2 : (0 : Int) ≤ (k : Int) := by omega
        have hc := HC.out k hk2
        obtain ⟨x, hx⟩ : ∃ x, x = xs[k] := ⟨_, rfl⟩
        rw [← hx] at hc
        have HX : Hid (x = xs[k]) := hx
        clear hx
        by_cases he : x.toList = s.toList
        · have hb : (x.toList == s.toList) = true := by simp [he]
          have HE : Hid (memB xs s = true) := by
            have e : x = s := bytes_ext he
            exact memB_iff.2 (by rw [← e, HX.out]; exact List.getElem_mem hk2)
          clear he
          go_wp2
          go_ret
          exact ⟨ret_bool HE.out.symm, rfl⟩
        · have hb : (x.toList == s.toList) = false := by simp [he]
          have HE : Hid (¬ xs[k] = s) := fun h => he (by rw [HX.out, h])
          clear he
          go_wp2
          go_round
          case rel => exact ⟨k + 1, by omega, by go_num, fun q h hq => by
            by_cases e : q = k
            · subst e; exact HE.out
            · exact HQ.out q h (by omega)⟩
          case measure => simp [intOf]; omega
      · have i1 : ¬ (k : Int) < (xs.length : Int) := by omega
        have HE : Hid (memB xs s = false) := memB_f fun hm => by
          obtain ⟨q, hq, e⟩ := List.getElem_of_mem hm
          exact HQ.out q hq (by omega) e
        go_wp2
        go_ret
        exact ⟨ret_bool HE.out.symm, rfl⟩

def bindR (R : Res) (f : St → Res) : Res := match R with
  | .ok st => f st
  | .error x => .error x

/-- One name more. -/
theorem Cn.appV {cb : Nat} {w w4 : World} {c : Value × Value} {xs ys : List ByteArray} {nodes when e : Int} {s : ByteArray} {v' : Value} {o : Obj} (h : Cn cb w c xs ys nodes when e)
    (hown : w4.ownsRow (cb + 1) 9 1 v' (xs.length + 1) (strs xs ++ [.string s])) (hg : (w.alloc o).grownBy w4 c.1.ownBlock) (hloc : v'.ownBlock = c.1.ownBlock ∨ v'.ownBlock = some (w.alloc o).heap.size) :
    Cn cb (w4.setCell ⟨cb, 0, none⟩ v') (v', c.2) (xs ++ [s]) ys nodes when e ∧ Fr cb w c (w4.setCell ⟨cb, 0, none⟩ v') (v', c.2) := by
  have hsz : (w.alloc o).heap.size = w.heap.size + 1 := by simp
  have hcb : c.1.ownBlock ≠ some cb := fun h1 => by have := (h.rv.lt cb h1).1; omega
  have hcell : ∀ i v, w.cell? ⟨cb, i, none⟩ = some v → w4.cell? ⟨cb, i, none⟩ = some v := fun i v hv =>
    hg.cell ((((Below.refl _ _).alloc (Nat.le_refl _) o).cell (p := ⟨cb, i, none⟩) h.lt).trans hv) (fun h1 => hcb h1.symm)
  have hblk : ∀ k, k < w.heap.size → c.1.ownBlock ≠ some k → w4.heap[k]? = w.heap[k]? := fun k hk h1 =>
    (hg.block k (by omega) (fun h2 => h1 h2.symm)).trans (Below.heap_alloc _ _ _ hk)
  have hset : ∀ k, k ≠ cb → (w4.setCell ⟨cb, 0, none⟩ v').heap[k]? = w4.heap[k]? := fun k hk => Below.heap_setCell _ _ _ _ (by simpa using hk)
  have hvb : ∀ k, v'.ownBlock = some k → k ≠ cb := fun k hk => by have := (hown.lt k hk).1; omega
  have hno : c.2.ownBlock = none ∨ c.2.ownBlock ≠ c.1.ownBlock := by
    rcases h.ne with h1 | h1
    · cases h2 : c.2.ownBlock with
      | none => exact .inl rfl
      | some k => exact .inr (by rw [h1]; simp)
    · exact .inr h1.symm
  have hro : (w4.setCell ⟨cb, 0, none⟩ v').ownsRow (cb + 1) 9 1 c.2 ys.length (strs ys) := ownsRow_block h.rl fun k hk => by
    have h1 := h.rl.lt k hk
    refine (hset k (by omega)).trans (hblk k h1.2 ?_)
    intro h2
    rcases hno with h3 | h3
    · rw [h3] at hk; cases hk
    · exact h3 (hk.trans h2.symm)
  have hmine : (w4.setCell ⟨cb, 0, none⟩ v').ownsRow (cb + 1) 9 1 v' (xs ++ [s]).length (strs (xs ++ [s])) := by
    have h1 := ownsRow_block hown (fun k hk => hset k (hvb k hk))
    simpa [strs] using h1
  have hfz : ∀ o', (w4.setCell ⟨cb, 0, none⟩ v').frozen? ⟨cb, o', none⟩ = false := fun o' => by
    rw [World.frozen?_setCell, World.frozen?_of_block (a := ⟨cb, o', none⟩) (hblk cb h.lt hcb)]
    exact h.fz o'
  have hne2 : v'.ownBlock = none ∨ v'.ownBlock ≠ c.2.ownBlock := by
    rcases hloc with h1 | h1
    · rw [h1]
      exact h.ne
    · refine .inr fun h2 => ?_
      rw [h1] at h2
      have := (h.rl.lt _ h2.symm).2
      omega
  refine ⟨⟨(World.cell?_setCell_same _ _ _ (hcell 0 _ h.c0)), ((World.cell?_setCell_other _ _ _ _ (by simp)).trans (hcell 1 _ h.c1)), (World.cell?_setCell_other _ _ _ _ (by simp)).trans (hcell 2 _ h.c2), (World.cell?_setCell_other _ _ _ _ (by simp)).trans (hcell 3 _ h.c3), (World.cell?_setCell_other _ _ _ _ (by simp)).trans (hcell 4 _ h.c4), hfz, hmine, hro, hne2⟩,
    ⟨hg.os, hg.tape, hg.output, by have := hg.size; simp [World.setCell] at this ⊢; omega, fun k hk h1 h2 => (hset k h1).trans (hblk k hk h2.1), fun k hk h2 => ?_⟩⟩
  · refine ⟨?_, h2.2⟩
    show v'.ownBlock ≠ some k
    rcases hloc with h3 | h3
    · rw [h3]; exact h2.1
    · rw [h3]
      intro h4
      simp at h4
      omega

/-- One name more. -/
theorem Cn.appL {cb : Nat} {w w4 : World} {c : Value × Value} {xs ys : List ByteArray} {nodes when e : Int} {s : ByteArray} {v' : Value} {o : Obj} (h : Cn cb w c xs ys nodes when e)
    (hown : w4.ownsRow (cb + 1) 9 1 v' (ys.length + 1) (strs ys ++ [.string s])) (hg : (w.alloc o).grownBy w4 c.2.ownBlock) (hloc : v'.ownBlock = c.2.ownBlock ∨ v'.ownBlock = some (w.alloc o).heap.size) :
    Cn cb (w4.setCell ⟨cb, 1, none⟩ v') (c.1, v') xs (ys ++ [s]) nodes when e ∧ Fr cb w c (w4.setCell ⟨cb, 1, none⟩ v') (c.1, v') := by
  have hsz : (w.alloc o).heap.size = w.heap.size + 1 := by simp
  have hcb : c.2.ownBlock ≠ some cb := fun h1 => by have := (h.rl.lt cb h1).1; omega
  have hcell : ∀ i v, w.cell? ⟨cb, i, none⟩ = some v → w4.cell? ⟨cb, i, none⟩ = some v := fun i v hv =>
    hg.cell ((((Below.refl _ _).alloc (Nat.le_refl _) o).cell (p := ⟨cb, i, none⟩) h.lt).trans hv) (fun h1 => hcb h1.symm)
  have hblk : ∀ k, k < w.heap.size → c.2.ownBlock ≠ some k → w4.heap[k]? = w.heap[k]? := fun k hk h1 =>
    (hg.block k (by omega) (fun h2 => h1 h2.symm)).trans (Below.heap_alloc _ _ _ hk)
  have hset : ∀ k, k ≠ cb → (w4.setCell ⟨cb, 1, none⟩ v').heap[k]? = w4.heap[k]? := fun k hk => Below.heap_setCell _ _ _ _ (by simpa using hk)
  have hvb : ∀ k, v'.ownBlock = some k → k ≠ cb := fun k hk => by have := (hown.lt k hk).1; omega
  have hno : c.1.ownBlock = none ∨ c.1.ownBlock ≠ c.2.ownBlock := by
    rcases h.ne with h1 | h1
    · exact .inl h1
    · exact .inr h1
  have hro : (w4.setCell ⟨cb, 1, none⟩ v').ownsRow (cb + 1) 9 1 c.1 xs.length (strs xs) := ownsRow_block h.rv fun k hk => by
    have h1 := h.rv.lt k hk
    refine (hset k (by omega)).trans (hblk k h1.2 ?_)
    intro h2
    rcases hno with h3 | h3
    · rw [h3] at hk; cases hk
    · exact h3 (hk.trans h2.symm)
  have hmine : (w4.setCell ⟨cb, 1, none⟩ v').ownsRow (cb + 1) 9 1 v' (ys ++ [s]).length (strs (ys ++ [s])) := by
    have h1 := ownsRow_block hown (fun k hk => hset k (hvb k hk))
    simpa [strs] using h1
  have hfz : ∀ o', (w4.setCell ⟨cb, 1, none⟩ v').frozen? ⟨cb, o', none⟩ = false := fun o' => by
    rw [World.frozen?_setCell, World.frozen?_of_block (a := ⟨cb, o', none⟩) (hblk cb h.lt hcb)]
    exact h.fz o'
  have hne2 : v'.ownBlock = none ∨ v'.ownBlock ≠ c.1.ownBlock := by
    rcases hloc with h1 | h1
    · rw [h1]
      rcases h.ne with h2 | h2
      · cases h3 : c.2.ownBlock with
        | none => exact .inl rfl
        | some k => exact .inr (by rw [h2]; simp)
      · exact .inr h2.symm
    · refine .inr fun h2 => ?_
      rw [h1] at h2
      have := (h.rv.lt _ h2.symm).2
      omega
  refine ⟨⟨((World.cell?_setCell_other _ _ _ _ (by simp)).trans (hcell 0 _ h.c0)), (World.cell?_setCell_same _ _ _ (hcell 1 _ h.c1)), (World.cell?_setCell_other _ _ _ _ (by simp)).trans (hcell 2 _ h.c2), (World.cell?_setCell_other _ _ _ _ (by simp)).trans (hcell 3 _ h.c3), (World.cell?_setCell_other _ _ _ _ (by simp)).trans (hcell 4 _ h.c4), hfz, hro, hmine, ?_⟩,
    ⟨hg.os, hg.tape, hg.output, by have := hg.size; simp [World.setCell] at this ⊢; omega, fun k hk h1 h2 => (hset k h1).trans (hblk k hk h2.2), fun k hk h2 => ?_⟩⟩
  · show c.1.ownBlock = none ∨ c.1.ownBlock ≠ v'.ownBlock
    cases h1 : c.1.ownBlock with
    | none => exact .inl rfl
    | some k =>
      refine .inr fun h2 => ?_
      rcases hne2 with h3 | h3
      · rw [h3] at h2; cases h2
      · exact h3 (by rw [h1]; exact h2.symm)
  · refine ⟨h2.1, ?_⟩
    show v'.ownBlock ≠ some k
    rcases hloc with h3 | h3
    · rw [h3]; exact h2.2
    · rw [h3]
      intro h4
      simp at h4
      omega
end Go.Proofs.YtjconmohifaliaaDoor
