/-
  The checker of package syntax in memory: its three cells and its map of names; what a call may turn (those two blocks, and new ones); how a call that looks at a part ends.
-/
import Derived.Test.YtfbpkbochhfnhaaGreatDoorCkMem
import Derived.Test.YtfbpkbochhfnhaaGreatDoorTabs
import Derived.Test.YtfbpkbochhfnhaaGreatDoorNameC
import Derived.Maps.OwnOps
import Derived.Maps.Views
import Derived.Maps.OwnSet
import Derived.WalkLawsBesides
namespace Go.Proofs.YtfbpkbochhfnhaaGreatDoor
open Go.ChangeShapes Go.WideShapes Go.ChangeAt Go.RowKit Go.Joins Go.Maps

/-- All but two blocks is as it was. -/
structure But (bc bm : Nat) (w w' : World) : Prop where
  os : w'.os = w.os
  tape : w'.tape = w.tape
  output : w'.output = w.output
  size : w.heap.size ≤ w'.heap.size
  block : ∀ k, k < w.heap.size → k ≠ bc → k ≠ bm → w'.heap[k]? = w.heap[k]?

theorem But.refl (bc bm : Nat) (w : World) : But bc bm w w := ⟨rfl, rfl, rfl, Nat.le_refl _, fun _ _ _ _ => rfl⟩
theorem But.trans {bc bm : Nat} {a b c : World} (h : But bc bm a b) (k : But bc bm b c) : But bc bm a c :=
  ⟨k.os.trans h.os, k.tape.trans h.tape, k.output.trans h.output, Nat.le_trans h.size k.size, fun i hi h1 h2 => (k.block i (Nat.lt_of_lt_of_le hi h.size) h1 h2).trans (h.block i hi h1 h2)⟩
theorem But.of_below {bc bm : Nat} {w w' : World} (h : Below w.heap.size w w') : But bc bm w w' := ⟨h.os, h.tape, h.output, h.size, fun k hk _ _ => h.block k hk⟩
theorem But.more {bc bm : Nat} {a w w' : World} (h : But bc bm a w) (k : Below w.heap.size w w') : But bc bm a w' := h.trans (But.of_below k)
theorem But.alloc {bc bm : Nat} {a w : World} (h : But bc bm a w) (o : Obj) : But bc bm a (w.alloc o) := h.more ((Below.refl _ _).alloc (Nat.le_refl _) o)
theorem But.below {bc bm B : Nat} {w w' : World} (h : But bc bm w w') (hs : B ≤ w.heap.size) (h1 : B ≤ bc) (h2 : B ≤ bm) : Below B w w' :=
  ⟨h.os, h.tape, h.output, h.size, fun k hk => h.block k (by omega) (by omega) (by omega)⟩
theorem But.cell {bc bm : Nat} {w w' : World} (h : But bc bm w w') {b : Nat} (hb : b < w.heap.size) (h1 : b ≠ bc) (h2 : b ≠ bm) (o : Nat) : w'.cell? ⟨b, o, none⟩ = w.cell? ⟨b, o, none⟩ :=
  World.cell?_of_block (a := ⟨b, o, none⟩) (h.block b hb h1 h2)
theorem But.set {bc bm : Nat} {a w : World} (h : But bc bm a w) (o : Nat) (v : Value) : But bc bm a (w.setCell ⟨bc, o, none⟩ v) :=
  h.trans ⟨rfl, rfl, rfl, by simp [World.setCell], fun k _ h1 _ => Below.heap_setCell _ _ _ _ (by simpa using h1)⟩
theorem But.grown {bc bm : Nat} {a w w' : World} (h : But bc bm a w) (hg : w.grownBy w' (some bm)) : But bc bm a w' :=
  h.trans ⟨hg.os, hg.tape, hg.output, hg.size, fun k hk _ h2 => hg.block k hk (by simpa using h2)⟩

/-- The tables, below B. -/
structure Tb (B : Nat) (w : World) : Prop where
  words : 12 < B ∧ RowAt w 12 wordsA
  levels : 5 < B ∧ RowAt w 5 levelsA
  funcs : 6 < B ∧ RowAt w 6 funcsA
  args : 3 < B ∧ RowAt w 3 (intsA argsL)
  exprs : 7 < B ∧ RowAt w 7 (intsA exprsL)
theorem Tb.below {B : Nat} {w w' : World} (h : Tb B w) (hb : Below B w w') : Tb B w' :=
  ⟨⟨h.words.1, h.words.2.stays (hb.block _ h.words.1)⟩, ⟨h.levels.1, h.levels.2.stays (hb.block _ h.levels.1)⟩, ⟨h.funcs.1, h.funcs.2.stays (hb.block _ h.funcs.1)⟩, ⟨h.args.1, h.args.2.stays (hb.block _ h.args.1)⟩, ⟨h.exprs.1, h.exprs.2.stays (hb.block _ h.exprs.1)⟩⟩

/-- The checker lies at bc, its names at bm; j: how many names may still come ahead of the next part. -/
structure Chk (bc bm : Nat) (when : Int) (w : World) (st : St) (j : Nat) : Prop where
  ne : bc ≠ bm
  c0 : w.cell? ⟨bc, 0, none⟩ = some (.map (some bm))
  c1 : w.cell? ⟨bc, 1, none⟩ = some (.int .i64 st.nodes)
  c2 : w.cell? ⟨bc, 2, none⟩ = some (.int .i64 when)
  f1 : w.frozen? ⟨bc, 1, none⟩ = false
  f2 : w.frozen? ⟨bc, 2, none⟩ = false
  lo : 0 ≤ st.nodes
  hi : st.nodes ≤ 4000
  map : ∃ (n : Nat) (D : DataW Unit), n + j ≤ 2 * st.nodes.toNat ∧ w.ownsMap Tryz.prog 9 (plainElem Tryz.prog 3) bm n D ∧ ∀ s : ByteArray, D.atKey (.string s.data.toList) (.lit (.int .i64 0)) = .lit (.int .i64 (st.nm s))

theorem Chk.lt {bc bm : Nat} {when : Int} {w : World} {st : St} {j : Nat} (h : Chk bc bm when w st j) : bc < w.heap.size ∧ bm < w.heap.size := by
  obtain ⟨n, D, _, hm, _⟩ := h.map
  exact ⟨World.block_lt_of_cell? w ⟨bc, 0, none⟩ h.c0, hm.lt⟩

theorem ownsMap_block {H : Type} {w w' : World} {P : Program} {k : TypeId} {R : Value → Option (DataW H × List MemPlace)} {b n : Nat} {D : DataW H} (h : w.ownsMap P k R b n D) (hb : w'.heap[b]? = w.heap[b]?) : w'.ownsMap P k R b n D := by
  obtain ⟨es, clock, h1, r⟩ := h
  exact ⟨es, clock, hb.trans h1, r⟩

theorem Chk.blocks {bc bm : Nat} {when : Int} {w w' : World} {st : St} {j : Nat} (h : Chk bc bm when w st j) (h1 : w'.heap[bc]? = w.heap[bc]?) (h2 : w'.heap[bm]? = w.heap[bm]?) : Chk bc bm when w' st j := by
  obtain ⟨n, D, h3, h4, h5⟩ := h.map
  exact ⟨h.ne, (World.cell?_of_block (a := ⟨bc, 0, none⟩) h1).trans h.c0, (World.cell?_of_block (a := ⟨bc, 1, none⟩) h1).trans h.c1, (World.cell?_of_block (a := ⟨bc, 2, none⟩) h1).trans h.c2,
    (World.frozen?_of_block (a := ⟨bc, 1, none⟩) h1).trans h.f1, (World.frozen?_of_block (a := ⟨bc, 2, none⟩) h1).trans h.f2, h.lo, h.hi, n, D, h3, ownsMap_block h4 h2, h5⟩

theorem Chk.below {bc bm : Nat} {when : Int} {w w' : World} {st : St} {j : Nat} (h : Chk bc bm when w st j) (hb : Below w.heap.size w w') : Chk bc bm when w' st j :=
  h.blocks (hb.block _ h.lt.1) (hb.block _ h.lt.2)
theorem Chk.alloc {bc bm : Nat} {when : Int} {w : World} {st : St} {j : Nat} (h : Chk bc bm when w st j) (o : Obj) : Chk bc bm when (w.alloc o) st j := h.below ((Below.refl _ _).alloc (Nat.le_refl _) o)
theorem Chk.less {bc bm : Nat} {when : Int} {w : World} {st : St} {j i : Nat} (h : Chk bc bm when w st j) (hi : i ≤ j) : Chk bc bm when w st i := by
  obtain ⟨n, D, h3, h4⟩ := h.map
  exact { h with map := ⟨n, D, by omega, h4⟩ }

/-- What a refusal hands to whoever catches it. -/
def errP (e : Int) : PanicEntry := { v := .iface 29 (.int .i64 e), recovered := false }

/-- How a look at a part ends: it returns with the state behind it, or it panics with what is wrong. -/
def Out (bc bm : Nat) (when : Int) (j : Nat) (w : World) (R : Res) (r : Ending) (w' : World) : Prop :=
  But bc bm w w' ∧ match R with
    | .ok st => r = .returned (.tuple #[]) ∧ Chk bc bm when w' st j
    | .error e => r = .panicked [errP e]

theorem refuse_f (e : Int) (w : World) : Calls Tryz.prog 19 #[.bool false, .int .i64 e] w fun r w' => r = .returned (.tuple #[]) ∧ w' = w := by
  go_enter Tryz.func19, Tryz.ntmps19
  go_wp2
  go_end0
  exact ⟨rfl, rfl⟩

theorem refuse_t (e : Int) (w : World) : Calls Tryz.prog 19 #[.bool true, .int .i64 e] w fun r w' => r = .panicked [errP e] ∧ w' = w := by
  go_enter Tryz.func19, Tryz.ntmps19
  go_wp2
  exact ⟨rfl, rfl, rfl⟩
end Go.Proofs.YtfbpkbochhfnhaaGreatDoor
