/-
  The document's own look at a program (its census) in memory: five cells, and two lists of names that grow; what a call may turn; the contracts of ask and part.
-/
import Derived.Test.YtjconmohifaliaaDoorCheckC
import Derived.Test.YtjconmohifaliaaDoorNameMay
import Derived.Maps.AppendAt
namespace Go.Proofs.YtjconmohifaliaaDoor
open Go.ChangeShapes Go.WideShapes Go.ChangeAt Go.RowKit Go.Joins
set_option linter.unusedVariables false

def strs (xs : List ByteArray) : List Value := xs.map fun s => Value.string s

/-- The census at cb: its five cells; c: its two lists as slices, xs and ys what they hold. -/
structure Cn (cb : Nat) (w : World) (c : Value × Value) (xs ys : List ByteArray) (nodes when e : Int) : Prop where
  c0 : w.cell? ⟨cb, 0, none⟩ = some c.1
  c1 : w.cell? ⟨cb, 1, none⟩ = some c.2
  c2 : w.cell? ⟨cb, 2, none⟩ = some (.int .i64 nodes)
  c3 : w.cell? ⟨cb, 3, none⟩ = some (.int .i64 when)
  c4 : w.cell? ⟨cb, 4, none⟩ = some (.int .i64 e)
  fz : ∀ o, w.frozen? ⟨cb, o, none⟩ = false
  rv : w.ownsRow (cb + 1) 9 1 c.1 xs.length (strs xs)
  rl : w.ownsRow (cb + 1) 9 1 c.2 ys.length (strs ys)
  ne : c.1.ownBlock = none ∨ c.1.ownBlock ≠ c.2.ownBlock

theorem Cn.lt {cb : Nat} {w : World} {c : Value × Value} {xs ys : List ByteArray} {nodes when e : Int} (h : Cn cb w c xs ys nodes when e) : cb < w.heap.size := World.block_lt_of_cell? w ⟨cb, 0, none⟩ h.c0

/-- Not one of the census' own blocks. -/
def Not2 (c : Value × Value) (k : Nat) : Prop := c.1.ownBlock ≠ some k ∧ c.2.ownBlock ≠ some k

theorem Cn.fresh {cb : Nat} {w : World} {c : Value × Value} {xs ys : List ByteArray} {nodes when e : Int} (h : Cn cb w c xs ys nodes when e) {k : Nat} (hk : w.heap.size ≤ k) : Not2 c k :=
  ⟨fun h1 => by have := (h.rv.lt k h1).2; omega, fun h1 => by have := (h.rl.lt k h1).2; omega⟩
theorem Cn.low {cb : Nat} {w : World} {c : Value × Value} {xs ys : List ByteArray} {nodes when e : Int} (h : Cn cb w c xs ys nodes when e) {k : Nat} (hk : k ≤ cb) : Not2 c k :=
  ⟨fun h1 => by have := (h.rv.lt k h1).1; omega, fun h1 => by have := (h.rl.lt k h1).1; omega⟩

/-- All but the census and its two lists is as it was; lists lie where they lay, or in new blocks. -/
structure Fr (cb : Nat) (w : World) (c : Value × Value) (w' : World) (c' : Value × Value) : Prop where
  os : w'.os = w.os
  tape : w'.tape = w.tape
  output : w'.output = w.output
  size : w.heap.size ≤ w'.heap.size
  block : ∀ k, k < w.heap.size → k ≠ cb → Not2 c k → w'.heap[k]? = w.heap[k]?
  new : ∀ k, k < w.heap.size → Not2 c k → Not2 c' k

theorem Fr.refl (cb : Nat) (w : World) (c : Value × Value) : Fr cb w c w c := ⟨rfl, rfl, rfl, Nat.le_refl _, fun _ _ _ _ => rfl, fun _ _ h => h⟩
theorem Fr.trans {cb : Nat} {w1 w2 w3 : World} {c1 c2 c3 : Value × Value} (h : Fr cb w1 c1 w2 c2) (k : Fr cb w2 c2 w3 c3) : Fr cb w1 c1 w3 c3 :=
  ⟨k.os.trans h.os, k.tape.trans h.tape, k.output.trans h.output, Nat.le_trans h.size k.size, fun i hi h1 h2 => (k.block i (Nat.lt_of_lt_of_le hi h.size) h1 (h.new i hi h2)).trans (h.block i hi h1 h2),
    fun i hi h2 => k.new i (Nat.lt_of_lt_of_le hi h.size) (h.new i hi h2)⟩
theorem Fr.of_below {cb : Nat} {w w' : World} {c : Value × Value} (h : Below w.heap.size w w') : Fr cb w c w' c := ⟨h.os, h.tape, h.output, h.size, fun k hk _ _ => h.block k hk, fun _ _ h => h⟩
theorem Fr.alloc {cb : Nat} {w : World} {c : Value × Value} (o : Obj) : Fr cb w c (w.alloc o) c := Fr.of_below ((Below.refl _ _).alloc (Nat.le_refl _) o)
theorem Fr.set {cb : Nat} {w : World} {c : Value × Value} (o : Nat) (v : Value) : Fr cb w c (w.setCell ⟨cb, o, none⟩ v) c :=
  ⟨rfl, rfl, rfl, by simp [World.setCell], fun k _ h1 _ => Below.heap_setCell _ _ _ _ (by simpa using h1), fun _ _ h => h⟩
theorem Fr.below {cb B : Nat} {w w' : World} {c c' : Value × Value} {xs ys : List ByteArray} {nodes when e : Int} (h : Fr cb w c w' c') (hc : Cn cb w c xs ys nodes when e) (hB : B ≤ cb) : Below B w w' :=
  ⟨h.os, h.tape, h.output, h.size, fun k hk => h.block k (by have := hc.lt; omega) (by omega) (hc.low (by omega))⟩
theorem Fr.box {cb : Nat} {w w' : World} {c c' : Value × Value} {g : Nat} {cs : Array Value} (h : Fr cb w c w' c') (hr : RowAt w g cs) (h1 : g ≠ cb) (h2 : Not2 c g) : RowAt w' g cs := hr.stays (h.block g hr.lt h1 h2)

theorem ownsRow_block {w w' : World} {base : Nat} {e : TypeId} {size : Nat} {v : Value} {n : Nat} {xs : List Value} (h : w.ownsRow base e size v n xs) (hb : ∀ k, v.ownBlock = some k → w'.heap[k]? = w.heap[k]?) : w'.ownsRow base e size v n xs := by
  obtain ⟨h1, h2⟩ := h
  refine ⟨h1, ?_⟩
  rcases h2 with h2 | ⟨g, cap, cur, hv, hg, hh, r⟩
  · exact .inl h2
  · exact .inr ⟨g, cap, cur, hv, hg, (hb g (by rw [hv]; rfl)).trans hh, r⟩

theorem Cn.below {cb : Nat} {w w' : World} {c : Value × Value} {xs ys : List ByteArray} {nodes when e : Int} (h : Cn cb w c xs ys nodes when e) (hb : Below w.heap.size w w') : Cn cb w' c xs ys nodes when e :=
  ⟨(hb.cell (p := ⟨cb, 0, none⟩) h.lt).trans h.c0, (hb.cell (p := ⟨cb, 1, none⟩) h.lt).trans h.c1, (hb.cell (p := ⟨cb, 2, none⟩) h.lt).trans h.c2, (hb.cell (p := ⟨cb, 3, none⟩) h.lt).trans h.c3, (hb.cell (p := ⟨cb, 4, none⟩) h.lt).trans h.c4,
    fun o => (hb.frozen (p := ⟨cb, o, none⟩) h.lt).trans (h.fz o), ownsRow_block h.rv fun k hk => hb.block k (h.rv.lt k hk).2, ownsRow_block h.rl fun k hk => hb.block k (h.rl.lt k hk).2, h.ne⟩
theorem Cn.alloc {cb : Nat} {w : World} {c : Value × Value} {xs ys : List ByteArray} {nodes when e : Int} (h : Cn cb w c xs ys nodes when e) (o : Obj) : Cn cb (w.alloc o) c xs ys nodes when e := h.below ((Below.refl _ _).alloc (Nat.le_refl _) o)

theorem Cn.setE {cb : Nat} {w : World} {c : Value × Value} {xs ys : List ByteArray} {nodes when e : Int} (h : Cn cb w c xs ys nodes when e) (e' : Int) : Cn cb (w.setCell ⟨cb, 4, none⟩ (.int .i64 e')) c xs ys nodes when e' :=
  ⟨(World.cell?_setCell_other _ _ _ _ (by simp)).trans h.c0, (World.cell?_setCell_other _ _ _ _ (by simp)).trans h.c1, (World.cell?_setCell_other _ _ _ _ (by simp)).trans h.c2, (World.cell?_setCell_other _ _ _ _ (by simp)).trans h.c3, World.cell?_setCell_same _ _ _ h.c4, fun o => by simp [h.fz],
    ownsRow_block h.rv fun k hk => Below.heap_setCell _ _ _ _ (by have := (h.rv.lt k hk).1; show k ≠ cb; omega), ownsRow_block h.rl fun k hk => Below.heap_setCell _ _ _ _ (by have := (h.rl.lt k hk).1; show k ≠ cb; omega), h.ne⟩
theorem Cn.setN {cb : Nat} {w : World} {c : Value × Value} {xs ys : List ByteArray} {nodes when e : Int} (h : Cn cb w c xs ys nodes when e) (n' : Int) : Cn cb (w.setCell ⟨cb, 2, none⟩ (.int .i64 n')) c xs ys n' when e :=
  ⟨(World.cell?_setCell_other _ _ _ _ (by simp)).trans h.c0, (World.cell?_setCell_other _ _ _ _ (by simp)).trans h.c1, World.cell?_setCell_same _ _ _ h.c2, (World.cell?_setCell_other _ _ _ _ (by simp)).trans h.c3, (World.cell?_setCell_other _ _ _ _ (by simp)).trans h.c4, fun o => by simp [h.fz],
    ownsRow_block h.rv fun k hk => Below.heap_setCell _ _ _ _ (by have := (h.rv.lt k hk).1; show k ≠ cb; omega), ownsRow_block h.rl fun k hk => Below.heap_setCell _ _ _ _ (by have := (h.rl.lt k hk).1; show k ≠ cb; omega), h.ne⟩
theorem Cn.setW {cb : Nat} {w : World} {c : Value × Value} {xs ys : List ByteArray} {nodes when e : Int} (h : Cn cb w c xs ys nodes when e) (n' : Int) : Cn cb (w.setCell ⟨cb, 3, none⟩ (.int .i64 n')) c xs ys nodes n' e :=
  ⟨(World.cell?_setCell_other _ _ _ _ (by simp)).trans h.c0, (World.cell?_setCell_other _ _ _ _ (by simp)).trans h.c1, (World.cell?_setCell_other _ _ _ _ (by simp)).trans h.c2, World.cell?_setCell_same _ _ _ h.c3, (World.cell?_setCell_other _ _ _ _ (by simp)).trans h.c4, fun o => by simp [h.fz],
    ownsRow_block h.rv fun k hk => Below.heap_setCell _ _ _ _ (by have := (h.rv.lt k hk).1; show k ≠ cb; omega), ownsRow_block h.rl fun k hk => Below.heap_setCell _ _ _ _ (by have := (h.rl.lt k hk).1; show k ≠ cb; omega), h.ne⟩

/-- The lists tell what names are. -/
def Rel (st : St) (xs ys : List ByteArray) : Prop := (∀ s, s ∈ xs ↔ st.nm s = 1) ∧ (∀ s, s ∈ ys ↔ st.nm s = 2) ∧ ∀ s, st.nm s = 0 ∨ st.nm s = 1 ∨ st.nm s = 2

/-- The census holds a state, or what is wrong; j: how many names may still come ahead of the next part. -/
def CenA (cb : Nat) (when : Int) (w : World) (c : Value × Value) (j : Nat) : Res → Prop
  | .ok st => ∃ xs ys, Cn cb w c xs ys st.nodes when 0 ∧ Rel st xs ys ∧ xs.length + ys.length + j ≤ 2 * st.nodes.toNat ∧ 0 ≤ st.nodes ∧ st.nodes ≤ 4000
  | .error er => er ≠ 0 ∧ ∃ xs ys nodes, Cn cb w c xs ys nodes when er

theorem CenA.cn {cb : Nat} {when : Int} {w : World} {c : Value × Value} {j : Nat} {R : Res} (h : CenA cb when w c j R) : ∃ xs ys nodes e, Cn cb w c xs ys nodes when e := by
  cases R with
  | ok st => obtain ⟨xs, ys, h, _⟩ := h; exact ⟨xs, ys, _, _, h⟩
  | error er => obtain ⟨_, xs, ys, n, h⟩ := h; exact ⟨xs, ys, n, _, h⟩
theorem CenA.less {cb : Nat} {when : Int} {w : World} {c : Value × Value} {j i : Nat} {R : Res} (h : CenA cb when w c j R) (hi : i ≤ j) : CenA cb when w c i R := by
  cases R with
  | ok st => obtain ⟨xs, ys, h, h2, h3, h4⟩ := h; exact ⟨xs, ys, h, h2, by omega, h4⟩
  | error er => exact h
theorem CenA.below {cb : Nat} {when : Int} {w w' : World} {c : Value × Value} {j : Nat} {R : Res} (h : CenA cb when w c j R) (hb : Below w.heap.size w w') : CenA cb when w' c j R := by
  cases R with
  | ok st => obtain ⟨xs, ys, h, h2⟩ := h; exact ⟨xs, ys, h.below hb, h2⟩
  | error er => obtain ⟨h0, xs, ys, n, h⟩ := h; exact ⟨h0, xs, ys, n, h.below hb⟩
theorem CenA.alloc {cb : Nat} {when : Int} {w : World} {c : Value × Value} {j : Nat} {R : Res} (h : CenA cb when w c j R) (o : Obj) : CenA cb when (w.alloc o) c j R := h.below ((Below.refl _ _).alloc (Nat.le_refl _) o)

/-- How a call of the census ends. -/
def OutC (cb : Nat) (when : Int) (j : Nat) (w : World) (c : Value × Value) (R : Res) (r : Ending) (w' : World) : Prop := r = .returned (.tuple #[]) ∧ ∃ c', Fr cb w c w' c' ∧ CenA cb when w' c' j R

def askR (R : Res) (b : Bool) (er : Int) : Res := match R with
  | .ok st => if b then .ok st else .error er
  | .error x => .error x

set_option maxHeartbeats 2000000 in
theorem ask_c (cb j : Nat) (when er : Int) (b : Bool) (w : World) (c : Value × Value) (R : Res) (h : CenA cb when w c j R) (her : er ≠ 0) :
    Calls Tryd.prog 19 #[.pointer (some ⟨cb, 0, none⟩), .bool b, .int .i64 er] w (OutC cb when j w c (askR R b er)) := by
  have H : Hid (CenA cb when w c j R) := h
  have HER : Hid (er ≠ 0) := her
  cases R with
  | error x =>
    obtain ⟨hx, xs, ys, n, hc⟩ := h
    have c4 := hc.c4
    have bx : (x == 0) = false := by simpa using hx
    clear hc hx her
    go_enter Tryd.func19, Tryd.ntmps19
    go_wp2_with fail
    go_end0
    exact ⟨rfl, c, Fr.refl _ _ _, H.out⟩
  | ok st =>
    obtain ⟨xs, ys, hc, h2, h3, h4⟩ := h
    have c4 := hc.c4
    have f4 := hc.fz 4
    have HC : Hid (Cn cb w c xs ys st.nodes when 0) := hc
    clear hc h2 h3 h4 her
    cases b with
    | true =>
      go_enter Tryd.func19, Tryd.ntmps19
      go_wp2_with fail
      go_end0
      exact ⟨rfl, c, Fr.refl _ _ _, H.out⟩
    | false =>
      go_enter Tryd.func19, Tryd.ntmps19
      go_wp2_with fail
      go_end0
      exact ⟨rfl, c, Fr.set 4 _, HER.out, xs, ys, st.nodes, HC.out.setE er⟩

set_option maxHeartbeats 2000000 in
/-- ask, where it is no more, whatever the number of parts. -/
theorem ask_one (cb : Nat) (when : Int) (w : World) (c : Value × Value) (xs ys : List ByteArray) (nodes : Int) (hc : Cn cb w c xs ys nodes when 0) :
    Calls Tryd.prog 19 #[.pointer (some ⟨cb, 0, none⟩), .bool false, .int .i64 1] w (OutC cb when 2 w c (.error 1)) := by
  have c4 := hc.c4
  have f4 := hc.fz 4
  have HC : Hid (Cn cb w c xs ys nodes when 0) := hc
  clear hc
  go_enter Tryd.func19, Tryd.ntmps19
  go_wp2_with fail
  go_end0
  exact ⟨rfl, c, Fr.set 4 _, by decide, xs, ys, nodes, HC.out.setE 1⟩

set_option maxHeartbeats 2000000 in
theorem part_c (cb : Nat) (when d : Int) (w : World) (c : Value × Value) (st : St) (h : CenA cb when w c 0 (.ok st)) :
    Calls Tryd.prog 36 #[.pointer (some ⟨cb, 0, none⟩), .int .i64 d] w (OutC cb when 2 w c (partR d st)) := by
  obtain ⟨xs, ys, hc, h2, h3, h4, h5⟩ := h
  have c2 := hc.c2
  have f2 := hc.fz 2
  have HC : Hid (Cn cb (w.setCell ⟨cb, 2, none⟩ (.int .i64 (st.nodes + 1))) c xs ys (st.nodes + 1) when 0) := hc.setN _
  have HF : Hid (Fr cb w c (w.setCell ⟨cb, 2, none⟩ (.int .i64 (st.nodes + 1))) c) := Fr.set 2 _
  have HR : Hid (Rel st xs ys) := h2
  have HL : Hid (xs.length + ys.length + 0 ≤ 2 * st.nodes.toNat) := h3
  have hw : wrap64 (st.nodes + 1) = st.nodes + 1 := by unfold wrap64; omega
  have hwr : IntKind.i64.wrap (st.nodes + 1) = st.nodes + 1 := by rw [Go.PlainAid.i64_is]; exact hw
  clear hc h2 h3
  have key : ∀ (b : Bool) (w1 : World), w1 = w.setCell ⟨cb, 2, none⟩ (.int .i64 (st.nodes + 1)) → (b = true ↔ st.nodes + 1 ≤ 4000 ∧ d ≤ 20) → Calls Tryd.prog 19 #[.pointer (some ⟨cb, 0, none⟩), .bool b, .int .i64 1] w1 (OutC cb when 2 w c (partR d st)) := by
    intro b w1 e hb
    subst e
    cases b with
    | true =>
      obtain ⟨b1, b2⟩ := hb.1 rfl
      have hp : partR d st = .ok ⟨st.nm, st.nodes + 1⟩ := by unfold partR; rw [if_neg (by omega)]
      refine (ask_c cb 2 when 1 true _ c (.ok ⟨st.nm, st.nodes + 1⟩) ⟨xs, ys, HC.out, HR.out, by have := HL.out; show xs.length + ys.length + 2 ≤ 2 * (st.nodes + 1).toNat; omega, by show 0 ≤ st.nodes + 1; omega, by show st.nodes + 1 ≤ 4000; omega⟩ (by decide)).mono ?_
      rintro e w2 ⟨rfl, c', h1, h2⟩
      rw [hp]
      exact ⟨rfl, c', HF.out.trans h1, h2⟩
    | false =>
      have hp : partR d st = .error 1 := by
        unfold partR
        rw [if_pos]
        have : ¬ (st.nodes + 1 ≤ 4000 ∧ d ≤ 20) := fun h => by have := hb.2 h; cases this
        omega
      refine (ask_one cb when _ c xs ys (st.nodes + 1) HC.out).mono ?_
      rintro e w2 ⟨rfl, c', h1, h2⟩
      rw [hp]
      exact ⟨rfl, c', HF.out.trans h1, h2⟩
  have KEY : Hid _ := key
  clear key HC HF HR HL
  go_enter Tryd.func36, Tryd.ntmps36
  go_wp2_with fail
  all_goals refine (KEY.out _ _ rfl (by simp; try omega)).mono ?_
  all_goals (rintro e w2 ⟨rfl, hr⟩; have HR : Hid _ := hr; clear hr)
  all_goals go_wp2_with fail
  all_goals go_end0
  all_goals exact ⟨rfl, HR.out⟩
end Go.Proofs.YtjconmohifaliaaDoor
