/-
  The reader of package syntax in memory: its pieces, what is open; trees that lie in blocks of a kind; how a call that reads ends.
-/
import Derived.Test.YtfbpkbochhfnhaaGreatDoorRdSpec
import Derived.Test.YtfbpkbochhfnhaaGreatDoorChk
namespace Go.Proofs.YtfbpkbochhfnhaaGreatDoor
open Go.ChangeShapes Go.WideShapes Go.ChangeAt Go.RowKit Go.Joins Go.Maps

/-! ### Trees in blocks that P allows -/
def SlP (P : Nat → Prop) (w : World) (sz : Nat) (v : Value) (len : Nat) (E : Nat → List Value → Prop) : Prop :=
  ∃ (a : Option Addr) (cap : Nat), v = .slice a len cap ∧ len ≤ maxLen ∧ (0 < len → ∃ b off, a = some ⟨b, off, none⟩ ∧ P b ∧ ∀ i, i < len → ∃ cs : List Value, cs.length = sz ∧ (∀ j, j < sz → w.cell? ⟨b, off + i * sz + j, none⟩ = cs[j]?) ∧ E i cs)

theorem SlP.mono {P Q : Nat → Prop} {w : World} {sz : Nat} {v : Value} {len : Nat} {E F : Nat → List Value → Prop} (h : SlP P w sz v len E) (hPQ : ∀ b, P b → Q b) (hEF : ∀ i cs, E i cs → F i cs) : SlP Q w sz v len F := by
  obtain ⟨a, cap, hv, hl, hs⟩ := h
  refine ⟨a, cap, hv, hl, fun h0 => ?_⟩
  obtain ⟨b, off, ha, hb, hi⟩ := hs h0
  exact ⟨b, off, ha, hPQ b hb, fun i hi' => let ⟨cs, h1, h2, h3⟩ := hi i hi'; ⟨cs, h1, h2, hEF i cs h3⟩⟩

theorem SlP.stays {P : Nat → Prop} {w w' : World} {sz : Nat} {v : Value} {len : Nat} {E F : Nat → List Value → Prop} (h : SlP P w sz v len E) (hsz : 0 < sz) (hw : ∀ b, P b → b < w.heap.size → w'.heap[b]? = w.heap[b]?) (hEF : ∀ i cs, E i cs → F i cs) : SlP P w' sz v len F := by
  obtain ⟨a, cap, hv, hl, hs⟩ := h
  refine ⟨a, cap, hv, hl, fun h0 => ?_⟩
  obtain ⟨b, off, ha, hb, hi⟩ := hs h0
  have hlt : b < w.heap.size := by
    obtain ⟨cs, h1, h2, _⟩ := hi 0 h0
    have h3 := h2 0 hsz
    rw [List.getElem?_eq_getElem (by omega)] at h3
    exact World.block_lt_of_cell? w _ h3
  exact ⟨b, off, ha, hb, fun i hi' => let ⟨cs, h1, h2, h3⟩ := hi i hi'; ⟨cs, h1, fun j hj => (World.cell?_of_block (a := ⟨b, off + i * sz + j, none⟩) (hw b hb hlt)).trans (h2 j hj), hEF i cs h3⟩⟩

def ExP (P : Nat → Prop) (w : World) : Nat → List Value → Ex → Prop
  | 0, _, _ => False
  | m + 1, cs, .mk k n s l => ∃ v, cs = [.int .i64 k, .int .i64 n, .string s, v] ∧ (Lit.int .i64 k).wf = true ∧ (Lit.int .i64 n).wf = true ∧ s.size ≤ maxLen ∧ SlP P w 4 v l.length (fun i c => ∃ x, l[i]? = some x ∧ ExP P w m c x)

def SmP (P : Nat → Prop) (w : World) : Nat → List Value → Sm → Prop
  | 0, _, _ => False
  | m + 1, cs, .mk k s t es b e => ∃ v1 v2 v3, cs = [.int .i64 k, .string s, .string t, v1, v2, v3] ∧ (Lit.int .i64 k).wf = true ∧ s.size ≤ maxLen ∧ t.size ≤ maxLen ∧
      SlP P w 4 v1 es.length (fun i c => ∃ x, es[i]? = some x ∧ ExP P w m c x) ∧ SlP P w 6 v2 b.length (fun i c => ∃ x, b[i]? = some x ∧ SmP P w m c x) ∧ SlP P w 6 v3 e.length (fun i c => ∃ x, e[i]? = some x ∧ SmP P w m c x)

def RuP (P : Nat → Prop) (w : World) (m : Nat) (cs : List Value) (r : Ru) : Prop :=
  ∃ c0 c1 c2 c3 v, cs = [.int .i64 r.when, .bool r.has, c0, c1, c2, c3, v] ∧ (Lit.int .i64 r.when).wf = true ∧ ExP P w m [c0, c1, c2, c3] r.pat ∧ SlP P w 6 v r.body.length (fun i c => ∃ x, r.body[i]? = some x ∧ SmP P w m c x)

theorem ExP.more {P : Nat → Prop} {w : World} : ∀ {m : Nat} {cs : List Value} {x : Ex}, ExP P w m cs x → ExP P w (m + 1) cs x := by
  intro m
  induction m with
  | zero => intro cs x h; exact h.elim
  | succ m ih =>
    intro cs x h
    cases x with
    | mk k n s l =>
      obtain ⟨v, h1, h2, h3, h4, h5⟩ := h
      exact ⟨v, h1, h2, h3, h4, h5.mono (fun _ h => h) fun i c ⟨x, hx, he⟩ => ⟨x, hx, ih he⟩⟩
theorem ExP.le {P : Nat → Prop} {w : World} {m m' : Nat} {cs : List Value} {x : Ex} (h : ExP P w m cs x) (hm : m ≤ m') : ExP P w m' cs x := by
  induction hm with
  | refl => exact h
  | step _ ih => exact ih.more
theorem SmP.more {P : Nat → Prop} {w : World} : ∀ {m : Nat} {cs : List Value} {x : Sm}, SmP P w m cs x → SmP P w (m + 1) cs x := by
  intro m
  induction m with
  | zero => intro cs x h; exact h.elim
  | succ m ih =>
    intro cs x h
    cases x with
    | mk k s t es b e =>
      obtain ⟨v1, v2, v3, h1, h2, h3, h4, h5, h6, h7⟩ := h
      exact ⟨v1, v2, v3, h1, h2, h3, h4, h5.mono (fun _ h => h) fun i c ⟨x, hx, he⟩ => ⟨x, hx, he.more⟩, h6.mono (fun _ h => h) fun i c ⟨x, hx, he⟩ => ⟨x, hx, ih he⟩, h7.mono (fun _ h => h) fun i c ⟨x, hx, he⟩ => ⟨x, hx, ih he⟩⟩
theorem SmP.le {P : Nat → Prop} {w : World} {m m' : Nat} {cs : List Value} {x : Sm} (h : SmP P w m cs x) (hm : m ≤ m') : SmP P w m' cs x := by
  induction hm with
  | refl => exact h
  | step _ ih => exact ih.more

/-- Trees stay where their blocks stay. -/
theorem ExP.stays {P Q : Nat → Prop} {w w' : World} (hPQ : ∀ b, P b → Q b) (hw : ∀ b, P b → b < w.heap.size → w'.heap[b]? = w.heap[b]?) : ∀ {m : Nat} {cs : List Value} {x : Ex}, ExP P w m cs x → ExP Q w' m cs x := by
  intro m
  induction m with
  | zero => intro cs x h; exact h.elim
  | succ m ih =>
    intro cs x h
    cases x with
    | mk k n s l =>
      obtain ⟨v, h1, h2, h3, h4, h5⟩ := h
      exact ⟨v, h1, h2, h3, h4, (h5.stays (by decide) hw fun i c ⟨x, hx, he⟩ => ⟨x, hx, ih he⟩).mono hPQ fun _ _ h => h⟩
theorem SmP.stays {P Q : Nat → Prop} {w w' : World} (hPQ : ∀ b, P b → Q b) (hw : ∀ b, P b → b < w.heap.size → w'.heap[b]? = w.heap[b]?) : ∀ {m : Nat} {cs : List Value} {x : Sm}, SmP P w m cs x → SmP Q w' m cs x := by
  intro m
  induction m with
  | zero => intro cs x h; exact h.elim
  | succ m ih =>
    intro cs x h
    cases x with
    | mk k s t es b e =>
      obtain ⟨v1, v2, v3, h1, h2, h3, h4, h5, h6, h7⟩ := h
      exact ⟨v1, v2, v3, h1, h2, h3, h4, (h5.stays (by decide) hw fun i c ⟨x, hx, he⟩ => ⟨x, hx, he.stays hPQ hw⟩).mono hPQ fun _ _ h => h, (h6.stays (by decide) hw fun i c ⟨x, hx, he⟩ => ⟨x, hx, ih he⟩).mono hPQ fun _ _ h => h, (h7.stays (by decide) hw fun i c ⟨x, hx, he⟩ => ⟨x, hx, ih he⟩).mono hPQ fun _ _ h => h⟩
theorem RuP.stays {P Q : Nat → Prop} {w w' : World} (hPQ : ∀ b, P b → Q b) (hw : ∀ b, P b → b < w.heap.size → w'.heap[b]? = w.heap[b]?) {m : Nat} {cs : List Value} {r : Ru} (h : RuP P w m cs r) : RuP Q w' m cs r := by
  obtain ⟨c0, c1, c2, c3, v, h1, h2, h3, h4⟩ := h
  exact ⟨c0, c1, c2, c3, v, h1, h2, h3.stays hPQ hw, (h4.stays (by decide) hw fun i c ⟨x, hx, he⟩ => ⟨x, hx, he.stays hPQ hw⟩).mono hPQ fun _ _ h => h⟩

/-- As a tree below a block's number. -/
theorem SlP.low {B : Nat} {w : World} {sz : Nat} {v : Value} {len : Nat} {E F : Nat → List Value → Prop} (h : SlP (· < B) w sz v len E) (hEF : ∀ i cs, E i cs → F i cs) : Sl w B sz v len F := by
  obtain ⟨a, cap, hv, hl, hs⟩ := h
  refine ⟨a, cap, hv, hl, fun h0 => ?_⟩
  obtain ⟨b, off, ha, hb, hi⟩ := hs h0
  exact ⟨b, off, ha, hb, fun i hi' => let ⟨cs, h1, h2, h3⟩ := hi i hi'; ⟨cs, h1, h2, hEF i cs h3⟩⟩
theorem ExP.low {B : Nat} {w : World} : ∀ {m : Nat} {cs : List Value} {x : Ex}, ExP (· < B) w m cs x → ExA B w m cs x := by
  intro m
  induction m with
  | zero => intro cs x h; exact h.elim
  | succ m ih =>
    intro cs x h
    cases x with
    | mk k n s l =>
      obtain ⟨v, h1, h2, h3, h4, h5⟩ := h
      exact ⟨v, h1, h2, h3, h4, h5.low fun i c ⟨x, hx, he⟩ => ⟨x, hx, ih he⟩⟩
theorem SmP.low {B : Nat} {w : World} : ∀ {m : Nat} {cs : List Value} {x : Sm}, SmP (· < B) w m cs x → SmA B w m cs x := by
  intro m
  induction m with
  | zero => intro cs x h; exact h.elim
  | succ m ih =>
    intro cs x h
    cases x with
    | mk k s t es b e =>
      obtain ⟨v1, v2, v3, h1, h2, h3, h4, h5, h6, h7⟩ := h
      exact ⟨v1, v2, v3, h1, h2, h3, h4, h5.low fun i c ⟨x, hx, he⟩ => ⟨x, hx, he.low⟩, h6.low fun i c ⟨x, hx, he⟩ => ⟨x, hx, ih he⟩, h7.low fun i c ⟨x, hx, he⟩ => ⟨x, hx, ih he⟩⟩
theorem RuP.low {B : Nat} {w : World} {m : Nat} {cs : List Value} {r : Ru} (h : RuP (· < B) w m cs r) : RuA B w m cs r := by
  obtain ⟨c0, c1, c2, c3, v, h1, h2, h3, h4⟩ := h
  exact ⟨c0, c1, c2, c3, v, h1, h2, h3.low, h4.low fun i c ⟨x, hx, he⟩ => ⟨x, hx, he.low⟩⟩

/-! ### The reader -/
/-- Pieces in memory, in a block below r. -/
def PcA (w : World) (r : Nat) (v : Value) (ps : List Pc) : Prop :=
  ∃ (a : Option Addr) (cap : Nat), v = .slice a ps.length cap ∧ ps.length ≤ cap ∧ ps.length ≤ 6000 ∧ (0 < ps.length → ∃ b off, a = some ⟨b, off, none⟩ ∧ b < r ∧ ∀ (i : Nat) (p : Pc), ps[i]? = some p → w.cell? ⟨b, off + i * 3, none⟩ = some (.int .i64 p.k) ∧ w.cell? ⟨b, off + i * 3 + 1, none⟩ = some (.string (bs p.s)) ∧ w.cell? ⟨b, off + i * 3 + 2, none⟩ = some (.int .i64 p.n))

/-- The signs that stand ahead of something. -/
def prefL : List (List UInt8 × Int) := [([45], 7), ([33], 8), ([36], 4)]
def prefA : Array Value := (prefL.flatMap pairV).toArray

/-- The tables, below block r. -/
structure Tz (r : Nat) (w : World) : Prop where
  words : 12 < r ∧ WordsAt w
  levels : 5 < r ∧ RowAt w 5 levelsA
  funcs : 6 < r ∧ RowAt w 6 funcsA
  pref : 2 < r ∧ RowAt w 2 prefA
theorem Tz.low {r : Nat} {w w' : World} (h : Tz r w) (hb : ∀ k, k < r → w'.heap[k]? = w.heap[k]?) : Tz r w' :=
  ⟨⟨h.words.1, h.words.2.stays (hb _ h.words.1)⟩, ⟨h.levels.1, h.levels.2.stays (hb _ h.levels.1)⟩, ⟨h.funcs.1, h.funcs.2.stays (hb _ h.funcs.1)⟩, ⟨h.pref.1, h.pref.2.stays (hb _ h.pref.1)⟩⟩

/-- The reader at r: o are open, these pieces are left. -/
structure Rdr (r : Nat) (w : World) (o : Int) (ps : List Pc) : Prop where
  pcs : ∃ v, w.cell? ⟨r, 0, none⟩ = some v ∧ PcA w r v ps
  c1 : w.cell? ⟨r, 1, none⟩ = some (.int .i64 o)
  f0 : w.frozen? ⟨r, 0, none⟩ = false
  f1 : w.frozen? ⟨r, 1, none⟩ = false
  lo : 0 ≤ o
  hi : o ≤ 40
  fit : ∀ p ∈ ps, p.s.length ≤ 6000 ∧ (Lit.int .i64 p.n).wf = true
  tz : Tz r w

theorem Rdr.lt {r : Nat} {w : World} {o : Int} {ps : List Pc} (h : Rdr r w o ps) : r < w.heap.size := World.block_lt_of_cell? w ⟨r, 1, none⟩ h.c1

theorem PcA.low {w w' : World} {r : Nat} {v : Value} {ps : List Pc} (h : PcA w r v ps) (hw : ∀ k, k < r → w'.heap[k]? = w.heap[k]?) : PcA w' r v ps := by
  obtain ⟨a, cap, h1, h2, h3, h4⟩ := h
  refine ⟨a, cap, h1, h2, h3, fun h0 => ?_⟩
  obtain ⟨b, off, ha, hb, hi⟩ := h4 h0
  refine ⟨b, off, ha, hb, fun i p hp => ?_⟩
  have := hi i p hp
  have e : ∀ j, w'.cell? ⟨b, j, none⟩ = w.cell? ⟨b, j, none⟩ := fun j => World.cell?_of_block (a := ⟨b, j, none⟩) (hw b hb)
  rw [e, e, e]
  exact this

/-- The reader stays where the blocks up to its own stay. -/
theorem Rdr.low {r : Nat} {w w' : World} {o : Int} {ps : List Pc} (h : Rdr r w o ps) (hb : Below (r + 1) w w') : Rdr r w' o ps := by
  obtain ⟨v, h1, h2⟩ := h.pcs
  exact ⟨⟨v, (hb.cell (p := ⟨r, 0, none⟩) (Nat.lt_succ_self r)).trans h1, h2.low fun k hk => hb.block k (by omega)⟩, (hb.cell (p := ⟨r, 1, none⟩) (Nat.lt_succ_self r)).trans h.c1, (hb.frozen (p := ⟨r, 0, none⟩) (Nat.lt_succ_self r)).trans h.f0, (hb.frozen (p := ⟨r, 1, none⟩) (Nat.lt_succ_self r)).trans h.f1, h.lo, h.hi, h.fit, h.tz.low fun k hk => hb.block k (by omega)⟩
theorem Rdr.below {r : Nat} {w w' : World} {o : Int} {ps : List Pc} (h : Rdr r w o ps) (hb : Below w.heap.size w w') : Rdr r w' o ps := h.low (hb.mono h.lt)
theorem Rdr.alloc {r : Nat} {w : World} {o : Int} {ps : List Pc} (h : Rdr r w o ps) (ob : Obj) : Rdr r (w.alloc ob) o ps := h.below ((Below.refl _ _).alloc (Nat.le_refl _) ob)

/-- What is open, where something is wrong. -/
def Opn (r : Nat) (w : World) (o : Int) : Prop := ∃ o', w.cell? ⟨r, 1, none⟩ = some (.int .i64 o') ∧ w.frozen? ⟨r, 1, none⟩ = false ∧ o ≤ o' ∧ o' ≤ 41 ∧ 0 ≤ o
theorem Rdr.opn {r : Nat} {w : World} {o : Int} {ps : List Pc} (h : Rdr r w o ps) : Opn r w o := ⟨o, h.c1, h.f1, Int.le_refl _, by have := h.hi; omega, h.lo⟩
theorem Opn.low {r : Nat} {w w' : World} {o : Int} (h : Opn r w o) (hb : Below (r + 1) w w') : Opn r w' o := by
  obtain ⟨o', h1, h2, h3⟩ := h
  exact ⟨o', (hb.cell (p := ⟨r, 1, none⟩) (Nat.lt_succ_self r)).trans h1, (hb.frozen (p := ⟨r, 1, none⟩) (Nat.lt_succ_self r)).trans h2, h3⟩
theorem Opn.below {r : Nat} {w w' : World} {o : Int} (h : Opn r w o) (hb : Below w.heap.size w w') : Opn r w' o := by
  obtain ⟨o', h1, h2, h3⟩ := h
  have hlt := World.block_lt_of_cell? w ⟨r, 1, none⟩ h1
  exact ⟨o', (hb.cell (p := ⟨r, 1, none⟩) hlt).trans h1, (hb.frozen (p := ⟨r, 1, none⟩) hlt).trans h2, h3⟩
theorem Opn.alloc {r : Nat} {w : World} {o : Int} (h : Opn r w o) (ob : Obj) : Opn r (w.alloc ob) o := h.below ((Below.refl _ _).alloc (Nat.le_refl _) ob)

/-- How a call that reads ends: K tells of what comes back, where there is nothing wrong. -/
def OutR {α : Type} (r : Nat) (o : Int) (w : World) (R : Rd α) (K : Value → α → List Pc → World → Prop) : Ending → World → Prop := fun e w' =>
  But r r w w' ∧ match R with
    | .ok (x, ps) => ∃ v, e = .returned v ∧ Rdr r w' o ps ∧ K v x ps w'
    | .error er => e = .panicked [errP er] ∧ Opn r w' o

/-- An expression that was read: in new blocks; its height: at most as many as the pieces that it took. -/
def KE (w : World) (n : Nat) : Value → Ex → List Pc → World → Prop := fun v x ps w' => ps.length < n ∧ ∃ cs : List Value, v = .agg cs.toArray ∧ ExP (fun b => w.heap.size ≤ b) w' (n - ps.length) cs x
end Go.Proofs.YtfbpkbochhfnhaaGreatDoor
