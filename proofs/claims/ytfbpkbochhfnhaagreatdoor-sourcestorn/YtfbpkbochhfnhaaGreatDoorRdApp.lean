/-
  Lists that a call of the reader's makes by append: the row is the call's own, its elements' trees lie in other new blocks.
-/
import Derived.Test.YtfbpkbochhfnhaaGreatDoorRdE0
import Derived.Maps.AppendAt
import Derived.Laws.OwnMore
namespace Go.Proofs.YtfbpkbochhfnhaaGreatDoor
open Go.ChangeShapes Go.WideShapes Go.ChangeAt Go.RowKit Go.Joins Go.Maps
set_option linter.unusedVariables false

theorem SlP.old {P : Nat → Prop} {w : World} {sz : Nat} {v : Value} {len : Nat} {E F : Nat → List Value → Prop} (h : SlP P w sz v len E) (hsz : 0 < sz) (hEF : ∀ i cs, E i cs → F i cs) : SlP (fun b => P b ∧ b < w.heap.size) w sz v len F := by
  obtain ⟨a, cap, hv, hl, hs⟩ := h
  refine ⟨a, cap, hv, hl, fun h0 => ?_⟩
  obtain ⟨b, off, ha, hb, hi⟩ := hs h0
  have hlt : b < w.heap.size := by
    obtain ⟨cs, h1, h2, _⟩ := hi 0 h0
    have h3 := h2 0 hsz
    rw [List.getElem?_eq_getElem (by omega)] at h3
    exact World.block_lt_of_cell? w _ h3
  exact ⟨b, off, ha, ⟨hb, hlt⟩, fun i hi' => let ⟨cs, h1, h2, h3⟩ := hi i hi'; ⟨cs, h1, h2, hEF i cs h3⟩⟩
theorem SmP.old {P : Nat → Prop} {w : World} : ∀ {m : Nat} {cs : List Value} {x : Sm}, SmP P w m cs x → SmP (fun b => P b ∧ b < w.heap.size) w m cs x := by
  intro m
  induction m with
  | zero => intro cs x h; exact h.elim
  | succ m ih =>
    intro cs x h
    cases x with
    | mk k s t es b e =>
      obtain ⟨v1, v2, v3, h1, h2, h3, h4, h5, h6, h7⟩ := h
      exact ⟨v1, v2, v3, h1, h2, h3, h4, h5.old (by decide) fun i c ⟨x, hx, he⟩ => ⟨x, hx, he.old⟩, h6.old (by decide) fun i c ⟨x, hx, he⟩ => ⟨x, hx, ih he⟩, h7.old (by decide) fun i c ⟨x, hx, he⟩ => ⟨x, hx, ih he⟩⟩
theorem RuP.old {P : Nat → Prop} {w : World} {m : Nat} {cs : List Value} {r : Ru} (h : RuP P w m cs r) : RuP (fun b => P b ∧ b < w.heap.size) w m cs r := by
  obtain ⟨c0, c1, c2, c3, v, h1, h2, h3, h4⟩ := h
  exact ⟨c0, c1, c2, c3, v, h1, h2, h3.old, h4.old (by decide) fun i c ⟨x, hx, he⟩ => ⟨x, hx, he.old⟩⟩
theorem RuP.le {P : Nat → Prop} {w : World} {m m' : Nat} {cs : List Value} {r : Ru} (h : RuP P w m cs r) (hm : m ≤ m') : RuP P w m' cs r := by
  obtain ⟨c0, c1, c2, c3, v, h1, h2, h3, h4⟩ := h
  exact ⟨c0, c1, c2, c3, v, h1, h2, h3.le hm, h4.mono (fun _ h => h) fun i c ⟨x, hx, he⟩ => ⟨x, hx, he.le hm⟩⟩

/-- What is asked of a tree's reading in memory. -/
structure TreeLaw {α : Type} (E : Nat → (Nat → Prop) → World → List Value → α → Prop) : Prop where
  stays : ∀ {h h' : Nat} {P Q : Nat → Prop} {w w' : World} {c : List Value} {x : α}, h ≤ h' → (∀ b, P b → Q b) → (∀ b, P b → b < w.heap.size → w'.heap[b]? = w.heap[b]?) → E h P w c x → E h' Q w' c x
  old : ∀ {h : Nat} {P : Nat → Prop} {w : World} {c : List Value} {x : α}, E h P w c x → E h (fun b => P b ∧ b < w.heap.size) w c x

def exT' : Nat → (Nat → Prop) → World → List Value → Ex → Prop := fun h P w c x => ExP P w h c x
def smT' : Nat → (Nat → Prop) → World → List Value → Sm → Prop := fun h P w c x => SmP P w h c x
def ruT' : Nat → (Nat → Prop) → World → List Value → Ru → Prop := fun h P w c x => RuP P w h c x
theorem exLaw : TreeLaw exT' := ⟨fun hh hPQ hw h => (ExP.stays hPQ hw h).le hh, fun h => ExP.old h⟩
theorem smLaw : TreeLaw smT' := ⟨fun hh hPQ hw h => (SmP.stays hPQ hw h).le hh, fun h => SmP.old h⟩
theorem ruLaw : TreeLaw ruT' := ⟨fun hh hPQ hw h => (RuP.stays hPQ hw h).le hh, fun h => RuP.old h⟩

/-- A list that is made: its row is own, from base on; css: its elements' cells. -/
structure GrL {α : Type} (E : Nat → (Nat → Prop) → World → List Value → α → Prop) (h base : Nat) (T : TypeId) (sz : Nat) (w : World) (v : Value) (l : List α) (css : List (List Value)) : Prop where
  len : css.length = l.length
  each : ∀ c ∈ css, c.length = sz
  row : w.ownsRow base T sz v l.length css.flatten
  tree : ∀ (i : Nat) (x : α), l[i]? = some x → ∃ c, css[i]? = some c ∧ E h (fun b => base ≤ b ∧ some b ≠ v.ownBlock) w c x

section
variable {α : Type} {E : Nat → (Nat → Prop) → World → List Value → α → Prop} {h h' base sz : Nat} {T : TypeId} {w w' : World} {v : Value} {l : List α} {css : List (List Value)}

theorem GrL.nil (E : Nat → (Nat → Prop) → World → List Value → α → Prop) (h base : Nat) (T : TypeId) (sz : Nat) (w : World) : GrL E h base T sz w (.slice none 0 0) ([] : List α) [] :=
  ⟨rfl, (fun c hc => by cases hc), World.ownsRow_nil _ _ _ _, (fun i x hx => by simp at hx)⟩

theorem GrL.lit {g : Nat} {c : List Value} {x : α} (hg : Bx g c T w) (hb : base ≤ g) (hc : c.length = sz) (hx : E h (fun b => base ≤ b ∧ b ≠ g) w c x) (law : TreeLaw E) : GrL E h base T sz w (.slice (some ⟨g, 0, none⟩) 1 1) [x] [c] := by
  refine ⟨rfl, fun d hd => by simp at hd; rw [hd]; exact hc, ⟨by simp [hc], .inr ⟨g, 1, c.toArray, rfl, hb, hg, Nat.le_refl _, by simp [maxLen], by simp [hc], by simp [← hc]⟩⟩, fun i y hy => ?_⟩
  match i, hy with
  | 0, hy =>
    simp at hy
    subst hy
    exact ⟨c, rfl, law.stays (Nat.le_refl _) (fun b hb => ⟨hb.1, by simp [Value.ownBlock]; exact hb.2⟩) (fun _ _ _ => rfl) hx⟩

theorem GrL.keep (law : TreeLaw E) (H : GrL E h base T sz w v l css) (hh : h ≤ h') (hb : ∀ b, base ≤ b → b < w.heap.size → w'.heap[b]? = w.heap[b]?) : GrL E h' base T sz w' v l css := by
  refine ⟨H.len, H.each, ⟨H.row.1, ?_⟩, fun i x hx => ?_⟩
  · rcases H.row.2 with hn | ⟨g, cap, cur, h1, h2, h3, h4⟩
    · exact .inl hn
    · have hlt : g < w.heap.size := by
        rcases Nat.lt_or_ge g w.heap.size with h' | h'
        · exact h'
        · rw [Array.getElem?_eq_none h'] at h3; cases h3
      exact .inr ⟨g, cap, cur, h1, h2, (hb g h2 hlt).trans h3, h4⟩
  · obtain ⟨c, h1, h2⟩ := H.tree i x hx
    exact ⟨c, h1, law.stays hh (fun _ h => h) (fun b hP hlt => hb b hP.1 hlt) h2⟩
theorem GrL.but {r : Nat} (law : TreeLaw E) (H : GrL E h base T sz w v l css) (hh : h ≤ h') (hb : But r r w w') (hr : r < base) : GrL E h' base T sz w' v l css :=
  H.keep law hh fun b h1 h2 => hb.block b h2 (by omega) (by omega)
theorem GrL.below (law : TreeLaw E) (H : GrL E h base T sz w v l css) (hh : h ≤ h') (hb : Below w.heap.size w w') : GrL E h' base T sz w' v l css :=
  H.keep law hh fun b _ h2 => hb.block b h2

/-- One more, as append leaves it. -/
theorem GrL.push (law : TreeLaw E) {W : World} {v' : Value} {c : List Value} {x : α} (H : GrL E h base T sz w v l css) (hW : Below w.heap.size w W) (hc : c.length = sz)
    (hx : E h (fun b => base ≤ b ∧ some b ≠ v.ownBlock) w c x) (hrow : w'.ownsRow base T sz v' (l.length + 1) (css.flatten ++ c)) (hg : W.grownBy w' v.ownBlock) (hat : v'.ownBlock = v.ownBlock ∨ v'.ownBlock = some W.heap.size) :
    GrL E h base T sz w' v' (l ++ [x]) (css ++ [c]) := by
  have up : ∀ {d : List Value} {y : α}, E h (fun b => base ≤ b ∧ some b ≠ v.ownBlock) w d y → E h (fun b => base ≤ b ∧ some b ≠ v'.ownBlock) w' d y := fun hy =>
    law.stays (Nat.le_refl _) (fun b hb => ⟨hb.1.1, by
      rcases hat with e | e
      · rw [e]; exact hb.1.2
      · rw [e]
        intro h2
        have h3 : b = W.heap.size := Option.some.inj h2
        have := hW.size
        have := hb.2
        omega⟩) (fun b hb hlt => (hg.block b (Nat.lt_of_lt_of_le hlt hW.size) hb.1.2).trans (hW.block b hlt)) (law.old hy)
  refine ⟨by simp [H.len], fun d hd => ?_, by simpa using hrow, fun i y hy => ?_⟩
  · simp only [List.mem_append, List.mem_singleton] at hd
    rcases hd with hd | rfl
    · exact H.each d hd
    · exact hc
  · by_cases hi : i < l.length
    · rw [List.getElem?_append_left hi] at hy
      obtain ⟨d, h1, h2⟩ := H.tree i y hy
      exact ⟨d, by rw [List.getElem?_append_left (by rw [H.len]; exact hi)]; exact h1, up h2⟩
    · rw [List.getElem?_append_right (by omega)] at hy
      have hi2 : i = l.length := by
        rcases Nat.lt_or_ge (i - l.length) 1 with h1 | h1
        · omega
        · rw [List.getElem?_eq_none (by simpa using h1)] at hy; cases hy
      subst hi2
      simp at hy
      subst hy
      exact ⟨c, by rw [List.getElem?_append_right (by rw [H.len]; exact Nat.le_refl _), H.len]; simp, up hx⟩

theorem flat_at {css : List (List Value)} {sz : Nat} (h : ∀ c ∈ css, c.length = sz) : ∀ {i : Nat} {c : List Value}, css[i]? = some c → ∀ j, j < sz → css.flatten[i * sz + j]? = c[j]? := by
  induction css with
  | nil => intro i c hc; simp at hc
  | cons d css ih =>
    intro i c hc j hj
    have hd : d.length = sz := h d (List.mem_cons_self ..)
    cases i with
    | zero =>
      simp at hc
      subst hc
      rw [List.flatten_cons, List.getElem?_append_left (by omega)]
      simp
    | succ i =>
      rw [List.flatten_cons, List.getElem?_append_right (by rw [hd, Nat.succ_mul]; omega), hd, show (i + 1) * sz + j - sz = i * sz + j by rw [Nat.succ_mul]; omega]
      exact ih (fun c hc => h c (List.mem_cons_of_mem _ hc)) (by simpa using hc) j hj

/-- What was made, as a list in new blocks. -/
theorem GrL.slp (law : TreeLaw E) (hsz : 0 < sz) (hl : l.length ≤ maxLen) (H : GrL E h base T sz w v l css) : SlP (fun b => base ≤ b) w sz v l.length (fun i c => ∃ x, l[i]? = some x ∧ E h (fun b => base ≤ b) w c x) := by
  rcases H.row.2 with ⟨rfl, h0⟩ | ⟨g, cap, cur, rfl, h2, h3, h4, h5, h6, h7⟩
  · rw [h0]; exact SlP.none _ _ _ _
  · refine ⟨_, _, rfl, hl, fun _ => ⟨g, 0, rfl, h2, fun i hi => ?_⟩⟩
    have hx : l[i]? = some l[i] := List.getElem?_eq_getElem hi
    obtain ⟨c, h8, h9⟩ := H.tree i l[i] hx
    refine ⟨c, H.each c (List.mem_of_getElem? h8), fun j hj => ?_, l[i], hx, law.stays (Nat.le_refl _) (fun b hb => hb.1) (fun _ _ _ => rfl) h9⟩
    have hlt : i * sz + j < l.length * sz := by
      have : (i + 1) * sz ≤ l.length * sz := Nat.mul_le_mul_right _ hi
      rw [Nat.succ_mul] at this
      omega
    have := World.ownsRow.cellAt H.row (i * sz + j) hlt
    rw [Nat.zero_add, this]
    exact flat_at H.each h8 j hj
end

theorem cells_new (w : World) (c : List Value) (t : TypeId) : ∀ j u, c[j]? = some u → (w.alloc (.cells c.toArray t)).cell? ((⟨w.heap.size, 0, none⟩ : Addr).add j) = some u := by
  intro j u hj
  have := (Bx.new w c t).cell j
  have e : (⟨w.heap.size, 0, none⟩ : Addr).add j = ⟨w.heap.size, j, none⟩ := by unfold Addr.add; simp; exact fun h => h.symm
  rw [e, this]
  exact hj
end Go.Proofs.YtfbpkbochhfnhaaGreatDoor
