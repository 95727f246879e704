/-
  A region that draws its order, walked once: each operation, from whatever world a fixed relation allows, yields some value of which something lasting is known.
-/
import Derived.Orders
import Derived.Still
import Derived.RowKit
namespace Go.Proofs.YtgijbdhbecnkbaaGreatDoor
set_option linter.unusedVariables false
set_option linter.unusedSimpArgs false
section
variable {P : Program} {ops : Array Oper}
def Oyields (P : Program) (o : Oper) (a : Act) (w : World) (N : Value -> World -> Prop) : Prop :=
 match (execOp a.eval o).run P w with
 | .ok (.value v) w' => N v w'
 | .ok .skip w' => N undef w'
 | .ok (.enter f args) w' => Calls P f args w' fun e w'' => ∃ v, e = .returned v /\ N v w''
 | .ok (.row row args) w' => Rows P row args w' N
 | _ => False
def dstOf (ops : Array Oper) (j : Nat) : Option Tmp := (ops[j]?).bind (·.dst)
def loadedA (ops : Array Oper) (vs : Nat -> Value) : List Nat -> Act -> Act
 | [], a => a
 | j :: D, a => loadedA ops vs D (a.put (dstOf ops j) (vs j))
def depsOf (o : Oper) : List Nat := (o.after.toList.filter fun e => Region.binds .any e).map (·.on)
def Haves (T : Nat -> Value -> World -> Prop) (vs : Nat -> Value) (w : World) : List Nat -> Prop
 | [] => True
 | j :: D => T j (vs j) w /\ Haves T vs w D
def looseB (ops : Array Oper) : Bool :=
 Region.noSelect ops &&
 ((List.range ops.size).all fun i => match ops[i]? with
   | none => false
   | some o => o.guard.isNone && (depsOf o).all (fun j => decide (j < i)) && (List.range ops.size).all (fun j => decide (j = i) || match dstOf ops j with
    | none => true
    | some d => o.dst != some d && (!(o.looksAt ops).contains d || (depsOf o).contains j)))
theorem looseB_spec (h : looseB ops = true) : Region.noSelect ops = true /\ ∀ (i : Nat) (o : Oper), ops[i]? = some o -> o.guard = none /\ (∀ j ∈ depsOf o, j < i) /\ ∀ j, j < ops.size -> j ≠ i -> ∀ d, dstOf ops j = some d -> o.dst ≠ some d /\ (d ∈ o.looksAt ops -> j ∈ depsOf o) := by
 unfold looseB at h
 rw [Bool.and_eq_true] at h
 refine ⟨h.1, fun i o ho => ?_⟩
 have hi : i < ops.size := (Array.getElem?_eq_some_iff.1 ho).1
 have h2 := List.all_eq_true.1 h.2 i (List.mem_range.2 hi)
 rw [ho] at h2
 simp only [Bool.and_eq_true] at h2
 refine ⟨Option.isNone_iff_eq_none.1 h2.1.1, fun j hj => of_decide_eq_true (List.all_eq_true.1 h2.1.2 j hj), fun j hj hne d hd => ?_⟩
 have h3 := List.all_eq_true.1 h2.2 j (List.mem_range.2 hj)
 rw [hd] at h3
 simp only [hne, decide_false, Bool.false_or, Bool.and_eq_true, Bool.or_eq_true, Bool.not_eq_true', bne_iff_ne, ne_eq] at h3
 refine ⟨h3.1, fun hm => ?_⟩
 rcases h3.2 with h4 | h4
 . rw [List.contains_iff_mem.2 hm] at h4; cases h4
 . exact List.contains_iff_mem.1 h4
theorem put_size (a : Act) (d : Option Tmp) (v : Value) : (a.put d v).tmps.size = a.tmps.size /\ (a.put d v).defers = a.defers := by
 cases d <;> simp [Act.put]
theorem put_ne (a : Act) (d : Option Tmp) (v : Value) (t : Nat) (h : d ≠ some t) : (a.put d v).tmps[t]? = a.tmps[t]? := by
 cases d with
 | none => rfl
 | some d =>
  have hne : d ≠ t := fun e => h (by rw [e])
  simp [Act.put, Array.getElem?_setIfInBounds_ne hne]
theorem put_same (a : Act) (v : Value) (t : Nat) (h : t < a.tmps.size) : (a.put (some t) v).tmps[t]? = some v := by
 simp [Act.put, h]
theorem loadedA_size (vs : Nat -> Value) : ∀ (D : List Nat) (a : Act), (loadedA ops vs D a).tmps.size = a.tmps.size /\ (loadedA ops vs D a).defers = a.defers
 | [], a => ⟨rfl, rfl⟩
 | j :: D, a => by
  have h := loadedA_size vs D (a.put (dstOf ops j) (vs j))
  have h2 := put_size a (dstOf ops j) (vs j)
  exact ⟨h.1.trans h2.1, h.2.trans h2.2⟩
theorem loadedA_ne (vs : Nat -> Value) (t : Nat) : ∀ (D : List Nat) (a : Act), (∀ j ∈ D, dstOf ops j ≠ some t) -> (loadedA ops vs D a).tmps[t]? = a.tmps[t]?
 | [], a, _ => rfl
 | j :: D, a, h => by
  unfold loadedA
  rw [loadedA_ne vs t D _ fun k hk => h k (List.mem_cons_of_mem _ hk)]
  exact put_ne _ _ _ _ (h j (List.mem_cons_self ..))
theorem loadedA_eq (hU : ∀ i j t, dstOf ops i = some t -> dstOf ops j = some t -> i = j) (vs : Nat -> Value) (t k : Nat) (hk : dstOf ops k = some t) : ∀ (D : List Nat) (a : Act), k ∈ D -> t < a.tmps.size -> (loadedA ops vs D a).tmps[t]? = some (vs k)
 | [], a, h, _ => by cases h
 | j :: D, a, h, ht => by
  unfold loadedA
  by_cases hm : k ∈ D
  . exact loadedA_eq hU vs t k hk D _ hm (by rw [(put_size _ _ _).1]; exact ht)
  . have hj : k = j := by
     rcases List.mem_cons.1 h with h | h
     . exact h
     . exact absurd h hm
    subst hj
    rw [loadedA_ne vs t D _ fun i hi e => hm (by rw [hU k i t hk e]; exact hi), hk]
    exact put_same _ _ _ ht
theorem loadedA_congr (vs us : Nat -> Value) : ∀ (D : List Nat) (a : Act), (∀ j ∈ D, vs j = us j) -> loadedA ops vs D a = loadedA ops us D a
 | [], a, _ => rfl
 | j :: D, a, h => by
  unfold loadedA
  rw [h j (List.mem_cons_self ..)]
  exact loadedA_congr vs us D _ fun k hk => h k (List.mem_cons_of_mem _ hk)
theorem loadedA_snoc (vs : Nat -> Value) (i : Nat) : ∀ (D : List Nat) (a : Act), loadedA ops vs (D ++ [i]) a = (loadedA ops vs D a).put (dstOf ops i) (vs i)
 | [], a => rfl
 | j :: D, a => by
  rw [List.cons_append]
  unfold loadedA
  exact loadedA_snoc vs i D _
theorem Haves_iff {T : Nat -> Value -> World -> Prop} {vs : Nat -> Value} {w : World} : ∀ {D : List Nat}, Haves T vs w D ↔ ∀ j ∈ D, T j (vs j) w
 | [] => ⟨fun _ j h => by (cases h), fun _ => trivial⟩
 | j :: D => by
  unfold Haves
  rw [Haves_iff, List.forall_mem_cons]
def weighs (wt : Nat -> Nat) (L : List Nat) : Nat -> Nat
 | 0 => 0
 | k + 1 => weighs wt L k + if k ∈ L then wt k else 0
theorem weighs_snoc (wt : Nat -> Nat) (L : List Nat) (i : Nat) (hi : i ∉ L) : ∀ k, weighs wt (L ++ [i]) k = weighs wt L k + if i < k then wt i else 0
 | 0 => by simp [weighs]
 | k + 1 => by
  unfold weighs
  rw [weighs_snoc wt L i hi k]
  by_cases hk : k = i
  . subst hk
    simp [hi]
  . by_cases hl : i < k
    . have : i < k + 1 := by omega
      simp [hk, hl, this]; omega
    . have : ¬ i < k + 1 := by omega
      simp [hk, hl, this]
theorem weighs_le (wt : Nat -> Nat) (L : List Nat) : ∀ k n, k <= n -> weighs wt L k <= weighs wt (List.range n) k
 | 0, _, _ => Nat.le_refl _
 | k + 1, n, h => by
  unfold weighs
  have := weighs_le wt L k n (by omega)
  have h2 : k ∈ List.range n := List.mem_range.2 (by omega)
  rw [if_pos h2]
  split <;> omega
theorem weighs_one (L : List Nat) : ∀ k, weighs (fun _ => 1) L k <= k /\ (weighs (fun _ => 1) L k = k -> ∀ i, i < k -> i ∈ L)
 | 0 => ⟨Nat.le_refl _, fun _ i h => absurd h (Nat.not_lt_zero i)⟩
 | k + 1 => by
  have ih := weighs_one L k
  unfold weighs
  by_cases hk : k ∈ L
  . rw [if_pos hk]
    refine ⟨by omega, fun h i hi => ?_⟩
    by_cases e : i = k
    . rw [e]; exact hk
    . exact ih.2 (by omega) i (by omega)
  . rw [if_neg hk]
    exact ⟨by omega, fun h => by omega⟩
def Parts3 (P : Program) (ops : Array Oper) (T : Nat -> Value -> World -> Prop) (R : World -> World -> Prop) (S : Nat -> World -> Prop) (wt : Nat -> Nat) (tot : Nat) (a : Act) : Nat -> List Oper -> Prop
 | _, [] => True
 | k, o :: l => (∀ (vs : Nat -> Value) (n : Nat) (w : World), S n w -> n + wt k <= tot -> Haves T vs w (depsOf o) -> Oyields P o (loadedA ops vs (depsOf o) a) w fun v w' => T k v w' /\ R w w' /\ S (n + wt k) w') /\ Parts3 P ops T R S wt tot a (k + 1) l
theorem Parts3.get {T : Nat -> Value -> World -> Prop} {R : World -> World -> Prop} {S : Nat -> World -> Prop} {wt : Nat -> Nat} {tot : Nat} {a : Act} : ∀ {k : Nat} {l : List Oper}, Parts3 P ops T R S wt tot a k l -> ∀ (i : Nat) (o : Oper), l[i]? = some o ->
 ∀ (vs : Nat -> Value) (n : Nat) (w : World), S n w -> n + wt (k + i) <= tot -> Haves T vs w (depsOf o) -> Oyields P o (loadedA ops vs (depsOf o) a) w fun v w' => T (k + i) v w' /\ R w w' /\ S (n + wt (k + i)) w'
 | _, [], _, _, _, h => by cases h
 | k, o :: l, hp, 0, _, h => by
  simp only [List.getElem?_cons_zero, Option.some.injEq] at h
  subst h
  exact hp.1
 | k, o :: l, hp, i + 1, _, h => by
  simp only [List.getElem?_cons_succ] at h
  have := Parts3.get hp.2 i _ h
  rwa [show k + 1 + i = k + (i + 1) by omega] at this
structure Came (ops : Array Oper) (listed : Array Bool) (L : List Nat) : Prop where
 nd : L.Nodup
 lt : ∀ i ∈ L, i < ops.size
 is : ∀ i, i < ops.size -> (listed.getD i false = true ↔ i ∈ L)
 sz : listed.size = ops.size
theorem Came.set {listed : Array Bool} {L : List Nat} (h : Came ops listed L) {i : Nat} (hi : i < ops.size) (hn : i ∉ L) : Came ops (listed.setIfInBounds i true) (L ++ [i]) := by
 refine ⟨List.nodup_append.2 ⟨h.nd, by simp, fun a ha b hb => by (rw [List.mem_singleton] at hb; subst hb; intro e; subst e; exact hn ha)⟩, fun j hj => ?_, fun j hj => ?_, by rw [Array.size_setIfInBounds]; exact h.sz⟩
 . rcases List.mem_append.1 hj with hj | hj
   . exact h.lt j hj
   . rw [List.mem_singleton] at hj; subst hj; exact hi
 . rw [List.mem_append, List.mem_singleton]
   by_cases e : i = j
   . subst e
     have := h.sz
     simp [hi, this]
   . rw [getD_set_ne false e, h.is j hj]
     exact ⟨.inl, fun h => h.elim id fun h => absurd h.symm e⟩
theorem Came.ready {listed : Array Bool} {L : List Nat} (h : Came ops listed L) {i : Nat} (hr : i ∈ Region.ready .any ops listed) : i < ops.size /\ i ∉ L /\ ∃ o, ops[i]? = some o /\ ∀ j ∈ depsOf o, j < ops.size -> j ∈ L := by
 obtain ⟨h0, o, ho, ha⟩ := mem_ready.1 hr
 have hi : i < ops.size := (Array.getElem?_eq_some_iff.1 ho).1
 refine ⟨hi, fun hm => ?_, o, ho, fun j hj hjs => ?_⟩
 . have h1 := (h.is i hi).2 hm
   have hs : i < listed.size := by rw [h.sz]; exact hi
   simp only [Array.getD_eq_getD_getElem?, Array.getElem?_eq_getElem hs, Option.getD_some] at h0 h1
   rw [h0] at h1
   cases h1
 . obtain ⟨e, he, rfl⟩ := List.mem_map.1 hj
   rw [List.mem_filter] at he
   exact (h.is _ hjs).1 (ha e (Array.mem_toList_iff.1 he.1) he.2)
theorem Came.all (hB : looseB ops = true) {listed : Array Bool} {L : List Nat} (h : Came ops listed L) (hr : Region.ready .any ops listed = []) : ∀ i, i < ops.size -> i ∈ L := by
 intro i
 induction i using Nat.strongRecOn with
 | ind i ih =>
  intro hi
  refine Classical.byContradiction fun hn => ?_
  have ho : ops[i]? = some ops[i] := Array.getElem?_eq_getElem hi
  have hs : i < listed.size := by rw [h.sz]; exact hi
  have : i ∈ Region.ready .any ops listed := by
   refine mem_ready.2 ⟨?_, _, ho, fun e he hb => ?_⟩
   . cases e : listed.getD i true with
     | false => rfl
     | true =>
      refine absurd ((h.is i hi).1 ?_) hn
      simp only [Array.getD_eq_getD_getElem?, Array.getElem?_eq_getElem hs, Option.getD_some] at e ⊢
      exact e
   . have hj : e.on ∈ depsOf ops[i] := List.mem_map.2 ⟨e, List.mem_filter.2 ⟨Array.mem_toList_iff.2 he, hb⟩, rfl⟩
     have hl := ((looseB_spec hB).2 i _ ho).2.1 _ hj
     exact (h.is _ (by omega)).2 (ih _ hl (by omega))
  rw [hr] at this
  cases this
theorem loose_any {Q : Exit -> Act -> World -> Prop} {T : Nat -> Value -> World -> Prop} {R : World -> World -> Prop} {S : Nat -> World -> Prop} {wt : Nat -> Nat} {a : Act} (hB : looseB ops = true)
 (hR : ∀ j v w w', T j v w -> R w w' -> T j v w') (hO : Parts3 P ops T R S wt (weighs wt (List.range ops.size) ops.size) a 0 ops.toList)
 (hQ : ∀ (vs : Nat -> Value) (w : World), S (weighs wt (List.range ops.size) ops.size) w -> Haves T vs w (List.range ops.size) -> Q .normal (loadedA ops vs (List.range ops.size) a) w) :
 ∀ (fuel : Nat) (listed : Array Bool) (L : List Nat) (vs : Nat -> Value) (w : World), Came ops listed L -> weighs (fun _ => 1) L ops.size + fuel = ops.size -> (∀ j ∈ L, T j (vs j) w) -> S (weighs wt L ops.size) w -> wpAny P .any ops Q fuel listed (loadedA ops vs L a) w := by
 have hs := looseB_spec hB
 have hU : ∀ i j t, dstOf ops i = some t -> dstOf ops j = some t -> i = j := fun i j t hi hj => by
  refine Classical.byContradiction fun hne => ?_
  have get : ∀ {k u}, dstOf ops k = some u -> ∃ o, ops[k]? = some o /\ o.dst = some u := fun {k u} h => by
   unfold dstOf at h
   cases e : ops[k]? with
   | none => rw [e] at h; cases h
   | some o => rw [e] at h; exact ⟨o, rfl, h⟩
  obtain ⟨o, ho, hd⟩ := get hi
  obtain ⟨o2, ho2, -⟩ := get hj
  exact ((hs.2 i o ho).2.2 j (Array.getElem?_eq_some_iff.1 ho2).1 (Ne.symm hne) t hj).1 hd
 have fin : ∀ (listed : Array Bool) (L : List Nat) (vs : Nat -> Value) (w : World), Came ops listed L -> (∀ j ∈ L, T j (vs j) w) -> S (weighs wt L ops.size) w -> (∀ i, i < ops.size -> i ∈ L) -> Q .normal (loadedA ops vs L a) w := by
  intro listed L vs w hc hT hS hall
  have e1 : loadedA ops vs L a = loadedA ops vs (List.range ops.size) a := by
   have z1 := loadedA_size (ops := ops) vs L a
   have z2 := loadedA_size (ops := ops) vs (List.range ops.size) a
   have : (loadedA ops vs L a).tmps = (loadedA ops vs (List.range ops.size) a).tmps := by
    refine Array.ext_getElem? fun t => ?_
    by_cases ht : t < a.tmps.size
    . by_cases hd : ∃ k, k < ops.size /\ dstOf ops k = some t
      . obtain ⟨k, hk, hd⟩ := hd
        rw [loadedA_eq hU vs t k hd L a (hall k hk) ht, loadedA_eq hU vs t k hd _ a (List.mem_range.2 hk) ht]
      . rw [loadedA_ne vs t L a fun j hj e => hd ⟨j, hc.lt j hj, e⟩, loadedA_ne vs t _ a fun j hj e => hd ⟨j, List.mem_range.1 hj, e⟩]
    . rw [Array.getElem?_eq_none (by omega), Array.getElem?_eq_none (by omega)]
   cases h1 : loadedA ops vs L a with
   | mk t1 d1 =>
    cases h2 : loadedA ops vs (List.range ops.size) a with
    | mk t2 d2 =>
     rw [h1, h2] at this
     rw [h1] at z1
     rw [h2] at z2
     simp only at this z1 z2
     rw [this, z1.2, z2.2]
  have e2 : ∀ k, k <= ops.size -> weighs wt L k = weighs wt (List.range ops.size) k := by
   intro k
   induction k with
   | zero => intro _; rfl
   | succ k ih =>
    intro hk
    unfold weighs
    rw [ih (by omega), if_pos (hall k (by omega)), if_pos (List.mem_range.2 (by omega))]
  rw [e1]
  rw [e2 _ (Nat.le_refl _)] at hS
  exact hQ vs w hS (Haves_iff.2 fun j hj => hT j (hall j (List.mem_range.1 hj)))
 intro fuel
 induction fuel with
 | zero =>
  intro listed L vs w hc hl hT hS
  have hall : ∀ i, i < ops.size -> i ∈ L := (weighs_one L ops.size).2 (by omega)
  refine ⟨?_, fin listed L vs w hc hT hS hall⟩
  cases hr : Region.ready .any ops listed with
  | nil => rfl
  | cons i r =>
   have := hc.ready (i := i) (by rw [hr]; exact List.mem_cons_self ..)
   exact absurd (hall i this.1) this.2.1
 | succ fuel ih =>
  intro listed L vs w hc hl hT hS
  refine ⟨fun hr => fin listed L vs w hc hT hS (hc.all hB hr), fun i hi => ?_⟩
  obtain ⟨his, hnL, o, ho, hdep⟩ := hc.ready hi
  obtain ⟨hg, hlt, hlook⟩ := hs.2 i o ho
  have hdL : ∀ j ∈ depsOf o, j ∈ L := fun j hj => hdep j hj (by have := hlt j hj; omega)
  have hw : weighs wt L ops.size + wt i <= weighs wt (List.range ops.size) ops.size := by
   have h1 := weighs_snoc wt L i hnL ops.size
   rw [if_pos his] at h1
   have h2 := weighs_le wt (L ++ [i]) ops.size ops.size (Nat.le_refl _)
   omega
  have key := Parts3.get hO i o (by rw [Array.getElem?_toList]; exact ho) vs (weighs wt L ops.size) w hS (by rw [Nat.zero_add]; exact hw) (Haves_iff.2 fun j hj => hT j (hdL j hj))
  rw [Nat.zero_add] at key
  have hev : execOp (loadedA ops vs L a).eval o = execOp (loadedA ops vs (depsOf o) a).eval o := by
   refine execOp_congr o (fun cs b => Region.noSelect_spec hs.1 i o cs b ho) fun x hx => ?_
   cases x with
   | tmp t =>
    have z1 := (loadedA_size (ops := ops) vs L a).1
    have z2 := (loadedA_size (ops := ops) vs (depsOf o) a).1
    have ht : t ∈ o.looksAt ops := List.mem_append_left _ (List.mem_filterMap.2 ⟨.tmp t, by simpa using hx, rfl⟩)
    have hoi : ∀ j, j ∈ L -> j ≠ i := fun j hj e => hnL (e ▸ hj)
    show (loadedA ops vs L a).tmps.getD t undef = (loadedA ops vs (depsOf o) a).tmps.getD t undef
    have : (loadedA ops vs L a).tmps[t]? = (loadedA ops vs (depsOf o) a).tmps[t]? := by
     by_cases hts : t < a.tmps.size
     . by_cases hd : ∃ k, k ∈ L /\ dstOf ops k = some t
       . obtain ⟨k, hk, hd⟩ := hd
         have := (hlook k (hc.lt k hk) (hoi k hk) t hd).2 ht
         rw [loadedA_eq hU vs t k hd L a hk hts, loadedA_eq hU vs t k hd _ a this hts]
       . rw [loadedA_ne vs t L a fun j hj e => hd ⟨j, hj, e⟩, loadedA_ne vs t _ a fun j hj e => hd ⟨j, hdL j hj, e⟩]
     . rw [Array.getElem?_eq_none (by rw [z1]; exact Nat.le_of_not_lt hts), Array.getElem?_eq_none (by rw [z2]; exact Nat.le_of_not_lt hts)]
    simp only [Array.getD_eq_getD_getElem?, this]
   | _ => rfl
  have hwant : Region.wanted o (yielded ops (loadedA ops vs L a).tmps) = true := by
   unfold Region.wanted
   rw [hg]
  unfold wpOp
  rw [ho]
  simp only [hwant, if_true]
  refine .inl ?_
  have step : ∀ v w', T i v w' /\ R w w' /\ S (weighs wt L ops.size + wt i) w' -> wpAny P .any ops Q fuel (listed.setIfInBounds i true) ((loadedA ops vs L a).put o.dst v) w' := by
   rintro v w' ⟨hTi, hRw, hSn⟩
   have hd : dstOf ops i = o.dst := by unfold dstOf; rw [ho]; rfl
   have e : (loadedA ops vs L a).put o.dst v = loadedA ops (fun j => if j = i then v else vs j) (L ++ [i]) a := by
    rw [loadedA_snoc, hd, if_pos rfl, loadedA_congr (fun j => if j = i then v else vs j) vs L a fun j hj => if_neg fun e2 : j = i => hnL (e2 ▸ hj)]
   rw [e]
   refine ih _ _ _ w' (hc.set his hnL) (by rw [weighs_snoc _ L i hnL, if_pos his]; omega) (fun j hj => ?_) ?_
   . rcases List.mem_append.1 hj with hj | hj
     . rw [if_neg fun e2 : j = i => hnL (e2 ▸ hj)]
       exact hR j _ w w' (hT j hj) hRw
     . rw [List.mem_singleton] at hj
       subst hj
       rw [if_pos rfl]
       exact hTi
   . rw [weighs_snoc wt L i hnL, if_pos his]
     exact hSn
  unfold Oper.wp
  unfold Oyields at key
  rw [hev]
  generalize (execOp (loadedA ops vs (depsOf o) a).eval o).run P w = r at key
  cases r with
  | ok n w' =>
   cases n <;> simp only [Oper.upon] at key ⊢
   case value v => exact step v w' key
   case skip => exact step _ w' key
   case enter f args => exact key.mono fun e w'' ⟨v, he, hh⟩ => by subst he; exact step v w'' hh
   case row row args => exact key.mono fun v w'' hh => step v w'' hh
  | halt x w' => simp only at key
theorem wp_region_loose {id : Nat} {Q : Exit -> Act -> World -> Prop} {a : Act} {w : World} (T : Nat -> Value -> World -> Prop) (R : World -> World -> Prop) (S : Nat -> World -> Prop) (wt : Nat -> Nat) (tot : Nat) (hm : P.follows .mixedOrders = true) (hB : looseB ops = true)
 (ht : weighs wt (List.range ops.size) ops.size = tot) (hR : ∀ j v w w', T j v w -> R w w' -> T j v w') (h0 : S 0 { w with drawn := w.drawn + 1 }) (hO : Parts3 P ops T R S wt tot a 0 ops.toList)
 (hQ : ∀ (vs : Nat -> Value) (w : World), S tot w -> Haves T vs w (List.range ops.size) -> Q .normal (loadedA ops vs (List.range ops.size) a) w) : (Code.region id ops true).wp P Q a w := by
 subst ht
 refine wp_region_any hm ?_
 have hzz : ∀ (g : Nat -> Nat) k, weighs g [] k = 0 := by
  intro g k
  induction k with
  | zero => rfl
  | succ k ih => unfold weighs; rw [ih]; simp
 have hz := hzz wt
 have hz1 := hzz (fun _ => 1)
 refine loose_any hB hR hO hQ ops.size (Array.replicate ops.size false) [] (fun _ => undef) _ ⟨List.nodup_nil, fun _ h => (by cases h), fun i hi => ?_, by simp⟩ (by rw [hz1, Nat.zero_add]) (fun _ h => by cases h) ?_
 . simp [hi]
 . rw [hz]; exact h0
end
end Go.Proofs.YtgijbdhbecnkbaaGreatDoor
