/-
  A region that draws its order, walked once: each operation, from whatever world a fixed relation allows, yields some value of which something lasting is known. / What is run of an operation, by its kind: for regions walked once. / The maker's functions looked at by their operations: what is known of each value that a function's slots hold, computed from its code; and that this is so.
-/
import Derived.Orders
import Derived.Still
import Derived.RowKit
import Derived.WalkKit
import Derived.ProofKit
import Derived.Test.YtppcohadoilpgaaGreatDoorSrcSpec
namespace Go.Proofs.YtppcohadoilpgaaGreatDoor
set_option linter.unusedVariables false
set_option linter.unusedSimpArgs false
section
variable {P : Program} {ops : Array Oper}
def Bu (P:Program) (o:Oper) (a:Act) (w:World) (N:Value->World->Prop):Prop :=
 match (execOp a.eval o).run P w with
 | .ok (.value v) w'=>N v w'
 | .ok .skip w'=>N undef w'
 | .ok (.enter f args) w'=>Calls P f args w' fun e w''=>∃v,e = .returned v/\N v w''
 | .ok (.row row args) w'=>Rows P row args w' N
 | _=>False
def Cc (ops:Array Oper) (j:Nat):Option Tmp:=(ops[j]?).bind (·.dst)
def Aw (ops:Array Oper) (vs:Nat->Value):List Nat->Act->Act
 | [],a=>a
 | j :: D,a=>Aw ops vs D (a.put (Cc ops j) (vs j))
def Bg (o:Oper):List Nat:=(o.after.toList.filter fun e=>Region.binds .any e).map (·.on)
def Ih (T:Nat->Value->World->Prop) (vs:Nat->Value) (w:World):List Nat->Prop
 | []=>True
 | j :: D=>T j (vs j) w/\Ih T vs w D
def G8 (ops:Array Oper):Bool :=
 Region.noSelect ops &&
 ((List.range ops.size).all fun i=>match ops[i]? with
   | none=>false
   | some o=>o.guard.isNone && (Bg o).all (fun j=>decide (j<i)) && (List.range ops.size).all (fun j=>decide (j=i) || match Cc ops j with
    | none=>true
    | some d=>o.dst != some d && (!(o.looksAt ops).contains d || (Bg o).contains j)))
theorem G9 (h:G8 ops=true):Region.noSelect ops=true/\∀(i:Nat) (o:Oper),ops[i]? = some o->o.guard=none/\(∀j ∈ Bg o,j<i)/\∀j,j<ops.size->j ≠ i->∀d,Cc ops j=some d->o.dst ≠ some d/\(d ∈ o.looksAt ops->j ∈ Bg o):=by
 unfold G8 at h;rw [Bool.and_eq_true] at h;refine⟨h.1,fun i o ho=>?_⟩;have hi:i<ops.size:=(Array.getElem?_eq_some_iff.1 ho).1;have h2:=List.all_eq_true.1 h.2 i (List.mem_range.2 hi);rw [ho] at h2;simp only [Bool.and_eq_true] at h2;refine⟨Option.isNone_iff_eq_none.1 h2.1.1,fun j hj=>of_decide_eq_true (List.all_eq_true.1 h2.1.2 j hj),fun j hj hne d hd=>?_⟩;have h3:=List.all_eq_true.1 h2.2 j (List.mem_range.2 hj);rw [hd] at h3;simp only [hne,decide_false,Bool.false_or,Bool.and_eq_true,Bool.or_eq_true,Bool.not_eq_true',bne_iff_ne,ne_eq] at h3;refine⟨h3.1,fun hm=>?_⟩;rcases h3.2 with h4 | h4
 . rw [List.contains_iff_mem.2 hm] at h4;cases h4
 . exact List.contains_iff_mem.1 h4
theorem I2 (a:Act) (d:Option Tmp) (v:Value):(a.put d v).tmps.size=a.tmps.size/\(a.put d v).defers=a.defers:=by
 cases d <;> simp [Act.put]
theorem Zc (a:Act) (d:Option Tmp) (v:Value) (t:Nat) (h:d ≠ some t):(a.put d v).tmps[t]? = a.tmps[t]? := by
 cases d with
 | none=>rfl
 | some d =>
  have hne:d ≠ t:=fun e=>h (by rw [e]);simp [Act.put,Array.getElem?_setIfInBounds_ne hne]
theorem R1 (a:Act) (v:Value) (t:Nat) (h:t<a.tmps.size):(a.put (some t) v).tmps[t]? = some v:=by
 simp [Act.put,h]
theorem Cr (vs:Nat->Value):∀(D:List Nat) (a:Act),(Aw ops vs D a).tmps.size=a.tmps.size/\(Aw ops vs D a).defers=a.defers
 | [],a=>⟨rfl,rfl⟩
 | j :: D,a=>by
  have h:=Cr vs D (a.put (Cc ops j) (vs j));have h2:=I2 a (Cc ops j) (vs j);exact⟨h.1.trans h2.1,h.2.trans h2.2⟩
theorem Cy (vs:Nat->Value) (t:Nat):∀(D:List Nat) (a:Act),(∀j ∈ D,Cc ops j ≠ some t)->(Aw ops vs D a).tmps[t]? = a.tmps[t]?
 | [],a,_=>rfl
 | j :: D,a,h=>by
  unfold Aw;rw [Cy vs t D _ fun k hk=>h k (List.mem_cons_of_mem _ hk)];exact Zc _ _ _ _ (h j (List.mem_cons_self ..))
theorem Db (hU:∀i j t,Cc ops i=some t->Cc ops j=some t->i=j) (vs:Nat->Value) (t k:Nat) (hk:Cc ops k=some t):∀(D:List Nat) (a:Act),k ∈ D->t<a.tmps.size->(Aw ops vs D a).tmps[t]? = some (vs k)
 | [],a,h,_=>by cases h
 | j :: D,a,h,ht=>by
  unfold Aw
  by_cases hm:k ∈ D
  . exact Db hU vs t k hk D _ hm (by rw [(I2 _ _ _).1];exact ht)
  . have hj:k=j:=by
     rcases List.mem_cons.1 h with h | h
     . exact h
     . exact absurd h hm
    subst hj;rw [Cy vs t D _ fun i hi e=>hm (by rw [hU k i t hk e];exact hi),hk];exact R1 _ _ _ ht
theorem H5 (vs us:Nat->Value):∀(D:List Nat) (a:Act),(∀j ∈ D,vs j=us j)->Aw ops vs D a=Aw ops us D a
 | [],a,_=>rfl
 | j :: D,a,h=>by
  unfold Aw;rw [h j (List.mem_cons_self ..)];exact H5 vs us D _ fun k hk=>h k (List.mem_cons_of_mem _ hk)
theorem I0 (vs:Nat->Value) (i:Nat):∀(D:List Nat) (a:Act),Aw ops vs (D ++ [i]) a=(Aw ops vs D a).put (Cc ops i) (vs i)
 | [],a=>rfl
 | j :: D,a=>by
  rw [List.cons_append];unfold Aw;exact I0 vs i D _
theorem Ez {T:Nat->Value->World->Prop} {vs:Nat->Value} {w:World}:∀ {D:List Nat},Ih T vs w D ↔ ∀j ∈ D,T j (vs j) w
 | []=>⟨fun _ j h=>by (cases h),fun _=>trivial⟩
 | j :: D=>by
  unfold Ih;rw [Ez,List.forall_mem_cons]
def A7 (wt:Nat->Nat) (L:List Nat):Nat->Nat
 | 0=>0
 | k+1=>A7 wt L k+if k ∈ L then wt k else 0
theorem Fw (wt:Nat->Nat) (L:List Nat) (i:Nat) (hi:i ∉ L):∀k,A7 wt (L ++ [i]) k=A7 wt L k+if i<k then wt i else 0
 | 0=>by simp [A7]
 | k+1=>by
  unfold A7;rw [Fw wt L i hi k]
  by_cases hk:k=i
  . subst hk;simp [hi]
  . by_cases hl:i<k
    . have:i<k+1:=by omega
      simp [hk,hl,this];omega
    . have:¬i<k+1:=by omega
      simp [hk,hl,this]
theorem Oc (wt:Nat->Nat) (L:List Nat):∀k n,k<=n->A7 wt L k<=A7 wt (List.range n) k
 | 0,_,_=>Nat.le_refl _
 | k+1,n,h=>by
  unfold A7;have:=Oc wt L k n (by omega);have h2:k ∈ List.range n:=List.mem_range.2 (by omega);rw [if_pos h2];split <;> omega
theorem Mp (L:List Nat):∀k,A7 (fun _=>1) L k<=k/\(A7 (fun _=>1) L k=k->∀i,i<k->i ∈ L)
 | 0=>⟨Nat.le_refl _,fun _ i h=>absurd h (Nat.not_lt_zero i)⟩
 | k+1=>by
  have ih:=Mp L k;unfold A7
  by_cases hk:k ∈ L
  . rw [if_pos hk];refine⟨by omega,fun h i hi=>?_⟩
    by_cases e:i=k
    . rw [e];exact hk
    . exact ih.2 (by omega) i (by omega)
  . rw [if_neg hk];exact⟨by omega,fun h=>by omega⟩
def Kv (P:Program) (ops:Array Oper) (T:Nat->Value->World->Prop) (R:World->World->Prop) (S:Nat->World->Prop) (wt:Nat->Nat) (tot:Nat) (a:Act):Nat->List Oper->Prop
 | _,[]=>True
 | k,o :: l=>(∀(vs:Nat->Value) (n:Nat) (w:World),S n w->n+wt k<=tot->Ih T vs w (Bg o)->Bu P o (Aw ops vs (Bg o) a) w fun v w'=>T k v w'/\R w w'/\S (n+wt k) w')/\Kv P ops T R S wt tot a (k+1) l
def Aey (ops:Array Oper) (wt:Nat->Nat) (k:Nat):Nat:=A7 wt ((List.range ops.size).filter fun j=>decide (j ≠ k) && (match ops[j]? with | some o=> !(Bg o).contains k | none=>false)) ops.size
def Gx (P:Program) (ops:Array Oper) (T:Nat->Value->World->Prop) (R:Nat->World->World->Prop) (S:Nat->World->Prop) (wt:Nat->Nat) (tot:Nat) (a:Act):Nat->List Oper->Prop
 | _,[]=>True
 | k,o :: l=>(∀(vs:Nat->Value) (n:Nat) (w:World),S n w->n+wt k<=tot->n<=Aey ops wt k->Ih T vs w (Bg o)->Bu P o (Aw ops vs (Bg o) a) w fun v w'=>T k v w'/\R k w w'/\S (n+wt k) w')/\Gx P ops T R S wt tot a (k+1) l
theorem Kv.more {T:Nat->Value->World->Prop} {R:World->World->Prop} {S:Nat->World->Prop} {wt:Nat->Nat} {tot:Nat} {a:Act}:∀ {k:Nat} {l:List Oper},Kv P ops T R S wt tot a k l->Gx P ops T (fun _=>R) S wt tot a k l
 | _,[],_=>trivial
 | _,_ :: _,h=>⟨fun vs n w h1 h2 _ h3=>h.1 vs n w h1 h2 h3,h.2.more⟩
theorem Gx.get {T:Nat->Value->World->Prop} {R:Nat->World->World->Prop} {S:Nat->World->Prop} {wt:Nat->Nat} {tot:Nat} {a:Act}:∀ {k:Nat} {l:List Oper},Gx P ops T R S wt tot a k l->∀(i:Nat) (o:Oper),l[i]? = some o ->
 ∀(vs:Nat->Value) (n:Nat) (w:World),S n w->n+wt (k+i)<=tot->n<=Aey ops wt (k+i)->Ih T vs w (Bg o)->Bu P o (Aw ops vs (Bg o) a) w fun v w'=>T (k+i) v w'/\R (k+i) w w'/\S (n+wt (k+i)) w'
 | _,[],_,_,_,h=>by cases h
 | k,o :: l,hp,0,_,h=>by
  simp only [List.getElem?_cons_zero,Option.some.injEq] at h;subst h;exact hp.1
 | k,o :: l,hp,i+1,_,h=>by
  simp only [List.getElem?_cons_succ] at h;have:=Gx.get hp.2 i _ h
  rwa [show k+1+i=k+(i+1) by omega] at this
theorem Kd {wt:Nat->Nat} {L M:List Nat} (h:∀j ∈ L,j ∈ M):∀k,A7 wt L k<=A7 wt M k
 | 0=>Nat.le_refl _
 | k+1=>by
  unfold A7;have:=Kd (wt:=wt) h k
  by_cases h1:k ∈ L
  . rw [if_pos h1,if_pos (h k h1)];omega
  . rw [if_neg h1];omega
structure Oe (ops:Array Oper) (listed:Array Bool) (L:List Nat):Prop where
 nd:L.Nodup
 lt:∀i ∈ L,i<ops.size
 is:∀i,i<ops.size->(listed.getD i false=true ↔ i ∈ L)
 sz:listed.size=ops.size
theorem Oe.set {listed:Array Bool} {L:List Nat} (h:Oe ops listed L) {i:Nat} (hi:i<ops.size) (hn:i ∉ L):Oe ops (listed.setIfInBounds i true) (L ++ [i]):=by
 refine⟨List.nodup_append.2 ⟨h.nd,by simp,fun a ha b hb=>by (rw [List.mem_singleton] at hb;subst hb;intro e;subst e;exact hn ha)⟩,fun j hj=>?_,fun j hj=>?_,by rw [Array.size_setIfInBounds];exact h.sz⟩
 . rcases List.mem_append.1 hj with hj | hj
   . exact h.lt j hj
   . rw [List.mem_singleton] at hj;subst hj;exact hi
 . rw [List.mem_append,List.mem_singleton]
   by_cases e:i=j
   . subst e;have:=h.sz;simp [hi,this]
   . rw [getD_set_ne false e,h.is j hj];exact⟨.inl,fun h=>h.elim id fun h=>absurd h.symm e⟩
theorem Oe.ready {listed:Array Bool} {L:List Nat} (h:Oe ops listed L) {i:Nat} (hr:i ∈ Region.ready .any ops listed):i<ops.size/\i ∉ L/\∃o,ops[i]? = some o/\∀j ∈ Bg o,j<ops.size->j ∈ L:=by
 obtain⟨h0,o,ho,ha⟩:=mem_ready.1 hr;have hi:i<ops.size:=(Array.getElem?_eq_some_iff.1 ho).1;refine⟨hi,fun hm=>?_,o,ho,fun j hj hjs=>?_⟩
 . have h1:=(h.is i hi).2 hm;have hs:i<listed.size:=by rw [h.sz];exact hi
   simp only [Array.getD_eq_getD_getElem?,Array.getElem?_eq_getElem hs,Option.getD_some] at h0 h1;rw [h0] at h1;cases h1
 . obtain⟨e,he,rfl⟩:=List.mem_map.1 hj;rw [List.mem_filter] at he;exact (h.is _ hjs).1 (ha e (Array.mem_toList_iff.1 he.1) he.2)
theorem Oe.all (hB:G8 ops=true) {listed:Array Bool} {L:List Nat} (h:Oe ops listed L) (hr:Region.ready .any ops listed = []):∀i,i<ops.size->i ∈ L:=by
 intro i
 induction i using Nat.strongRecOn with
 | ind i ih =>
  intro hi;refine Classical.byContradiction fun hn=>?_;have ho:ops[i]? = some ops[i]:=Array.getElem?_eq_getElem hi;have hs:i<listed.size:=by rw [h.sz];exact hi
  have:i ∈ Region.ready .any ops listed:=by
   refine mem_ready.2 ⟨?_,_,ho,fun e he hb=>?_⟩
   . cases e:listed.getD i true with
     | false=>rfl
     | true =>
      refine absurd ((h.is i hi).1 ?_) hn;simp only [Array.getD_eq_getD_getElem?,Array.getElem?_eq_getElem hs,Option.getD_some] at e ⊢;exact e
   . have hj:e.on ∈ Bg ops[i]:=List.mem_map.2 ⟨e,List.mem_filter.2 ⟨Array.mem_toList_iff.2 he,hb⟩,rfl⟩;have hl:=((G9 hB).2 i _ ho).2.1 _ hj;exact (h.is _ (by omega)).2 (ih _ hl (by omega))
  rw [hr] at this;cases this
theorem Wh {Q:Exit->Act->World->Prop} {T:Nat->Value->World->Prop} {R:Nat->World->World->Prop} {S:Nat->World->Prop} {wt:Nat->Nat} {a:Act} (hB:G8 ops=true)
 (hR:∀k j v w w' o,ops[j]? = some o->k ≠ j->k ∉ Bg o->T j v w->R k w w'->T j v w') (hO:Gx P ops T R S wt (A7 wt (List.range ops.size) ops.size) a 0 ops.toList)
 (hQ:∀(vs:Nat->Value) (w:World),S (A7 wt (List.range ops.size) ops.size) w->Ih T vs w (List.range ops.size)->Q .normal (Aw ops vs (List.range ops.size) a) w) :
 ∀(fuel:Nat) (listed:Array Bool) (L:List Nat) (vs:Nat->Value) (w:World),Oe ops listed L->(∀j ∈ L,∀o,ops[j]? = some o->∀d ∈ Bg o,d ∈ L)->A7 (fun _=>1) L ops.size+fuel=ops.size->(∀j ∈ L,T j (vs j) w)->S (A7 wt L ops.size) w->wpAny P .any ops Q fuel listed (Aw ops vs L a) w:=by
 have hs:=G9 hB;have hU:∀i j t,Cc ops i=some t->Cc ops j=some t->i=j:=fun i j t hi hj=>by
  refine Classical.byContradiction fun hne=>?_;have get:∀ {k u},Cc ops k=some u->∃o,ops[k]? = some o/\o.dst=some u:=fun {k u} h=>by
   unfold Cc at h;cases e:ops[k]? with
   | none=>rw [e] at h;cases h
   | some o=>rw [e] at h;exact⟨o,rfl,h⟩
  obtain⟨o,ho,hd⟩:=get hi;obtain⟨o2,ho2,-⟩:=get hj;exact ((hs.2 i o ho).2.2 j (Array.getElem?_eq_some_iff.1 ho2).1 (Ne.symm hne) t hj).1 hd
 have fin:∀(listed:Array Bool) (L:List Nat) (vs:Nat->Value) (w:World),Oe ops listed L->(∀j ∈ L,T j (vs j) w)->S (A7 wt L ops.size) w->(∀i,i<ops.size->i ∈ L)->Q .normal (Aw ops vs L a) w:=by
  intro listed L vs w hc hT hS hall;have e1:Aw ops vs L a=Aw ops vs (List.range ops.size) a:=by
   have z1:=Cr (ops:=ops) vs L a;have z2:=Cr (ops:=ops) vs (List.range ops.size) a;have:(Aw ops vs L a).tmps=(Aw ops vs (List.range ops.size) a).tmps:=by
    refine Array.ext_getElem? fun t=>?_
    by_cases ht:t<a.tmps.size
    . by_cases hd:∃k,k<ops.size/\Cc ops k=some t
      . obtain⟨k,hk,hd⟩:=hd;rw [Db hU vs t k hd L a (hall k hk) ht,Db hU vs t k hd _ a (List.mem_range.2 hk) ht]
      . rw [Cy vs t L a fun j hj e=>hd ⟨j,hc.lt j hj,e⟩,Cy vs t _ a fun j hj e=>hd ⟨j,List.mem_range.1 hj,e⟩]
    . rw [Array.getElem?_eq_none (by omega),Array.getElem?_eq_none (by omega)]
   cases h1:Aw ops vs L a with
   | mk t1 d1 =>
    cases h2:Aw ops vs (List.range ops.size) a with
    | mk t2 d2 =>
     rw [h1,h2] at this;rw [h1] at z1;rw [h2] at z2;simp only at this z1 z2;rw [this,z1.2,z2.2]
  have e2:∀k,k<=ops.size->A7 wt L k=A7 wt (List.range ops.size) k:=by
   intro k
   induction k with
   | zero=>intro _;rfl
   | succ k ih =>
    intro hk;unfold A7;rw [ih (by omega),if_pos (hall k (by omega)),if_pos (List.mem_range.2 (by omega))]
  rw [e1];rw [e2 _ lr0] at hS;exact hQ vs w hS (Ez.2 fun j hj=>hT j (hall j (List.mem_range.1 hj)))
 intro fuel
 induction fuel with
 | zero =>
  intro listed L vs w hc hcl hl hT hS;have hall:∀i,i<ops.size->i ∈ L:=(Mp L ops.size).2 (by omega);refine⟨?_,fin listed L vs w hc hT hS hall⟩;cases hr:Region.ready .any ops listed with
  | nil=>rfl
  | cons i r =>
   have:=hc.ready (i:=i) (by rw [hr];exact List.mem_cons_self ..);exact absurd (hall i this.1) this.2.1
 | succ fuel ih =>
  intro listed L vs w hc hcl hl hT hS;refine⟨fun hr=>fin listed L vs w hc hT hS (hc.all hB hr),fun i hi=>?_⟩;obtain⟨his,hnL,o,ho,hdep⟩:=hc.ready hi;obtain⟨hg,hlt,hlook⟩:=hs.2 i o ho;have hdL:∀j ∈ Bg o,j ∈ L:=fun j hj=>hdep j hj (by have:=hlt j hj;omega);have hw:A7 wt L ops.size+wt i<=A7 wt (List.range ops.size) ops.size:=by
   have h1:=Fw wt L i hnL ops.size;rw [if_pos his] at h1;have h2:=Oc wt (L ++ [i]) ops.size ops.size lr0;omega
  have hni:∀j ∈ L,∀q,ops[j]? = some q->i ∉ Bg q:=fun j hj q hq hm=>hnL (hcl j hj q hq i hm);have hlim:A7 wt L ops.size<=Aey ops wt i:=Kd (fun j hj=>by
   have hjs:=hc.lt j hj;have hq:ops[j]? = some ops[j]:=Array.getElem?_eq_getElem hjs;refine List.mem_filter.2 ⟨List.mem_range.2 hjs,?_⟩;have hne:j ≠ i:=fun e=>hnL (e ▸ hj);rw [hq,decide_eq_true hne];have:(Bg ops[j]).contains i=false:=by
    cases e:(Bg ops[j]).contains i with
    | false=>rfl
    | true=>exact absurd (List.contains_iff_mem.1 e) (hni j hj _ hq)
   simp only [this];rfl) _
  have key:=Gx.get hO i o (by rw [Array.getElem?_toList];exact ho) vs (A7 wt L ops.size) w hS (by rw [Nat.zero_add];exact hw) (by rw [Nat.zero_add];exact hlim) (Ez.2 fun j hj=>hT j (hdL j hj));rw [Nat.zero_add] at key;have hev:execOp (Aw ops vs L a).eval o=execOp (Aw ops vs (Bg o) a).eval o:=by
   refine execOp_congr o (fun cs b=>Region.noSelect_spec hs.1 i o cs b ho) fun x hx=>?_;cases x with
   | tmp t =>
    have z1:=(Cr (ops:=ops) vs L a).1;have z2:=(Cr (ops:=ops) vs (Bg o) a).1;have ht:t ∈ o.looksAt ops:=List.mem_append_left _ (List.mem_filterMap.2 ⟨.tmp t,by simpa using hx,rfl⟩);have hoi:∀j,j ∈ L->j ≠ i:=fun j hj e=>hnL (e ▸ hj);show (Aw ops vs L a).tmps.getD t undef=(Aw ops vs (Bg o) a).tmps.getD t undef;have:(Aw ops vs L a).tmps[t]? = (Aw ops vs (Bg o) a).tmps[t]? := by
     by_cases hts:t<a.tmps.size
     . by_cases hd:∃k,k ∈ L/\Cc ops k=some t
       . obtain⟨k,hk,hd⟩:=hd;have:=(hlook k (hc.lt k hk) (hoi k hk) t hd).2 ht;rw [Db hU vs t k hd L a hk hts,Db hU vs t k hd _ a this hts]
       . rw [Cy vs t L a fun j hj e=>hd ⟨j,hj,e⟩,Cy vs t _ a fun j hj e=>hd ⟨j,hdL j hj,e⟩]
     . rw [Array.getElem?_eq_none (by rw [z1];exact Nat.le_of_not_lt hts),Array.getElem?_eq_none (by rw [z2];exact Nat.le_of_not_lt hts)]
    simp only [Array.getD_eq_getD_getElem?,this]
   | _=>rfl
  have hwant:Region.wanted o (yielded ops (Aw ops vs L a).tmps)=true:=by
   unfold Region.wanted;rw [hg]
  unfold wpOp;rw [ho];simp only [hwant,if_true];refine .inl ?_;have step:∀v w',T i v w'/\R i w w'/\S (A7 wt L ops.size+wt i) w'->wpAny P .any ops Q fuel (listed.setIfInBounds i true) ((Aw ops vs L a).put o.dst v) w':=by
   rintro v w' ⟨hTi,hRw,hSn⟩;have hd:Cc ops i=o.dst:=by unfold Cc;rw [ho];rfl
   have e:(Aw ops vs L a).put o.dst v=Aw ops (fun j=>if j=i then v else vs j) (L ++ [i]) a:=by
    rw [I0,hd,if_pos rfl,H5 (fun j=>if j=i then v else vs j) vs L a fun j hj=>if_neg fun e2:j=i=>hnL (e2 ▸ hj)]
   rw [e];refine ih _ _ _ w' (hc.set his hnL) (fun j hj q hq d hd2=>?_) (by rw [Fw _ L i hnL,if_pos his];omega) (fun j hj=>?_) ?_
   . rcases List.mem_append.1 hj with hj | hj
     . exact List.mem_append_left _ (hcl j hj q hq d hd2)
     . rw [List.mem_singleton] at hj;subst hj;rw [ho] at hq;cases hq;exact List.mem_append_left _ (hdL d hd2)
   . rcases List.mem_append.1 hj with hj | hj
     . rw [if_neg fun e2:j=i=>hnL (e2 ▸ hj)];have hq:ops[j]? = some (ops[j]'(hc.lt j hj)):=Array.getElem?_eq_getElem (hc.lt j hj);exact hR i j _ w w' _ hq (fun e2=>hnL (e2 ▸ hj)) (hni j hj _ hq) (hT j hj) hRw
     . rw [List.mem_singleton] at hj;subst hj;rw [if_pos rfl];exact hTi
   . rw [Fw wt L i hnL,if_pos his];exact hSn
  unfold Oper.wp;unfold Bu at key;rw [hev];generalize (execOp (Aw ops vs (Bg o) a).eval o).run P w=r at key;cases r with
  | ok n w' =>
   cases n <;> simp only [Oper.upon] at key ⊢
   case value v=>exact step v w' key
   case skip=>exact step _ w' key
   case enter f args=>exact key.mono fun e w'' ⟨v,he,hh⟩=>by subst he;exact step v w'' hh
   case row row args=>exact key.mono fun v w'' hh=>step v w'' hh
  | halt x w'=>simp only at key
theorem Ge {id:Nat} {Q:Exit->Act->World->Prop} {a:Act} {w:World} (T:Nat->Value->World->Prop) (R:Nat->World->World->Prop) (S:Nat->World->Prop) (wt:Nat->Nat) (tot:Nat) (hm:P.follows .mixedOrders=true) (hB:G8 ops=true)
 (ht:A7 wt (List.range ops.size) ops.size=tot) (hR:∀k j v w w' o,ops[j]? = some o->k ≠ j->k ∉ Bg o->T j v w->R k w w'->T j v w') (h0:S 0 { w with drawn:=w.drawn+1 }) (hO:Gx P ops T R S wt tot a 0 ops.toList)
 (hQ:∀(vs:Nat->Value) (w:World),S tot w->Ih T vs w (List.range ops.size)->Q .normal (Aw ops vs (List.range ops.size) a) w):(Code.region id ops true).wp P Q a w:=by
 subst ht;refine wp_region_any hm ?_;have hzz:∀(g:Nat->Nat) k,A7 g [] k=0:=by
  intro g k
  induction k with
  | zero=>rfl
  | succ k ih=>unfold A7;rw [ih];simp
 have hz:=hzz wt;have hz1:=hzz (fun _=>1);refine Wh hB hR hO hQ ops.size (Array.replicate ops.size false) [] (fun _=>undef) _ ⟨List.nodup_nil,fun _ h=>(by cases h),fun i hi=>?_,by simp⟩ (fun _ h=>by cases h) (by rw [hz1,Nat.zero_add]) (fun _ h=>by cases h) ?_
 . simp [hi]
 . rw [hz];exact h0
theorem Km {id:Nat} {Q:Exit->Act->World->Prop} {a:Act} {w:World} (T:Nat->Value->World->Prop) (R:World->World->Prop) (S:Nat->World->Prop) (wt:Nat->Nat) (tot:Nat) (hm:P.follows .mixedOrders=true) (hB:G8 ops=true)
 (ht:A7 wt (List.range ops.size) ops.size=tot) (hR:∀j v w w',T j v w->R w w'->T j v w') (h0:S 0 { w with drawn:=w.drawn+1 }) (hO:Kv P ops T R S wt tot a 0 ops.toList)
 (hQ:∀(vs:Nat->Value) (w:World),S tot w->Ih T vs w (List.range ops.size)->Q .normal (Aw ops vs (List.range ops.size) a) w):(Code.region id ops true).wp P Q a w:=Ge T (fun _=>R) S wt tot hm hB ht (fun _ j v w w' _ _ _ _=>hR j v w w') h0 hO.more hQ
end
theorem C7 {P:Program} {o:Oper} {a:Act} {w w':World} {N:Value->World->Prop} {v:Value} (h:(execOp a.eval o).run P w = .ok (.value v) w') (hn:N v w'):Bu P o a w N:=by
 unfold Bu;rw [h];exact hn
theorem Rt {P:Program} {s:Sem Value} {w w':World} {v:Value} (h:s.run P w = .ok v w'):(do pure (Next.value (<-s)):Sem Next).run P w = .ok (.value v) w':=by
 simp [go_sem,h]
theorem Aif {P:Program} {s:Sem Unit} {w w':World} (h:s.run P w = .ok () w'):(do s;pure Next.skip:Sem Next).run P w = .ok .skip w':=by
 simp [go_sem,h]
theorem Hm {P:Program} {o:Oper} {a:Act} {w:World} {c:Call} {x:Operand} {f:FuncId} {caps:Array Value} (hop:o.op = .call c) (hc:c.callee = .value x) (hx:a.eval x = .func (.func f) #[] caps) (he:∀(args:Array Value) (w:World),(callFunc f args).run P w = .ok (.enter f args) w) :
 (execOp a.eval o).run P w = .ok (.enter f ((c.args.toList.map a.eval).toArray ++ caps)) w:=by
 have e:(c.args.toList.map a.eval).toArray=c.args.map a.eval:=by apply Array.ext';simp
 rw [e];have h1:resolve a.eval c o.type=pure { target:= .fn (.func f) caps,args:= #[] ++ c.args.map a.eval }:=by
  unfold resolve;rw [hc];show Deferred.ofValue (a.eval x) _=_;rw [hx];rfl
 have h2:execOp a.eval o=(do let d <-resolve a.eval c o.type;invoke d.target d.args):=by
  unfold execOp;rw [hop]
 rw [h2,h1];have h3:(do let d <-(pure { target:= .fn (.func f) caps,args:= #[] ++ c.args.map a.eval }:Sem Deferred);invoke d.target d.args)=callFunc f (c.args.map a.eval ++ caps):=by
  rw [pure_bind];show callFunc f ((#[] ++ c.args.map a.eval) ++ caps)=_;rw [Array.empty_append]
 rw [h3];exact he _ _
theorem Js {P:Program} {o:Oper} {a:Act} {w w':World} {N:Value->World->Prop} {f:FuncId} {args:Array Value} (h:(execOp a.eval o).run P w = .ok (.enter f args) w') (hn:Calls P f args w' fun e w''=>∃v,e = .returned v/\N v w''):Bu P o a w N:=by
 unfold Bu;rw [h];exact hn
section
variable {P : Program} {ρ : Operand -> Value} {o : Oper} {w : World}
theorem Vb {x:Operand} (e:o.op = .move x):(execOp ρ o).run P w = .ok (.value (ρ x)) w:=by simp [execOp,e,go_sem]
theorem V7 {x:Operand} (e:o.op = .assign x):(execOp ρ o).run P w = .ok (.value (ρ x)) w:=by simp [execOp,e,go_sem]
theorem Vc {c x y:Operand} (e:o.op = .pick c x y) {q:Bool} (h:ρ c = .bool q):(execOp ρ o).run P w = .ok (.value (if q then ρ x else ρ y)) w:=by simp [execOp,e,h,go_sem]
theorem Aei {t:Nat} {x:Operand} (e:o.op = .box t x) {u:Value} {w':World} (h:(Instr.box t (ρ x)).run P w = .ok u w'):(execOp ρ o).run P w = .ok (.value u) w':=by
 have:=Rt h;simpa [execOp,e] using this
theorem Va {t:Nat} {x:Operand} (e:o.op = .load t x) {u:Value} (h:(Instr.loadAt t (ρ x)).run P w = .ok u w):(execOp ρ o).run P w = .ok (.value u) w:=by
 have:=Rt h;simpa [execOp,e] using this
theorem Q0 {t k:Nat} {x:Operand} (e:o.op = .fieldAddr t x k) {u:Value} (h:(Instr.fieldAt t (ρ x) k).run P w = .ok u w):(execOp ρ o).run P w = .ok (.value u) w:=by
 have:=Rt h;simpa [execOp,e] using this
theorem Q1 {t:Nat} {x i:Operand} (e:o.op = .indexAddr t x i) {u:Value} (h:(Instr.indexAt t (ρ x) (ρ i)).run P w = .ok u w):(execOp ρ o).run P w = .ok (.value u) w:=by
 have:=Rt h;simpa [execOp,e] using this
theorem Aa8 {f:FuncId} {cs:Array Operand} (e:o.op = .makeFunc (.func f) #[] cs):(execOp ρ o).run P w = .ok (.value (.func (.func f) #[] (cs.map ρ))) w:=by
 have h:(Instr.makeFunc (.func f) #[] (cs.map ρ)).run P w = .ok (.func (.func f) #[] (cs.map ρ)) w:=rfl;have:=Rt h;simpa [execOp,e] using this
theorem Aek {x:Operand} (e:o.op = .nilCheck x) {p:Addr} (h:ρ x = .pointer (some p)):(execOp ρ o).run P w = .ok (.value (.pointer (some p))) w:=by simp [execOp,e,h,go_sem]
theorem K9 {t:Nat} {x y:Operand} (e:o.op = .store t x y) {w':World} (h:(Instr.storeAt t (ρ x) (ρ y)).run P w = .ok () w'):(execOp ρ o).run P w = .ok .skip w':=by
 have:=Aif h;simpa [execOp,e] using this
theorem Aeh {op:BinOp} {t q:Nat} {x y:Operand} (e:o.op = .binOp op t x y q) {u:Value} (hg:(eqGuard op t x y (ρ x) (ρ y)).run P w = .ok () w) (h:(binOp op t (ρ x) (ρ y)).run P w = .ok u w):(execOp ρ o).run P w = .ok (.value u) w:=by
 have h2:(do eqGuard op t x y (ρ x) (ρ y);binOp op t (ρ x) (ρ y):Sem Value).run P w = .ok u w:=by simp [go_sem,hg,h]
 have:=Rt h2;simpa [execOp,e] using this
theorem Qz {t n:Nat} {ps:Array (Nat × Operand)} (e:o.op = .buildSlice t n ps) {u:Value} {w':World} (h:(Instr.buildSlice t n (ps.map fun p=>(p.1,ρ p.2))).run P w = .ok u w'):(execOp ρ o).run P w = .ok (.value u) w':=by
 have:=Rt h;simpa [execOp,e] using this
end
section
variable {P : Program} {ρ : Operand -> Value} {o : Oper} {w : World}
theorem Ado {x:Operand} {v:Value} (e:o.op = .move x) (hx:ρ x=v):(execOp ρ o).run P w = .ok (.value v) w:=by rw [<-hx];exact Vb e
theorem Aae {t:Nat} {x:Operand} {v u:Value} (e:o.op = .load t x) (hx:ρ x=v) (h:(Instr.loadAt t v).run P w = .ok u w):(execOp ρ o).run P w = .ok (.value u) w:=Va e (by rw [hx];exact h)
theorem Ut {t k:Nat} {x:Operand} {v u:Value} (e:o.op = .fieldAddr t x k) (hx:ρ x=v) (h:(Instr.fieldAt t v k).run P w = .ok u w):(execOp ρ o).run P w = .ok (.value u) w:=Q0 e (by rw [hx];exact h)
theorem Agd {t:Nat} {x y:Operand} {v u:Value} {w':World} (e:o.op = .store t x y) (hx:ρ x=v) (hy:ρ y=u) (h:(Instr.storeAt t v u).run P w = .ok () w'):(execOp ρ o).run P w = .ok .skip w':=K9 e (by rw [hx,hy];exact h)
theorem Ab1 {a:Act} {w':World} {N:Value->World->Prop} (h:(execOp a.eval o).run P w = .ok .skip w') (hn:N undef w'):Bu P o a w N:=by
 unfold Bu;rw [h];exact hn
theorem Ah6 {a:Act} {N:Value->World->Prop} {c:Call} {x:Operand} {f:FuncId} {fs caps args:Array Value} (e:o.op = .call c) (hc:c.callee = .value x) (hx:a.eval x = .func (.func f) #[] caps) (ha:(c.args.toList.map a.eval).toArray ++ caps=args) (he:∀(args:Array Value) (w:World),(callFunc f args).run P w = .ok (.enter f args) w) (h:Calls P f args w fun e w''=>∃v,e = .returned v/\N v w''):Bu P o a w N :=
 Js (by have:=Hm (P:=P) (w:=w) e hc hx he;rw [ha] at this;exact this) h
end
end Go.Proofs.YtppcohadoilpgaaGreatDoor
namespace Go.Proofs.YtppcohadoilpgaaGreatDoor
open Go.ChangeShapes Go.WideShapes Go.ChangeAt Go.RowKit Go.Joins Go.Proofs.Tryz
set_option linter.unusedVariables false
set_option linter.unusedSimpArgs false
set_option maxRecDepth 100000
inductive At where
 | c (x:UInt8)
 | E (d:Nat)
 | S (d:Nat)
 | g (lo hi:Nat)
def At.is (b:Bool):At->List UInt8->Prop
 | .c x,s=>s = [x]
 | .E d,s=>GE d b s
 | .S d,s=>GS d b s
 | .g lo hi,s=>∃n,lo<=n/\n<hi/\n<30/\s=Gj n
def Ats (b:Bool):List At->List UInt8->Prop
 | [],s=>s = []
 | x :: l,s=>∃u v,x.is b u/\Ats b l v/\s=u ++ v
theorem Ats.app {b:Bool}:∀ {l m:List At} {u v:List UInt8},Ats b l u->Ats b m v->Ats b (l ++ m) (u ++ v)
 | [],m,u,v,h,k=>by
  have e:u = []:=h;subst e;exact k
 | x :: l,m,u,v,⟨u1,u2,h1,h2,e⟩,k=>⟨u1,u2 ++ v,h1,Ats.app h2 k,by rw [e,List.append_assoc]⟩
theorem Ats.lit {b:Bool}:∀(s:List UInt8),Ats b (s.map At.c) s
 | []=>rfl
 | x :: s=>⟨[x],s,rfl,Ats.lit s,rfl⟩
def At.sz:At->Nat
 | .c _=>1
 | .E d=>20 * 4 ^ d
 | .S d=>800 * 4 ^ d
 | .g _ _=>2
def Qm:List At->Nat
 | []=>0
 | x :: l=>x.sz+Qm l
theorem Ats.len {b:Bool}:∀ {l:List At} {s:List UInt8},Ats b l s->s.length<=Qm l
 | [],s,h=>by
  have e:s = []:=h;subst e;exact Nat.le_refl _
 | x :: l,s,⟨u,v,h1,h2,e⟩=>by
  have i:=Ats.len h2;have j:u.length<=x.sz:=by
   cases x with
   | c x=>have e:u = [x]:=h1;rw [e];exact Nat.le_refl _
   | E d=>exact GE.short h1
   | S d=>exact GS.short h1
   | g lo hi=>obtain⟨n,-,-,h30,e⟩:=h1;rw [e];exact F3 h30
  rw [e,lap];show _<=x.sz+Qm l;omega
def At.eqv:At->At->Bool
 | .c x,.c y=>x == y
 | .E d,.E e=>d == e
 | .S d,.S e=>d == e
 | .g p q,.g u v=>p == u && q == v
 | _,_=>false
theorem At.eqv_eq {x y:At} (h:x.eqv y=true):x=y:=by
 cases x <;> cases y <;> simp [At.eqv] at h
 all_goals first | rw [h] | rw [h.1,h.2]
def U4:List At->List At->Bool
 | [],[]=>true
 | x :: l,y :: m=>x.eqv y && U4 l m
 | _,_=>false
theorem Ql:∀ {l m:List At},U4 l m=true->l=m
 | [],[],_=>rfl
 | x :: l,y :: m,h=>by
  simp only [U4,Bool.and_eq_true] at h;rw [At.eqv_eq h.1,Ql h.2]
 | [],_ :: _,h=>by cases h
 | _ :: _,[],h=>by cases h
inductive BV where
 | any
 | ai
 | raw
 | int (lo hi:Nat)
 | bo (o:Option Bool)
 | tx (ls:List (List At))
 | mk (k:Nat)
inductive AV where
 | b (x:BV)
 | clo
 | rw
 | ref (l:List BV) (o:Nat)
 | sl (l:List BV)
 | elt (l:List BV)
def BV.ok (r:Nat) (b:Bool):BV->Value->Prop
 | .any,_=>True
 | .ai,v=>∃n:Int,v = .int .i64 n
 | .raw,v=>∃n:Int,v = .int .i64 n/\(Lit.int .i64 n).wf=true
 | .int lo hi,v=>∃n:Nat,v = .int .i64 (n:Int)/\lo<=n/\n<hi
 | .bo o,v=>∃x,v = .bool x/\∀y,o=some y->x=y
 | .tx ls,v=>∃l s,l ∈ ls/\v = .string (bs s)/\Ats b l s
 | .mk k,v=>v = .pointer (some ⟨r,k,none⟩)
def Cls (r:Nat) (b:Bool) (g:Nat) (l:List BV) (w:World):Prop:=r<g/\g<w.heap.size/\∀(k:Nat) (x:BV),l[k]? = some x->∃u,w.cell? ⟨g,k,none⟩=some u/\x.ok r b u
def AV.ok (r:Nat) (b:Bool) (Clo:Value->World->Prop):AV->Value->World->Prop
 | .b x,v,_=>x.ok r b v
 | .clo,v,w=>Clo v w
 | .rw,v,_=>∃x:Rw,v=rwV x/\x.ok
 | .ref l o,v,w=>∃g,v = .pointer (some ⟨g,o,none⟩)/\Cls r b g l w
 | .sl l,v,w=>∃g,v = .slice (some ⟨g,0,none⟩) l.length l.length/\Cls r b g l w
 | .elt l,v,w=>∃g k,v = .pointer (some ⟨g,k,none⟩)/\k<l.length/\Cls r b g l w
theorem Cls.but {r:Nat} {b:Bool} {g:Nat} {l:List BV} {w w':World} (h:Cls r b g l w) (hb:But r r w w'):Cls r b g l w':=by
 obtain⟨h0,h1,h2⟩:=h;refine⟨h0,lle h1 hb.size,fun k x hx=>?_⟩;obtain⟨u,hu,ho⟩:=h2 k x hx;exact⟨u,(hb.cell (b:=g) h1 (by omega) (by omega) k).trans hu,ho⟩
theorem AV.ok.but {r:Nat} {b:Bool} {Clo:Value->World->Prop} (hC:∀v w w',Clo v w->But r r w w'->Clo v w') {x:AV} {v:Value} {w w':World} (h:x.ok r b Clo v w) (hb:But r r w w'):x.ok r b Clo v w':=by
 cases x with
 | b x=>exact h
 | clo=>exact hC _ _ _ h hb
 | rw=>exact h
 | ref l o=>obtain⟨g,e,h⟩:=h;exact⟨g,e,h.but hb⟩
 | sl l=>obtain⟨g,e,h⟩:=h;exact⟨g,e,h.but hb⟩
 | elt l=>obtain⟨g,k,e,hk,h⟩:=h;exact⟨g,k,e,hk,h.but hb⟩
theorem ld (T:Nat) (hT:T=3\/T=9\/T=4\/T=72) (p:Addr) (v:Value) (w:World) (h:w.cell? p=some v):(Instr.loadAt T (.pointer (some p))).run prog w = .ok v w:=by
 rcases hT with rfl | rfl | rfl | rfl <;> simp [go_sem,h]
theorem fa (g o k:Nat) (hk:k<4) (w:World):(Instr.fieldAt 64 (.pointer (some ⟨g,o,none⟩)) k).run prog w = .ok (.pointer (some ⟨g,o+k,none⟩)) w:=by
 have:k=0\/k=1\/k=2\/k=3:=by omega
 rcases this with rfl | rfl | rfl | rfl <;> simp [go_sem]
theorem fm (g:Nat) (w:World):(Instr.fieldAt 74 (.pointer (some ⟨g,0,none⟩)) 2).run prog w = .ok (.pointer (some ⟨g,2,none⟩)) w:=by
 simp [go_sem]
theorem ia (g n i:Nat) (hi:i<n) (w:World):(Instr.indexAt 37 (.slice (some ⟨g,0,none⟩) n n) (.int .i64 (i:Int))).run prog w = .ok (.pointer (some ⟨g,i,none⟩)) w:=by
 have h1:(0:Int)<=(i:Int):=by omega
 have h2:(i:Int)<(n:Int):=by omega
 simp [go_sem,h1,h2]
theorem Ad4 (x y:Int) (w:World):(binOp .lss 3 (.int .i64 x) (.int .i64 y)).run prog w = .ok (.bool (decide (x<y))) w:=by
 simp [go_sem]
theorem Ad3 (x y:Int) (w:World):(binOp .leq 3 (.int .i64 x) (.int .i64 y)).run prog w = .ok (.bool (decide (x<=y))) w:=by
 simp [go_sem]
theorem Ad2 (x y:Int) (w:World):(binOp .eql 3 (.int .i64 x) (.int .i64 y)).run prog w = .ok (.bool (x == y)) w:=by
 simp [go_sem]
theorem Xo (x y:Int) (w:World):(binOp .add 3 (.int .i64 x) (.int .i64 y)).run prog w = .ok (.int .i64 (IntKind.i64.wrap (x+y))) w:=by
 simp [go_sem]
theorem Ad6 (x y:Int) (w:World):(binOp .sub 3 (.int .i64 x) (.int .i64 y)).run prog w = .ok (.int .i64 (IntKind.i64.wrap (x - y))) w:=by
 simp [go_sem]
theorem Ad5 (x:Int) (w:World):(binOp .quo 3 (.int .i64 x) (.int .i64 4)).run prog w = .ok (.int .i64 (IntKind.i64.wrap (x.tdiv 4))) w:=by
 simp [go_sem]
theorem Ad1 (x y:ByteArray) (h:x.size+y.size<=9223372036854775807) (w:World):(binOp .add 9 (.string x) (.string y)).run prog w = .ok (.string (x ++ y)) w:=by
 simp [go_sem,run_string_add_sum w x y h]
theorem st3 (p:Addr) (u:Value) (n:Int) (w:World) (h:w.cell? p=some u) (hz:w.frozen? p=false):(Instr.storeAt 3 (.pointer (some p)) (.int .i64 n)).run prog w = .ok () (w.setCell p (.int .i64 n)):=by
 simp [go_sem,h,hz]
theorem bsl (vs:List ByteArray) (h:vs.length=2\/vs.length=3\/vs.length=4\/vs.length=6) (w:World):(Instr.buildSlice 37 vs.length (((List.range vs.length).zip (vs.map Value.string)).toArray)).run prog w = .ok (.slice (some ⟨w.heap.size,0,none⟩) vs.length vs.length) (w.alloc (.cells (vs.map Value.string).toArray 9)):=by
 rcases h with h | h | h | h
 . match vs,h with
   | [a,b],_=>simp [go_sem,List.range,List.range.loop]
 . match vs,h with
   | [a,b,c],_=>simp [go_sem,List.range,List.range.loop]
 . match vs,h with
   | [a,b,c,d],_=>simp [go_sem,List.range,List.range.loop]
 . match vs,h with
   | [a,b,c,d,e,f],_=>simp [go_sem,List.range,List.range.loop]
theorem al4 (w:World):(Instr.alloc 64 true (.tuple #[])).run prog w = .ok (.pointer (some ⟨w.heap.size,0,none⟩)) (w.alloc (.cells #[.int .i64 0,.int .i64 0,.int .i64 0,.int .i64 0] 64)):=by
 simp [go_sem]
theorem bx1 (T:Nat) (hT:T=3\/T=4\/T=72) (v:Value) (hv:(∃n,v = .int .i64 n)\/(∃q,v = .bool q)\/∃p,v = .pointer p) (w:World):(Instr.box T v).run prog w = .ok (.pointer (some ⟨w.heap.size,0,none⟩)) (w.alloc (.cells #[v] T)):=by
 rcases hv with⟨n,rfl⟩ | ⟨q,rfl⟩ | ⟨p,rfl⟩ <;> rcases hT with rfl | rfl | rfl <;> simp [go_sem]
theorem st4 (g:Nat) (w:World) (a b c d:Int) (x0 x1 x2 x3:Value) (h0:w.cell? ⟨g,0,none⟩=some x0) (h1:w.cell? ⟨g,1,none⟩=some x1) (h2:w.cell? ⟨g,2,none⟩=some x2) (h3:w.cell? ⟨g,3,none⟩=some x3)  (hz:∀k,w.frozen? ⟨g,k,none⟩=false):(Instr.storeAt 64 (.pointer (some ⟨g,0,none⟩)) (.agg #[.int .i64 a,.int .i64 b,.int .i64 c,.int .i64 d])).run prog w = .ok () ((((w.setCell ⟨g,0,none⟩ (.int .i64 a)).setCell ⟨g,1,none⟩ (.int .i64 b)).setCell ⟨g,2,none⟩ (.int .i64 c)).setCell ⟨g,3,none⟩ (.int .i64 d)):=by
 simp [go_sem,h0,h1,h2,h3,hz]
theorem Mu {z:Int} (h1: -1099511627776<=z) (h2:z<=1099511627776):IntKind.i64.wrap z=z:=by
 rw [Go.PlainAid.i64_is];unfold wrap64;omega
abbrev Sta:=List AV
def evA (st:Sta):Operand->AV
 | .tmp t=>st.getD t (.b .any)
 | .const (.int .i64 n)=>if 0<=n then .b (.int n.toNat (n.toNat+1)) else .b .any
 | .const (.bool x)=> .b (.bo (some x))
 | .const (.string s)=> .b (.tx [s.data.toList.map At.c])
 | _=> .b .any
def Vt:List BV->Option (List (List At))
 | []=>some []
 | .tx ls :: l=>(Vt l).map (ls ++ ·)
 | _ :: _=>none
def To (t:Nat):AV->Option AV
 | .ref l o=>if t=3\/t=9\/t=4\/t=72 then (l[o]?).map .b else none
 | .elt l=>if t=9 then (Vt l).map fun ls=> .b (.tx ls) else none
 | .b (.mk k)=>if k=2/\t=3 then some (.b .ai) else none
 | _=>none
def Pr (t k:Nat):AV->Option AV
 | .ref l o=>if t=64/\k<4 then some (.ref l (o+k)) else none
 | .b (.mk j)=>if t=74/\k=2/\j=0 then some (.b (.mk 2)) else none
 | _=>none
def Ps (t:Nat):AV->AV->Option AV
 | .sl l,.b (.int lo hi)=>if t=37/\hi<=l.length then some (.elt l) else none
 | _,_=>none
def Adh (t:Nat):AV->AV->Option AV
 | .b (.tx ls),.b (.tx ms)=>if t=9/\(ls.all fun l=>decide (Qm l<=1000000))/\(ms.all fun l=>decide (Qm l<=1000000)) then some (.b (.tx (ls.flatMap fun l=>ms.map (l ++ ·)))) else none
 | .b (.int p q),.b (.int u v)=>if t=3/\q<=1000/\v<=1000 then some (.b (.int (p+u) (q+v - 1))) else none
 | .b .ai,.b (.int _ _)=>if t=3 then some (.b .ai) else none
 | _,_=>none
def Adj (t:Nat):AV->AV->Option AV
 | .b (.int p q),.b (.int u v)=>if t=3/\q=p+1/\v=u+1/\u<=p/\p<=1000 then some (.b (.int (p - u) (p - u+1))) else none
 | _,_=>none
def Adi (t:Nat):AV->AV->Option AV
 | .b .raw,.b (.int u v)=>if t=3/\u=4/\v=5 then some (.b .raw) else none
 | _,_=>none
def Lq (t:Nat) (f:Nat->Nat->Bool):AV->AV->Option AV
 | .b (.int p q),.b (.int u v)=>if t=3 then (if q=p+1/\v=u+1 then some (.b (.bo (some (f p u)))) else some (.b (.bo none))) else none
 | _,_=>none
def Yy (op:BinOp) (t:Nat) (x y:AV):Option AV:=match op with
 | .add=>Adh t x y
 | .sub=>Adj t x y
 | .quo=>Adi t x y
 | .lss=>Lq t (fun p u=>decide (p<u)) x y
 | .leq=>Lq t (fun p u=>decide (p<=u)) x y
 | .eql=>Lq t (fun p u=>p == u) x y
 | _=>none
section
variable {r : Nat} {b : Bool} {Clo : Value -> World -> Prop}
theorem Wl {t:Nat} {x y:AV} (h:To t x=some y) {v:Value} {w:World} (hx:x.ok r b Clo v w) (hn:∃n:Int,w.cell? ⟨r,2,none⟩=some (.int .i64 n)):∃u,(Instr.loadAt t v).run prog w = .ok u w/\y.ok r b Clo u w:=by
 unfold To at h;split at h
 . split at h
   . rename_i l o ht;obtain⟨z,hz,rfl⟩:=Option.map_eq_some_iff.1 h;obtain⟨g,rfl,-,-,hc⟩:=hx;obtain⟨u,hu,ho⟩:=hc o z hz;exact⟨u,ld t ht _ u w hu,ho⟩
   . cases h
 . split at h
   . rename_i l ht;obtain⟨ls,hls,rfl⟩:=Option.map_eq_some_iff.1 h;obtain⟨g,k,rfl,hk,-,-,hc⟩:=hx;obtain⟨u,hu,ho⟩:=hc k l[k] (gee hk);refine⟨u,ld t (.inr (.inl ht)) _ u w hu,?_⟩;have key:∀(l:List BV) (ls:List (List At)),Vt l=some ls->∀x ∈ l,x.ok r b u->BV.ok r b (.tx ls) u:=by
      intro l
      induction l with
      | nil=>intro _ _ x hx;cases hx
      | cons y l ih =>
       intro ls hls x hx ho;cases y with
       | tx ms =>
        simp only [Vt] at hls;obtain⟨ns,hns,rfl⟩:=Option.map_eq_some_iff.1 hls;rcases List.mem_cons.1 hx with rfl | hx
        . obtain⟨a,s,h1,h2,h3⟩:=ho;exact⟨a,s,List.mem_append_left _ h1,h2,h3⟩
        . obtain⟨a,s,h1,h2,h3⟩:=ih ns hns x hx ho;exact⟨a,s,List.mem_append_right _ h1,h2,h3⟩
       | _=>cases hls
     exact key l ls hls _ (List.getElem_mem hk) ho
   . cases h
 . split at h
   . rename_i k hk;cases h;obtain⟨rfl,rfl⟩:=hk;have e:v = .pointer (some ⟨r,2,none⟩):=hx;obtain⟨n,hn⟩:=hn;rw [e];exact⟨_,ld _ (.inl rfl) _ _ w hn,n,rfl⟩
   . cases h
 . cases h
theorem Tm {t k:Nat} {x y:AV} (h:Pr t k x=some y) {v:Value} {w:World} (hx:x.ok r b Clo v w):∃u,(Instr.fieldAt t v k).run prog w = .ok u w/\y.ok r b Clo u w:=by
 unfold Pr at h;split at h
 . split at h
   . rename_i l o ht;cases h;obtain⟨rfl,hk⟩:=ht;obtain⟨g,rfl,hc⟩:=hx;exact⟨_,fa g o k hk w,g,rfl,hc⟩
   . cases h
 . split at h
   . rename_i j hj;cases h;obtain⟨rfl,rfl,rfl⟩:=hj;have e:v = .pointer (some ⟨r,0,none⟩):=hx;rw [e];exact⟨_,fm r w,rfl⟩
   . cases h
 . cases h
theorem Tn {t:Nat} {x i y:AV} (h:Ps t x i=some y) {v u:Value} {w:World} (hx:x.ok r b Clo v w) (hi:i.ok r b Clo u w):∃z,(Instr.indexAt t v u).run prog w = .ok z w/\y.ok r b Clo z w:=by
 unfold Ps at h;split at h
 . split at h
   . rename_i l lo hi ht;cases h;obtain⟨rfl,hl⟩:=ht;obtain⟨g,rfl,hc⟩:=hx;obtain⟨n,rfl,h1,h2⟩:=hi;exact⟨_,ia g l.length n (by omega) w,g,n,rfl,by omega,hc⟩
   . cases h
 . cases h
theorem Yz {op:BinOp} {t:Nat} {x y z:AV} (h:Yy op t x y=some z) {v u:Value} {w:World} (hx:x.ok r b Clo v w) (hy:y.ok r b Clo u w):∃q,(binOp op t v u).run prog w = .ok q w/\z.ok r b Clo q w:=by
 have cmp:∀ {f:Nat->Nat->Bool} {o:BinOp},Lq t f x y=some z->(∀p q:Nat,(binOp o 3 (.int .i64 (p:Int)) (.int .i64 (q:Int))).run prog w = .ok (.bool (f p q)) w)->∃q,(binOp o t v u).run prog w = .ok q w/\z.ok r b Clo q w:=by
  intro f o hc hf;unfold Lq at hc;split at hc
  . split at hc
    . rename_i p q u' v' ht;subst ht;obtain⟨n,rfl,h1,h2⟩:=hx;obtain⟨m,rfl,h3,h4⟩:=hy;split at hc
      . rename_i hs;cases hc;have e1:n=p:=by omega
        have e2:m=u':=by omega
        subst e1 e2;exact⟨_,hf n m,_,rfl,fun y hy=>by cases hy;rfl⟩
      . cases hc;exact⟨_,hf n m,_,rfl,fun y hy=>by cases hy⟩
    . cases hc
  . cases hc
 unfold Yy at h;split at h
 . unfold Adh at h;split at h
   . split at h
     . rename_i ls ms ht;cases h;obtain⟨rfl,h1,h2⟩:=ht;obtain⟨l,s,hl,rfl,hs⟩:=hx;obtain⟨m,s2,hm,rfl,hs2⟩:=hy;have z1:=of_decide_eq_true (List.all_eq_true.1 h1 l hl);have z2:=of_decide_eq_true (List.all_eq_true.1 h2 m hm);have y1:=hs.len;have y2:=hs2.len;refine⟨_,Ad1 (bs s) (bs s2) (by rw [Ba,Ba];omega) w,l ++ m,s ++ s2,List.mem_flatMap.2 ⟨l,hl,List.mem_map.2 ⟨m,hm,rfl⟩⟩,by rw [Fa],hs.app hs2⟩
     . cases h
   . split at h
     . rename_i p q u' v' ht;cases h;obtain⟨rfl,h1,h2⟩:=ht;obtain⟨n,rfl,h3,h4⟩:=hx;obtain⟨m,rfl,h5,h6⟩:=hy;refine⟨_,Xo n m w,n+m,?_,by omega,by omega⟩;rw [Mu (by omega) (by omega)];rfl
     . cases h
   . split at h
     . rename_i u' v' ht;cases h;subst ht;obtain⟨n,rfl⟩:=hx;obtain⟨m,rfl,h5,h6⟩:=hy;exact⟨_,Xo n m w,_,rfl⟩
     . cases h
   . cases h
 . unfold Adj at h;split at h
   . split at h
     . rename_i p q u' v' ht;cases h;obtain⟨rfl,h1,h2,h7,h8⟩:=ht;obtain⟨n,rfl,h3,h4⟩:=hx;obtain⟨m,rfl,h5,h6⟩:=hy;refine⟨_,Ad6 n m w,n - m,?_,by omega,by omega⟩;rw [Mu (by omega) (by omega)]
       congr 1
       omega
     . cases h
   . cases h
 . unfold Adi at h;split at h
   . split at h
     . rename_i u' v' ht;cases h;obtain⟨rfl,h1,h2⟩:=ht;obtain⟨n,rfl,h3⟩:=hx;obtain⟨m,rfl,h5,h6⟩:=hy;have e:m=4:=by omega
       subst e;refine⟨_,Ad5 n w,_,rfl,?_⟩;have:=Ac3 h3;rw [Go.PlainAid.i64_is];exact Od _
     . cases h
   . cases h
 . exact cmp h fun p q=>by rw [Ad4];congr 2;simp
 . exact cmp h fun p q=>by rw [Ad3];congr 2;simp
 . exact cmp h fun p q=>by
    rw [Ad2]
    congr 2
    by_cases e:p=q
    . subst e;simp
    . have e2:¬(p:Int)=(q:Int):=by omega
      rw [beq_eq_false_iff_ne.2 e,beq_eq_false_iff_ne.2 e2]
 . cases h
theorem S2 {st:Sta} {a:Act} {w:World} {x:Operand} (h:∀t,x = .tmp t->(st.getD t (.b .any)).ok r b Clo (a.tmps.getD t undef) w):(evA st x).ok r b Clo (a.eval x) w:=by
 unfold evA;split
 . rename_i t;exact h t rfl
 . split
   . rename_i n h0;exact⟨n.toNat,by show Value.int .i64 n=_;rw [Int.toNat_of_nonneg h0],Nat.le_refl _,Nat.lt_succ_self _⟩
   . trivial
 . exact⟨_,rfl,fun y hy=>by cases hy;rfl⟩
 . rename_i s;exact⟨_,s.data.toList,List.mem_singleton.2 rfl,by show Value.string s=_;congr 1,Ats.lit _⟩
 . trivial
end
end Go.Proofs.YtppcohadoilpgaaGreatDoor
