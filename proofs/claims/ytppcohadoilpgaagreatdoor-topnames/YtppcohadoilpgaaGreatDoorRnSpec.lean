/-
  What is read of a source without the sign D has no rule of End. Of data alone. / A program whose variables and lists have other names: it may be, if the one may be; and it does the same. Of data alone. / What is read of a source in which no two signs z stand side by side has no name that ends so. Of data alone. / In a source of raw numbers no two signs z stand side by side. Of data alone.
-/
import Derived.Test.YtppcohadoilpgaaGreatDoorGround
import Derived.Test.YtppcohadoilpgaaGreatDoorMSpec
import Derived.Test.YtppcohadoilpgaaGreatDoorCkMem
import Derived.Test.YtppcohadoilpgaaGreatDoorSrcSpec
namespace Go.Proofs.YtppcohadoilpgaaGreatDoor
open Go.RowKit Go.Proofs.Tryz
set_option linter.unusedVariables false
set_option maxRecDepth 100000
theorem Ha {t:List UInt8} {ps r:List Pc} {u:Unit} (h:A8 t ps = .ok (u,r)):r <:+ ps:=by
 unfold A8 at h;split at h
 . cases h
 . split at h
   . cases h;exact List.suffix_cons _ _
   . cases h
theorem Wj {ps r:List Pc} {s:List UInt8} (h:nmR ps = .ok (s,r)):r <:+ ps:=by
 unfold nmR at h;split at h
 . cases h
 . split at h
   . cases h;exact List.suffix_cons _ _
   . cases h
theorem Hk:∀m:Nat,
 (∀o ps x r,Ax m o ps = .ok (x,r)->r <:+ ps)/\(∀d o ps x r,Cs m d o ps = .ok (x,r)->r <:+ ps)/\(∀d o y ps x r,Fm m d o y ps = .ok (x,r)->r <:+ ps) /\
 (∀o ps x r,opR m o ps = .ok (x,r)->r <:+ ps)/\(∀k o ps x r,Hs m k o ps = .ok (x,r)->r <:+ ps)/\(∀o ps x r,Ht m o ps = .ok (x,r)->r <:+ ps) /\
 (∀o s ps x r,B7 m o s ps = .ok (x,r)->r <:+ ps)/\(∀o ps x r,Fo m o ps = .ok (x,r)->r <:+ ps)/\(∀o ps x r,Bo m o ps = .ok (x,r)->r <:+ ps)/\(∀o l ps x r,Fv m o l ps = .ok (x,r)->r <:+ ps)
 | 0=>by
  refine⟨?_,?_,?_,?_,?_,?_,?_,?_,?_,?_⟩
  all_goals intros
  all_goals rename_i h
  all_goals first | (unfold Ax at h;cases h) | (unfold Cs at h;cases h) | (unfold Fm at h;cases h) | (unfold opR at h;cases h) | (unfold Hs at h;cases h) | (unfold Ht at h;cases h) | (unfold B7 at h;cases h) | (unfold Fo at h;cases h) | (unfold Bo at h;cases h) | (unfold Fv at h;cases h)
 | m+1=>by
  obtain⟨i1,i2,i3,i4,i5,i6,i7,i8,i9,i10⟩:=Hk m;have nx:=@Ha;have mx:=@Wj;have tr:∀ {a b c:List Pc},a <:+ b->b <:+ c->a <:+ c:=fun h k=>h.trans k;have tl:∀(l:List Pc),l.tail <:+ l:=fun l=>List.tail_suffix l;have cn:∀(p:Pc) (l:List Pc),l <:+ p :: l:=fun p l=>List.suffix_cons p l;refine⟨?_,?_,?_,?_,?_,?_,?_,?_,?_,?_⟩
  . intro o ps x r h;unfold Ax at h
    grind
  . intro d o ps x r h;unfold Cs at h
    grind
  . intro d o y ps x r h;unfold Fm at h
    grind
  . intro o ps x r h;unfold opR at h
    grind
  . intro k o ps x r h;unfold Hs at h
    grind
  . intro o ps x r h;unfold Ht at h
    grind
  . intro o s ps x r h;unfold B7 at h
    grind
  . intro o ps x r h;unfold Fo at h
    grind
  . intro o ps x r h;unfold Bo at h
    grind
  . intro o l ps x r h;unfold Fv at h
    grind
theorem Afw {m:Nat} {o:Int} {ps r:List Pc} {x:Sm} (h:Bl m o ps = .ok (x,r)):r <:+ ps:=by
 obtain⟨i1,i2,i3,i4,i5,i6,i7,i8,i9,i10⟩:=Hk m;have nx:=@Ha;have mx:=@Wj;have tr:∀ {a b c:List Pc},a <:+ b->b <:+ c->a <:+ c:=fun h k=>h.trans k;have tl:∀(l:List Pc),l.tail <:+ l:=fun l=>List.tail_suffix l;have cn:∀(p:Pc) (l:List Pc),l <:+ p :: l:=fun p l=>List.suffix_cons p l;have sx:∀ {ps r:List Pc} {x:Ex},Hh m o ps = .ok (x,r)->r <:+ ps:=fun h=>by
  unfold Hh at h
  grind
 have px:∀ {ps r:List Pc} {x:Sm},Gp m o ps = .ok (x,r)->r <:+ ps:=fun h=>by
  unfold Gp at h
  grind
 unfold Bl at h
 grind
theorem U3 {m:Nat} {o:Int} {ps r:List Pc} {x:Ex} (h:Cn m o ps = .ok (x,r)):r <:+ ps:=by
 obtain⟨i1,i2,i3,i4,i5,i6,i7,i8,i9,i10⟩:=Hk m;have nx:=@Ha;have tr:∀ {a b c:List Pc},a <:+ b->b <:+ c->a <:+ c:=fun h k=>h.trans k;unfold Cn at h
 grind
theorem P7:∀m:Nat,(∀o ps x r,A5 m o ps = .ok (x,r)->r <:+ ps)/\(∀o l ps x r,Dc m o l ps = .ok (x,r)->r <:+ ps)/\(∀o ps x r,Bn m o ps = .ok (x,r)->r <:+ ps)
 | 0=>by
  refine⟨?_,?_,?_⟩
  all_goals intros
  all_goals rename_i h
  all_goals first | (unfold A5 at h;cases h) | (unfold Dc at h;cases h) | (unfold Bn at h;cases h)
 | m+1=>by
  obtain⟨i1,i2,i3⟩:=P7 m;have nx:=@Ha;have mx:=@Wj;have ax:=@U3 m;have sx:=@Afw m;have tr:∀ {a b c:List Pc},a <:+ b->b <:+ c->a <:+ c:=fun h k=>h.trans k;have tl:∀(l:List Pc),l.tail <:+ l:=fun l=>List.tail_suffix l;refine⟨?_,?_,?_⟩
  . intro o ps x r h;unfold A5 at h
    grind
  . intro o l ps x r h;unfold Dc at h
    grind
  . intro o ps x r h;unfold Bn at h;split at h
    . grind
    . split at h
      . grind
      . split at h
        . split at h
          . cases h
          rename_i u1 p1 e1;split at h
          . cases h
          rename_i s p2 e2;split at h
          . cases h
          rename_i u2 p3 e3;split at h
          . cases h
          rename_i t p4 e4;split at h
          . cases h
          rename_i u3 p5 e5;split at h
          . cases h
          rename_i b p6 e6;cases h;exact (i1 _ _ _ _ e6).trans ((nx e5).trans ((mx e4).trans ((nx e3).trans ((mx e2).trans ((nx e1).trans (tl ps))))))
        . grind
def NoD (ps:List Pc):Prop:=∀p ∈ ps,p.k ≠ 3->p.s ≠ [69,78,68]
theorem NoD.of {ps r:List Pc} (h:NoD ps) (k:r <:+ ps):NoD r:=fun p hp=>h p (k.subset hp)
end Go.Proofs.YtppcohadoilpgaaGreatDoor
namespace Go.Proofs.YtppcohadoilpgaaGreatDoor
open Go.RowKit Go.Proofs.Tryz
set_option linter.unusedVariables false
set_option linter.unusedSimpArgs false
set_option maxRecDepth 100000
def rho (s:ByteArray):ByteArray:=if 4<s.size then s else s ++ ⟨#[122,122]⟩
def Dk (s:ByteArray):Prop:=0<s.size/\¬ [122,122] <:+ s.toList
theorem Ack {a b:ByteArray} (ha:Dk a) (hb:Dk b) (h:rho a=rho b):a=b:=by
 have e:∀x:ByteArray,(x ++ ⟨#[122,122]⟩).toList=x.toList ++ [122,122]:=fun x=>by rw [Ml,show (⟨#[122,122]⟩:ByteArray).toList = [122,122] from Z9 _]
 unfold rho at h;split at h <;> split at h
 . exact h
 . exact absurd (by rw [h,e];exact List.suffix_append _ _) ha.2
 . exact absurd (by rw [<-h,e];exact List.suffix_append _ _) hb.2
 . have h2:=congrArg ByteArray.toList h;rw [e,e] at h2;have h3:=List.append_cancel_right h2;rw [<-Nj a,h3,Nj]
theorem Pz {a b:ByteArray} (ha:Dk a) (hb:Dk b):rho a=rho b ↔ a=b:=⟨Ack ha hb,fun h=>by rw [h]⟩
theorem Zi {s:ByteArray} (h:Ct s=true):Ct (rho s)=true:=by
 unfold rho;split
 . exact h
 . rename_i h4;have e:(s ++ ⟨#[122,122]⟩).toList=s.toList ++ [122,122]:=by rw [Ml,show (⟨#[122,122]⟩:ByteArray).toList = [122,122] from Z9 _]
   have hsz:(s ++ ⟨#[122,122]⟩).size=s.size+2:=by rw [ByteArray.size_append];rfl
   have hw:∀x ∈ C9,¬ [122,122] <:+ x:=by decide
   simp only [Ct,Bool.and_eq_true,Bool.not_eq_true',decide_eq_true_eq,Eu,Dr,e,hsz] at h ⊢;obtain⟨⟨⟨h1,h2⟩,h3⟩,h5⟩:=h;refine⟨⟨⟨by omega,by omega⟩,?_⟩,?_⟩
   . rw [Bool.eq_false_iff];intro hc;exact hw _ (List.contains_iff_mem.1 hc) (List.suffix_append _ _)
   . rw [List.all_append,h5];decide
def rnE:Nat->Ex->Ex
 | 0,x=>x
 | m+1,.mk k n s l=> .mk k n (if k=3\/k=5\/k=9 then rho s else s) (l.map (rnE m))
def rnS:Nat->Sm->Sm
 | 0,x=>x
 | m+1,.mk k s t es b e=> .mk k (if s.size=0 then s else rho s) (if k=7 then rho t else t) (es.map (rnE m)) (b.map (rnS m)) (e.map (rnS m))
def rnR (m:Nat) (r:Ru):Ru:=⟨r.when,r.has,rnE m r.pat,r.body.map (rnS m)⟩
inductive ShE:Ex->Prop
 | mk {k n:Int} {s:ByteArray} {l:List Ex} (h:k=3\/k=5\/k=9->Dk s) (hl:∀x ∈ l,ShE x):ShE (.mk k n s l)
inductive ShS:Sm->Prop
 | mk {k:Int} {s t:ByteArray} {es:List Ex} {b e:List Sm} (h:k=1\/k=2\/k=7\/k=9\/k=10->Dk s) (h7:k=7->Dk t) (he:∀x ∈ es,ShE x) (hb:∀x ∈ b,ShS x) (hc:∀x ∈ e,ShS x):ShS (.mk k s t es b e)
def ShR (r:Ru):Prop:=ShE r.pat/\∀x ∈ r.body,ShS x
theorem R6 (m:Nat):rnE m default=default:=by cases m <;> rfl
theorem P0 (m:Nat) (l:List Ex) (i:Nat):(l.map (rnE m)).getD i default=rnE m (l.getD i default):=by
 by_cases h:i<l.length
 . simp [h]
 . simp [List.getD,h,R6]
theorem ShE.dflt:ShE default:= .mk (fun h=>by simp at h) (fun x hx=>by cases hx)
theorem ShE.get {l:List Ex} (h:∀x ∈ l,ShE x) (i:Nat):ShE (l.getD i default):=by
 by_cases hi:i<l.length
 . rw [List.getD_eq_getElem?_getD,gee hi];exact h _ (List.getElem_mem _)
 . rw [List.getD_eq_getElem?_getD,List.getElem?_eq_none (by omega)];exact ShE.dflt
structure Rn (st st':St):Prop where
 nodes:st'.nodes=st.nodes
 nm:∀t,Dk t->st'.nm (rho t)=st.nm t
theorem Y7 {d:Int} {st st1 st':St} (h:B6 d st = .ok st1) (H:Rn st st'):∃st2,B6 d st' = .ok st2/\Rn st1 st2:=by
 unfold B6 at h ⊢;rw [H.nodes];split at h
 . cases h
 . rename_i hc;rw [if_neg hc];cases h;exact⟨_,rfl,by rw [<-H.nodes],H.nm⟩
theorem Lm {s:ByteArray} {kind:Int} {st st1 st':St} (hs:Dk s) (h:Bh s kind st = .ok st1) (H:Rn st st'):∃st2,Bh (rho s) kind st' = .ok st2/\Rn st1 st2:=by
 unfold Bh at h ⊢;rw [H.nm s hs];split at h
 . cases h
 . rename_i hn;rw [if_neg (by rw [Zi (by simpa using hn)];simp)];split at h
   . rename_i h0;rw [if_pos h0];cases h;refine⟨_,rfl,H.nodes,fun t ht=>?_⟩;simp only [Pz ht hs,H.nm t ht]
   . rename_i h0;rw [if_neg h0];split at h
     . rename_i hk;rw [if_pos hk];cases h;exact⟨_,rfl,H⟩
     . cases h
theorem L8 {α:Type} {f:α->St->Res} {g:α->α} {f':α->St->Res}:∀(l:List α),(∀x ∈ l,∀ {st st1 st':St},f x st = .ok st1->Rn st st'->∃st2,f' (g x) st' = .ok st2/\Rn st1 st2)->∀ {st st1 st':St},Au f l st = .ok st1->Rn st st'->∃st2,Au f' (l.map g) st' = .ok st2/\Rn st1 st2
 | [],_,st,st1,st',h,H=>by unfold Au at h;cases h;exact⟨_,rfl,H⟩
 | x :: l,hf,st,st1,st',h,H=>by
  unfold Au at h;cases e:f x st with
  | error er=>simp only [e] at h;cases h
  | ok s2 =>
   simp only [e] at h;obtain⟨s3,h3,H3⟩:=hf x (List.mem_cons_self ..) e H;obtain⟨s4,h4,H4⟩:=L8 l (fun y hy=>hf y (List.mem_cons_of_mem _ hy)) h H3;exact⟨s4,by rw [List.map_cons,Au];simp only [h3];exact h4,H4⟩
theorem Ab2 (k n:Int) (s t:ByteArray) (hs:k=11->s=t) (len:Nat):Bt k n s len=Bt k n t len:=by
 by_cases h:k=11
 . rw [hs h]
 . simp [Bt,D1,h]
theorem Ac0 {k:Int} {s:ByteArray} {st st1 st':St} (hs:k=3\/k=5\/k=9->Dk s) (h:Ay k s st = .ok st1) (H:Rn st st'):∃st2,Ay k (if k=3\/k=5\/k=9 then rho s else s) st' = .ok st2/\Rn st1 st2:=by
 by_cases h3:k=3
 . subst h3;simp only [Ay] at h ⊢;simp at h ⊢;exact Lm (hs (.inl rfl)) h H
 by_cases h5:k=5\/k=9
 . have h2:k ≠ 2:=by rcases h5 with h | h <;> (rw [h];decide)
   rw [if_pos (.inr h5)];simp only [Ay,if_neg h2,if_neg h3,if_pos h5] at h ⊢;exact Lm (hs (.inr h5)) h H
 rw [if_neg (show ¬(k=3\/k=5\/k=9) from fun h=>h.elim h3 h5)];simp only [Ay,if_neg h3,if_neg h5] at h ⊢;have key:∀ {c:Prop} [Decidable c] {e:Int} {s1:St},(if c then (Except.error e:Res) else .ok st) = .ok s1->∃st2,(if c then (Except.error e:Res) else .ok st') = .ok st2/\Rn s1 st2:=fun {c} _ e s1 h=>by
  split at h
  . cases h
  . rename_i hc;rw [if_neg hc];cases h;exact⟨_,rfl,H⟩
 have key2:∀ {c:Prop} [Decidable c] {e:Int} {s1:St},(if c then .ok st else (Except.error e:Res)) = .ok s1->∃st2,(if c then .ok st' else (Except.error e:Res)) = .ok st2/\Rn s1 st2:=fun {c} _ e s1 h=>by
  split at h
  . rename_i hc;rw [if_pos hc];cases h;exact⟨_,rfl,H⟩
  . cases h
 split at h
 . rename_i hc;rw [if_pos hc];exact key h
 rename_i c2;rw [if_neg c2];split at h
 . rename_i hc;rw [if_pos hc];exact key2 h
 rename_i c6;rw [if_neg c6];split at h
 . rename_i hc;rw [if_pos hc];exact key2 h
 rename_i c12;rw [if_neg c12];split at h
 . rename_i hc;rw [if_pos hc];cases h;exact⟨_,rfl,H⟩
 rename_i c11;rw [if_neg c11];exact key h
theorem Aea:∀(m:Nat) (x:Ex) (d:Int) {st st1 st':St},ShE x->ckE m x d st = .ok st1->Rn st st'->∃st2,ckE m (rnE m x) d st' = .ok st2/\Rn st1 st2
 | 0,x,d,st,st1,st',_,h,H=>by unfold ckE at h;cases h;exact⟨_,rfl,H⟩
 | m+1,.mk k n s l,d,st,st1,st',hx,h,H=>by
  obtain⟨hs,hl⟩:=hx;unfold rnE;unfold ckE at h ⊢;cases e:B6 d st with
  | error er=>simp only [e] at h;cases h
  | ok s1 =>
   obtain⟨t1,e1,H1⟩:=Y7 e H;simp only [e] at h;simp only [e1];split at h
   . cases h
   rename_i c1;rw [if_neg c1];rw [List.length_map,Ab2 k n _ s (fun h=>by rw [if_neg];rw [h];decide)];split at h
   . cases h
   rename_i c2;rw [if_neg c2];cases e2:Ay k s s1 with
   | error er=>simp only [e2] at h;cases h
   | ok s2 =>
    obtain⟨t2,e3,H2⟩:=Ac0 hs e2 H1;simp only [e2] at h;simp only [e3];split at h
    . cases h
    rename_i c3;rw [if_neg c3];exact L8 l (fun y hy _ _ _ h H=>Aea m y (d+1) (hl y hy) h H) h H2
theorem Z7 {k:Int} {s:ByteArray} {st st1 st':St} (hs:k=1\/k=2\/k=7\/k=9\/k=10->Dk s) (h:Bi k s st = .ok st1) (H:Rn st st'):∃st2,Bi k (if s.size=0 then s else rho s) st' = .ok st2/\Rn st1 st2:=by
 unfold Bi at h ⊢
 by_cases c1:k=1\/k=7
 . have hn:=hs (by omega);rw [if_neg (show ¬s.size=0 by have:=hn.1;omega),if_pos c1];rw [if_pos c1] at h;exact Lm hn h H
 rw [if_neg c1] at h ⊢
 by_cases c2:k=2\/k=9\/k=10
 . have hn:=hs (by omega);rw [if_neg (show ¬s.size=0 by have:=hn.1;omega),if_pos c2];rw [if_pos c2] at h;exact Lm hn h H
 rw [if_neg c2] at h ⊢;split at h
 . cases h
 . rename_i c3;rw [if_pos (show s.size=0 by omega),if_neg c3];cases h;exact⟨_,rfl,H⟩
theorem Z8 {k:Int} {t:ByteArray} {st st1 st':St} (ht:k=7->Dk t) (h:Bc k t st = .ok st1) (H:Rn st st'):∃st2,Bc k (if k=7 then rho t else t) st' = .ok st2/\Rn st1 st2:=by
 unfold Bc at h ⊢
 by_cases c1:k=7
 . rw [if_pos c1,if_pos c1];rw [if_pos c1] at h;exact Lm (ht c1) h H
 rw [if_neg c1] at h;rw [if_neg c1,if_neg c1];split at h
 . rename_i c2;rw [if_pos c2];split at h
   . cases h
   . rename_i c3;rw [if_neg c3];cases h;exact⟨_,rfl,H⟩
 . rename_i c2;rw [if_neg c2];split at h
   . cases h
   . rename_i c3;rw [if_neg c3];cases h;exact⟨_,rfl,H⟩
theorem Xy (when:Int):∀(m:Nat) (x:Sm) (d:Int) {st st1 st':St},ShS x->ckS when m x d st = .ok st1->Rn st st'->∃st2,ckS when m (rnS m x) d st' = .ok st2/\Rn st1 st2
 | 0,x,d,st,st1,st',_,h,H=>by unfold ckS at h;cases h;exact⟨_,rfl,H⟩
 | m+1,.mk k s t es b e,d,st,st1,st',hx,h,H=>by
  obtain⟨hs,h7,he,hb,hc⟩:=hx;unfold rnS;unfold ckS at h ⊢;cases e0:B6 d st with
  | error er=>simp only [e0] at h;cases h
  | ok s1 =>
   obtain⟨t1,e1,H1⟩:=Y7 e0 H;simp only [e0] at h;simp only [e1,List.length_map];split at h
   . cases h
   rename_i c1;rw [if_neg c1];split at h
   . cases h
   rename_i c2;rw [if_neg c2];cases e2:As when k s t s1 with
   | error er=>simp only [e2] at h;cases h
   | ok s2 =>
    have h2:∃t2,As when k (if s.size=0 then s else rho s) (if k=7 then rho t else t) t1 = .ok t2/\Rn s2 t2:=by
     unfold As at e2 ⊢;cases e3:Bi k s s1 with
     | error er=>simp only [e3] at e2;cases e2
     | ok s3 =>
      obtain⟨t3,e4,H3⟩:=Z7 hs e3 H1;simp only [e3] at e2;simp only [e4];split at e2
      . cases e2
      . rename_i c3;rw [if_neg c3];exact Z8 h7 e2 H3
    obtain⟨t2,e3,H2⟩:=h2;simp only [e2] at h;simp only [e3];split at h
    . cases h
    rename_i c3;rw [if_neg c3];cases e4:Au (fun x=>ckE m x (d+1)) es s2 with
    | error er=>simp only [e4] at h;cases h
    | ok s3 =>
     obtain⟨t3,e5,H3⟩:=L8 (f':=fun x=>ckE m x (d+1)) (g:=rnE m) es (fun y hy _ _ _ h H=>Aea m y (d+1) (he y hy) h H) e4 H2;simp only [e4] at h;simp only [e5];cases e6:Au (fun x=>ckS when m x (d+1)) b s3 with
     | error er=>simp only [e6] at h;cases h
     | ok s4 =>
      obtain⟨t4,e7,H4⟩:=L8 (f':=fun x=>ckS when m x (d+1)) (g:=rnS m) b (fun y hy _ _ _ h H=>Xy when m y (d+1) (hb y hy) h H) e6 H3;simp only [e6] at h;simp only [e7];exact L8 e (fun y hy _ _ _ h H=>Xy when m y (d+1) (hc y hy) h H) h H4
theorem Agf {m:Nat} {x:Ex} (h:C5 x=true):C5 (rnE m x)=true:=by
 cases m with
 | zero=>exact h
 | succ m =>
  cases x with
  | mk k n s l =>
   simp only [C5,rnE,Bool.and_eq_true,decide_eq_true_eq,List.length_map] at h ⊢;refine⟨⟨⟨h.1.1.1,h.1.1.2⟩,?_⟩,h.2⟩;rw [if_neg (by rw [h.1.1.1];decide)];exact h.1.2
theorem Agw {m:Nat} {r:Ru} (hr:ShR r) {st st1 st':St} (h:ckR m r st = .ok st1) (H:Rn st st'):∃st2,ckR m (rnR m r) st' = .ok st2/\Rn st1 st2:=by
 unfold ckR at h ⊢;show ∃st2,(if r.when<0\/2<r.when then _ else if r.has=true/\r.when ≠ 1 then _ else _)=_/\_;split at h
 . cases h
 rename_i c1;rw [if_neg c1];split at h
 . cases h
 rename_i c2;rw [if_neg c2];have h1:∀ {s1},(if r.has then ckE m r.pat 1 st else .ok st) = .ok s1->∃t1,(if (rnR m r).has then ckE m (rnR m r).pat 1 st' else .ok st') = .ok t1/\Rn s1 t1:=fun {s1} h=>by
  show ∃t1,(if r.has then ckE m (rnE m r.pat) 1 st' else _)=_/\_;split at h
  . rename_i c;rw [if_pos c];exact Aea m _ 1 hr.1 h H
  . rename_i c;rw [if_neg c];cases h;exact⟨_,rfl,H⟩
 cases e:(if r.has then ckE m r.pat 1 st else .ok st:Res) with
 | error er=>simp only [e] at h;cases h
 | ok s1 =>
  obtain⟨t1,e1,H1⟩:=h1 e;simp only [e] at h;simp only [e1];split at h
  . cases h
  rename_i c3;rw [if_neg (fun hc=>c3 ⟨hc.1,by
   rw [Bool.eq_false_iff];intro hz;have h5:=hc.2;rw [show (rnR m r).pat=rnE m r.pat from rfl,Agf hz] at h5;cases h5⟩)]
  exact L8 (f':=fun x=>ckS r.when m x 1) (g:=rnS m) r.body (fun y hy _ _ _ h H=>Xy r.when m y 1 (hr.2 y hy) h H) h H1
theorem Agv {m:Nat} {l:List Ru} (hl:∀r ∈ l,ShR r) (h:ckP m l=0):ckP m (l.map (rnR m))=0:=by
 unfold ckP at h ⊢;rw [List.length_map];split at h
 . cases h
 rename_i c;rw [if_neg c];cases e:Au (ckR m) l ⟨fun _=>0,0⟩ with
 | error er =>
  simp only [e] at h;exact absurd (e.trans (by rw [h])) (Ho m l ⟨fun _=>0,0⟩)
 | ok s1 =>
  obtain⟨t1,e1,-⟩:=L8 (f':=ckR m) (g:=rnR m) l (fun r hr _ _ _ h H=>Agw (hl r hr) h H) e ⟨rfl,fun _ _=>rfl⟩;simp only [e1]
structure Rm (s s':Ms):Prop where
 left:s'.left=s.left
 whole:s'.whole=s.whole
 flds:s'.flds=s.flds
 recs:s'.recs=s.recs
 out:s'.out=s.out
 vars:∀t,Dk t->s'.vars (rho t)=s.vars t
 lists:∀t,Dk t->s'.lists (rho t)=s.lists t
def Rno:Om->Om->Prop
 | .go s b,r=>∃s',r = .go s' b/\Rm s s'
 | .stop s e,r=>∃s',r = .stop s' e/\Rm s s'
theorem Rno.then {r r':Om} {f f':Ms->Om} (h:Rno r r') (hf:∀s s',Rm s s'->Rno (f s) (f' s')):Rno (r.then f) (r'.then f'):=by
 cases r with
 | go s b =>
  obtain⟨s',rfl,H⟩:=h;cases b with
  | true=>exact hf s s' H
  | false=>exact⟨s',rfl,H⟩
 | stop s e=>obtain⟨s',rfl,H⟩:=h;exact⟨s',rfl,H⟩
theorem Rno.or {α:Type} {s s':Ms} {x y:Except Int α} {f f':α->Om} (H:Rm s s') (hxy:y=x) (hf:∀v,Rno (f v) (f' v)):Rno (orM s x f) (orM s' y f'):=by
 subst hxy;cases y with
 | error e=>exact⟨s',rfl,H⟩
 | ok v=>exact hf v
theorem Rno.burn {s s':Ms} {f f':Ms->Om} (H:Rm s s') (hf:∀t t',Rm t t'->Rno (f t) (f' t')):Rno (Az s f) (Az s' f'):=by
 unfold Az;rw [H.left];split
 . exact⟨s',rfl,H⟩
 . exact hf _ _ ⟨rfl,H.whole,H.flds,H.recs,H.out,H.vars,H.lists⟩
theorem Rno.run {α:Type} {f f':Ms->α->Om} {g:α->α}:∀(l:List α),(∀x ∈ l,∀s s',Rm s s'->Rno (f s x) (f' s' (g x)))->∀s s',Rm s s'->Rno (A0 f l s) (A0 f' (l.map g) s')
 | [],_,s,s',H=>⟨s',rfl,H⟩
 | x :: l,hf,s,s',H=>(hf x (List.mem_cons_self ..) s s' H).then (Rno.run l fun y hy=>hf y (List.mem_cons_of_mem _ hy))
theorem Sv {s s':Ms} {m:Nat}:∀(l:List Ex),(∀x ∈ l,Ai s' m (rnE m x)=Ai s m x)->Cw (Ai s' m) (l.map (rnE m))=Cw (Ai s m) l
 | [],_=>rfl
 | x :: l,h=>by
  rw [List.map_cons,Cw,Cw,h x (List.mem_cons_self ..),Sv l fun y hy=>h y (List.mem_cons_of_mem _ hy)]
theorem Nc {s s':Ms} (H:Rm s s'):∀(m:Nat) (x:Ex),ShE x->Ai s' m (rnE m x)=Ai s m x
 | 0,_,_=>rfl
 | m+1,.mk k n t l,hx=>by
  obtain⟨ht,hl⟩:=hx;have hg:∀i,Ai s' m ((l.map (rnE m)).getD i default)=Ai s m (l.getD i default):=fun i=>by
   rw [P0];exact Nc H m _ (ShE.get hl i)
  have ha:=Sv (s:=s) (s':=s') (m:=m) l fun x hx=>Nc H m x (hl x hx);have hf:∀v,Cu s' v=Cu s v:=fun v=>by unfold Cu;rw [H.whole,H.flds]
  by_cases h3:k=3
  . subst h3;simp [rnE,Ai,H.vars t (ht (.inl rfl))]
  by_cases h5:k=5
  . subst h5;simp only [rnE,Ai,hg,H.lists t (ht (.inr (.inl rfl)))];simp [H.lists t (ht (.inr (.inl rfl)))]
  by_cases h9:k=9
  . subst h9;simp only [rnE,Ai,hg,H.lists t (ht (.inr (.inr rfl)))];simp [H.lists t (ht (.inr (.inr rfl)))]
  have hk:¬(k=3\/k=5\/k=9):=by omega
  simp only [rnE,if_neg hk,Ai,hg,ha,hf,if_neg h3,if_neg h5,if_neg h9,H.recs,H.flds]
theorem Rm.set {s s':Ms} (H:Rm s s') {a:ByteArray} (ha:Dk a) (v:Vl):Rm (Dz s a v) (Dz s' (rho a) v) :=
 ⟨H.left,H.whole,H.flds,H.recs,H.out,fun t ht=>by simp only [Dz,Pz ht ha,H.vars t ht],H.lists⟩
theorem Rm.list {s s':Ms} (H:Rm s s') {a:ByteArray} (ha:Dk a) (v:Tab):Rm (Bm s a v) (Bm s' (rho a) v) :=
 ⟨H.left,H.whole,H.flds,H.recs,H.out,H.vars,fun t ht=>by simp only [Bm,Pz ht ha,H.lists t ht]⟩
theorem Rno.put {s s':Ms} (H:Rm s s') {a:ByteArray} (ha:Dk a) (k:List UInt8) (v:Vl):Rno (Dl s a k v) (Dl s' (rho a) k v):=by
 unfold Dl;rw [H.lists a ha];split
 . exact⟨s',rfl,H⟩
 . exact⟨_,rfl,H.list ha _⟩
theorem Rno.load {a:ByteArray} (ha:Dk a):∀(l:List ByteArray) (i:Nat) (s s':Ms),Rm s s'->Rno (Fu a l i s) (Fu (rho a) l i s')
 | [],_,s,s',H=>⟨s',rfl,H⟩
 | x :: l,i,s,s',H=>(Rno.put H ha _ _).then (Rno.load ha l (i+1))
theorem Acc (F:List Fl) (m:Nat) {s s':Ms} (H:Rm s s') (x:Sm) (hx:ShS x):Rno (A2 F m s x) (A2 F m s' (rnS (m+1) x)):=by
 cases x with
 | mk k a t es b e =>
  obtain⟨ha,h7,he,hb,hc⟩:=hx;have hg:∀i,Ai s' m ((es.map (rnE m)).getD i default)=Ai s m (es.getD i default):=fun i=>by
   rw [P0];exact Nc H m _ (ShE.get he i)
  have hal:=Sv (s:=s) (s':=s') (m:=m) es fun x hx=>Nc H m x (he x hx);have nm:k=1\/k=2\/k=7\/k=9\/k=10->(if a.size=0 then a else rho a)=rho a:=fun h=>if_neg (by have:=(ha h).1;omega);simp only [rnS,A2,hg,hal];split
  . rename_i c;rw [nm (by omega)];exact Rno.or H rfl fun v=>⟨_,rfl,H.set (ha (by omega)) v⟩
  split
  . rename_i c;rw [nm (by omega)];exact Rno.or H rfl fun v=>Rno.or H rfl fun u=>Rno.put H (ha (by omega)) _ _
  split
  . refine Rno.or H rfl fun v=>Rno.or H rfl fun u=>?_;unfold De;rw [H.flds];split
    . exact⟨s',rfl,H⟩
    . split
      . exact⟨s',rfl,H⟩
      . split
        . exact⟨s',rfl,H⟩
        . exact⟨_,rfl,H.left,rfl,rfl,H.recs,H.out,H.vars,H.lists⟩
  split
  . refine Rno.or H rfl fun vs=>?_;unfold Dx;rw [H.out];split
    . exact⟨s',rfl,H⟩
    . exact⟨_,rfl,H.left,H.whole,H.flds,H.recs,rfl,H.vars,H.lists⟩
  split
  . rename_i c;rw [nm (by omega),H.lists a (ha (by omega))];exact Rno.or H rfl fun v=>⟨_,rfl,H.list (ha (by omega)) _⟩
  split
  . rename_i c;rw [nm (by omega)];unfold F4;rw [if_neg (by omega)];split
    . exact⟨s',rfl,H⟩
    . exact Rno.load (ha (by omega)) _ _ _ _ (H.list (ha (by omega)) _)
  . exact⟨s',rfl,H⟩
theorem Vu {q q':Ms->Except Int Vl} {b b':Ms->Om} (hq:∀s s',Rm s s'->q' s'=q s) (hb:∀s s',Rm s s'->Rno (b s) (b' s')):∀(n:Nat) (s s':Ms),Rm s s'->Rno (Dd q b n s) (Dd q' b' n s')
 | 0,s,s',H=>⟨s',rfl,H⟩
 | n+1,s,s',H=>by
  unfold Dd;refine Rno.or H (hq s s' H) fun v=>?_;split
  . exact Rno.burn H fun t t' H1=>(hb t t' H1).then (Vu hq hb n)
  . exact⟨s',rfl,H⟩
theorem Ui (F:List Fl):∀(m:Nat) (x:Sm),ShS x->∀s s',Rm s s'->Rno (Ag F m s x) (Ag F m s' (rnS m x))
 | 0,x,_,s,s',H=>⟨s',rfl,H⟩
 | m+1,.mk k a t es b e,hx,s,s',H=>by
  have hp:=fun {s s'} (H:Rm s s')=>Acc F m H _ hx;obtain⟨ha,h7,he,hb,hc⟩:=hx;have hg:∀ {s s'},Rm s s'->∀i,Ai s' m ((es.map (rnE m)).getD i default)=Ai s m (es.getD i default):=fun H i=>by
   rw [P0];exact Nc H m _ (ShE.get he i)
  have hB:=Rno.run (f:=Ag F m) (f':=Ag F m) (g:=rnS m) b fun x hx=>Ui F m x (hb x hx);have hC:=Rno.run (f:=Ag F m) (f':=Ag F m) (g:=rnS m) e fun x hx=>Ui F m x (hc x hx);unfold rnS Ag;refine Rno.burn H fun s s' H=>?_;split
  . refine Rno.or H (hg H 0) fun v=>?_;split
    . exact hB s s' H
    . exact hC s s' H
  split
  . rw [H.left];exact Vu (fun s s' H=>hg H 0) hB _ s s' H
  split
  . rename_i c;have nm:(if a.size=0 then a else rho a)=rho a:=if_neg (by have:=(ha (by omega)).1;omega);rw [H.lists t (h7 c)];simp only [nm];have h:=Rno.run (f:=fun s key=>Az s fun s=>A0 (Ag F m) b (Dz s a (vS ⟨key.toArray⟩))) (f':=fun s key=>Az s fun s=>A0 (Ag F m) (b.map (rnS m)) (Dz s (rho a) (vS ⟨key.toArray⟩))) (g:=id) ((s.lists t).map (·.1)) (fun key _ s s' H=>Rno.burn H fun s s' H=>hB _ _ (H.set (ha (by omega)) _)) s s' H;rw [List.map_id] at h;exact h
  rename_i c7;split
  . exact⟨s',rfl,H⟩
  . have h:=hp H;unfold rnS at h;rw [if_neg c7] at h;exact h
theorem Afp (F:List Fl) (m:Nat) {r:Ru} (hr:ShR r) {s s':Ms} (H:Rm s s'):Rno (Ep F m s r) (Ep F m s' (rnR m r)):=by
 have hB:=Rno.run (f:=Ag F m) (f':=Ag F m) (g:=rnS m) r.body fun x hx=>Ui F m x (hr.2 x hx);unfold Ep;refine Rno.burn H fun s s' H=>?_;show Rno _ (if r.has then orM s' (Ai s' m (rnE m r.pat)) fun v=>if v.so then A0 (Ag F m) (r.body.map (rnS m)) s' else .go s' true else _);split
 . refine Rno.or H (Nc H m _ hr.1) fun v=>?_;split
   . exact hB s s' H
   . exact⟨s',rfl,H⟩
 . exact hB s s' H
theorem P4 (F:List Fl) (m:Nat) {l:List Ru} (hl:∀r ∈ l,ShR r) (when:Int) {s s':Ms} (H:Rm s s'):Rno (Ci F m l when s) (Ci F m (l.map (rnR m)) when s'):=by
 have h:=Rno.run (f:=Ep F m) (f':=Ep F m) (g:=rnR m) (l.filter fun r=>r.when == when) (fun r hr s s' H=>Afp F m (hl r (List.mem_filter.1 hr).1) H) s s' H;have e:(l.map (rnR m)).filter (fun r=>r.when == when)=(l.filter fun r=>r.when == when).map (rnR m):=by rw [List.filter_map];rfl
 unfold Ci;rw [e];cases e1:A0 (Ep F m) (l.filter fun r=>r.when == when) s with
 | go t b=>rw [e1] at h;obtain⟨t',e2,H2⟩:=h;rw [e2];exact⟨t',rfl,H2⟩
 | stop t b=>rw [e1] at h;obtain⟨t',e2,H2⟩:=h;rw [e2];exact⟨t',rfl,H2⟩
theorem Yi (F:List Fl) (m:Nat) {l:List Ru} (hl:∀r ∈ l,ShR r) (ls:List ByteArray) (k:Nat):Rno (Be F m l ls (Cj k)) (Be F m (l.map (rnR m)) ls (Cj k)):=by
 unfold Be;have tk:∀ {s s':Ms} (x:ByteArray),Rm s s'->Rm (Gv s x) (Gv s' x):=fun x H=>⟨H.left,rfl,rfl,H.recs,H.out,H.vars,H.lists⟩;refine (P4 F m hl 0 ⟨rfl,rfl,rfl,rfl,rfl,fun _ _=>rfl,fun _ _=>rfl⟩).then fun s s' H=>?_;have h:=Rno.run (f:=fun s x=>Ci F m l 1 (Gv { s with recs:=s.recs+1 } x)) (f':=fun s x=>Ci F m (l.map (rnR m)) 1 (Gv { s with recs:=s.recs+1 } x)) (g:=id) ls (fun x _ s s' H=>P4 F m hl 1 (tk x ⟨H.left,H.whole,H.flds,by show s'.recs+1=s.recs+1;rw [H.recs],H.out,H.vars,H.lists⟩)) s s' H;rw [List.map_id] at h;exact h.then fun s s' H=>P4 F m hl 2 (tk _ H)
def NZ (ps:List Pc):Prop:=∀p ∈ ps,p.k=1->¬ [122,122] <:+ p.s
theorem NZ.of {ps r:List Pc} (h:NZ ps) (k:r <:+ ps):NZ r:=fun p hp=>h p (k.subset hp)
theorem NZ.head {p:Pc} {ps:List Pc} (h:NZ (p :: ps)) (hk:p.k=1):¬ [122,122] <:+ p.s:=h p (List.mem_cons_self ..) hk
theorem Jn {s:List UInt8} (h:Dt s=true):0<s.length:=by
 simp only [Dt,Bool.and_eq_true,decide_eq_true_eq] at h;omega
theorem Pq {s:List UInt8} (h0:0<s.length) (h:¬ [122,122] <:+ s):Dk (bs s):=⟨by rw [Ba];exact h0,by rw [B5];exact h⟩
theorem Ae3 {ps r:List Pc} {s:List UInt8} (h:nmR ps = .ok (s,r)) (hz:NZ ps):Dk (bs s):=by
 unfold nmR at h;split at h
 . cases h
 . split at h
   . rename_i p r hc;cases h;exact Pq (Jn hc.2) (hz.head hc.1)
   . cases h
theorem Ka {k n:Int} {s:List UInt8} {l:List Ex} (hk:¬(k=3\/k=5\/k=9)) (hl:∀x ∈ l,ShE x):ShE (A3 k n s l):= .mk (fun h=>absurd h hk) hl
theorem Zt {k n:Int} {s:List UInt8} {l:List Ex} (hs:Dk (bs s)) (hl:∀x ∈ l,ShE x):ShE (A3 k n s l):= .mk (fun _=>hs) hl
theorem Eg {α:Type} {P:α->Prop}:∀x ∈ ([]:List α),P x:=fun x hx=>by cases hx
theorem M1 {α:Type} {P:α->Prop} {a:α} (ha:P a):∀x ∈ [a],P x:=fun x hx=>by rw [List.mem_singleton.1 hx];exact ha
theorem Aal {α:Type} {P:α->Prop} {a b:α} (ha:P a) (hb:P b):∀x ∈ [a,b],P x:=fun x hx=>by
 rcases List.mem_cons.1 hx with rfl | hx
 . exact ha
 . exact M1 hb x hx
theorem Ah9 {α:Type} {P:α->Prop} {a b c:α} (ha:P a) (hb:P b) (hc:P c):∀x ∈ [a,b,c],P x:=fun x hx=>by
 rcases List.mem_cons.1 hx with rfl | hx
 . exact ha
 . exact Aal hb hc x hx
theorem Adu {α:Type} {P:α->Prop} {l:List α} {a:α} (hl:∀x ∈ l,P x) (ha:P a):∀x ∈ l ++ [a],P x:=fun x hx=>by
 rcases List.mem_append.1 hx with h | h
 . exact hl x h
 . exact M1 ha x h
def Oq (l:List Ex):Prop:=∀x ∈ l,ShE x
theorem Ks:∀m:Nat,
 (∀o ps x r,NZ ps->Ax m o ps = .ok (x,r)->ShE x)/\(∀d o ps x r,NZ ps->Cs m d o ps = .ok (x,r)->ShE x)/\(∀d o y ps x r,NZ ps->ShE y->Fm m d o y ps = .ok (x,r)->ShE x) /\
 (∀o ps x r,NZ ps->opR m o ps = .ok (x,r)->ShE x)/\(∀k o ps x r,¬(k=3\/k=5\/k=9)->NZ ps->Hs m k o ps = .ok (x,r)->ShE x)/\(∀o ps x r,NZ ps->Ht m o ps = .ok (x,r)->ShE x) /\
 (∀o s ps x r,¬ [122,122] <:+ s->NZ ps->B7 m o s ps = .ok (x,r)->ShE x)/\(∀o ps x r,NZ ps->Fo m o ps = .ok (x,r)->ShE x)/\(∀o ps x r,NZ ps->Bo m o ps = .ok (x,r)->Oq x)/\(∀o l ps x r,NZ ps->Oq l->Fv m o l ps = .ok (x,r)->Oq x)
 | 0=>by
  refine⟨?_,?_,?_,?_,?_,?_,?_,?_,?_,?_⟩
  all_goals intros
  all_goals rename_i h
  all_goals first | (unfold Ax at h;cases h) | (unfold Cs at h;cases h) | (unfold Fm at h;cases h) | (unfold opR at h;cases h) | (unfold Hs at h;cases h) | (unfold Ht at h;cases h) | (unfold B7 at h;cases h) | (unfold Fo at h;cases h) | (unfold Bo at h;cases h) | (unfold Fv at h;cases h)
 | m+1=>by
  obtain⟨i1,i2,i3,i4,i5,i6,i7,i8,i9,i10⟩:=Ks m;obtain⟨j1,j2,j3,j4,j5,j6,j7,j8,j9,j10⟩:=Hk m;have nx:=@Ha;have mx:=@Wj;have mn:=@Ae3;have zo:=@NZ.of;have tl:∀(l:List Pc),l.tail <:+ l:=fun l=>List.tail_suffix l;have zt:∀ {l:List Pc},NZ l->NZ l.tail:=fun h=>h.of (tl _);have zc:∀ {p:Pc} {l:List Pc},NZ (p :: l)->NZ l:=fun h=>h.of (List.suffix_cons _ _);have np:=@Pq;have lp:=@Jn;refine⟨?_,?_,?_,?_,?_,?_,?_,?_,?_,?_⟩
  . intro o ps x r hz h;have h3:=fun {a b c} (ha:ShE a) (hb:ShE b) (hc:ShE c)=>Ka (k:=10) (n:=0) (s:= []) (by decide) (Ah9 ha hb hc);unfold Ax at h;split at h
    . cases h
    split at h
    . cases h
    rename_i x1 p1 e1;have z1:=hz.of (j2 _ _ _ _ _ e1);split at h
    . split at h
      . cases h
      rename_i x2 p2 e2;have z2:=(zt z1).of (j1 _ _ _ _ e2);split at h
      . cases h
      rename_i u p3 e3;have z3:=z2.of (nx e3);split at h
      . cases h
      rename_i x4 p4 e4;cases h;exact h3 (i2 _ _ _ _ _ hz e1) (i1 _ _ _ _ (zt z1) e2) (i1 _ _ _ _ z3 e4)
    . cases h;exact i2 _ _ _ _ _ hz e1
  . intro d o ps x r hz h;unfold Cs at h
    grind
  . intro d o y ps x r hz hy h;have h9:=fun {s a} (hs:Dk (bs s)) (ha:ShE a)=>Zt (k:=9) (n:=0) (s:=s) hs (M1 ha);have h6:=fun {s a b} (ha:ShE a) (hb:ShE b)=>Ka (k:=6) (n:=0) (s:=s) (by decide) (Aal ha hb);unfold Fm at h
    grind
  . intro o ps x r hz h;have h1:=fun {n s}=>Ka (k:=1) (n:=n) (s:=s) (l:= []) (by decide) Eg;have h2:=fun {n s}=>Ka (k:=2) (n:=n) (s:=s) (l:= []) (by decide) Eg;have hh:=@NZ.head;unfold opR at h
    grind
  . intro k o ps x r hk hz h;have h1:=fun {a} (ha:ShE a)=>Ka (k:=k) (n:=0) (s:= []) hk (M1 ha);unfold Hs at h
    grind
  . intro o ps x r hz h;unfold Ht at h
    grind
  . intro o s ps x r hs hz h;have h12:=fun {n s}=>Ka (k:=12) (n:=n) (s:=s) (l:= []) (by decide) Eg;have h11:=fun {n s l} (hl:Oq l)=>Ka (k:=11) (n:=n) (s:=s) (l:=l) (by decide) hl;have h5:=fun {s a} (hs:Dk (bs s)) (ha:ShE a)=>Zt (k:=5) (n:=0) (s:=s) hs (M1 ha);have h3:=fun {s} (hs:Dk (bs s))=>Zt (k:=3) (n:=0) (s:=s) hs Eg;unfold B7 at h;split at h
    . cases h;exact h12
    split at h
    . split at h
      . cases h
      rename_i u p1 e1;split at h
      . cases h
      rename_i l p2 e2;split at h
      . cases h
      cases h;exact h11 (n:=0) (i9 _ _ _ _ (hz.of (nx e1)) e2)
    split at h
    . cases h
    rename_i hn;have hs2:=Pq (Jn (by simpa using hn)) hs;split at h
    . split at h
      . cases h
      rename_i x1 p1 e1;cases h;exact h5 hs2 (i8 _ _ _ _ hz e1)
    . cases h;exact h3 hs2
  . intro o ps x r hz h;unfold Fo at h
    grind
  . intro o ps x r hz h;have h1:∀ {a},ShE a->Oq [a]:=fun ha=>M1 ha;unfold Bo at h
    grind
  . intro o l ps x r hz hl h;have h1:∀ {l a},Oq l->ShE a->Oq (l ++ [a]):=fun hl ha=>Adu hl ha;unfold Fv at h
    grind
theorem H7 {k:Int} {s t:List UInt8} {es:List Ex} {b e:List Sm} (h:k=1\/k=2\/k=7\/k=9\/k=10->Dk (bs s)) (h7:k=7->Dk (bs t)) (he:Oq es) (hb:∀x ∈ b,ShS x) (hc:∀x ∈ e,ShS x):ShS (Bk k s t es b e):= .mk h h7 he hb hc
theorem Aan {m:Nat} {o:Int} {ps r:List Pc} {x:Ex} (hz:NZ ps) (h:Cn m o ps = .ok (x,r)):ShE x:=by
 obtain⟨i1,i2,i3,i4,i5,i6,i7,i8,i9,i10⟩:=Ks m;have nx:=@Ha;have zo:=@NZ.of;unfold Cn at h
 grind
theorem Afv {m:Nat} {o:Int} {ps r:List Pc} {x:Sm} (hz:NZ ps) (h:Bl m o ps = .ok (x,r)):ShS x:=by
 obtain⟨i1,i2,i3,i4,i5,i6,i7,i8,i9,i10⟩:=Ks m;obtain⟨j1,j2,j3,j4,j5,j6,j7,j8,j9,j10⟩:=Hk m;have nx:=@Ha;have mx:=@Wj;have mn:=@Ae3;have zo:=@NZ.of;have zt:∀ {l:List Pc},NZ l->NZ l.tail:=fun h=>h.of (List.tail_suffix _);have zc:∀ {p:Pc} {l:List Pc},NZ (p :: l)->NZ l:=fun h=>h.of (List.suffix_cons _ _);have sx:∀ {ps r:List Pc} {x:Ex},NZ ps->Hh m o ps = .ok (x,r)->ShE x:=fun hz h=>by
  unfold Hh at h
  grind
 have h1:=fun {s a} (hs:Dk (bs s)) (ha:ShE a)=>H7 (k:=1) (s:=s) (t:= []) (fun _=>hs) (fun h=>by cases h) (M1 ha) (b:= []) (e:= []) Eg Eg;have h2:=fun {s a b} (hs:Dk (bs s)) (ha:ShE a) (hb:ShE b)=>H7 (k:=2) (s:=s) (t:= []) (fun _=>hs) (fun h=>by cases h) (Aal ha hb) (b:= []) (e:= []) Eg Eg;have h9:=fun {s a} (hs:Dk (bs s)) (ha:ShE a)=>H7 (k:=9) (s:=s) (t:= []) (fun _=>hs) (fun h=>by cases h) (M1 ha) (b:= []) (e:= []) Eg Eg;have h10:=fun {s t} (hs:Dk (bs s))=>H7 (k:=10) (s:=s) (t:=t) (fun _=>hs) (fun h=>by cases h) (es:= []) Eg (b:= []) (e:= []) Eg Eg;have h3:=fun {a b} (ha:ShE a) (hb:ShE b)=>H7 (k:=3) (s:= []) (t:= []) (fun h=>by simp at h) (fun h=>by cases h) (Aal ha hb) (b:= []) (e:= []) Eg Eg;have h4:=fun {l} (ha:Oq l)=>H7 (k:=4) (s:= []) (t:= []) (fun h=>by simp at h) (fun h=>by cases h) ha (b:= []) (e:= []) Eg Eg
 have h8:=H7 (k:=8) (s:= []) (t:= []) (fun h=>by simp at h) (fun h=>by cases h) (es:= []) Eg (b:= []) (e:= []) Eg Eg;have px:∀ {ps r:List Pc} {x:Sm},NZ ps->Gp m o ps = .ok (x,r)->ShS x:=fun hz h=>by
  unfold Gp at h
  grind
 unfold Bl at h
 grind
def Kw (l:List Sm):Prop:=∀x ∈ l,ShS x
theorem Vq:∀m:Nat,(∀o ps x r,NZ ps->A5 m o ps = .ok (x,r)->Kw x)/\(∀o l ps x r,NZ ps->Kw l->Dc m o l ps = .ok (x,r)->Kw x)/\(∀o ps x r,NZ ps->Bn m o ps = .ok (x,r)->ShS x)
 | 0=>by
  refine⟨?_,?_,?_⟩
  all_goals intros
  all_goals rename_i h
  all_goals first | (unfold A5 at h;cases h) | (unfold Dc at h;cases h) | (unfold Bn at h;cases h)
 | m+1=>by
  obtain⟨i1,i2,i3⟩:=Vq m;obtain⟨j1,j2,j3⟩:=P7 m;have nx:=@Ha;have mx:=@Wj;have mn:=@Ae3;have ax:=@U3 m;have an:=@Aan m;have sn:=@Afv m;have zo:=@NZ.of;have zt:∀ {l:List Pc},NZ l->NZ l.tail:=fun h=>h.of (List.tail_suffix _);have hn:Kw []:=Eg;have h5:=fun {a b e} (ha:ShE a) (hb:Kw b) (he:Kw e)=>H7 (k:=5) (s:= []) (t:= []) (fun h=>by simp at h) (fun h=>by cases h) (M1 ha) hb he;have h6:=fun {a b e} (ha:ShE a) (hb:Kw b) (he:Kw e)=>H7 (k:=6) (s:= []) (t:= []) (fun h=>by simp at h) (fun h=>by cases h) (M1 ha) hb he;refine⟨?_,?_,?_⟩
  . intro o ps x r hz h;unfold A5 at h
    grind
  . intro o l ps x r hz hl h;have h1:∀ {l a},Kw l->ShS a->Kw (l ++ [a]):=fun hl ha=>Adu hl ha;unfold Dc at h
    grind
  . intro o ps x r hz h;unfold Bn at h;split at h
    . grind
    . split at h
      . grind
      . split at h
        . split at h
          . cases h
          rename_i u1 p1 e1;split at h
          . cases h
          rename_i s p2 e2;split at h
          . cases h
          rename_i u2 p3 e3;split at h
          . cases h
          rename_i t p4 e4;split at h
          . cases h
          rename_i u3 p5 e5;split at h
          . cases h
          rename_i b p6 e6;cases h;have z1:=(zt hz).of (nx e1);have z2:=z1.of (mx e2);have z3:=z2.of (nx e3);have z4:=z3.of (mx e4);have z5:=z4.of (nx e5);exact H7 (fun _=>mn e2 z1) (fun _=>mn e4 z3) Eg (i1 _ _ _ _ z5 e6) Eg
        . grind
theorem Acn {m:Nat} {o:Int} {ps r:List Pc} {x:Ru} (h:Cl m o ps = .ok (x,r)) (hz:NZ ps):r <:+ ps/\ShR x:=by
 obtain⟨i1,i2,i3⟩:=P7 m;obtain⟨k1,k2,k3⟩:=Vq m;have j1:=(Hk m).1;have j2:=(Ks m).1;have tr:∀ {a b c:List Pc},a <:+ b->b <:+ c->a <:+ c:=fun h k=>h.trans k;have tl:∀(l:List Pc),l.tail <:+ l:=fun l=>List.tail_suffix l;have zo:=@NZ.of;have zt:∀ {l:List Pc},NZ l->NZ l.tail:=fun h=>h.of (List.tail_suffix _);have h0:ShE (A3 0 0 [] []):=Ka (by decide) Eg;have hr:∀ {w h x b},ShE x->Kw b->ShR ⟨w,h,x,b⟩:=fun hx hb=>⟨hx,hb⟩;unfold Cl at h;split at h
 . split at h
   . cases h
   rename_i b p1 e1;cases h;exact⟨(i1 _ _ _ _ e1).trans (tl _),hr h0 (k1 _ _ _ _ (zt hz) e1)⟩
 split at h
 . split at h
   . cases h
   rename_i b p1 e1;cases h;exact⟨(i1 _ _ _ _ e1).trans (tl _),hr h0 (k1 _ _ _ _ (zt hz) e1)⟩
 split at h
 . split at h
   . cases h
   rename_i b p1 e1;cases h;exact⟨i1 _ _ _ _ e1,hr h0 (k1 _ _ _ _ hz e1)⟩
 split at h
 . cases h
 rename_i y p1 e1;split at h
 . cases h
 rename_i b p2 e2;cases h;have s1:=j1 _ _ _ _ e1;exact⟨(i1 _ _ _ _ e2).trans s1,hr (j2 _ _ _ _ hz e1) (k1 _ _ _ _ (hz.of s1) e2)⟩
theorem R7 {m:Nat}:∀(j:Nat) (l x:List Ru) (ps:List Pc),NZ ps->(∀r ∈ l,ShR r)->Ca m j l ps = .ok x->∀r ∈ x,ShR r
 | 0,_,_,_,_,_,h=>by unfold Ca at h;cases h
 | j+1,l,x,[],_,hl,h=>by unfold Ca at h;cases h;exact hl
 | j+1,l,x,p :: r,hd,hl,h=>by
  unfold Ca at h;cases e:Cl m 0 (p :: r) with
  | error er=>simp only [e] at h;cases h
  | ok y =>
   obtain⟨y,p1⟩:=y;simp only [e] at h;have h1:=Acn e hd;exact R7 j _ x p1 (hd.of h1.1) (Adu hl h1.2) h
def zzB:List UInt8->Bool
 | []=>true
 | [_]=>true
 | a :: b :: l=> !(a == 122 && b == 122) && zzB (b :: l)
theorem Ac8 {a:UInt8} {l:List UInt8} (h:zzB (a :: l)=true):zzB l=true:=by
 cases l with
 | nil=>rfl
 | cons b l=>unfold zzB at h;rw [Bool.and_eq_true] at h;exact h.2
theorem Qd:∀(i:Nat) {l:List UInt8},zzB l=true->zzB (l.drop i)=true
 | 0,l,h=>h
 | i+1,[],h=>by simpa using h
 | i+1,a :: l,h=>by rw [List.drop_succ_cons];exact Qd i (Ac8 h)
theorem Aag {a l:List UInt8} (h:zzB l=true) (hs:a <:+ l):zzB a=true:=by
 obtain⟨t,rfl⟩:=hs;have:=Qd t.length h
 rwa [List.drop_left] at this
theorem Agg {a l:List UInt8} (h:zzB l=true) (hp:a <+: l):¬ [122,122] <:+ a:=by
 intro hs;obtain⟨t,rfl⟩:=hp;obtain⟨u,rfl⟩:=hs;rw [List.append_assoc] at h;have h1:=Aag h (List.suffix_append u _);exact absurd h1 (by simp [zzB])
theorem Ab6 {l:List UInt8} {p:Pc} {i:Nat} (h:B9 l = .ok (p,i)) (hz:zzB l=true) (hk:p.k=1):¬ [122,122] <:+ p.s:=by
 unfold B9 at h;split at h
 . cases h;exact Agg hz (List.takeWhile_prefix _)
 . split at h
   . split at h
     . cases h
     . cases h;cases hk
   . split at h
     . split at h
       . cases h
       . cases h;cases hk
     . split at h
       . cases h;cases hk
       . cases h
theorem Add:∀(m:Nat) (l:List UInt8) (ps:List Pc),Gi m l = .ok ps->zzB l=true->NZ ps
 | 0,_,_,h,_=>by unfold Gi at h;cases h;intro p hp;cases hp
 | m+1,l,ps,h,hl=>by
  unfold Gi at h;have hl2:=Aag hl (List.dropWhile_suffix Cf);cases e:l.dropWhile Cf with
  | nil=>simp only [e] at h;cases h;intro p hp;cases hp
  | cons c r =>
   rw [e] at hl2;simp only [e] at h;cases e1:B9 (c :: r) with
   | error er=>simp only [e1] at h;cases h
   | ok y =>
    obtain⟨p,i⟩:=y;simp only [e1] at h;cases e2:Gi m ((c :: r).drop i) with
    | error er=>simp only [e2] at h;cases h
    | ok qs =>
     simp only [e2] at h;cases h;intro q hq;rcases List.mem_cons.1 hq with rfl | hq
     . exact Ab6 e1 hl2
     . exact Add m _ qs e2 (Qd i hl2) q hq
theorem Afj {s:List UInt8} {p:List Ru} (h:Ch s = .ok p) (hs:zzB s=true):∀r ∈ p,ShR r:=by
 unfold Ch at h;split at h
 . cases h
 . cases e:Gi (s.length+1) s with
   | error er=>simp only [e] at h;cases h
   | ok ps =>
    simp only [e] at h;cases e1:Ca (20 * ps.length+40) (ps.length+1) [] ps with
    | error er=>simp only [e1] at h;cases h
    | ok l =>
     simp only [e1] at h;split at h
     . cases h;exact R7 _ [] _ ps (Add _ _ _ e hs) Eg e1
     . cases h
def Lc (l:List UInt8):Bool:=l.head? == some 122
def D3 (l:List UInt8):Bool:=l.getLast? == some 122
theorem Qc:∀ {a b:List UInt8},zzB a=true->zzB b=true->(D3 a=false\/Lc b=false)->zzB (a ++ b)=true
 | [],b,_,hb,_=>hb
 | [x],[],_,_,_=>rfl
 | [x],y :: b,_,hb,h=>by
  simp only [List.cons_append,List.nil_append,zzB,Bool.and_eq_true];refine⟨?_,hb⟩;simp [D3,Lc] at h;simpa using h
 | x :: y :: a,b,ha,hb,h=>by
  simp only [List.cons_append,zzB,Bool.and_eq_true] at ha ⊢;exact⟨ha.1,Qc (a:=y :: a) ha.2 hb (by simpa [D3] using h)⟩
theorem zL {a b:List UInt8} (ha:(zzB a && !D3 a)=true) (hb:zzB b=true):zzB (a ++ b)=true:=by
 simp only [Bool.and_eq_true,Bool.not_eq_true'] at ha;exact Qc ha.1 hb (.inl ha.2)
theorem zR {a b:List UInt8} (ha:zzB a=true) (hb:(zzB b && !Lc b)=true):zzB (a ++ b)=true:=by
 simp only [Bool.and_eq_true,Bool.not_eq_true'] at hb;exact Qc ha hb.1 (.inr hb.2)
theorem Jk {a b:List UInt8} (hb:b ≠ []):D3 (a ++ b)=D3 b:=by
 unfold D3;rw [List.getLast?_append,List.getLast?_eq_some_getLast hb];rfl
theorem zLa {a b:List UInt8} (ha:zzB a=true) (hb:(zzB b && !Lc b && !D3 b && !b.isEmpty)=true):(zzB (a ++ b) && !D3 (a ++ b))=true:=by
 simp only [Bool.and_eq_true,Bool.not_eq_true',List.isEmpty_eq_false_iff] at hb;rw [Qc ha hb.1.1.1 (.inr hb.1.1.2),Jk hb.2,hb.1.2];rfl
theorem Age {n:Nat} (h:n<30):(zzB (Gj n) && !Lc (Gj n) && !D3 (Gj n) && !(Gj n).isEmpty)=true:=by
 have h1:(List.range 30).all (fun n=>zzB (Gj n) && !Lc (Gj n) && !D3 (Gj n) && !(Gj n).isEmpty)=true:=by kernel_rfl
 exact List.all_eq_true.1 h1 n (List.mem_range.2 h)
theorem Uu {L:List (List UInt8)} {p:List UInt8->Bool} (hL:L.all p=true) {v:List UInt8} (h:v ∈ L):p v=true:=List.all_eq_true.1 hL v h
theorem Mv {n:Nat} (h:n<30):zzB (Gj n)=true:=by have:=Age h;simp only [Bool.and_eq_true] at this;exact this.1.1.1
theorem GE.zz {d:Nat} {b:Bool} {s:List UInt8} (h:GE d b s):zzB s=true:=by
 induction h with
 | num h=>exact Mv h
 | var h=>exact Uu (by decide) h
 | st | st2 | nr | nf=>decide
 | elem h0 h=>exact zR (zL (by decide) (Mv (by omega))) (by decide)
 | field h=>exact zR (zL (by decide) (Mv (by omega))) (by decide)
 | op ho _ _ i1 i2=>exact zR (zL (zLa (zL (by decide) i1) (Uu (p:=fun b=>zzB b && !Lc b && !D3 b && !b.isEmpty) (by decide) ho)) i2) (by decide)
 | cond _ _ _ i1 i2 i3=>exact zR (zL (zLa (zL (zLa (zL (by decide) i1) (by decide)) i2) (by decide)) i3) (by decide)
 | elemv ha _ i1=>exact zR (zL (zLa (Uu (p:=zzB) (by decide) ha) (by decide)) i1) (by decide)
 | isin ha _ i1=>exact zR (zL (zLa (zL (by decide) i1) (by decide)) (Uu (p:=zzB) (by decide) ha)) (by decide)
 | sub _ _ i1 i2=>exact zR (zL (zLa (zL (by decide) i1) (by decide)) i2) (by decide)
 | lenf _ i1 | neg _ i1 | no _ i1 | index _ i1=>exact zR (zL (by decide) i1) (by decide)
theorem GS.zz {d:Nat} {b:Bool} {s:List UInt8} (h:GS d b s):zzB s=true:=by
 induction h with
 | set hv hs=>exact zR (zL (zLa (Uu (p:=zzB) (by decide) hv) (by decide)) hs.zz) (by decide)
 | put hs ht=>exact zR (zL (zLa (zL (by decide) hs.zz) (by decide)) ht.zz) (by decide)
 | print hs ht=>exact zR (zL (zLa (zL (by decide) hs.zz) (by decide)) ht.zz) (by decide)
 | load | print2=>decide
 | write h0 h hs=>exact zR (zL (zLa (zL (by decide) (Mv (by omega))) (by decide)) hs.zz) (by decide)
 | delete hs=>exact zR (zL (by decide) hs.zz) (by decide)
 | next hs=>exact zR (zL (by decide) hs.zz) (by decide)
 | branch hs _ _ i1 i2=>exact zR (zL (zLa (zL (zLa (zL (by decide) hs.zz) (by decide)) i1) (by decide)) i2) (by decide)
 | each hv ha _ ht i1=>exact zR (zL (zLa (zL (zLa (zL (zLa (zL (by decide) (Uu (p:=zzB) (by decide) hv)) (by decide)) (Uu (p:=zzB) (by decide) ha)) (by decide)) i1) (by decide)) ht.zz) (by decide)
 | loop h0 h _ i1=>exact zR (zL (zLa (zL (by decide) (Mv (by omega))) (by decide)) i1) (by decide)
theorem GL.zz {b:Bool} {n:Nat} {s:List UInt8} (h:GL b n s):(zzB s && !D3 s)=true:=by
 induction h with
 | nil=>decide
 | snoc _ ht i =>
  have h1:=zLa (b:= [32]) ht.zz (by decide);have h2:=h1;rw [Bool.and_eq_true] at h1;rw [zL i h1.1,Jk (by simp)];simpa using h1.2
theorem GB.zz {b:Bool} {m:Nat} {s:List UInt8} (h:GB b m s):(zzB s && !D3 s)=true:=by
 obtain⟨n,t,-,-,hl,rfl⟩:=h;have h1:=hl.zz;rw [Bool.and_eq_true] at h1;exact zLa h1.1 (by decide)
theorem zLb {a b:List UInt8} (ha:(zzB a && !D3 a)=true) (hb:(zzB b && !D3 b)=true) (h0:b ≠ []):(zzB (a ++ b) && !D3 (a ++ b))=true:=by
 rw [Bool.and_eq_true] at hb;rw [zL ha hb.1,Jk h0];simpa using hb.2
theorem GB.ne {b:Bool} {m:Nat} {s:List UInt8} (h:GB b m s):s ≠ []:=by
 obtain⟨n,t,-,-,hl,rfl⟩:=h;simp
theorem GR.zz {n:Nat} {s:List UInt8} (h:GR n s):(zzB s && !D3 s)=true:=by
 induction h with
 | first=>decide
 | begin _ ht i=>exact zLb i (zLb (by decide) ht.zz ht.ne) (by simp)
 | main _ ht i=>exact zLb i ht.zz ht.ne
 | pat _ he ht i=>exact zLb (zLb i (zLa he.zz (by decide)) (by simp)) ht.zz ht.ne
theorem Ok.zz {s:List UInt8} (h:Ok s):zzB s=true:=by
 obtain⟨n,t,hn,hr,rfl⟩:=h;exact zL hr.zz (by decide)
end Go.Proofs.YtppcohadoilpgaaGreatDoor
