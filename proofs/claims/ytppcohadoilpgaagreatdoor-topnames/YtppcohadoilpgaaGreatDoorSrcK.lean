/-
  The maker's functions looked at by their code: operations with their calls, regions in whatever order, conditions; what a function returns. / The maker's functions looked at by their code: regions in whatever order, conditions, returns.
-/
import Derived.Test.YtppcohadoilpgaaGreatDoorLoose
import Derived.Shelf.Abstract
namespace Go.Proofs.YtppcohadoilpgaaGreatDoor
open Go.ChangeShapes Go.WideShapes Go.ChangeAt Go.RowKit Go.Joins Go.Proofs.Tryz
set_option linter.unusedVariables false
set_option linter.unusedSimpArgs false
set_option maxRecDepth 100000
structure Lk where
 cl:List AV->Option BV
 mf:FuncId->List AV->Bool
 sS:Nat->Bool
 sE:Nat->Bool
 C:Nat
 N:Nat
 b:Bool
def Je:List AV->Option (List BV)
 | []=>some []
 | .b (.tx ls) :: l=>(Je l).map (.tx ls :: ·)
 | _ :: _=>none
def Tl (L:Lk) (st:Sta) (c:Call):Option AV:=match c.callee with
 | .value (.func f)=>match c.args.toList.map (evA st) with
  | [.b .raw,.b (.int m q)]=>if f=20/\q=m+1/\0<m/\m<=1000 then some (.b (.int 0 m)) else none
  | [.b (.int lo hi)]=>if f=44/\hi<=30 then some (.b (.tx [[.g lo hi]])) else none
  | [.b (.mk k)]=>if f=26/\k=0 then some .rw else none
  | [.b (.mk k),.b (.int d q),.b (.bo (some x))]=>if f=43/\k=0/\q=d+1/\x=L.b/\L.sS d=true then some (.b (.tx [[.S d]])) else if f=28/\k=0/\q=d+1/\x=L.b/\L.sE d=true then some (.b (.tx [[.E d]])) else none
  | _=>none
 | .value (.tmp t)=>match st.getD t (.b .any) with
  | .clo=>(L.cl (c.args.toList.map (evA st))).map .b
  | _=>none
 | _=>none
def B8 (L:Lk) (o:Oper):Nat:=match o.op with
 | .call c=>match c.callee with
  | .value (.func f)=>if f=43\/f=28 then L.C else if f=26 then 1 else 0
  | _=>L.C
 | _=>0
def Vi (t n:Nat) (is:List Nat) (l:List AV):Option AV:=if t=37/\(n=2\/n=3\/n=4\/n=6)/\is=List.range n then (Je l).map .sl else none
def Aia:BV->Bool
 | .int _ _=>true
 | .bo _=>true
 | .mk _=>true
 | _=>false
def Ky (L:Lk) (st:Sta) (o:Oper):Option AV:=match o.op with
 | .move x=>some (evA st x)
 | .assign x=>some (evA st x)
 | .pick c x y=>match evA st c with
  | .b (.bo (some true))=>some (evA st x)
  | .b (.bo (some false))=>some (evA st y)
  | _=>none
 | .box t x=>match evA st x with
  | .b y=>if t=3\/t=4\/t=72 then (if Aia y=true then some (.ref [y] 0) else none) else none
  | _=>none
 | .load t x=>To t (evA st x)
 | .fieldAddr t x k=>Pr t k (evA st x)
 | .nilCheck x=>match evA st x with
  | .b (.mk k)=>some (.b (.mk k))
  | _=>none
 | .store t x y=>match evA st x,evA st y with
  | .b (.mk k),.b .ai=>if t=3/\k=2 then some (.b .any) else none
  | _,_=>none
 | .indexAddr t x i=>Ps t (evA st x) (evA st i)
 | .binOp op t x y _=>Yy op t (evA st x) (evA st y)
 | .buildSlice t n ps=>Vi t n (ps.toList.map (·.1)) (ps.toList.map fun p=>evA st p.2)
 | .call c=>Tl L st c
 | .makeFunc fn fs cs=>match fn with
  | .func f=>if fs = #[]/\L.mf f (cs.toList.map (evA st))=true then some .clo else none
  | _=>none
 | _=>none
def Sn (r:Nat) (l:List Rw) (i0:Nat) (w0:World) (n:Nat) (w:World):Prop:=(∃j,Mk r w l j/\j<=i0+n)/\But r r w0 w
theorem Sn.but0 {r:Nat} {l:List Rw} {i0 n:Nat} {w0 w:World} (h:Sn r l i0 w0 n w) (o:Obj):Sn r l i0 w0 n (w.alloc o) :=
 ⟨h.1.elim fun j hj=>⟨j,hj.1.alloc o,hj.2⟩,h.2.alloc o⟩
def Mkd (r:Nat) (l:List Rw) (i0:Nat) (w0:World) (G:List UInt8->Prop) (n:Nat) (w:World) (e:Ending) (w':World):Prop:=∃s,e = .returned (.string (bs s))/\G s/\But r r w w'/\Sn r l i0 w0 n w'
structure Mz (L:Lk) (r:Nat) (l:List Rw) (i0:Nat) (w0:World) (Clo:Value->World->Prop):Prop where
 but:∀v w w',Clo v w->But r r w w'->Clo v w'
 room:i0+L.N<=1000000
 clo:∀(st:Sta) (a:Act) (xs:List Operand) (y:BV) (v:Value) (w:World) (n:Nat),L.cl (xs.map (evA st))=some y->Clo v w->(∀x ∈ xs,(evA st x).ok r L.b Clo (a.eval x) w)->Sn r l i0 w0 n w->n+L.C<=L.N ->
  ∃f caps,v = .func (.func f) #[] caps/\(∀(args:Array Value) (w:World),(callFunc f args).run prog w = .ok (.enter f args) w)/\Calls prog f ((xs.map a.eval).toArray ++ caps) w fun e w'=>∃u,e = .returned u/\y.ok r L.b u/\But r r w w'/\Sn r l i0 w0 (n+L.C) w'
 mf:∀(st:Sta) (a:Act) (f:FuncId) (xs:List Operand) (w:World),L.mf f (xs.map (evA st))=true->(∀x ∈ xs,(evA st x).ok r L.b Clo (a.eval x) w)->Clo (.func (.func f) #[] (xs.map a.eval).toArray) w
 st:∀d,L.sS d=true->∀(w:World) (n:Nat),Sn r l i0 w0 n w->n+L.C<=L.N->Calls prog 43 #[.pointer (some ⟨r,0,none⟩),.int .i64 (d:Int),.bool L.b] w (Mkd r l i0 w0 (GS d L.b) (n+L.C) w)
 ex:∀d,L.sE d=true->∀(w:World) (n:Nat),Sn r l i0 w0 n w->n+L.C<=L.N->Calls prog 28 #[.pointer (some ⟨r,0,none⟩),.int .i64 (d:Int),.bool L.b] w (Mkd r l i0 w0 (GE d L.b) (n+L.C) w)
section
variable {L : Lk} {r : Nat} {l : List Rw} {i0 : Nat} {w0 : World} {Clo : Value -> World -> Prop}
theorem Wk (hL:Mz L r l i0 w0 Clo) {st:Sta} {o:Oper} {c:Call} {y:AV} (hop:o.op = .call c) (h:Tl L st c=some y) {a:Act} {w:World} {n:Nat} (hS:Sn r l i0 w0 n w) (hn:n+B8 L o<=L.N) (hx:∀x ∈ c.operands,(evA st x).ok r L.b Clo (a.eval x) w) :
 Bu prog o a w fun v w'=>y.ok r L.b Clo v w'/\But r r w w'/\Sn r l i0 w0 (n+B8 L o) w':=by
 obtain⟨⟨j,hM,hj⟩,hb⟩:=hS;have hxa:∀x ∈ c.args.toList,(evA st x).ok r L.b Clo (a.eval x) w:=fun x hm=>hx x (by simp [Call.operands];exact .inr (Array.mem_toList_iff.1 hm));unfold Tl at h;split at h
 . rename_i f hc;have hco:B8 L o=if f=43\/f=28 then L.C else if f=26 then 1 else 0:=by simp only [B8,hop,hc]
   have hev:a.eval (.func f) = .func (.func f) #[] #[]:=rfl;split at h
   . rename_i m q hm;split at h
     . rename_i hf;cases h;obtain⟨rfl,rfl,hm0,hm1⟩:=hf;obtain⟨x1,x2,e,e1,e2⟩:∃x1 x2,c.args.toList = [x1,x2]/\evA st x1 = .b .raw/\evA st x2 = .b (.int m (m+1)):=by
        obtain⟨x1,l1,e,e1,hm⟩:=List.map_eq_cons_iff.1 hm;obtain⟨x2,l2,rfl,e2,hm⟩:=List.map_eq_cons_iff.1 hm;exact⟨x1,x2,by rw [e,List.map_eq_nil_iff.1 hm],e1,e2⟩
       have k1:=hxa x1 (by rw [e];simp);have k2:=hxa x2 (by rw [e];simp);rw [e1] at k1;rw [e2] at k2;obtain⟨z,hz,hwf⟩:=k1;obtain⟨p,hp,hp1,hp2⟩:=k2;have ep:p=m:=by omega
       subst ep;have hr:=Hm (w:=w) hop hc hev (enters_of func20 (by kernel_rfl) rfl);rw [e] at hr;simp only [List.map_cons,List.map_nil,hz,hp] at hr;refine Js hr ((Fj z p w hwf hm0 (by omega)).mono ?_);rintro e' w' ⟨rfl,rfl⟩;rw [hco,if_neg (by decide),if_neg (by decide)];exact⟨_,rfl,⟨_,rfl,Nat.zero_le _,Eh z hm0⟩,But.refl _ _ _,⟨j,hM,hj⟩,hb⟩
     . cases h
   . rename_i lo hi hm;split at h
     . rename_i hf;cases h;obtain⟨rfl,h30⟩:=hf;obtain⟨x1,e,e1⟩:∃x1,c.args.toList = [x1]/\evA st x1 = .b (.int lo hi):=by
        obtain⟨x1,l1,e,e1,hm⟩:=List.map_eq_cons_iff.1 hm;exact⟨x1,by rw [e,List.map_eq_nil_iff.1 hm],e1⟩
       have k1:=hxa x1 (by rw [e];simp);rw [e1] at k1;obtain⟨z,hz,hz1,hz2⟩:=k1;have hr:=Hm (w:=w) hop hc hev (enters_of func44 (by kernel_rfl) rfl);rw [e] at hr;simp only [List.map_cons,List.map_nil,hz] at hr;have hpw:Pow w:=hM.pw.elim fun g hg=>hg.2.2;refine Js hr ((Tryz.strconv_Itoa (z:Int) (by omega) (by omega) w hpw).mono ?_);rintro e' w' ⟨rfl,hg⟩;have hbw:Below w.heap.size w w':=by first | exact Hy hg | exact hg
       rw [hco,if_neg (by decide),if_neg (by decide)];exact⟨_,rfl,⟨_,Gj z,List.mem_singleton.2 rfl,rfl,Gj z,[],⟨z,hz1,hz2,by omega,rfl⟩,rfl,(List.append_nil _).symm⟩,But.of_below hbw,⟨j,hM.below hbw,hj⟩,hb.more hbw⟩
     . cases h
   . rename_i k hm;split at h
     . rename_i hf;cases h;obtain⟨rfl,rfl⟩:=hf;obtain⟨x1,e,e1⟩:∃x1,c.args.toList = [x1]/\evA st x1 = .b (.mk 0):=by
        obtain⟨x1,l1,e,e1,hm⟩:=List.map_eq_cons_iff.1 hm;exact⟨x1,by rw [e,List.map_eq_nil_iff.1 hm],e1⟩
       have k1:=hxa x1 (by rw [e];simp);rw [e1] at k1;have hz:a.eval x1 = .pointer (some ⟨r,0,none⟩):=k1;have hr:=Hm (w:=w) hop hc hev (enters_of func26 (by kernel_rfl) rfl);rw [e] at hr;simp only [List.map_cons,List.map_nil,hz] at hr;rw [if_neg (by decide),if_pos rfl] at hco;rw [hco] at hn ⊢;have hroom:=hL.room;refine Js hr ((K8 r l j w hM (by omega)).mono ?_);rintro e' w' ⟨rfl,hM',hb'⟩;exact⟨_,rfl,⟨_,rfl,hM.ok j⟩,hb',⟨j+1,hM',by omega⟩,hb.trans hb'⟩
     . cases h
   . rename_i k d q x hm
     have both:∀ {fc:Nat} {G:Nat->List UInt8->Prop} {A:Nat->At},(f=fc/\k=0/\q=d+1/\x=L.b)->(fc=43\/fc=28)->(∀(args:Array Value) (w:World),(callFunc fc args).run prog w = .ok (.enter fc args) w)->(∀s,G d s->(A d).is L.b s) ->
      (∀(w:World) (n:Nat),Sn r l i0 w0 n w->n+L.C<=L.N->Calls prog fc #[.pointer (some ⟨r,0,none⟩),.int .i64 (d:Int),.bool L.b] w (Mkd r l i0 w0 (G d) (n+L.C) w))->y = .b (.tx [[A d]]) ->
      Bu prog o a w fun v w'=>y.ok r L.b Clo v w'/\But r r w w'/\Sn r l i0 w0 (n+B8 L o) w':=by
      rintro fc G A ⟨rfl,rfl,rfl,rfl⟩ hfc hen hG hcl rfl;obtain⟨x1,x2,x3,e,e1,e2,e3⟩:∃x1 x2 x3,c.args.toList = [x1,x2,x3]/\evA st x1 = .b (.mk 0)/\evA st x2 = .b (.int d (d+1))/\evA st x3 = .b (.bo (some L.b)):=by
       obtain⟨x1,l1,e,e1,hm⟩:=List.map_eq_cons_iff.1 hm;obtain⟨x2,l2,rfl,e2,hm⟩:=List.map_eq_cons_iff.1 hm;obtain⟨x3,l3,rfl,e3,hm⟩:=List.map_eq_cons_iff.1 hm;exact⟨x1,x2,x3,by rw [e,List.map_eq_nil_iff.1 hm],e1,e2,e3⟩
      have k1:=hxa x1 (by rw [e];simp);have k2:=hxa x2 (by rw [e];simp);have k3:=hxa x3 (by rw [e];simp);rw [e1] at k1;rw [e2] at k2;rw [e3] at k3;have hz:a.eval x1 = .pointer (some ⟨r,0,none⟩):=k1;obtain⟨p,hp,hp1,hp2⟩:=k2;have ep:p=d:=by omega
      subst ep;obtain⟨z,hz3,hz4⟩:=k3;have ey:=hz4 _ rfl;subst ey;have hr:=Hm (w:=w) hop hc hev hen;rw [e] at hr;simp only [List.map_cons,List.map_nil,hz,hp,hz3] at hr;rw [if_pos hfc] at hco;rw [hco] at hn ⊢;refine Js hr ((hcl w n ⟨⟨j,hM,hj⟩,hb⟩ hn).mono ?_);rintro e' w' ⟨s,rfl,hg,hb',hs'⟩;exact⟨_,rfl,⟨_,s,List.mem_singleton.2 rfl,rfl,s,[],hG s hg,rfl,(List.append_nil _).symm⟩,hb',hs'⟩
     split at h
     . rename_i hf;cases h;exact both (fc:=43) (G:=fun d=>GS d L.b) (A:= .S) ⟨hf.1,hf.2.1,hf.2.2.1,hf.2.2.2.1⟩ (.inl rfl) (enters_of func43 (by kernel_rfl) rfl) (fun _ h=>h) (hL.st d hf.2.2.2.2) rfl
     . split at h
       . rename_i hf;cases h;exact both (fc:=28) (G:=fun d=>GE d L.b) (A:= .E) ⟨hf.1,hf.2.1,hf.2.2.1,hf.2.2.2.1⟩ (.inr rfl) (enters_of func28 (by kernel_rfl) rfl) (fun _ h=>h) (hL.ex d hf.2.2.2.2) rfl
       . cases h
   . cases h
 . rename_i t hc;have hco:B8 L o=L.C:=by simp only [B8,hop,hc]
   split at h
   . rename_i hcl;obtain⟨z,hz,rfl⟩:=Option.map_eq_some_iff.1 h;have kt:=hx (.tmp t) (by simp [Call.operands,hc]);have e:evA st (.tmp t) = .clo:=hcl;rw [e] at kt;rw [hco] at hn ⊢;obtain⟨f,caps,hv,hen,hcall⟩:=hL.clo st a c.args.toList z (a.eval (.tmp t)) w n hz kt hxa ⟨⟨j,hM,hj⟩,hb⟩ hn;have hr:=Hm (w:=w) hop hc hv hen;refine Js hr (hcall.mono ?_);rintro e' w' ⟨u,rfl,ho,hb',hs'⟩;exact⟨u,rfl,ho,hb',hs'⟩
   . cases h
 . cases h
theorem Nb {st:Sta} {a:Act} {w:World}:∀ {xs:List Operand} {ys:List BV},Je (xs.map (evA st))=some ys->(∀x ∈ xs,(evA st x).ok r L.b Clo (a.eval x) w)->∃vs:List ByteArray,xs.map a.eval=vs.map Value.string/\vs.length=ys.length/\∀(k:Nat) (y:BV),ys[k]? = some y->∃u,(vs.map Value.string)[k]? = some u/\y.ok r L.b u
 | [],ys,h,_=>by
  simp only [List.map_nil,Je,Option.some.injEq] at h;subst h;exact⟨[],rfl,rfl,fun k y hy=>by cases hy⟩
 | x :: xs,ys,h,hx=>by
  simp only [List.map_cons] at h;cases e:evA st x with
  | b z =>
   cases z with
   | tx ls =>
    rw [e] at h;simp only [Je] at h;obtain⟨zs,hzs,rfl⟩:=Option.map_eq_some_iff.1 h;obtain⟨vs,h1,h2,h3⟩:=Nb hzs fun x hm=>hx x (List.mem_cons_of_mem _ hm);have k:=hx x (List.mem_cons_self ..);rw [e] at k;have k2:=k;obtain⟨m,s,hm,hv,hs⟩:=k2;refine⟨bs s :: vs,by rw [List.map_cons,List.map_cons,hv,h1],by simp [h2],fun i y hy=>?_⟩;cases i with
    | zero =>
     simp only [List.getElem?_cons_zero,Option.some.injEq] at hy;subst hy;refine⟨_,rfl,?_⟩;rw [<-hv];exact k
    | succ i =>
     simp only [List.getElem?_cons_succ] at hy;exact h3 i y hy
   | _=>rw [e] at h;cases h
  | _=>rw [e] at h;cases h
theorem Qj (hL:Mz L r l i0 w0 Clo) {st:Sta} {o:Oper} {y:AV} (h:Ky L st o=some y) {a:Act} {w:World} {n:Nat} (hS:Sn r l i0 w0 n w) (hn:n+B8 L o<=L.N) (hx:∀x ∈ o.op.operands,(evA st x).ok r L.b Clo (a.eval x) w) :
 Bu prog o a w fun v w'=>y.ok r L.b Clo v w'/\But r r w w'/\Sn r l i0 w0 (n+B8 L o) w':=by
 have z:∀ {op},o.op=op->(∀c,op ≠ .call c)->B8 L o=0:=fun e hne=>by
  unfold B8;rw [e];split
  . exact absurd rfl (hne _)
  . rfl
 have pure1:∀ {u:Value} {k:Nat},k=0->(execOp a.eval o).run prog w = .ok (.value u) w->y.ok r L.b Clo u w->Bu prog o a w fun v w'=>y.ok r L.b Clo v w'/\But r r w w'/\Sn r l i0 w0 (n+k) w':=fun hk hr ho=>by
  subst hk;exact C7 hr ⟨ho,But.refl _ _ _,hS⟩
 unfold Ky at h;split at h
 case h_1 x e =>
  cases h;rw [z e (by simp)];exact pure1 rfl (Vb e) (hx x (by rw [e];simp [Op.operands]))
 case h_2 x e =>
  cases h;rw [z e (by simp)];exact pure1 rfl (V7 e) (hx x (by rw [e];simp [Op.operands]))
 case h_3 c x1 x2 e =>
  have kc:=hx c (by rw [e];simp [Op.operands]);have k1:=hx x1 (by rw [e];simp [Op.operands]);have k2:=hx x2 (by rw [e];simp [Op.operands]);rw [z e (by simp)];split at h
  . rename_i ec;cases h;rw [ec] at kc;obtain⟨q,hq,hq2⟩:=kc;have:=hq2 _ rfl;subst this;exact pure1 rfl (Vc e hq) k1
  . rename_i ec;cases h;rw [ec] at kc;obtain⟨q,hq,hq2⟩:=kc;have:=hq2 _ rfl;subst this;exact pure1 rfl (Vc e hq) k2
  . cases h
 case h_4 t x e =>
  rw [z e (by simp)];have kx:=hx x (by rw [e];simp [Op.operands]);split at h
  . rename_i y ey;split at h
    . rename_i ht;split at h
      . rename_i hy;cases h;rw [ey] at kx;have hv:(∃n,a.eval x = .int .i64 n)\/(∃q,a.eval x = .bool q)\/∃p,a.eval x = .pointer p:=by
         cases y with
         | int p q=>obtain⟨n,hn,-⟩:=kx;exact .inl ⟨_,hn⟩
         | bo q=>obtain⟨n,hn,-⟩:=kx;exact .inr (.inl ⟨_,hn⟩)
         | mk k=>exact .inr (.inr ⟨_,kx⟩)
         | _=>cases hy
        refine C7 (Aei e (bx1 t ht _ hv w)) ⟨⟨w.heap.size,rfl,?_,by simp,?_⟩,(But.refl _ _ _).alloc _,hS.but0 _⟩
        . exact hS.1.elim fun j hj=>hj.1.lt
        . intro k z hz;cases k with
          | zero =>
           simp only [List.getElem?_cons_zero,Option.some.injEq] at hz;subst hz;exact⟨_,(Ao.new w _ _).cell 0,kx⟩
          | succ k=>simp at hz
      . cases h
    . cases h
  . cases h
 case h_5 t x e =>
  rw [z e (by simp)];obtain⟨⟨j,hM,hj⟩,hb⟩:=hS;obtain⟨u,hu,ho⟩:=Wl h (hx x (by rw [e];simp [Op.operands])) hM.cn;exact pure1 rfl (Va e hu) ho
 case h_6 t x k e =>
  rw [z e (by simp)];obtain⟨u,hu,ho⟩:=Tm h (hx x (by rw [e];simp [Op.operands]));exact pure1 rfl (Q0 e hu) ho
 case h_7 x e =>
  rw [z e (by simp)];have kx:=hx x (by rw [e];simp [Op.operands]);split at h
  . rename_i k ek;cases h;rw [ek] at kx;have hv:a.eval x = .pointer (some ⟨r,k,none⟩):=kx;exact pure1 rfl (Aek e hv) rfl
  . cases h
 case h_8 t x1 x2 e =>
  rw [z e (by simp)];have k1:=hx x1 (by rw [e];simp [Op.operands]);have k2:=hx x2 (by rw [e];simp [Op.operands]);split at h
  . rename_i k e1 e2;split at h
    . rename_i hk;cases h;obtain⟨rfl,rfl⟩:=hk;rw [e1] at k1;rw [e2] at k2;have hv:a.eval x1 = .pointer (some ⟨r,2,none⟩):=k1;obtain⟨m,hm⟩:=k2;obtain⟨⟨j,hM,hj⟩,hb⟩:=hS;obtain⟨p,hp⟩:=hM.cn;unfold Bu;have hr2:(execOp a.eval o).run prog w = .ok .skip (w.setCell ⟨r,2,none⟩ (.int .i64 m)):=K9 e (by rw [hv,hm];exact st3 ⟨r,2,none⟩ _ m w hp hM.fn);rw [hr2];exact⟨trivial,(But.refl _ _ _).set _ _,⟨j,hM.setn m,hj⟩,hb.set _ _⟩
    . cases h
  . cases h
 case h_9 t x i e =>
  rw [z e (by simp)];obtain⟨u,hu,ho⟩:=Tn h (hx x (by rw [e];simp [Op.operands])) (hx i (by rw [e];simp [Op.operands]));exact pure1 rfl (Q1 e hu) ho
 case h_10 op t x1 x2 q e =>
  rw [z e (by simp)];have k1:=hx x1 (by rw [e];simp [Op.operands]);have k2:=hx x2 (by rw [e];simp [Op.operands]);obtain⟨u,hu,ho⟩:=Yz h k1 k2;have hg:(eqGuard op t x1 x2 (a.eval x1) (a.eval x2)).run prog w = .ok () w:=by
   cases op
   case eql =>
    have h':Lq t (fun p u=>p == u) (evA st x1) (evA st x2)=some y:=h;unfold Lq at h';split at h'
    . rename_i e1 e2;rw [e1] at k1;obtain⟨n1,hn1,-,-⟩:=k1;rw [hn1];simp [eqGuard,go_sem]
    . cases h'
   all_goals first | (simp [eqGuard,go_sem];done) | (cases h)
  exact pure1 rfl (Aeh e hg hu) ho
 case h_11 t k ps e =>
  rw [z e (by simp)];unfold Vi at h;split at h
  . rename_i hk;obtain⟨ys,hys,rfl⟩:=Option.map_eq_some_iff.1 h;obtain⟨rfl,hk2,hps⟩:=hk;have hm:Je ((ps.toList.map (·.2)).map (evA st))=some ys:=by rw [List.map_map];exact hys
    obtain⟨vs,h1,h2,h3⟩:=Nb hm fun x hx'=>hx x (by rw [e];simpa [Op.operands] using hx');have hlen:vs.length=k:=by
     have a1:=congrArg List.length h1;have a2:=congrArg List.length hps;simp only [List.length_map,List.length_range] at a1 a2;omega
    have hparts:(ps.map fun p=>(p.1,a.eval p.2))=((List.range vs.length).zip (vs.map Value.string)).toArray:=by
     apply Array.ext'
     rw [Array.toList_map,hlen,<-hps,<-h1];have:∀(l:List (Nat × Operand)),l.map (fun p=>(p.1,a.eval p.2))=(l.map (·.1)).zip ((l.map (·.2)).map a.eval):=by
      intro l
      induction l with
      | nil=>rfl
      | cons p l ih=>simp only [List.map_cons,List.zip_cons_cons,ih]
     exact this _
    have hr:=bsl vs (by rw [hlen];exact hk2) w;rw [<-hparts,hlen] at hr;refine C7 (v:= .slice (some ⟨w.heap.size,0,none⟩) k k) (Qz e hr) ⟨⟨w.heap.size,by rw [show ys.length=k by omega],?_,?_,?_⟩,(But.refl _ _ _).alloc _,hS.but0 _⟩
    . exact hS.1.elim fun j hj=>hj.1.lt
    . simp
    . intro i x hx';obtain⟨u,hu,ho⟩:=h3 i x hx';refine⟨u,?_,ho⟩;rw [<-hu];exact (Ao.new w _ _).cell i |>.trans (by simp)
  . cases h
 case h_12 c e=>exact Wk hL e h hS hn fun x hm=>hx x (by rw [e];exact hm)
 case h_13 fn fs cs e =>
  rw [z e (by simp)];split at h
  . rename_i f;split at h
    . rename_i hf;cases h;obtain⟨rfl,hm⟩:=hf;have hr:(execOp a.eval o).run prog w = .ok (.value (.func (.func f) #[] (cs.toList.map a.eval).toArray)) w:=by
       have e2:(cs.toList.map a.eval).toArray=cs.map a.eval:=by apply Array.ext';simp
       rw [e2];exact Aa8 e
      exact pure1 rfl hr (hL.mf st a f cs.toList w hm fun x hx'=>hx x (by rw [e];simp [Op.operands];exact Array.mem_toList_iff.1 hx'))
    . cases h
  . cases h
 case h_14=>cases h
end
abbrev Stn:=Sta × Nat
def Wu (st:Sta) (d:Option Tmp) (y:AV):Sta:=match d with
 | none=>st
 | some t=>st.set t y
def Yb (st:Sta) (d:Option Tmp):Bool:=match d with
 | none=>true
 | some t=>decide (t<st.length)
def Wt (L:Lk) (s:Stn) (o:Oper):Option Stn:=(Ky L s.1 o).bind fun y=>if Yb s.1 o.dst=true/\s.2+B8 L o<=L.N then some (Wu s.1 o.dst y,s.2+B8 L o) else none
def M6 (L:Lk) (ops:Array Oper) (s:Stn):Nat->Option Stn
 | 0=>some s
 | k+1=>(M6 L ops s k).bind fun s'=>match ops[k]? with
  | none=>none
  | some o=>Wt L s' o
def gA (L:Lk) (ops:Array Oper) (s:Stn) (o:Oper):Option Stn:=match o.guard with
 | none=>Wt L s o
 | some (g,want)=>match Cc ops g with
  | none=>none
  | some t=>match s.1.getD t (.b .any) with
   | .b (.bo (some x))=>if x=want then Wt L s o else if Yb s.1 o.dst=true then some (Wu s.1 o.dst (.b .any),s.2) else none
   | _=>none
def Ahb (x:Operand) (d:Tmp):Bool:=match x with
 | .tmp e=>decide (e ≠ d)
 | _=>false
def prA (s:Stn) (o o2:Oper):Option Tmp:=match o.op,o2.op,o.dst with
 | .alloc t,.store t2 (.tmp u) x,some d=>match evA s.1 x with
  | .rw=>if t=64/\t2=64/\u=d/\o2.dst=none/\o.guard=none/\o2.guard=none/\d<s.1.length/\Ahb x d=true then some d else none
  | _=>none
 | _,_,_=>none
def Zs (L:Lk) (ops:Array Oper):List Oper->Stn->Option Stn
 | [],s=>some s
 | [o],s=>gA L ops s o
 | o :: o2 :: l,s=>match prA s o o2 with
  | some d=>Zs L ops l (s.1.set d (.ref [.raw,.raw,.raw,.raw] 0),s.2)
  | none=>(gA L ops s o).bind (Zs L ops (o2 :: l))
def Afk (L:Lk) (ops:Array Oper) (draw:Bool) (s:Stn):Option Stn:=if draw then (if G8 ops=true then M6 L ops s ops.size else none) else if Region.noSelect ops=true then Zs L ops ops.toList s else none
def Afy (sp:Nat) (s:Stn) (k:Stn->Bool):Bool:=match s.1.getD sp (.b .any) with
 | .b (.int lo hi)=>if lo+1<hi/\sp<s.1.length then (List.range (hi - lo)).all fun i=>k (s.1.set sp (.b (.int (lo+i) (lo+i+1))),s.2) else k s
 | _=>k s
def H9 (L:Lk) (sp:Nat) (fin:Stn->Bool):Code->Stn->(Stn->Bool)->Bool
 | .skip,s,k=>k s
 | .region _ ops draw,s,k=>match Afk L ops draw s with
  | none=>false
  | some s'=>Afy sp s' k
 | .seq x y,s,k=>H9 L sp fin x s fun s'=>H9 L sp fin y s' k
 | .cond c x y,s,k=>match evA s.1 c with
  | .b (.bo (some true))=>H9 L sp fin x s k
  | .b (.bo (some false))=>H9 L sp fin y s k
  | .b (.bo none)=>H9 L sp fin x s k && H9 L sp fin y s k
  | _=>false
 | .block _ x,s,k=>H9 L sp fin x s k
 | .ret,s,_=>fin s
 | _,_,_=>false
section
variable {L : Lk} {r : Nat} {l : List Rw} {i0 : Nat} {w0 : World} {Clo : Value -> World -> Prop}
structure Gf (L:Lk) (r:Nat) (l:List Rw) (i0:Nat) (w0:World) (Clo:Value->World->Prop) (s:Stn) (a:Act) (w:World):Prop where
 len:s.1.length=a.tmps.size
 ok:∀t,(s.1.getD t (.b .any)).ok r L.b Clo (a.tmps.getD t undef) w
 df:a.defers = []
 sn:Sn r l i0 w0 s.2 w
 n:s.2<=L.N
theorem G5 {st:Sta} {t:Nat} {y d:AV} (h:t<st.length):(st.set t y).getD t d=y:=by simp [List.getD,h]
theorem Fe {st:Sta} {t u:Nat} {y d:AV} (h:t ≠ u):(st.set t y).getD u d=st.getD u d:=by simp [List.getD,List.getElem?_set_ne h]
theorem Af9 (a:Act) (t:Nat) (v:Value) (u:Nat) (h:t<a.tmps.size):(a.put (some t) v).tmps.getD u undef=if u=t then v else a.tmps.getD u undef:=by
 by_cases e:u=t
 . subst e;rw [if_pos rfl];have:=R1 a v u h;simp only [Array.getD_eq_getD_getElem?,this,Option.getD_some]
 . rw [if_neg e];have:=Zc a (some t) v u (by intro e2;cases e2;exact e rfl);simp only [Array.getD_eq_getD_getElem?,this]
theorem Gf.put {s:Stn} {a:Act} {w w':World} {d:Option Tmp} {y:AV} {v:Value} {n:Nat} (hL:Mz L r l i0 w0 Clo) (h:Gf L r l i0 w0 Clo s a w) (hb:But r r w w') (hy:y.ok r L.b Clo v w') (hd:Yb s.1 d=true) (hs:Sn r l i0 w0 n w') (hn:n<=L.N):Gf L r l i0 w0 Clo (Wu s.1 d y,n) (a.put d v) w':=by
 cases d with
 | none=>exact⟨h.len,fun t=>(h.ok t).but hL.but hb,h.df,hs,hn⟩
 | some t =>
  have hlt:t<s.1.length:=of_decide_eq_true hd;refine⟨by show (s.1.set t y).length=_;rw [List.length_set,(I2 _ _ _).1];exact h.len,fun u=>?_,by rw [(I2 _ _ _).2];exact h.df,hs,hn⟩;rw [Af9 a t v u (by rw [<-h.len];exact hlt)];show ((s.1.set t y).getD u _).ok r L.b Clo _ w'
  by_cases e:u=t
  . subst e;rw [G5 hlt,if_pos rfl];exact hy
  . rw [Fe (Ne.symm e),if_neg e];exact (h.ok u).but hL.but hb
theorem Hn {s s':Stn} {o:Oper} (h:Wt L s o=some s'):∃y,Ky L s.1 o=some y/\Yb s.1 o.dst=true/\s.2+B8 L o<=L.N/\s'=(Wu s.1 o.dst y,s.2+B8 L o):=by
 unfold Wt at h;obtain⟨y,hy,h⟩:=Option.bind_eq_some_iff.1 h;split at h
 . rename_i hc;cases h;exact⟨y,hy,hc.1,hc.2,rfl⟩
 . cases h
theorem Ade (hL:Mz L r l i0 w0 Clo) {ops:Array Oper} {Q:Exit->Act->World->Prop} {o:Oper} {os:List Oper} {s s1:Stn} {a:Act} {w:World} (h1:gA L ops s o=some s1) (hc:Gf L r l i0 w0 Clo s a w) (rest:∀a' w',Gf L r l i0 w0 Clo s1 a' w'->wpList prog ops Q os a' w'):wpList prog ops Q (o :: os) a w:=by
 have run:∀s1,Wt L s o=some s1->(∀a' w',Gf L r l i0 w0 Clo s1 a' w'->wpList prog ops Q os a' w')->o.wp prog a w (wpList prog ops Q os) Q:=by
  intro s1 h1 hk;obtain⟨y,hy,hd,hn,rfl⟩:=Hn h1;have key:=Qj hL hy hc.sn hn (a:=a) (fun x _=>S2 fun t _=>hc.ok t);unfold Bu at key;unfold Oper.wp;generalize (execOp a.eval o).run prog w=res at key;cases res with
  | ok n w' =>
   cases n <;> simp only [Oper.upon] at key ⊢
   case value v=>exact hk _ _ (hc.put hL key.2.1 key.1 hd key.2.2 hn)
   case skip=>exact hk _ _ (hc.put hL key.2.1 key.1 hd key.2.2 hn)
   case enter f args=>exact key.mono fun e w'' ⟨v,he,hh⟩=>by subst he;exact hk _ _ (hc.put hL hh.2.1 hh.1 hd hh.2.2 hn)
   case row row args=>exact key.mono fun v w'' hh=>hk _ _ (hc.put hL hh.2.1 hh.1 hd hh.2.2 hn)
  | halt x w'=>simp only at key
 unfold gA at h1;split at h1
 . rename_i hg;have hw:Region.wanted o (yielded ops a.tmps)=true:=by unfold Region.wanted;rw [hg]
   unfold wpList;rw [if_pos hw];exact .inl (run s1 h1 rest)
 . rename_i g want hg;split at h1
   . cases h1
   . rename_i t ht;split at h1
     . rename_i x hx;have kt:=hc.ok t;rw [hx] at kt;obtain⟨q,hq,hq2⟩:=kt;have e:=hq2 _ rfl;subst e;have hyl:yielded ops a.tmps g=some q:=by
        unfold yielded;have:a.tmps[t]? = some (.bool q):=by
         rw [Array.getD_eq_getD_getElem?] at hq;cases e:a.tmps[t]? with
         | none=>rw [e] at hq;cases hq
         | some z=>rw [e] at hq;simp only [Option.getD_some] at hq;rw [hq]
        have ht':(ops[g]?).bind (·.dst)=some t:=ht;rw [ht'];simp only [Option.bind_some,this]
       have hw:Region.wanted o (yielded ops a.tmps)=(q == want):=by
        unfold Region.wanted;rw [hg];show (yielded ops a.tmps g == some want)=_;rw [hyl];cases q <;> cases want <;> rfl
       split at h1
       . rename_i hqw;unfold wpList;rw [hw,if_pos (by rw [hqw];simp)];exact .inl (run s1 h1 rest)
       . rename_i hqw;split at h1
         . rename_i hd;cases h1;unfold wpList;rw [hw,if_neg (by simpa using hqw)];exact rest _ _ (hc.put hL (But.refl _ _ _) trivial hd hc.sn hc.n)
         . cases h1
     . cases h1
theorem Afa (hL:Mz L r l i0 w0 Clo) {ops:Array Oper} {Q:Exit->Act->World->Prop} {o o2:Oper} {os:List Oper} {s:Stn} {d:Tmp} {a:Act} {w:World} (h:prA s o o2=some d) (hc:Gf L r l i0 w0 Clo s a w) (rest:∀a' w',Gf L r l i0 w0 Clo (s.1.set d (.ref [.raw,.raw,.raw,.raw] 0),s.2) a' w'->wpList prog ops Q os a' w'):wpList prog ops Q (o :: o2 :: os) a w:=by
 unfold prA at h;split at h
 . rename_i t t2 u x d' e1 e2 ed;split at h
   . rename_i ex;split at h
     . rename_i hc';cases h;obtain⟨rfl,rfl,rfl,hd2,hg1,hg2,hlt,hne⟩:=hc';cases x with
       | tmp v =>
        have hvd:v ≠ u:=of_decide_eq_true hne;have kx:=hc.ok v;have ex':s.1.getD v (.b .any) = .rw:=ex;rw [ex'] at kx;obtain⟨y,hy,hok⟩:=kx;have hlt':u<a.tmps.size:=by rw [<-hc.len];exact hlt
        unfold wpList;rw [if_pos (by unfold Region.wanted;rw [hg1])];refine .inl ?_;have r1:(execOp a.eval o).run prog w = .ok (.value (.pointer (some ⟨w.heap.size,0,none⟩))) (w.alloc (.cells #[.int .i64 0,.int .i64 0,.int .i64 0,.int .i64 0] 64)):=by
         have:=Rt (al4 w);simpa [execOp,e1] using this
        unfold Oper.wp;rw [r1];show wpList _ _ _ _ _ _;rw [ed];unfold wpList;rw [if_pos (by unfold Region.wanted;rw [hg2])];refine .inl ?_;obtain⟨W,hW⟩:∃W,W=w.alloc (.cells #[.int .i64 0,.int .i64 0,.int .i64 0,.int .i64 0] 64):=⟨_,rfl⟩;have hcell:∀k,W.cell? ⟨w.heap.size,k,none⟩=(#[.int .i64 0,.int .i64 0,.int .i64 0,.int .i64 0]:Array Value)[k]? := fun k=>by rw [hW];exact (Ao.new w _ _).cell k
        have hz:∀k,W.frozen? ⟨w.heap.size,k,none⟩=false:=fun k=>by rw [hW];simp [go_sem]
        rw [<-hW];obtain⟨yk,ya,yb,yc⟩:=y;have ev1:(a.put (some u) (.pointer (some ⟨w.heap.size,0,none⟩))).eval (.tmp u) = .pointer (some ⟨w.heap.size,0,none⟩):=by
         show (a.put (some u) _).tmps.getD u undef=_;rw [Af9 a u _ u hlt',if_pos rfl]
        have ev2:(a.put (some u) (.pointer (some ⟨w.heap.size,0,none⟩))).eval (.tmp v) = .agg #[.int .i64 yk,.int .i64 ya,.int .i64 yb,.int .i64 yc]:=by
         show (a.put (some u) _).tmps.getD v undef=_;rw [Af9 a u _ v hlt',if_neg hvd];exact hy
        have r2:=K9 (w:=W) (ρ:=(a.put (some u) (.pointer (some ⟨w.heap.size,0,none⟩))).eval) e2 (by rw [ev1,ev2];exact st4 w.heap.size W yk ya yb yc _ _ _ _ (hcell 0) (hcell 1) (hcell 2) (hcell 3) hz);unfold Oper.wp;rw [r2];show wpList _ _ _ _ _ _;rw [hd2];obtain⟨W2,hW2⟩:∃W2,W2=(((W.setCell ⟨w.heap.size,0,none⟩ (.int .i64 yk)).setCell ⟨w.heap.size,1,none⟩ (.int .i64 ya)).setCell ⟨w.heap.size,2,none⟩ (.int .i64 yb)).setCell ⟨w.heap.size,3,none⟩ (.int .i64 yc):=⟨_,rfl⟩;rw [<-hW2];have hbW:Below w.heap.size w W2:=by
         rw [hW2,hW];exact ((((br0.alloc lr0 _).setCell (p:=⟨w.heap.size,0,none⟩) lr0 _).setCell (p:=⟨w.heap.size,1,none⟩) lr0 _).setCell (p:=⟨w.heap.size,2,none⟩) lr0 _).setCell (p:=⟨w.heap.size,3,none⟩) lr0 _
        obtain⟨⟨j,hM,hj⟩,hb⟩:=hc.sn;have hlt2:w.heap.size<W2.heap.size:=by rw [hW2,hW];simp [World.setCell]
        refine rest _ _ (hc.put (d:=some u) hL (But.of_below hbW) ⟨w.heap.size,rfl,hM.lt,hlt2,?_⟩ (decide_eq_true hlt) ⟨⟨j,hM.below hbW,hj⟩,hb.more hbW⟩ hc.n);have c0:=hcell 0;have c1:=hcell 1;have c2:=hcell 2;have c3:=hcell 3;intro k z hk;obtain⟨o1,o2',o3,o4⟩:=hok
        match k,hk with
        | 0,hk=>cases hk;exact⟨.int .i64 yk,by rw [hW2];simp [go_sem,c0,c1,c2,c3],yk,rfl,o1⟩
        | 1,hk=>cases hk;exact⟨.int .i64 ya,by rw [hW2];simp [go_sem,c0,c1,c2,c3],ya,rfl,o2'⟩
        | 2,hk=>cases hk;exact⟨.int .i64 yb,by rw [hW2];simp [go_sem,c0,c1,c2,c3],yb,rfl,o3⟩
        | 3,hk=>cases hk;exact⟨.int .i64 yc,by rw [hW2];simp [go_sem,c0,c1,c2,c3],yc,rfl,o4⟩
        | k+4,hk=>simp at hk
       | _=>cases hne
     . cases h
   . cases h
 . cases h
theorem P6 (hL:Mz L r l i0 w0 Clo) {ops:Array Oper} {Q:Exit->Act->World->Prop}:∀(os:List Oper) (s s':Stn) (a:Act) (w:World),Zs L ops os s=some s'->Gf L r l i0 w0 Clo s a w->(∀a w,Gf L r l i0 w0 Clo s' a w->Q .normal a w)->wpList prog ops Q os a w
 | [],s,s',a,w,h,hc,hQ=>by
  cases h;exact wpList_nil (hQ a w hc)
 | [o],s,s',a,w,h,hc,hQ=>Ade hL h hc fun a' w' hc'=>wpList_nil (hQ a' w' hc')
 | o :: o2 :: os,s,s',a,w,h,hc,hQ=>by
  unfold Zs at h;split at h
  . rename_i d hd;exact Afa hL hd hc fun a' w' hc'=>P6 hL os _ s' a' w' h hc' hQ
  . obtain⟨s1,h1,h2⟩:=Option.bind_eq_some_iff.1 h;exact Ade hL h1 hc fun a' w' hc'=>P6 hL (o2 :: os) s1 s' a' w' h2 hc' hQ
theorem Gc {ops:Array Oper} {s:Stn}:∀(k:Nat) (s':Stn),M6 L ops s k=some s'->s'.1.length=s.1.length/\s'.2<=max s.2 L.N/\∀t,(∃j sj y o,j<k/\Cc ops j=some t/\t<s.1.length/\ops[j]? = some o/\M6 L ops s j=some sj/\Ky L sj.1 o=some y/\s'.1.getD t (.b .any)=y)\/((∀j,j<k->Cc ops j ≠ some t)/\s'.1.getD t (.b .any)=s.1.getD t (.b .any))
 | 0,s',h=>by
  cases h;exact⟨rfl,Nat.le_max_left _ _,fun t=> .inr ⟨fun j hj=>absurd hj (Nat.not_lt_zero j),rfl⟩⟩
 | k+1,s',h=>by
  obtain⟨s1,h1,h2⟩:=Option.bind_eq_some_iff.1 h;obtain⟨hl,hm,ih⟩:=Gc k s1 h1;cases e:ops[k]? with
  | none=>rw [e] at h2;cases h2
  | some o =>
   rw [e] at h2;obtain⟨y,hy,hd,hn,rfl⟩:=Hn h2;have hdk:Cc ops k=o.dst:=by unfold Cc;rw [e];rfl
   refine⟨?_,lq0 hn (Nat.le_max_right _ _),fun t=>?_⟩
   . cases ed:o.dst with
     | none=>exact hl
     | some u=>show (s1.1.set u y).length=_;rw [List.length_set];exact hl
   . by_cases et:o.dst=some t
     . rw [et] at hd;have hlt:t<s1.1.length:=of_decide_eq_true hd;refine .inl ⟨k,s1,y,o,Nat.lt_succ_self k,by rw [hdk];exact et,by rw [<-hl];exact hlt,e,h1,hy,?_⟩;show (Wu s1.1 o.dst y).getD t _=y;rw [et];exact G5 hlt
     . have es:(Wu s1.1 o.dst y).getD t (.b .any)=s1.1.getD t (.b .any):=by
        cases ed:o.dst with
        | none=>rfl
        | some u=>exact Fe fun e2=>et (by rw [ed,e2])
       rcases ih t with⟨j,sj,yj,oj,hj,h3,h4,h5,h6,h7,h8⟩ | ⟨h3,h4⟩
       . exact .inl ⟨j,sj,yj,oj,by omega,h3,h4,h5,h6,h7,by rw [<-h8];exact es⟩
       . refine .inr ⟨fun j hj=>?_,by rw [<-h4];exact es⟩
         by_cases ej:j=k
         . rw [ej,hdk];exact et
         . exact h3 j (by omega)
theorem Acu {ops:Array Oper} {s s':Stn} {k:Nat} (h:M6 L ops s k=some s'):∀j,j<=k->∃sj,M6 L ops s j=some sj:=by
 induction k generalizing s' with
 | zero =>
  intro j hj;have e:j=0:=by omega
  subst e;exact⟨s',h⟩
 | succ k ih =>
  intro j hj;obtain⟨s1,h1,h2⟩:=Option.bind_eq_some_iff.1 h
  by_cases e:j=k+1
  . subst e;exact⟨s',h⟩
  . exact ih h1 j (by omega)
def wtA (L:Lk) (ops:Array Oper) (k:Nat):Nat:=match ops[k]? with
 | none=>0
 | some o=>B8 L o
theorem N0 {ops:Array Oper} {s:Stn} (n:Nat):∀(k:Nat) (s':Stn),k<=n->M6 L ops s k=some s'->s'.2=s.2+A7 (wtA L ops) (List.range n) k
 | 0,s',_,h=>by cases h;rfl
 | k+1,s',hk,h=>by
  obtain⟨s1,h1,h2⟩:=Option.bind_eq_some_iff.1 h;have ih:=N0 n k s1 (by omega) h1;cases e:ops[k]? with
  | none=>rw [e] at h2;cases h2
  | some o =>
   rw [e] at h2;obtain⟨y,hy,hd,hn,rfl⟩:=Hn h2;show s1.2+B8 L o=_;unfold A7;rw [if_pos (List.mem_range.2 (by omega)),ih];have:wtA L ops k=B8 L o:=by unfold wtA;rw [e]
   omega
theorem X9 (hL:Mz L r l i0 w0 Clo) (hm:(prog).follows .mixedOrders=true) {ops:Array Oper} {id:Nat} {Q:Exit->Act->World->Prop} {s s':Stn} {a:Act} {w:World} (hB:G8 ops=true) (h:M6 L ops s ops.size=some s') (hc:Gf L r l i0 w0 Clo s a w) (hQ:∀a w,Gf L r l i0 w0 Clo s' a w->Q .normal a w) :
 (Code.region id ops true).wp prog Q a w:=by
 have hs:=G9 hB;have hU:∀i j t,Cc ops i=some t->Cc ops j=some t->i=j:=fun i j t hi hj=>by
  refine Classical.byContradiction fun hne=>?_;have get:∀ {k u},Cc ops k=some u->∃o,ops[k]? = some o/\o.dst=some u:=fun {k u} h=>by
   unfold Cc at h;cases e:ops[k]? with
   | none=>rw [e] at h;cases h
   | some o=>rw [e] at h;exact⟨o,rfl,h⟩
  obtain⟨o,ho,hd⟩:=get hi;obtain⟨o2,ho2,-⟩:=get hj;exact ((hs.2 i o ho).2.2 j (Array.getElem?_eq_some_iff.1 ho2).1 (Ne.symm hne) t hj).1 hd
 have tot:=N0 ops.size ops.size s' lr0 h;have hN:s'.2<=L.N:=by
  have h1:=(Gc ops.size s' h).2.1;have h2:=hc.n;omega
 -- what each value is known to be
 let T:Nat->Value->World->Prop:=fun k v w=>∀sk o y,ops[k]? = some o->M6 L ops s k=some sk->Ky L sk.1 o=some y->y.ok r L.b Clo v w
 have stable:∀j v w w',T j v w->But r r w w'->T j v w':=fun j v w w' hT hb sk o y h1 h2 h3=>(hT sk o y h1 h2 h3).but hL.but hb;have step:∀(k:Nat) (o:Oper),ops[k]? = some o->∃sk y,M6 L ops s k=some sk/\Ky L sk.1 o=some y/\Yb sk.1 o.dst=true:=fun k o ho=>by
  have hk:k<ops.size:=(Array.getElem?_eq_some_iff.1 ho).1;obtain⟨s1,h1⟩:=Acu h (k+1) hk;obtain⟨sk,h2,h3⟩:=Option.bind_eq_some_iff.1 h1;rw [ho] at h3;obtain⟨y,hy,hd,hn,rfl⟩:=Hn h3;exact⟨sk,y,h2,hy,hd⟩
 refine Km T (But r r) (fun n w1=>Sn r l i0 w0 (s.2+n) w1/\But r r w w1) (wtA L ops) (A7 (wtA L ops) (List.range ops.size) ops.size) hm hB rfl stable ?_ ?_ ?_
 . obtain⟨⟨j,hM,hj⟩,hb⟩:=hc.sn;have hd:Below w.heap.size w { w with drawn:=w.drawn+1 }:=⟨rfl,rfl,rfl,Nat.le_refl _,fun _ _=>rfl⟩;exact⟨⟨⟨j,hM.below hd,hj⟩,hb.more hd⟩,But.of_below hd⟩
 . have all:∀(os:List Oper) (k:Nat),(∀j,os[j]? = ops[k+j]?)->Kv prog ops T (But r r) (fun n w1=>Sn r l i0 w0 (s.2+n) w1/\But r r w w1) (wtA L ops) (A7 (wtA L ops) (List.range ops.size) ops.size) a k os:=by
    intro os
    induction os with
    | nil=>intro k _;trivial
    | cons o os ih =>
     intro k hk;have ho:ops[k]? = some o:=by simpa using (hk 0).symm
     refine⟨fun vs n w1 hS hn hH=>?_,ih (k+1) fun j=>by have:=hk (j+1);simpa [Nat.add_assoc,Nat.add_comm 1 j] using this⟩;obtain⟨sk,y,h1,h2,h3⟩:=step k o ho;obtain⟨hg,hlt,hlook⟩:=hs.2 k o ho;have hwt:wtA L ops k=B8 L o:=by unfold wtA;rw [ho]
     rw [hwt] at hn ⊢;have hslot:=Gc k sk h1;have hev:∀x ∈ o.op.operands,(evA sk.1 x).ok r L.b Clo ((Aw ops vs (Bg o) a).eval x) w1:=fun x hx=>S2 fun t ht=>by
      subst ht;have hlk:t ∈ o.looksAt ops:=List.mem_append_left _ (List.mem_filterMap.2 ⟨.tmp t,by simpa using hx,rfl⟩);rcases hslot.2.2 t with⟨j,sj,yj,oj,hj,h4,h5,h6,h7,h8,h9⟩ | ⟨h4,h5⟩
      . have hjs:j<ops.size:=(Array.getElem?_eq_some_iff.1 h6).1;have hd:=(hlook j hjs (by omega) t h4).2 hlk;have:=Db hU vs t j h4 (Bg o) a hd (by rw [<-hc.len];exact h5);rw [h9];simp only [Array.getD_eq_getD_getElem?,this,Option.getD_some];exact Ez.1 hH j hd sj oj yj h6 h7 h8
      . have:=Cy (ops:=ops) vs t (Bg o) a fun j hj=>h4 j (hlt j hj);rw [h5];simp only [Array.getD_eq_getD_getElem?,this];have h6:=(hc.ok t).but hL.but hS.2;simpa only [Array.getD_eq_getD_getElem?] using h6
     have:=Qj hL h2 hS.1 (by omega) hev;unfold Bu at this ⊢;generalize (execOp (Aw ops vs (Bg o) a).eval o).run prog w1=res at this;have conv:∀v w',y.ok r L.b Clo v w'/\But r r w1 w'/\Sn r l i0 w0 (s.2+n+B8 L o) w'->T k v w'/\But r r w1 w'/\Sn r l i0 w0 (s.2+(n+B8 L o)) w'/\But r r w w':=fun v w' ⟨k1,k2,k3⟩=>⟨fun sk' o' y' e1 e2 e3=>by
      rw [ho] at e1;cases e1;rw [h1] at e2;cases e2;rw [h2] at e3;cases e3;exact k1,k2,by rw [<-Nat.add_assoc];exact k3,hS.2.trans k2⟩
     cases res with
     | ok n' w' =>
      cases n' <;> simp only at this ⊢
      case value v=>exact conv _ _ this
      case skip=>exact conv _ _ this
      case enter f args=>exact this.mono fun e w'' ⟨v,he,hh⟩=>⟨v,he,conv _ _ hh⟩
      case row row args=>exact this.mono fun v w'' hh=>conv _ _ hh
     | halt x w'=>simp only at this
   exact all ops.toList 0 (by simp)
 . intro vs w1 hS hH;refine hQ _ _ ⟨?_,fun t=>?_,(Cr _ _ _).2.trans hc.df,by rw [tot];exact hS.1,hN⟩
   . rw [(Gc ops.size s' h).1,(Cr _ _ _).1];exact hc.len
   . rcases (Gc ops.size s' h).2.2 t with⟨j,sj,yj,oj,hj,h4,h5,h6,h7,h8,h9⟩ | ⟨h4,h5⟩
     . have:=Db hU vs t j h4 (List.range ops.size) a (List.mem_range.2 hj) (by rw [<-hc.len];exact h5);rw [h9];simp only [Array.getD_eq_getD_getElem?,this,Option.getD_some];exact Ez.1 hH j (List.mem_range.2 hj) sj oj yj h6 h7 h8
     . have:=Cy (ops:=ops) vs t (List.range ops.size) a fun j hj=>h4 j (List.mem_range.1 hj);rw [h5];simp only [Array.getD_eq_getD_getElem?,this];have h6:=(hc.ok t).but hL.but hS.2;simpa only [Array.getD_eq_getD_getElem?] using h6
theorem Aci (hL:Mz L r l i0 w0 Clo) (hm:(prog).follows .mixedOrders=true) {ops:Array Oper} {id:Nat} {draw:Bool} {Q:Exit->Act->World->Prop} {s s':Stn} {a:Act} {w:World} (h:Afk L ops draw s=some s') (hc:Gf L r l i0 w0 Clo s a w) (hQ:∀a w,Gf L r l i0 w0 Clo s' a w->Q .normal a w) :
 (Code.region id ops draw).wp prog Q a w:=by
 unfold Afk at h;cases draw with
 | true =>
  rw [if_pos rfl] at h;split at h
  . rename_i hB;exact X9 hL hm hB h hc hQ
  . cases h
 | false =>
  rw [if_neg (by decide)] at h;split at h
  . exact wp_region_list (P6 hL ops.toList s s' a w h hc hQ)
  . cases h
theorem Acs {sp:Nat} {s:Stn} {k:Stn->Bool} {a:Act} {w:World} (h:Afy sp s k=true) (hc:Gf L r l i0 w0 Clo s a w):∃s',k s'=true/\Gf L r l i0 w0 Clo s' a w:=by
 unfold Afy at h;split at h
 . rename_i lo hi e;split at h
   . rename_i hlt;have kt:=hc.ok sp;rw [e] at kt;obtain⟨n,hn,h1,h2⟩:=kt;have:=List.all_eq_true.1 h (n - lo) (List.mem_range.2 (by omega));refine⟨_,this,by rw [<-hc.len];exact List.length_set,fun t=>?_,hc.df,hc.sn,hc.n⟩
     by_cases et:t=sp
     . subst et;show ((s.1.set t _).getD t _).ok _ _ _ _ _;rw [G5 hlt.2];exact⟨n,hn,by omega,by omega⟩
     . show ((s.1.set sp _).getD t _).ok _ _ _ _ _;rw [Fe (Ne.symm et)];exact hc.ok t
   . exact⟨s,h,hc⟩
 . exact⟨s,h,hc⟩
theorem Fr (hL:Mz L r l i0 w0 Clo) (hm:(prog).follows .mixedOrders=true) {sp:Nat} {fin:Stn->Bool}:∀(c:Code) (s:Stn) (k:Stn->Bool) (a:Act) (w:World) (Q:Exit->Act->World->Prop),H9 L sp fin c s k=true->Gf L r l i0 w0 Clo s a w ->
 (∀s' a' w',k s'=true->Gf L r l i0 w0 Clo s' a' w'->Q .normal a' w')->(∀s' a' w',fin s'=true->Gf L r l i0 w0 Clo s' a' w'->Q .ret a' w')->c.wp prog Q a w
 | .skip,s,k,a,w,Q,h,hc,hk,hf=>wp_skip (hk s a w h hc)
 | .region id ops draw,s,k,a,w,Q,h,hc,hk,hf=>by
  unfold H9 at h;split at h
  . cases h
  . rename_i s' hs;refine Aci hL hm hs hc fun a' w' hc'=>?_;obtain⟨s2,h2,hc2⟩:=Acs h hc';exact hk s2 a' w' h2 hc2
 | .seq x y,s,k,a,w,Q,h,hc,hk,hf=>wp_seq (Fr hL hm x s (fun s'=>H9 L sp fin y s' k) a w _ h hc (fun s' a' w' h' hc'=>Fr hL hm y s' k a' w' Q h' hc' hk hf) fun s' a' w' h' hc'=>hf s' a' w' h' hc')
 | .cond c x y,s,k,a,w,Q,h,hc,hk,hf=>by
  have kc:=S2 (x:=c) (r:=r) (b:=L.b) (Clo:=Clo) (st:=s.1) (a:=a) (w:=w) fun t _=>hc.ok t;unfold H9 at h;split at h
  . rename_i e;rw [e] at kc;obtain⟨q,hq,hq2⟩:=kc;have:=hq2 _ rfl;subst this;exact wp_cond_true hq (Fr hL hm x s k a w Q h hc hk hf)
  . rename_i e;rw [e] at kc;obtain⟨q,hq,hq2⟩:=kc;have:=hq2 _ rfl;subst this;exact wp_cond_false hq (Fr hL hm y s k a w Q h hc hk hf)
  . rename_i e;rw [e] at kc;obtain⟨q,hq,-⟩:=kc;rw [Bool.and_eq_true] at h;exact wp_cond_split hq (fun _=>Fr hL hm x s k a w Q h.1 hc hk hf) fun _=>Fr hL hm y s k a w Q h.2 hc hk hf
  . cases h
 | .block id x,s,k,a,w,Q,h,hc,hk,hf=>wp_block (Fr hL hm x s k a w _ h hc (fun s' a' w' h' hc'=>hk s' a' w' h' hc') fun s' a' w' h' hc'=>hf s' a' w' h' hc')
 | .ret,s,k,a,w,Q,h,hc,hk,hf=>wp_ret (hf s a w h hc)
 | .loop _,_,_,_,_,_,h,_,_,_=>by cases h
 | .rangeFunc _ _ _ _,_,_,_,_,_,h,_,_,_=>by cases h
 | .exit _,_,_,_,_,_,h,_,_,_=>by cases h
 | .scope _,_,_,_,_,_,h,_,_,_=>by cases h
 | .label _,_,_,_,_,_,h,_,_,_=>by cases h
 | .goto _,_,_,_,_,_,h,_,_,_=>by cases h
 | .refuse _,_,_,_,_,_,h,_,_,_=>by cases h
def Yg (t:Nat) (ps:List (List At)) (s:Stn):Bool:=match s.1.getD t (.b .any) with
 | .b (.tx ls)=>ls.all fun x=>ps.any fun p=>U4 x p
 | _=>false
def st0 (avs:List AV) (n:Nat):Sta:=avs ++ List.replicate (n - avs.length) (.b .any)
theorem look (hL:Mz L r l i0 w0 Clo) (hm:(prog).follows .mixedOrders=true) {f:FuncId} {fn:Func} {c:Code} (hf:(prog).funcs[f]? = some fn) (hb:fn.body=some c) {vs:List Value} {avs:List AV} {t sp:Nat} {ps:List (List At)} (hS:Sn r l i0 w0 0 w0) (hlen:avs.length=vs.length) (hn:vs.length<=fn.ntmps) (hok:∀(i:Nat) (x:AV) (v:Value),avs[i]? = some x->vs[i]? = some v->x.ok r L.b Clo v w0)
 (hres:∀(tm:Array Value) (w:World),(results fn tm).run prog w = .ok (tm.getD t undef) w) (hchk:H9 L sp (Yg t ps) c (st0 avs fn.ntmps,0) (fun _=>false)=true) :
 Calls prog f vs.toArray w0 fun e w'=>∃s x,e = .returned (.string (bs s))/\x ∈ ps/\Ats L.b x s/\Sn r l i0 w0 L.N w':=by
 refine calls_of_wp hf hb (Fr hL hm c _ _ _ _ _ hchk ⟨?_,fun u=>?_,rfl,hS,Nat.zero_le _⟩ (fun _ _ _ h=>by cases h) fun s' a' w' h hc=>?_)
 . simp [st0];omega
 . by_cases hu:u<vs.length
   . obtain⟨x,hx⟩:∃x,avs[u]? = some x:=⟨_,gee (by omega)⟩;have hv:vs[u]? = some vs[u]:=gee hu;have e1:(st0 avs fn.ntmps).getD u (.b .any)=x:=by simp [st0,List.getD,List.getElem?_append_left (show u<avs.length by omega),hx]
     have e2:(vs.toArray ++ Array.replicate (fn.ntmps - vs.toArray.size) undef).getD u undef=vs[u]:=by simp [Array.getElem?_append_left,hu]
     show ((st0 avs fn.ntmps).getD u _).ok _ _ _ _ _;rw [e1,e2];exact hok u x _ hx hv
   . have e1:(st0 avs fn.ntmps).getD u (.b .any) = .b .any:=by
      simp only [st0,List.getD,List.getElem?_append_right (show avs.length<=u by omega),List.getElem?_replicate];split <;> rfl
     show ((st0 avs fn.ntmps).getD u _).ok _ _ _ _ _;rw [e1]
     trivial
 . unfold Yg at h;split at h
   . rename_i ls e;have kt:=hc.ok t;rw [e] at kt;obtain⟨x,s,hx,hv,hs⟩:=kt;obtain⟨p,hp,hxp⟩:=List.any_eq_true.1 (List.all_eq_true.1 h x hx);have:=Ql hxp;subst this;obtain⟨⟨j,hM,hj⟩,hb'⟩:=hc.sn;have hN:=hc.n;exact bodyPost_ret (v:=a'.tmps.getD t undef) (hres _ _) hc.df ⟨s,x,by rw [hv],hp,hs,⟨j,hM,by omega⟩,hb'⟩
   . cases h
end
end Go.Proofs.YtppcohadoilpgaaGreatDoor
