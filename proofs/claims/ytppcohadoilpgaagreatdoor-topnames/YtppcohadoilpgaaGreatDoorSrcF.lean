/-
  The maker's expressions and statements: what they return, by a look at their codes. / The maker's expressions and statements: the looks themselves.
-/
import Derived.Test.YtppcohadoilpgaaGreatDoorSrcK
namespace Go.Proofs.YtppcohadoilpgaaGreatDoor
open Go.ChangeShapes Go.WideShapes Go.ChangeAt Go.RowKit Go.Joins Go.Proofs.Tryz
set_option linter.unusedVariables false
set_option linter.unusedSimpArgs false
set_option maxRecDepth 100000
theorem Ad0 (w:World) (A:Array Value) (T:TypeId) (k:Nat):(w.alloc (.cells A T)).cell? ⟨w.heap.size,k,none⟩=A[k]? := (Ao.new w A T).cell k
theorem Ats.app_iff {b:Bool}:∀ {l m:List At} {s:List UInt8},Ats b (l ++ m) s ↔ ∃u v,Ats b l u/\Ats b m v/\s=u ++ v
 | [],m,s=>⟨fun h=>⟨[],s,rfl,h,rfl⟩,fun⟨u,v,h1,h2,e⟩=>by have e1:u = []:=h1;rw [e,e1];exact h2⟩
 | x :: l,m,s=>⟨fun⟨u,v,h1,h2,e⟩=>by
  obtain⟨p,q,h3,h4,e2⟩:=Ats.app_iff.1 h2;exact⟨u ++ p,q,⟨u,p,h1,h3,rfl⟩,h4,by rw [e,e2,List.append_assoc]⟩,fun⟨u,v,⟨p,q,h1,h2,e2⟩,h3,e⟩=>⟨p,q ++ v,h1,h2.app h3,by rw [e,e2,List.append_assoc]⟩⟩
def ltr (s:List UInt8):List At:=s.map At.c
theorem Ats.lit_iff {b:Bool}:∀ {t s:List UInt8},Ats b (ltr t) s ↔ s=t
 | [],s=>Iff.rfl
 | x :: t,s=>⟨fun⟨u,v,h1,h2,e⟩=>by
  have e1:u = [x]:=h1;have e2:v=t:=Ats.lit_iff.1 h2;rw [e,e1,e2];rfl,fun e=>⟨[x],t,rfl,Ats.lit_iff.2 rfl,e⟩⟩
theorem Ats.one_iff {b:Bool} {x:At} {s:List UInt8}:Ats b [x] s ↔ x.is b s :=
 ⟨fun⟨u,v,h1,h2,e⟩=>by have e2:v = []:=h2;rw [e,e2,List.append_nil];exact h1,fun h=>⟨s,[],h,rfl,(List.append_nil _).symm⟩⟩
def Ahi (b:Bool):List (List At):= [[.g 0 30],ltr [34,116,34],ltr [34,49,50,32,98,34],ltr [97,91] ++ [.g 1 5] ++ ltr [93]] ++ Oa.map ltr
def Afb (d:Nat) (b:Bool):List (List At) :=
 Abx.map (fun o=>ltr [40] ++ [.E d] ++ ltr o ++ [.E d] ++ ltr [41]) ++ G7.map (fun a=>ltr a ++ ltr [91] ++ [.E d] ++ ltr [93]) ++ G7.map (fun a=>ltr [40] ++ [.E d] ++ ltr [32,105,110,32] ++ ltr a ++ ltr [41]) ++
 [ltr [40] ++ [.E d] ++ ltr [32,63,32] ++ [.E d] ++ ltr [32,58,32] ++ [.E d] ++ ltr [41],ltr [108,101,110,103,116,104,40] ++ [.E d] ++ ltr [41],ltr [115,117,98,115,116,114,40] ++ [.E d] ++ ltr [44,32] ++ [.E d] ++ ltr [44,32,50,41],ltr [40,45] ++ [.E d] ++ ltr [41],ltr [40,33] ++ [.E d] ++ ltr [41]] ++
 (if b then [ltr [105,110,100,101,120,40] ++ [.E d] ++ ltr [44,32,34,116,34,41]] else [ltr [78,82],ltr [78,70],ltr [40,36] ++ [.g 0 4] ++ ltr [41]])
def prE (d:Nat) (b:Bool):List (List At):=Ahi b ++ match d with
 | 0=> []
 | d+1=>Afb d b
theorem Afc {d:Nat} {b:Bool} {x:List At} {s:List UInt8} (hx:x ∈ prE d b) (hs:Ats b x s):GE d b s:=by
 unfold prE at hx;rcases List.mem_append.1 hx with hx | hx
 . unfold Ahi at hx;rcases List.mem_append.1 hx with hx | hx
   . simp only [List.mem_cons,List.not_mem_nil,or_false] at hx;rcases hx with rfl | rfl | rfl | rfl
     . obtain⟨n,-,h,-,rfl⟩:=Ats.one_iff.1 hs;exact .num h
     . rw [Ats.lit_iff.1 hs];exact .st
     . rw [Ats.lit_iff.1 hs];exact .st2
     . simp only [Ats.app_iff,Ats.lit_iff,Ats.one_iff] at hs;obtain⟨_,_,⟨_,_,rfl,⟨n,h1,h2,-,rfl⟩,rfl⟩,rfl,rfl⟩:=hs;exact .elem h1 h2
   . obtain⟨v,hv,rfl⟩:=List.mem_map.1 hx;rw [Ats.lit_iff.1 hs];exact .var hv
 . cases d with
   | zero=>cases hx
   | succ d =>
    have hx:x ∈ Afb d b:=hx;unfold Afb at hx;rcases List.mem_append.1 hx with hx | hx
    . rcases List.mem_append.1 hx with hx | hx
      . rcases List.mem_append.1 hx with hx | hx
        . rcases List.mem_append.1 hx with hx | hx
          . obtain⟨o,ho,rfl⟩:=List.mem_map.1 hx;simp only [Ats.app_iff,Ats.lit_iff,Ats.one_iff] at hs;obtain⟨_,_,⟨_,_,⟨_,_,⟨_,_,rfl,h1,rfl⟩,rfl,rfl⟩,h2,rfl⟩,rfl,rfl⟩:=hs;exact .op ho h1 h2
          . obtain⟨a,ha,rfl⟩:=List.mem_map.1 hx;simp only [Ats.app_iff,Ats.lit_iff,Ats.one_iff] at hs;obtain⟨_,_,⟨_,_,⟨_,_,rfl,rfl,rfl⟩,h1,rfl⟩,rfl,rfl⟩:=hs;exact .elemv ha h1
        . obtain⟨a,ha,rfl⟩:=List.mem_map.1 hx;simp only [Ats.app_iff,Ats.lit_iff,Ats.one_iff] at hs;obtain⟨_,_,⟨_,_,⟨_,_,⟨_,_,rfl,h1,rfl⟩,rfl,rfl⟩,rfl,rfl⟩,rfl,rfl⟩:=hs;exact .isin ha h1
      . simp only [List.mem_cons,List.not_mem_nil,or_false] at hx;rcases hx with rfl | rfl | rfl | rfl | rfl <;> simp only [Ats.app_iff,Ats.lit_iff,Ats.one_iff] at hs
        . obtain⟨_,_,⟨_,_,⟨_,_,⟨_,_,⟨_,_,⟨_,_,rfl,h1,rfl⟩,rfl,rfl⟩,h2,rfl⟩,rfl,rfl⟩,h3,rfl⟩,rfl,rfl⟩:=hs;exact .cond h1 h2 h3
        . obtain⟨_,_,⟨_,_,rfl,h1,rfl⟩,rfl,rfl⟩:=hs;exact .lenf h1
        . obtain⟨_,_,⟨_,_,⟨_,_,⟨_,_,rfl,h1,rfl⟩,rfl,rfl⟩,h2,rfl⟩,rfl,rfl⟩:=hs;exact .sub h1 h2
        . obtain⟨_,_,⟨_,_,rfl,h1,rfl⟩,rfl,rfl⟩:=hs;exact .neg h1
        . obtain⟨_,_,⟨_,_,rfl,h1,rfl⟩,rfl,rfl⟩:=hs;exact .no h1
    . cases b with
      | true =>
       simp only [if_true,List.mem_cons,List.not_mem_nil,or_false] at hx;subst hx;simp only [Ats.app_iff,Ats.lit_iff,Ats.one_iff] at hs;obtain⟨_,_,⟨_,_,rfl,h1,rfl⟩,rfl,rfl⟩:=hs;exact .index h1
      | false =>
       simp only [Bool.false_eq_true,if_false,List.mem_cons,List.not_mem_nil,or_false] at hx;rcases hx with rfl | rfl | rfl
       . rw [Ats.lit_iff.1 hs];exact .nr
       . rw [Ats.lit_iff.1 hs];exact .nf
       . simp only [Ats.app_iff,Ats.lit_iff,Ats.one_iff] at hs;obtain⟨_,_,⟨_,_,rfl,⟨n,h1,h2,-,rfl⟩,rfl⟩,rfl,rfl⟩:=hs;exact .field h2
def Gw (G:List UInt8->Prop) (c r:Nat) (l:List Rw) (i:Nat) (w:World):Ending->World->Prop:=fun e w'=>∃s i',e = .returned (.string (bs s))/\G s/\Mk r w' l i'/\i'<=i+c/\But r r w w'
def MkE (d c:Nat):Prop:=∀(r:Nat) (l:List Rw) (i:Nat) (b:Bool) (w:World),Mk r w l i->i+c<=1000000 ->
 Calls prog 28 #[.pointer (some ⟨r,0,none⟩),.int .i64 (d:Int),.bool b] w (Gw (GE d b) c r l i w)
def MkS (d c:Nat):Prop:=∀(r:Nat) (l:List Rw) (i:Nat) (b:Bool) (w:World),Mk r w l i->i+c<=1000000 ->
 Calls prog 43 #[.pointer (some ⟨r,0,none⟩),.int .i64 (d:Int),.bool b] w (Gw (GS d b) c r l i w)
theorem MkE.up {d c c':Nat} (h:MkE d c) (hc:c<=c'):MkE d c':=fun r l i b w hM hi=>(h r l i b w hM (by omega)).mono fun e w' ⟨s,i',h1,h2,h3,h4,h5⟩=>⟨s,i',h1,h2,h3,by omega,h5⟩
theorem MkS.up {d c c':Nat} (h:MkS d c) (hc:c<=c'):MkS d c':=fun r l i b w hM hi=>(h r l i b w hM (by omega)).mono fun e w' ⟨s,i',h1,h2,h3,h4,h5⟩=>⟨s,i',h1,h2,h3,by omega,h5⟩
theorem mkd {G:List UInt8->Prop} {C r:Nat} {l:List Rw} {i0 n N:Nat} {w0 w:World} {f:FuncId} {args:Array Value} (hS:Sn r l i0 w0 n w) (hn:n+C<=N) (hN:i0+N<=1000000) (h:∀i,Mk r w l i->i+C<=1000000->Calls prog f args w (Gw G C r l i w)) :
 Calls prog f args w (Mkd r l i0 w0 G (n+C) w):=by
 obtain⟨⟨j,hM,hj⟩,hb⟩:=hS;refine (h j hM (by omega)).mono ?_;rintro e w' ⟨s,i',rfl,h1,h2,h3,h4⟩;exact⟨s,rfl,h1,h4,⟨i',h2,by omega⟩,hb.trans h4⟩
def Ja (r:Nat) (b:Bool) (f:FuncId) (avs:List AV) (v:Value) (w:World):Prop:=∃vs:List Value,v = .func (.func f) #[] vs.toArray/\vs.length=avs.length/\∀(i:Nat) (x:AV) (u:Value),avs[i]? = some x->vs[i]? = some u->x.ok r b (fun _ _=>False) u w
theorem Ja.but {r:Nat} {b:Bool} {f:FuncId} {avs:List AV} {v:Value} {w w':World} (h:Ja r b f avs v w) (hb:But r r w w'):Ja r b f avs v w':=by
 obtain⟨vs,h1,h2,h3⟩:=h;exact⟨vs,h1,h2,fun i x u hx hu=>(h3 i x u hx hu).but (fun _ _ _ h _=>h) hb⟩
def Ad7:BV->BV->Bool
 | .int p q,.int u v=>p == u && q == v
 | .bo (some p),.bo (some q)=>p == q
 | .mk p,.mk q=>p == q
 | _,_=>false
theorem Aas {x y:BV} (h:Ad7 x y=true):x=y:=by
 unfold Ad7 at h;split at h
 . simp only [Bool.and_eq_true,beq_iff_eq] at h;rw [h.1,h.2]
 . rw [beq_iff_eq.1 h]
 . rw [beq_iff_eq.1 h]
 . cases h
def Hx:List AV->List AV->Bool
 | [],[]=>true
 | .ref [x] p :: l,.ref [y] q :: m=>Ad7 x y && p == q && Hx l m
 | _,_=>false
theorem Qn:∀ {l m:List AV},Hx l m=true->l=m
 | [],[],_=>rfl
 | .ref [x] p :: l,.ref [y] q :: m,h=>by
  simp only [Hx,Bool.and_eq_true,beq_iff_eq] at h;rw [Aas h.1.1,h.1.2,Qn h.2]
theorem Nd:∀ {l m:List AV},Hx l m=true->∀y ∈ l,∃q p,y = .ref q p
 | [],_,_,y,hy=>by cases hy
 | .ref [x] p :: l,.ref [x2] q :: m,h,y,hy=>by
  simp only [Hx,Bool.and_eq_true] at h;rcases List.mem_cons.1 hy with rfl | hy
  . exact⟨_,_,rfl⟩
  . exact Nd h.2 y hy
theorem Nk {r:Nat} {b:Bool} {f:FuncId} {Clo:Value->World->Prop} {avs:List AV} {st:Sta} {a:Act} {xs:List Operand} {w:World} (h:Hx (xs.map (evA st)) avs=true) (hx:∀x ∈ xs,(evA st x).ok r b Clo (a.eval x) w):Ja r b f avs (.func (.func f) #[] (xs.map a.eval).toArray) w:=by
 have e:=Qn h;refine⟨xs.map a.eval,rfl,by rw [<-e];simp,fun i x u hi hu=>?_⟩;rw [<-e,List.getElem?_map] at hi;rw [List.getElem?_map] at hu;obtain⟨z,hz,rfl⟩:=Option.map_eq_some_iff.1 hi;rw [hz] at hu;cases hu;have k:=hx z (List.mem_of_getElem? hz);obtain⟨q,p,e2⟩:=Nd h (evA st z) (List.mem_map.2 ⟨z,List.mem_of_getElem? hz,rfl⟩);rw [e2] at k ⊢;exact k
def O5 (f:Func):Code:=f.body.getD .skip
def Xt (D:Nat) (b:Bool):List AV:= [.ref [.mk 0] 0,.ref [.int D (D+1)] 0,.ref [.bo (some b)] 0]
def Qs (b:Bool):List AV:= [.ref [.mk 0] 0,.ref [.bo (some b)] 0]
def Lk0 (D C:Nat) (b:Bool):Lk:=⟨fun _=>none,fun _ _=>false,fun _=>false,fun d=>d == D,C,C,b⟩
abbrev Aba:=45
abbrev fEx:=69
def kE (D:Nat) (b:Bool):List AV:= [.b (.mk 0),.b (.int D (D+1)),.b (.bo (some b))]
def LkE (D C N:Nat) (b:Bool):Lk:=⟨fun l=>match l with | []=>(match D with | 0=>none | d+1=>some (.tx [[.E d]])) | _=>none,fun f l=>f == Aba && Hx l (Xt D b),fun _=>false,fun _=>false,C,N,b⟩
def LkS (D C N:Nat) (b:Bool):Lk:=⟨fun l=>match l with | [.b (.int n m)]=>if m=n+1/\(n=1\/n=2) then some (.tx [[.E n]]) else none | _=>none,fun f l=>f == fEx && Hx l (Qs b),fun d=>decide (d<D),fun _=>false,C,N,b⟩
def It (D C:Nat) (b:Bool) (f:Func) (t:Nat) (avs:List AV):Prop:=H9 (Lk0 D C b) 999 (Yg t [[.E D]]) (O5 f) (st0 avs f.ntmps,0) (fun _=>false)=true
def Xu (D C N:Nat) (b:Bool):Prop:=H9 (LkE D C N b) 10 (Yg 6 (prE D b)) (O5 Tryz.f28) (st0 (kE D b) (Tryz.f28).ntmps,0) (fun _=>false)=true
theorem drw:(prog).follows .mixedOrders=true:=by kernel_rfl
theorem Adb {D C:Nat} (hX:MkE D C) {f:FuncId} {fn:Func} (hf:(prog).funcs[f]? = some fn) (hb:fn.body=some (O5 fn)) {t:Nat} (hres:∀(tm:Array Value) (w:World),(results fn tm).run prog w = .ok (tm.getD t undef) w) {avs:List AV} (hn:avs.length<=fn.ntmps) {r:Nat} {l:List Rw} {j:Nat} {b:Bool} {w:World} (hchk:It D C b fn t avs) {vs:List Value} (hM:Mk r w l j) (hj:j+C<=1000000) (hlen:vs.length=avs.length) (hok:∀(i:Nat) (x:AV) (u:Value),avs[i]? = some x->vs[i]? = some u->x.ok r b (fun _ _=>False) u w) :
 Calls prog f vs.toArray w (Gw (GE D b) C r l j w):=by
 refine (look (L:=Lk0 D C b) (r:=r) (l:=l) (i0:=j) (w0:=w) (Clo:=fun _ _=>False) ⟨fun _ _ _ h _=>h,hj,fun _ _ _ _ _ _ _ h=>by (cases h),fun _ _ _ _ _ h=>by (cases h),fun _ h=>by (cases h),fun d hd w' n hS hn=>?_⟩ drw hf hb ⟨⟨j,hM,Nat.le_refl _⟩,But.refl _ _ _⟩ hlen.symm (by omega) hok hres hchk).mono ?_
 . have e:d=D:=beq_iff_eq.1 hd;subst e;exact mkd hS hn hj fun i hM hi=>hX r l i b w' hM hi
 . rintro e w' ⟨s,x,rfl,hx,hs,⟨i,hM',hi⟩,hb'⟩;rw [List.mem_singleton.1 hx] at hs;exact⟨s,i,rfl,Ats.one_iff.1 hs,hM',hi,hb'⟩
theorem S3 {D C N:Nat} (hX:∀d,D=d+1->MkE d C/\∀b,It d C b Tryz.f45 3 (Xt D b)) (hchk:∀b,Xu D C N b):MkE D N:=by
 intro r l i b w hM hi;refine (look (L:=LkE D C N b) (r:=r) (l:=l) (i0:=i) (w0:=w) (Clo:=Ja r b Aba (Xt D b)) (vs:= [.pointer (some ⟨r,0,none⟩),.int .i64 (D:Int),.bool b]) (avs:=kE D b) ⟨fun _ _ _ h hb=>h.but hb,hi,?_,?_,fun _ h=>by (cases h),fun _ h=>by (cases h)⟩ drw func28 rfl ⟨⟨i,hM,Nat.le_refl _⟩,But.refl _ _ _⟩ rfl (by show 3<=_;decide) ?_ (fun tm w=>by simp [results,results28,go_sem]) (hchk b)).mono ?_
 . intro st a xs y v w' n hcl hC hx hS hn;cases xs with
   | cons x xs=>cases hcl
   | nil =>
    cases D with
    | zero=>cases hcl
    | succ d =>
     cases hcl;obtain⟨hX,hs⟩:=hX d rfl;obtain⟨vs,rfl,h2,h3⟩:=hC;refine⟨Aba,vs.toArray,rfl,enters_of func45 (by kernel_rfl) rfl,?_⟩;have e:([]:List Operand).map a.eval = []:=rfl;rw [e,Array.empty_append];refine (mkd hS hn hi fun j hM hj=>Adb hX func45 rfl (t:=3) (fun tm w=>by simp [results,results45,go_sem]) (avs:=Xt (d+1) b) (by show 3<=_;decide) (hs b) hM hj h2 h3).mono ?_;rintro e w'' ⟨s,rfl,hg,hb',hs'⟩;exact⟨_,rfl,⟨_,s,List.mem_singleton.2 rfl,rfl,Ats.one_iff.2 hg⟩,hb',hs'⟩
 . intro st a f xs w' hm hx;have hm:(f == Aba && Hx (xs.map (evA st)) (Xt D b))=true:=hm;rw [Bool.and_eq_true,beq_iff_eq] at hm;rw [hm.1];exact Nk hm.2 hx
 . intro k x v hk hv
   match k,hk with
   | 0,hk=>cases hk;cases hv;rfl
   | 1,hk=>cases hk;cases hv;exact⟨D,rfl,Nat.le_refl _,Nat.lt_succ_self _⟩
   | 2,hk=>cases hk;cases hv;exact⟨b,rfl,fun y hy=>by cases hy;rfl⟩
   | k+3,hk=>simp [kE] at hk
 . rintro e w' ⟨s,x,rfl,hx,hs,⟨j,hM',hj⟩,hb'⟩;exact⟨s,j,rfl,Afc hx hs,hM',hj,hb'⟩
def Ahj (b:Bool):List (List At):=Oa.map (fun v=>ltr v ++ ltr [32,61,32] ++ [.E 2] ++ ltr [59]) ++ [ltr [98,91] ++ [.E 1] ++ ltr [93,32,61,32] ++ [.E 2] ++ ltr [59],ltr [112,114,105,110,116,32] ++ [.E 2] ++ ltr [44,32] ++ [.E 1] ++ ltr [59],ltr [100,101,108,101,116,101,32,98,91] ++ [.E 1] ++ ltr [93,59],ltr [112,114,105,110,116,32,120,44,32,121,59]] ++
 (if b then [ltr [108,111,97,100,32,34,116,97,98,34,32,97,59]] else [ltr [36] ++ [.g 1 4] ++ ltr [32,61,32] ++ [.E 1] ++ ltr [59],ltr [105,102,32,40] ++ [.E 1] ++ ltr [41,32,123,32,110,101,120,116,59,32,125]])
def Agz:List (List UInt8):= [[107],[120],[106]]
def Afd (d:Nat):List (List At):= [ltr [105,102,32,40] ++ [.E 2] ++ ltr [41,32,123,32] ++ [.S d] ++ ltr [32,125,32,101,108,115,101,32,123,32] ++ [.S d] ++ ltr [32,125],ltr [122,32,61,32,48,59,32,119,104,105,108,101,32,40,122,32,60,32] ++ [.g 1 5] ++ ltr [41,32,123,32,122,32,61,32,122,32,43,32,49,59,32] ++ [.S 0] ++ ltr [32,125]] ++
 Agz.flatMap fun v=>G7.map fun a=>ltr [102,111,114,32,40] ++ ltr v ++ ltr [32,105,110,32] ++ ltr a ++ ltr [41,32,123,32] ++ [.S d] ++ ltr [32,112,114,105,110,116,32] ++ [.E 1] ++ ltr [59,32,125]
def prS (d:Nat) (b:Bool):List (List At):=Ahj b ++ match d with
 | 0=> []
 | d+1=>Afd d
theorem Afe {d:Nat} {b:Bool} {x:List At} {s:List UInt8} (hx:x ∈ prS d b) (hs:Ats b x s):GS d b s:=by
 unfold prS at hx;rcases List.mem_append.1 hx with hx | hx
 . unfold Ahj at hx;rcases List.mem_append.1 hx with hx | hx
   . rcases List.mem_append.1 hx with hx | hx
     . obtain⟨v,hv,rfl⟩:=List.mem_map.1 hx;simp only [Ats.app_iff,Ats.lit_iff,Ats.one_iff] at hs;obtain⟨_,_,⟨_,_,⟨_,_,rfl,rfl,rfl⟩,h1,rfl⟩,rfl,rfl⟩:=hs;exact .set hv h1
     . simp only [List.mem_cons,List.not_mem_nil,or_false] at hx;rcases hx with rfl | rfl | rfl | rfl <;> simp only [Ats.app_iff,Ats.lit_iff,Ats.one_iff] at hs
       . obtain⟨_,_,⟨_,_,⟨_,_,⟨_,_,rfl,h1,rfl⟩,rfl,rfl⟩,h2,rfl⟩,rfl,rfl⟩:=hs;exact .put h1 h2
       . obtain⟨_,_,⟨_,_,⟨_,_,⟨_,_,rfl,h1,rfl⟩,rfl,rfl⟩,h2,rfl⟩,rfl,rfl⟩:=hs;exact .print h1 h2
       . obtain⟨_,_,⟨_,_,rfl,h1,rfl⟩,rfl,rfl⟩:=hs;exact .delete h1
       . rw [hs];exact .print2
   . cases b with
     | true =>
      simp only [if_true,List.mem_cons,List.not_mem_nil,or_false] at hx;subst hx;rw [Ats.lit_iff.1 hs];exact .load
     | false =>
      simp only [Bool.false_eq_true,if_false,List.mem_cons,List.not_mem_nil,or_false] at hx;rcases hx with rfl | rfl <;> simp only [Ats.app_iff,Ats.lit_iff,Ats.one_iff] at hs
      . obtain⟨_,_,⟨_,_,⟨_,_,⟨_,_,rfl,⟨n,h1,h2,-,rfl⟩,rfl⟩,rfl,rfl⟩,h3,rfl⟩,rfl,rfl⟩:=hs;exact .write h1 h2 h3
      . obtain⟨_,_,⟨_,_,rfl,h1,rfl⟩,rfl,rfl⟩:=hs;exact .next h1
 . cases d with
   | zero=>cases hx
   | succ d =>
    have hx:x ∈ Afd d:=hx;unfold Afd at hx;rcases List.mem_append.1 hx with hx | hx
    . simp only [List.mem_cons,List.not_mem_nil,or_false] at hx;rcases hx with rfl | rfl <;> simp only [Ats.app_iff,Ats.lit_iff,Ats.one_iff] at hs
      . obtain⟨_,_,⟨_,_,⟨_,_,⟨_,_,⟨_,_,⟨_,_,rfl,h1,rfl⟩,rfl,rfl⟩,h2,rfl⟩,rfl,rfl⟩,h3,rfl⟩,rfl,rfl⟩:=hs;exact .branch h1 h2 h3
      . obtain⟨_,_,⟨_,_,⟨_,_,⟨_,_,rfl,⟨n,h1,h2,-,rfl⟩,rfl⟩,rfl,rfl⟩,h3,rfl⟩,rfl,rfl⟩:=hs;exact .loop h1 h2 h3
    . obtain⟨v,hv,hx⟩:=List.mem_flatMap.1 hx;obtain⟨a,ha,rfl⟩:=List.mem_map.1 hx;simp only [Ats.app_iff,Ats.lit_iff,Ats.one_iff] at hs;obtain⟨_,_,⟨_,_,⟨_,_,⟨_,_,⟨_,_,⟨_,_,⟨_,_,⟨_,_,rfl,rfl,rfl⟩,rfl,rfl⟩,rfl,rfl⟩,rfl,rfl⟩,h1,rfl⟩,rfl,rfl⟩,h2,rfl⟩,rfl,rfl⟩:=hs;exact .each hv ha h1 h2
def Aau (D C N:Nat) (b:Bool):Prop:=H9 (LkS D C N b) 10 (Yg 6 (prS D b)) (O5 Tryz.f43) (st0 (kE D b) (Tryz.f43).ntmps,0) (fun _=>false)=true
theorem Uh {D C N:Nat} (hX:∀n,n=1\/n=2->MkE n C/\∀b,It n C b Tryz.f69 4 (.b (.int n (n+1)) :: Qs b)) (hS:∀d,d<D->MkS d C) (hchk:∀b,Aau D C N b):MkS D N:=by
 intro r l i b w hM hi;refine (look (L:=LkS D C N b) (r:=r) (l:=l) (i0:=i) (w0:=w) (Clo:=Ja r b fEx (Qs b)) (vs:= [.pointer (some ⟨r,0,none⟩),.int .i64 (D:Int),.bool b]) (avs:=kE D b) ⟨fun _ _ _ h hb=>h.but hb,hi,?_,?_,?_,fun _ h=>by (cases h)⟩ drw func43 rfl ⟨⟨i,hM,Nat.le_refl _⟩,But.refl _ _ _⟩ rfl (by show 3<=_;decide) ?_ (fun tm w=>by simp [results,results43,go_sem]) (hchk b)).mono ?_
 . intro st a xs y v w' n hcl hC hx hS hn;obtain⟨x,k,hxs,ek,hk,hy⟩:∃x k,xs = [x]/\evA st x = .b (.int k (k+1))/\(k=1\/k=2)/\y = .tx [[.E k]]:=by
    have hcl:(match xs.map (evA st) with | [.b (.int n m)]=>if m=n+1/\(n=1\/n=2) then some (BV.tx [[At.E n]]) else none | _=>none)=some y:=hcl;split at hcl
    . rename_i k m e;split at hcl
      . rename_i hk;cases hcl;obtain⟨x,l1,e0,e1,e2⟩:=List.map_eq_cons_iff.1 e;exact⟨x,k,by rw [e0,List.map_eq_nil_iff.1 e2],by rw [e1,hk.1],hk.2,rfl⟩
      . cases hcl
    . cases hcl
   subst hxs hy;have kx:=hx x (List.mem_singleton.2 rfl);rw [ek] at kx;obtain⟨m,hm,h1,h2⟩:=kx;have em:m=k:=by omega
   subst em;obtain⟨hX,hs⟩:=hX m hk;obtain⟨vs,rfl,h2,h3⟩:=hC;refine⟨fEx,vs.toArray,rfl,enters_of func69 (by kernel_rfl) rfl,?_⟩;have e:(([x].map a.eval).toArray ++ vs.toArray)=(Value.int .i64 (m:Int) :: vs).toArray:=by simp [hm]
   rw [e];refine (mkd hS hn hi fun j hM hj=>Adb hX func69 rfl (t:=4) (fun tm w=>by simp [results,results69,go_sem]) (avs:= .b (.int m (m+1)) :: Qs b) (by show 3<=_;decide) (hs b) hM hj (by simp [h2]) fun q z u hz hu=>?_).mono ?_
   . cases q with
     | zero=>cases hz;cases hu;exact⟨m,rfl,Nat.le_refl _,Nat.lt_succ_self _⟩
     | succ q=>exact h3 q z u hz hu
   . rintro e w'' ⟨s,rfl,hg,hb',hs'⟩;exact⟨_,rfl,⟨_,s,List.mem_singleton.2 rfl,rfl,Ats.one_iff.2 hg⟩,hb',hs'⟩
 . intro st a f xs w' hm hx;have hm:(f == fEx && Hx (xs.map (evA st)) (Qs b))=true:=hm;rw [Bool.and_eq_true,beq_iff_eq] at hm;rw [hm.1];exact Nk hm.2 hx
 . intro d hd w' n hS' hn;exact mkd hS' hn hi fun j hM hj=>hS d (of_decide_eq_true hd) r l j b w' hM hj
 . intro k x v hk hv
   match k,hk with
   | 0,hk=>cases hk;cases hv;rfl
   | 1,hk=>cases hk;cases hv;exact⟨D,rfl,Nat.le_refl _,Nat.lt_succ_self _⟩
   | 2,hk=>cases hk;cases hv;exact⟨b,rfl,fun y hy=>by cases hy;rfl⟩
   | k+3,hk=>simp [kE] at hk
 . rintro e w' ⟨s,x,rfl,hx,hs,⟨j,hM',hj⟩,hb'⟩;exact⟨s,j,rfl,Afe hx hs,hM',hj,hb'⟩
end Go.Proofs.YtppcohadoilpgaaGreatDoor
namespace Go.Proofs.YtppcohadoilpgaaGreatDoor
set_option linter.unusedVariables false
set_option linter.unusedSimpArgs false
set_option maxRecDepth 100000
theorem two {P:Nat->Prop} (h1:P 1) (h2:P 2):∀n,n=1\/n=2->P n:=fun n h=>h.elim (fun e=>e ▸ h1) fun e=>e ▸ h2
theorem Agu:∀b,Xu 0 1 1 b:=fun b=>by cases b <;> (unfold Xu;kernel_rfl)
theorem Aic:MkE 0 1:=S3 (C:=1) (fun d e=>by cases e) Agu
theorem Ag5:MkE 1 4:=S3 (C:=1) (fun d e=>by cases e;exact⟨Aic,fun b=>by cases b <;> (unfold It;kernel_rfl)⟩) fun b=>by cases b <;> (unfold Xu;kernel_rfl)
theorem Ag6:MkE 2 13:=S3 (C:=4) (fun d e=>by cases e;exact⟨Ag5,fun b=>by cases b <;> (unfold It;kernel_rfl)⟩) fun b=>by cases b <;> (unfold Xu;kernel_rfl)
theorem Aej {C:Nat} (h:13<=C) (h1:∀b,It 1 C b Tryz.f69 4 (.b (.int 1 2) :: Qs b)) (h2:∀b,It 2 C b Tryz.f69 4 (.b (.int 2 3) :: Qs b)):∀n,n=1\/n=2->MkE n C/\∀b,It n C b Tryz.f69 4 (.b (.int n (n+1)) :: Qs b) :=
 two ⟨Ag5.up (by omega),h1⟩ ⟨Ag6.up h,h2⟩
theorem Ag7:MkS 0 27:=Uh (C:=13) (Aej (by decide) (fun b=>by cases b <;> (unfold It;kernel_rfl)) fun b=>by cases b <;> (unfold It;kernel_rfl)) (fun d hd=>absurd hd (Nat.not_lt_zero d)) fun b=>by cases b <;> (unfold Aau;kernel_rfl)
theorem Aid:MkS 1 82:=Uh (C:=27) (Aej (by decide) (fun b=>by cases b <;> (unfold It;kernel_rfl)) fun b=>by cases b <;> (unfold It;kernel_rfl)) (fun d hd=>by
 have e:d=0:=by omega
 subst e;exact Ag7) fun b=>by cases b <;> (unfold Aau;kernel_rfl)
theorem Aie:MkS 2 247:=Uh (C:=82) (Aej (by decide) (fun b=>by cases b <;> (unfold It;kernel_rfl)) fun b=>by cases b <;> (unfold It;kernel_rfl)) (fun d hd=>by
 have e:d=0\/d=1:=by omega
 rcases e with rfl | rfl
 . exact Ag7.up (by decide)
 . exact Aid) fun b=>by cases b <;> (unfold Aau;kernel_rfl)
end Go.Proofs.YtppcohadoilpgaaGreatDoor
