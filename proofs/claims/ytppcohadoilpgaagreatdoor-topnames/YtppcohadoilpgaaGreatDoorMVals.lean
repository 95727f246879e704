/-
  The machine's values: expressions asked one by one, in a new row.
-/
import Derived.Test.YtppcohadoilpgaaGreatDoorMAskF
import Derived.Maps.AppendAt
import Derived.OwnWalk
namespace Go.Proofs.YtppcohadoilpgaaGreatDoor
open Go.ChangeShapes Go.WideShapes Go.ChangeAt Go.RowKit Go.Joins Go.Maps Go.Proofs.Tryz
set_option maxHeartbeats 4000000
set_option linter.unusedVariables false
set_option maxRecDepth 100000
def vlC (v:Vl):List Value:= [.bool v.t,.int .i64 v.n,.string v.s]
def Kx (B:Nat) (w:World) (v:Value) (vs:List Vl):Prop:=w.ownsRow B 157 3 v vs.length (vs.flatMap vlC)
theorem Aes:(prog.info? 157).map (fun i=>(i.zero,i.size,i.bytes))=some (some (.agg #[.bool false,.int .i64 0,.string ⟨#[]⟩]),3,32):=by kernel_rfl
theorem Jd {α β:Type} {f:α->Except Int β}:∀ {l:List α} {x:α} {vs:List β},Cw f l = .ok vs->Cw f (l ++ [x])=(f x).bind fun v=> .ok (vs ++ [v])
 | [],x,vs,h=>by
  cases h;simp only [List.nil_append,Cw];cases f x <;> rfl
 | y :: l,x,vs,h=>by
  obtain⟨v,h1,h2⟩:=Bq h;obtain⟨r,h3,h4⟩:=Bq h2;cases h4;simp only [List.cons_append,Cw];rw [h1];simp only [Except.bind];rw [Jd h3];cases f x <;> rfl
theorem Qk {α β:Type} {f:α->Except Int β} {er:Int}:∀ {l r:List α},Cw f l = .error er->Cw f (l ++ r) = .error er
 | [],r,h=>by cases h
 | y :: l,r,h=>by
  simp only [List.cons_append,Cw] at h ⊢;cases h1:f y with
  | error e=>rw [h1] at h;exact h
  | ok v =>
   rw [h1] at h;simp only [Except.bind] at h ⊢;cases h2:Cw f l with
   | error e =>
    rw [h2] at h;cases h;rw [Qk h2]
   | ok vs=>rw [h2] at h;cases h
theorem M9 {α β:Type} {f:α->Except Int β} {l:List α} {i:Nat} (hi:i<l.length) {vs:List β} (h:Cw f (l.take i) = .ok vs) {v:β} (hv:f l[i] = .ok v):Cw f (l.take (i+1)) = .ok (vs ++ [v]):=by
 rw [List.take_succ_eq_append_getElem hi,Jd h,hv];rfl
theorem Na {α β:Type} {f:α->Except Int β} {l:List α} {i:Nat} (hi:i<l.length) {vs:List β} (h:Cw f (l.take i) = .ok vs) {er:Int} (hv:f l[i] = .error er):Cw f l = .error er:=by
 have h2:Cw f (l.take (i+1)) = .error er:=by rw [List.take_succ_eq_append_getElem hi,Jd h,hv];rfl
 have:=Qk (r:=l.drop (i+1)) h2
 rwa [List.take_append_drop] at this
theorem Ik {α β:Type} {f:α->Except Int β}:∀ {l:List α} {vs:List β},Cw f l = .ok vs->vs.length=l.length
 | [],vs,h=>by cases h;rfl
 | y :: l,vs,h=>by
  obtain⟨v,h1,h2⟩:=Bq h;obtain⟨r,h3,h4⟩:=Bq h2;cases h4;simp [Ik h3]
theorem G3 (w:World) (l:List Value) (T:TypeId):∀j u,l[j]? = some u->(w.alloc (.cells l.toArray T)).cell? ((⟨w.heap.size,0,none⟩:Addr).add j)=some u:=by
 intro j u h;rw [Addr.add_lit,Nat.zero_add];simp [go_sem,h]
def Xh (w:World) (R:Except Int (List Vl)) (e:Ending) (w':World):Prop :=
 Below w.heap.size w w'/\match R with
  | .error er=>e = .panicked [Fb er]
  | .ok vs=>∃v',e = .returned v'/\Kx w.heap.size w' v' vs
def VaI (m:Nat) (s:Ms) (l:List Ex) (w wr:World) (v:Value) (i:Nat):Prop:=∃vs,Cw (Ai s m) (l.take i) = .ok vs/\Kx w.heap.size wr v vs/\Below w.heap.size w wr
theorem Xd {m:Nat} (hX:Er m) (c:Cx) (O:Own) (w:World) (s:Ms) (j:Nat) (l:List Ex) (v:Value) (hM:Mc c O w s j) (hv:Sl w c.B 4 v l.length (fun i c'=>∃x,l[i]? = some x/\ExA c.B w m c' x)) (hok:∀x ∈ l,okE m x) (hl:l.length<=4000) :
 Calls prog 143 #[.pointer (some ⟨c.r,0,none⟩),v] w (Xh w (Cw (Ai s m) l)):=by
 obtain⟨a,cap,rfl,hmax,hsl⟩:=hv;have HSL:Hid (0<l.length->∃b off,a=some ⟨b,off,none⟩/\b<c.B/\∀i,i<l.length->∃cs:List Value,cs.length=4/\(∀j,j<4->w.cell? ⟨b,off+i * 4+j,none⟩=cs[j]?)/\∃x,l[i]? = some x/\ExA c.B w m cs x):=hsl;have HSB:Hid (c.B<=w.heap.size):=hM.lo.size;have HC:Hid (∀(W:World) (x:Ex) (cs:List Value),Below w.heap.size w W->x ∈ l->ExA c.B w m cs x->Calls prog 108 #[.pointer (some ⟨c.r,0,none⟩),.agg cs.toArray] W (Bb W (Ai s m x) vlV)):=fun W x cs hW hx hc=>hX.as c O W s j x cs (hM.below hW) (hc.below (hW.mono hM.lo.size)) (hok x hx);obtain⟨i0,hi,hz0,hz1,hz2⟩:=info_parts Aes;have HI:Hid (prog.info? 157=some i0/\i0.zero=some (.agg #[.bool false,.int .i64 0,.string ⟨#[]⟩])/\i0.size=3/\i0.bytes=32):=⟨hi,hz0,hz1,hz2⟩;clear hsl hM hX hok hi hz0 hz1 hz2 hmax;go_enter func143,ntmps143
 go_wp2_with fail
 go_loopw [5,10] (fun v5 v10 wr=>∃(i:Nat) (a':Option Addr) (len' cap':Nat),i<=l.length/\v5 = .slice a' len' cap'/\v10 = .int .i64 i/\Hid (VaI m s l w wr v5 i)) (fun _ v10 _=>l.length - (intOf v10).toNat)
 case atStart=>exact⟨0,none,0,0,Nat.zero_le _,rfl,rfl,[],rfl,World.ownsRow_nil _ _ _ _,Below.refl _ _⟩
 case round =>
  obtain⟨i,a',len',cap',hil,rfl,rfl,HV⟩:=hrel
  by_cases hlt:i<l.length
  . have i1:(i:Int)<(l.length:Int):=by omega
    have i2:(0:Int)<=(i:Int):=by omega
    obtain⟨b,off,rfl,hbB,hii⟩:=HSL.out (by omega);obtain⟨k0,n0,s0,a0,len0,cap0,p0,p1,p2,p3,hx0,hm0⟩:=kid hii i (off+i * 4) rfl hlt;obtain⟨vs,hvs,hrow,hbr⟩:=HV.out;have hbw:b<w.heap.size:=lle hbB HSB.out;have HVS:Hid (Cw (Ai s m) (l.take i) = .ok vs/\Kx w.heap.size wr (.slice a' len' cap') vs):=⟨hvs,hrow⟩;have HBR:Hid (Below w.heap.size w wr):=hbr;have q0:wr.cell? ⟨b,off+i * 4,none⟩=some (.int .i64 k0):=(hbr.cell (p:=⟨b,off+i * 4,none⟩) hbw).trans p0;have q1:wr.cell? ⟨b,off+i * 4+1,none⟩=some (.int .i64 n0):=(hbr.cell (p:=⟨b,off+i * 4+1,none⟩) hbw).trans p1;have q2:wr.cell? ⟨b,off+i * 4+2,none⟩=some (.string s0):=(hbr.cell (p:=⟨b,off+i * 4+2,none⟩) hbw).trans p2;have q3:wr.cell? ⟨b,off+i * 4+3,none⟩=some (.slice a0 len0 cap0):=(hbr.cell (p:=⟨b,off+i * 4+3,none⟩) hbw).trans p3;obtain⟨W1,hW1⟩:∃W1,W1=wr.alloc (.cells #[.int .i64 k0,.int .i64 n0,.string s0,.slice a0 len0 cap0] 31):=⟨_,rfl⟩
    have HB1:Hid (Below wr.heap.size wr W1):=by rw [hW1];exact br0.alloc lr0 _
    have HWW:Hid (W1=_):=hW1;have HGD:Hid (l.getD i default=l[i]):=by unfold Hid;rw [List.getD_eq_getElem?_getD,gee hlt];rfl
    have HCA:=hid (HC.out W1 (l.getD i default) _ (Aa hbr HB1.out) hm0 hx0.out);clear p0 p1 p2 p3 hx0 hm0 hii hvs hrow hbr hW1 HV HC HSL;go_wp2_with fail
    rw [<-HWW.out];clear HWW q0 q1 q2 q3;refine Calls.mono HCA.out ?_;rintro e w2 ⟨hb2,hr⟩;have HB2:Hid (Below wr.heap.size wr w2):=Aa HB1.out hb2;have HBW2:Hid (Below w.heap.size w w2):=Aa HBR.out HB2.out;rcases Bf (Ai s m (l.getD i default)) with⟨er,hN⟩ | ⟨u,hN⟩
    . rw [hN] at hr;subst hr;have HE:Hid (Cw (Ai s m) l = .error er):=Na hlt HVS.out.1 (by rw [<-HGD.out];exact hN);clear hN hb2 HCA;go_wp2_with fail
      refine⟨rfl,HBW2.out,?_⟩;rw [HE.out]
    rw [hN] at hr;have HN:Hid (Cw (Ai s m) (l.take (i+1)) = .ok (vs ++ [u])):=M9 hlt HVS.out.1 (by rw [<-HGD.out];exact hN);have HLN:Hid (vs.length=i):=by
     have:=Ik HVS.out.1;unfold Hid;rw [this];simp;omega
    have HRW:Hid (w2.ownsRow w.heap.size 157 3 (.slice a' len' cap') vs.length (vs.flatMap vlC)):=A9 HVS.out.2 (fun g hg=>HB2.out.block g (HVS.out.2.lt g hg).2);have HSZ:Hid (w.heap.size<=w2.heap.size):=HBW2.out.size;obtain⟨ut,un,us⟩:=u;have hr2:e = .returned (.agg #[.bool ut,.int .i64 un,.string us]):=hr;clear hr hN hb2 HCA;subst hr2
    go_wp2_with (first
     | (at_builtin;refine wpList_append_own_at _ rfl _ _ 192 rfl w.heap.size 157 i0 (.agg #[.bool false,.int .i64 0,.string ⟨#[]⟩]) 3 32 underlying192 HI.out.1 HI.out.2.1 HI.out.2.2.1 HI.out.2.2.2 rfl (by decide) (.slice a' len' cap') vs.length (vs.flatMap vlC) rfl (HRW.out.alloc _) ⟨w2.heap.size,0,none⟩ 1 1 [.bool ut,.int .i64 un,.string us] rfl rfl (G3 _ _ _) (by intro u hu;simp at hu;rcases hu with rfl | rfl | rfl <;> rfl) (by have:=HLN.out;unfold maxLen;omega) (by have:=HLN.out;omega) (by simp;exact Nat.le_succ_of_le HSZ.out) ?_;intro v' w5 hown hgrow hnil hloc)
     | go_in)
    refine⟨?_,by simp [intOf];omega⟩;have hlt9:=fun k hk=>HRW.out.lt k hk;have hsh:∃a len cap,v' = .slice a len cap:=by
     rcases hown.2 with⟨rfl,_⟩ | ⟨g,cap,cur,rfl,_⟩
     . exact⟨_,_,_,rfl⟩
     . exact⟨_,_,_,rfl⟩
    obtain⟨a9,len9,cap9,rfl⟩:=hsh;have hal:Below w2.heap.size w2 (w2.alloc (.cells #[.bool ut,.int .i64 un,.string us] 157)):=br0.alloc lr0 _;refine⟨i+1,a9,len9,cap9,by omega,rfl,by simp,vs ++ [⟨ut,un,us⟩],HN.out,?_,?_⟩
    . unfold Kx;rw [lap,List.flatMap_append];exact hown
    . exact HBW2.out.trans ⟨hgrow.os.trans hal.os,hgrow.tape.trans hal.tape,hgrow.output.trans hal.output,lq0 hal.size hgrow.size,fun k hk=>(hgrow.block k (lle (lle hk HSZ.out) hal.size) (fun e=>by have:=(hlt9 k e.symm).1;omega)).trans (hal.block k (lle hk HSZ.out))⟩
  . have i1:¬(i:Int)<(l.length:Int):=by omega
    obtain⟨vs,hvs,hrow,hbr⟩:=HV.out;have HF:Hid (Xh w (Cw (Ai s m) l) (.returned (.slice a' len' cap')) wr):=by
     refine⟨hbr,?_⟩;rw [List.take_of_length_le (by omega)] at hvs;rw [hvs];exact⟨_,rfl,hrow⟩
    clear hvs hrow hbr HV HC HSL;go_wp2_with fail
    go_ret
    exact HF.out
theorem Kx.lies {B:Nat} {w:World} {g cap:Nat} {n:Nat} {vs:List Vl} (h:Kx B w (.slice (some ⟨g,0,none⟩) n cap) vs) {i:Nat} {u:Vl} (hu:vs[i]? = some u):Fx w g (i * 3) u.t u.n u.s:=by
 have hc:=h.cells (g:=g) rfl;have hlt:=(h.lt g rfl).2;have key:∀(l:List Vl) (i:Nat),l[i]? = some u->(l.flatMap vlC)[i * 3]? = some (.bool u.t)/\(l.flatMap vlC)[i * 3+1]? = some (.int .i64 u.n)/\(l.flatMap vlC)[i * 3+2]? = some (.string u.s):=by
  intro l
  induction l with
  | nil=>intro i h;simp at h
  | cons x l ih =>
   intro i h;cases i with
   | zero =>
    simp only [List.getElem?_cons_zero,Option.some.injEq] at h;subst h;exact⟨rfl,rfl,rfl⟩
   | succ i =>
    have:=ih i (by simpa using h);have e:∀k,((x :: l).flatMap vlC)[k+3]? = (l.flatMap vlC)[k]? := fun k=>rfl;rw [show (i+1) * 3=i * 3+3 by omega];exact⟨(e _).trans this.1,(e (i * 3+1)).trans this.2.1,(e (i * 3+2)).trans this.2.2⟩
 obtain⟨h0,h1,h2⟩:=key vs i hu;have r0:=hc _ _ h0;have r1:=hc _ _ h1;have r2:=hc _ _ h2;rw [Addr.add_lit,Nat.zero_add] at r0 r1 r2;exact⟨hlt,r0,r1,r2⟩
theorem Qp {nm:ByteArray} {vs:List Vl} (h:J2 nm vs.length):Ir nm vs=Ew 3:=by
 have n1:nm = ⟨#[108,101,110,103,116,104]⟩->nm.toList = [108,101,110,103,116,104]:=fun e=>by rw [e,ByteArray.toList_eq]
 have n2:nm = ⟨#[105,110,100,101,120]⟩->nm.toList = [105,110,100,101,120]:=fun e=>by rw [e,ByteArray.toList_eq]
 have n3:nm = ⟨#[115,117,98,115,116,114]⟩->nm.toList = [115,117,98,115,116,114]:=fun e=>by rw [e,ByteArray.toList_eq]
 unfold Ir;split
 . rw [if_neg];intro e;unfold J2 at h;rw [n1 e] at h;rcases h with⟨_,h,_⟩ | ⟨h,_⟩ | ⟨h,_⟩ | ⟨h,_⟩
   . simp at h
   . simp at h
   . simp at h
   . simp at h
 . rw [if_neg];intro e;unfold J2 at h;rw [n2 e] at h;rcases h with⟨h,_⟩ | ⟨_,_,h,_⟩ | ⟨_,h,_⟩ | ⟨_,h,_⟩
   . simp at h
   . simp at h
   . simp at h
   . simp at h
 . rw [if_neg];intro e;unfold J2 at h;rw [n3 e] at h;rcases h with⟨h,_⟩ | ⟨_,h,_⟩ | ⟨_,_,_,h⟩ | ⟨_,_,h⟩
   . simp at h
   . simp at h
   . simp at h
   . simp at h
 . rfl
theorem Ad8 (nm:ByteArray) (vs:List Vl) (v:Value) (B:Nat) (w:World) (hok:∀u ∈ vs,u.ok) (h:Kx B w v vs) (hp:Pow w) (hm:Mx w) :
 Calls prog 142 #[.string nm,v] w fun e w'=>e = .returned (vt (Ir nm vs))/\Below w.heap.size w w':=by
 have hsh:∃a cap,v = .slice a vs.length cap/\(0<vs.length->∃g,a=some ⟨g,0,none⟩):=by
  rcases h.2 with⟨rfl,h0⟩ | ⟨g,cap,cur,rfl,_⟩
  . rw [h0];exact⟨_,_,rfl,fun h=>absurd h (Nat.lt_irrefl _)⟩
  . exact⟨_,_,rfl,fun _=>⟨g,rfl⟩⟩
 obtain⟨a,cap,rfl,hsh⟩:=hsh;rcases which nm vs.length with⟨rfl,hl⟩ | ⟨rfl,hl⟩ | ⟨rfl,hl⟩ | ho
 . obtain⟨g,rfl⟩:=hsh (by omega)
   match vs,hl with
   | [x],_ =>
    obtain⟨z1,a1,a2⟩:=(hok x (by simp)).may;have hx:=h.lies (i:=0) (u:=x) rfl;exact Qq g 0 cap x.t x.n x.s w z1 a1 a2 hp (by simpa using hx) _ rfl (hok x (by simp)).len
 . obtain⟨g,rfl⟩:=hsh (by omega)
   match vs,hl with
   | [x,y],_ =>
    obtain⟨z1,a1,a2⟩:=(hok x (by simp)).may;obtain⟨z2,b1,b2⟩:=(hok y (by simp)).may;have hx:=h.lies (i:=0) (u:=x) rfl;have hy:=h.lies (i:=1) (u:=y) rfl;have zA:=(hok x (by simp)).len;have j1:=Lib.index_ge x.str.data.toList y.str.data.toList;have j2:=Lib.index_le x.str.data.toList y.str.data.toList;have j3:x.str.data.toList.length=x.str.size:=by simp
    exact Sw g 0 cap x.t x.n x.s y.t y.n y.s w z1 a1 a2 z2 b1 b2 hp hm (by simpa using hx) (by simpa using hy) _ _ rfl rfl zA (hok y (by simp)).len _ rfl j1 (by have:x.str.size<=200:=zA;omega)
 . obtain⟨g,rfl⟩:=hsh (by omega)
   match vs,hl with
   | [x,y,z],_ =>
    obtain⟨z1,a1,a2⟩:=(hok x (by simp)).may;obtain⟨z2,b1,b2⟩:=(hok y (by simp)).may;obtain⟨z3,c1,c2⟩:=(hok z (by simp)).may;have hx:=h.lies (i:=0) (u:=x) rfl;have hy:=h.lies (i:=1) (u:=y) rfl;have hz:=h.lies (i:=2) (u:=z) rfl;exact Qr g 0 cap x.t x.n x.s y.t y.n y.s z.t z.n z.s w z1 a1 a2 z2 b1 b2 z3 c1 c2 hp (by simpa using hx) (by simpa using hy) (by simpa using hz) _ rfl (hok x (by simp)).len _ _ _ _ rfl
 . rw [Qp ho];exact Sx nm a vs.length cap w ho
theorem MxB.mx {B:Nat} {w:World} (h:MxB B w) (hB:B<=w.heap.size):Mx w:=by
 obtain⟨h1,m,h2⟩:=h;exact⟨m,lle h1 hB,h2⟩
end Go.Proofs.YtppcohadoilpgaaGreatDoor
