/-
  The machine's text, holds, values, count, field: contracts over that of ask. / The machine's either and op: contracts over that of ask. / The machine's op: what operators make of two values.
-/
import Derived.Test.YtppcohadoilpgaaGreatDoorMMem
import Derived.Deep.RegionWith
import Derived.OwnWalk
namespace Go.Proofs.YtppcohadoilpgaaGreatDoor
open Go.ChangeShapes Go.WideShapes Go.ChangeAt Go.RowKit Go.Joins Go.Maps Go.Proofs.Tryz
set_option maxHeartbeats 4000000
set_option linter.unusedVariables false
set_option maxRecDepth 100000
theorem hid {p:Prop} (h:p):Hid p:=h
theorem Bf {α:Type} (R:Except Int α):(∃er,R = .error er)\/∃v,R = .ok v:=by cases R <;> simp
theorem Bb.ret {α:Type} {w w':World} {R:Except Int α} {K:α->Value} {v:α} (hb:Below w.heap.size w w') (h:R = .ok v):Bb w R K (.returned (K v)) w':=by
 refine⟨hb,?_⟩;rw [h]
theorem Bb.err {α:Type} {w w':World} {R:Except Int α} {K:α->Value} {er:Int} (hb:Below w.heap.size w w') (h:R = .error er):Bb w R K (.panicked [Fb er]) w':=by
 refine⟨hb,?_⟩;rw [h]
theorem G0 {α β:Type} {f:FuncId} {args:Array Value} {w W:World} {R:Except Int α} {K:α->Value} {R0:Except Int β} {K0:β->Value}
 (hc:Calls prog f args W (Bb W R K)) (hb:Below w.heap.size w W) (herr:∀er,R = .error er->R0 = .error er) :
 Calls prog f args W fun e w'=>(∃er,e = .panicked [Fb er]/\Hid (Bb w R0 K0 (.panicked [Fb er]) w'))\/∃v,e = .returned (K v)/\Hid (R = .ok v)/\Hid (Below w.heap.size w w')/\Hid (Below W.heap.size W w'):=by
 refine hc.mono ?_;rintro e w1 ⟨hb1,hr⟩;rcases Bf R with⟨er,hR⟩ | ⟨v,hR⟩
 . rw [hR] at hr;refine .inl ⟨er,hr,Aa hb hb1,?_⟩;rw [herr er hR]
 . rw [hR] at hr;exact .inr ⟨v,hr,hR,Aa hb hb1,hb1⟩
theorem Er.as {m:Nat} (h:Er m) (c:Cx) (O:Own) (w:World) (s:Ms) (j:Nat) (x:Ex) (cs:List Value) (hM:Mc c O w s j) (hx:ExA c.B w m cs x) (hok:okE m x) :
 Calls prog 108 #[.pointer (some ⟨c.r,0,none⟩),.agg cs.toArray] w (Bb w (Ai s m x) vlV):=h c O w s j x cs hM hx hok
theorem Hp {m:Nat} (hX:Er m) (c:Cx) (O:Own) (w:World) (s:Ms) (j:Nat) (x:Ex) (cs:List Value) (hM:Mc c O w s j) (hx:ExA c.B w m cs x) (hok:okE m x) :
 Calls prog 136 #[.pointer (some ⟨c.r,0,none⟩),.agg cs.toArray] w (Bb w (Ai s m x) fun v=> .string v.str):=by
 obtain⟨k,n,t,a,len,cap,rfl⟩:=hx.shape;have HF:Hid (Fit s):=hM.fit;have HP:Hid (D4 c.B w):=hM.lo.pw;have HO:Hid (okE m x):=hok;have HS:Hid (c.B<=w.heap.size):=hM.lo.size;have HC:Hid (∀W,Below w.heap.size w W->_):=fun W hW=>G0 (R0:=Ai s m x) (K0:=fun v=>Value.string v.str) (hX.as c O W s j x _ (hM.below hW) (hx.below (hW.mono hM.lo.size)) hok) hW (fun _ h=>h);clear hX hM hx hok;go_enter func136,ntmps136
 go_wp2_with fail
 refine Calls.mono (HC.out _ (by go_grown)) ?_;rintro e w1 (⟨er,rfl,HE⟩ | ⟨v,rfl,HR,HB,-⟩)
 . go_wp2_with fail
   exact⟨rfl,HE.out⟩
 have HV:Hid v.ok:=B4 HF.out HO.out HR.out;have HP1:Hid (Pow w1):=(HP.out.low (HB.out.mono HS.out).block).elim fun _ h=>h.2.2;obtain⟨vt,vn,vs⟩:=v;unfold vlV;go_wp2_with fail
 refine Calls.mono (Gu vt vn vs w1 HV.out.may.2.1 HV.out.may.2.2 HP1.out) ?_;rintro e w2 ⟨rfl,hb2⟩;have HB2:Hid (Below w.heap.size w w2):=Aa HB.out hb2;clear hb2;go_wp2_with fail
 go_ret
 refine⟨HB2.out,?_⟩;rw [HR.out];rfl
theorem Dq {m:Nat} (hX:Er m) (c:Cx) (O:Own) (w:World) (s:Ms) (j:Nat) (x:Ex) (cs:List Value) (hM:Mc c O w s j) (hx:ExA c.B w m cs x) (hok:okE m x) :
 Calls prog 79 #[.pointer (some ⟨c.r,0,none⟩),.agg cs.toArray] w (Bb w (Ai s m x) fun v=> .bool v.so):=by
 obtain⟨k,n,t,a,len,cap,rfl⟩:=hx.shape;have HF:Hid (Fit s):=hM.fit;have HO:Hid (okE m x):=hok;have HC:Hid (∀W,Below w.heap.size w W->_):=fun W hW=>G0 (R0:=Ai s m x) (K0:=fun v=>Value.bool v.so) (hX.as c O W s j x _ (hM.below hW) (hx.below (hW.mono hM.lo.size)) hok) hW (fun _ h=>h);clear hX hM hx hok;go_enter func79,ntmps79
 go_wp2_with fail
 refine Calls.mono (HC.out _ (by go_grown)) ?_;rintro e w1 (⟨er,rfl,HE⟩ | ⟨v,rfl,HR,HB,-⟩)
 . go_wp2_with fail
   exact⟨rfl,HE.out⟩
 have HV:Hid v.ok:=B4 HF.out HO.out HR.out;obtain⟨vt,vn,vs⟩:=v;unfold vlV;go_wp2_with fail
 refine Calls.mono (Aga vt vn vs w1 (lq0 HV.out.may.1 (by unfold maxLen;decide))) ?_;rintro e w2 ⟨rfl,hb2⟩;have HB2:Hid (Below w.heap.size w w2):=Aa HB.out hb2;clear hb2;go_wp2_with fail
 go_ret
 refine⟨HB2.out,?_⟩;rw [HR.out];rfl
theorem Aa1 (c:Cx) (O:Own) (w:World) (s:Ms) (j:Nat) (t:ByteArray) (hM:Mc c O w s j) :
 Calls prog 144 #[.pointer (some ⟨c.r,0,none⟩),.string t] w fun e w'=>e = .returned (.int .i64 (if t = ⟨#[78,82]⟩ then (s.recs:Int) else (s.flds.length:Int)))/\Below w.heap.size w w':=by
 obtain⟨bv,bl,fl,ol,HC,-,-,HF,-⟩:=hM.open;have c6:=HC.c6;have c7:=HC.c7;obtain⟨a,cap,rfl⟩:∃a cap,fl = .slice a s.flds.length cap:=by
  rcases HF.1.2 with⟨rfl,h⟩ | ⟨g,cap,cur,rfl,_⟩
  . rw [h];exact⟨_,_,rfl⟩
  . exact⟨_,_,rfl⟩
 by_cases h:t = ⟨#[78,82]⟩
 . have h2:(t.toList == [78,82])=true:=by rw [h,ByteArray.toList_eq];rfl
   rw [if_pos h];clear HC HF hM;go_enter func144,ntmps144
   go_wp2_with fail
   go_ret
   exact⟨rfl,by go_grown⟩
 . have h2:(t.toList == [78,82])=false:=by
    cases e:t.toList == [78,82] with
    | false=>rfl
    | true=>exact absurd (Eo (by simpa using e)) h
   rw [if_neg h];clear HC HF hM;go_enter func144,ntmps144
   go_wp2_with fail
   go_ret
   exact⟨rfl,by go_grown⟩
theorem Ef.at {O:Own} {ro:Ro} {w:World} {v:Value} {l:List ByteArray} (h:Ef O ro w v l):∃a cap,v = .slice a l.length cap/\(0<l.length->∃g,a=some ⟨g,0,none⟩/\∀i x,l[i]? = some x->w.cell? ⟨g,i,none⟩=some (.string x)):=by
 rcases h.1.2 with⟨rfl,h0⟩ | ⟨g,cap,cur,rfl,h0⟩
 . rw [h0];exact⟨_,_,rfl,fun h=>absurd h (Nat.lt_irrefl _)⟩
 . refine⟨_,_,rfl,fun _=>⟨g,rfl,fun i x hx=>?_⟩⟩;have:=h.1.cells (g:=g) rfl i (.string x) (by simp [hx])
   rwa [Addr.add_lit,Nat.zero_add] at this
theorem Abc (c:Cx) (O:Own) (w:World) (s:Ms) (j:Nat) (v:Vl) (hM:Mc c O w s j) (hv:v.ok) :
 Calls prog 135 #[.pointer (some ⟨c.r,0,none⟩),vlV v] w (Bb w (Cu s v) Value.string):=by
 obtain⟨vt,vn,vs⟩:=v;have z1:vs.size<=200:=hv.may.1;have HM:Hid (Mc c O w s j):=hM;have hrw:c.r<w.heap.size:=hM.lt;unfold vlV
 by_cases h: -1099511627776<=Av vt vn vs/\Av vt vn vs<=1099511627776
 . obtain⟨n,hn⟩:∃n,n=Av vt vn vs:=⟨_,rfl⟩;have HC:Hid (∀W:World,_):=fun W=>Fg vt vn vs W z1 h.1 h.2;rw [<-hn] at h HC;have HE0:Hid (Cu s ⟨vt,vn,vs⟩=if n<0 then .error 4 else if n=0 then .ok s.whole else .ok (s.flds.getD (n.toNat - 1) ⟨#[]⟩)):=by
    unfold Hid Cu Vl.num;simp only;rw [<-hn,if_pos h]
   clear hn hM hv;obtain⟨n0,n1⟩:=h
   by_cases hneg:n<0
   . have HE:Hid (Cu s ⟨vt,vn,vs⟩ = .error 4):=by rw [HE0.out,if_pos hneg];rfl
     go_enter func135,ntmps135
     go_wp2_with fail
     refine Calls.mono (HC.out _) ?_;rintro e w1 ⟨rfl,hb1⟩;have HB1:Hid (Below w.heap.size w w1):=Aa (by go_grown) hb1;clear hb1 HC;go_wp2_with fail
     refine (C1 4 _).mono ?_;rintro e w2 ⟨rfl,hw2⟩;rw [hw2];clear hw2 w2;go_wp2_with fail
     exact⟨rfl,Bb.err HB1.out HE.out⟩
   . by_cases h0:n=0
     . subst h0;have HE:Hid (Cu s ⟨vt,vn,vs⟩ = .ok s.whole):=by rw [HE0.out];rfl
       go_enter func135,ntmps135
       go_wp2_with fail
       refine Calls.mono (HC.out _) ?_;rintro e w1 ⟨rfl,hb1⟩;have HB1:Hid (Below w.heap.size w w1):=Aa (by go_grown) hb1;obtain⟨bv,bl,fl,ol,HCl,-,-,-,-⟩:=(HM.out.below HB1.out).open;have c5:=HCl.c5;clear hb1 HC HCl HM;go_wp2_with fail
       refine (Do 4 _).mono ?_;rintro e w2 ⟨rfl,hw2⟩;rw [hw2];clear hw2 w2;go_wp2_with fail
       go_ret
       exact Bb.ret HB1.out HE.out
     . have h1:¬(n=0):=h0;have HE1:Hid (Cu s ⟨vt,vn,vs⟩ = .ok (s.flds.getD (n.toNat - 1) ⟨#[]⟩)):=by rw [HE0.out,if_neg hneg,if_neg h0];rfl
       have e0:(n == 0)=false:=by simpa using h0
       by_cases hbig:(s.flds.length:Int)<n
       . have HE:Hid (Cu s ⟨vt,vn,vs⟩ = .ok ⟨#[]⟩):=by
          rw [HE1.out,List.getD_eq_getElem?_getD,List.getElem?_eq_none (by omega)];rfl
         go_enter func135,ntmps135
         go_wp2_with fail
         refine Calls.mono (HC.out _) ?_;rintro e w1 ⟨rfl,hb1⟩;have HB1:Hid (Below w.heap.size w w1):=Aa (by go_grown) hb1;obtain⟨bv,bl,fl,ol,HCl,-,-,HF,-⟩:=(HM.out.below HB1.out).open;have c6:=HCl.c6;obtain⟨a,cap,rfl,-⟩:=HF.at;clear hb1 HC HCl HM HF;go_wp2_with fail
         rw [decide_eq_false (show ¬n<0 by omega)];refine (Do 4 _).mono ?_;rintro e w2 ⟨rfl,hw2⟩;rw [hw2];clear hw2 w2;go_wp2_with fail
         go_ret
         exact Bb.ret HB1.out HE.out
       . obtain⟨i,hi⟩:∃i:Nat,i=n.toNat - 1:=⟨_,rfl⟩;have hil:i<s.flds.length:=by omega
         have hin:n - 1=(i:Int):=by omega
         have HE:Hid (Cu s ⟨vt,vn,vs⟩ = .ok s.flds[i]):=by
          rw [HE1.out,<-hi,List.getD_eq_getElem?_getD,gee hil];rfl
         have i0:(0:Int)<=(i:Int):=by omega
         have i1:(i:Int)<(s.flds.length:Int):=by omega
         obtain⟨X,hX⟩:∃X,X=s.flds[i]:=⟨_,rfl⟩;rw [<-hX] at HE;have HX:Hid (s.flds[i]? = some X):=by rw [hX];exact gee hil
         clear hX;go_enter func135,ntmps135
         go_wp2_with fail
         refine Calls.mono (HC.out _) ?_;rintro e w1 ⟨rfl,hb1⟩;have HB1:Hid (Below w.heap.size w w1):=Aa (by go_grown) hb1;obtain⟨bv,bl,fl,ol,HCl,-,-,HF,-⟩:=(HM.out.below HB1.out).open;have c6:=HCl.c6;obtain⟨a,cap,rfl,hcs⟩:=HF.at;obtain⟨g,rfl,hcs2⟩:=hcs (by omega);have hcx:=hcs2 i X HX.out;rw [hi] at hcx;clear hb1 HC HCl HM HF hcs hcs2;go_wp2_with fail
         rw [decide_eq_false (show ¬n<0 by omega)];refine (Do 4 _).mono ?_;rintro e w2 ⟨rfl,hw2⟩;rw [hw2];clear hw2 w2;go_wp2_with fail
         go_ret
         exact Bb.ret HB1.out HE.out
 . have HE:Hid (Cu s ⟨vt,vn,vs⟩ = .error 4):=by
    unfold Hid Cu Vl.num;simp only;rw [if_neg h]
   have HC:Hid (∀W:World,_):=fun W=>Gn vt vn vs W z1 (by omega);clear hM hv h;go_enter func135,ntmps135
   go_wp2_with fail
   refine Calls.mono (HC.out _) ?_;rintro e w1 ⟨rfl,hb1⟩;have HB1:Hid (Below w.heap.size w w1):=Aa (by go_grown) hb1;clear hb1 HC;go_wp2_with fail
   refine (C1 4 _).mono ?_;rintro e w2 ⟨rfl,hw2⟩;rw [hw2];clear hw2 w2;go_wp2_with fail
   exact⟨rfl,Bb.err HB1.out HE.out⟩
theorem V3 {m:Nat} (hX:Er m) (c:Cx) (O:Own) (w:World) (s:Ms) (j:Nat) (x y z:Ex) (cs ds es:List Value) (hM:Mc c O w s j) (hx:ExA c.B w m cs x) (hy:ExA c.B w m ds y) (hz:ExA c.B w m es z) (ox:okE m x) (oy:okE m y) (oz:okE m z) :
 Calls prog 141 #[.pointer (some ⟨c.r,0,none⟩),.agg cs.toArray,.agg ds.toArray,.agg es.toArray] w (Bb w ((Ai s m x).bind fun v=>if v.so then Ai s m y else Ai s m z) vlV):=by
 obtain⟨k,n,t,a,len,cap,rfl⟩:=hx.shape;obtain⟨k1,n1,t1,a1,len1,cap1,rfl⟩:=hy.shape;obtain⟨k2,n2,t2,a2,len2,cap2,rfl⟩:=hz.shape;obtain⟨R,hR⟩:∃R,R=(Ai s m x).bind fun v=>if v.so then Ai s m y else Ai s m z:=⟨_,rfl⟩;rw [<-hR];have HR0:Hid (R=_):=hR;have HC:Hid (∀W,Below w.heap.size w W->_):=fun W hW=>G0 (R0:=R) (K0:=vlV) (Dq hX c O W s j x _ (hM.below hW) (hx.below (hW.mono hM.lo.size)) ox) hW (fun er h=>by rw [hR,h];rfl);have HY:Hid (∀W,Below w.heap.size w W->_):=fun W hW=>hX.as c O W s j y _ (hM.below hW) (hy.below (hW.mono hM.lo.size)) oy;have HZ:Hid (∀W,Below w.heap.size w W->_):=fun W hW=>hX.as c O W s j z _ (hM.below hW) (hz.below (hW.mono hM.lo.size)) oz;clear hX hM hx hy hz ox oy oz hR;go_enter func141,ntmps141
 go_wp2_with fail
 refine Calls.mono (HC.out _ (by go_grown)) ?_;rintro e w1 (⟨er,rfl,HE⟩ | ⟨v,rfl,HR,HB,HB2⟩)
 . go_wp2_with fail
   exact⟨rfl,HE.out⟩
 obtain⟨hc,hf⟩:=Ar HB2.out;have hz:w.heap.size+1+1+1<w1.heap.size:=by have:=HB2.out.size;simp at this;omega
 cases hs:v.so with
 | true =>
  have HR1:Hid (R=Ai s m y):=by unfold Hid;rw [HR0.out,HR.out];show (if v.so then _ else _)=_;rw [hs];rfl
  clear HC HR HR0;go_wp2_with fail
  refine Calls.mono (HY.out w1 HB.out) ?_;rintro e w2 ⟨hb2,hr⟩;have HB3:Hid (Below w.heap.size w w2):=Aa HB.out hb2;rcases Bf (Ai s m y) with⟨er,hN⟩ | ⟨u,hN⟩
  . rw [hN] at hr;subst hr;rw [hN] at HR1;clear hN hb2;go_wp2_with fail
    exact⟨rfl,Bb.err HB3.out HR1.out⟩
  . rw [hN] at hr;subst hr;rw [hN] at HR1;obtain⟨hc2,hf2⟩:=Ar hb2;obtain⟨vt,vn,vs⟩:=u;clear hN hb2 HY HZ;unfold vlV;go_wp2
    exact bodyPost_ret (v:= .agg #[.bool vt,.int .i64 vn,.string vs]) (by simp [results,results141,go_sem,hc,hc2,hz]) rfl (Bb.ret (K:=vlV) (v:=⟨vt,vn,vs⟩) (A1 HB3.out (by omega) _ _ _) HR1.out)
 | false =>
  have HR1:Hid (R=Ai s m z):=by unfold Hid;rw [HR0.out,HR.out];show (if v.so then _ else _)=_;rw [hs];rfl
  clear HC HR HR0;go_wp2_with fail
  refine Calls.mono (HZ.out w1 HB.out) ?_;rintro e w2 ⟨hb2,hr⟩;have HB3:Hid (Below w.heap.size w w2):=Aa HB.out hb2;rcases Bf (Ai s m z) with⟨er,hN⟩ | ⟨u,hN⟩
  . rw [hN] at hr;subst hr;rw [hN] at HR1;clear hN hb2;go_wp2_with fail
    exact⟨rfl,Bb.err HB3.out HR1.out⟩
  . rw [hN] at hr;subst hr;rw [hN] at HR1;obtain⟨hc2,hf2⟩:=Ar hb2;obtain⟨vt,vn,vs⟩:=u;clear hN hb2 HY HZ;unfold vlV;go_wp2
    exact bodyPost_ret (v:= .agg #[.bool vt,.int .i64 vn,.string vs]) (by simp [results,results141,go_sem,hc,hc2,hz]) rfl (Bb.ret (K:=vlV) (v:=⟨vt,vn,vs⟩) (A1 HB3.out (by omega) _ _ _) HR1.out)
theorem Abr {a b:Except Int Vl}:opM ⟨#[38,38]⟩ a b=a.bind fun x=>if x.so then b.bind fun y=> .ok (vB y.so) else .ok (vB false):=by unfold opM;rw [if_pos rfl]
theorem Ae5 {a b:Except Int Vl}:opM ⟨#[124,124]⟩ a b=a.bind fun x=>if x.so then .ok (vB true) else b.bind fun y=> .ok (vB y.so):=by unfold opM;rw [if_neg (by decide),if_pos rfl]
theorem Y0 {op:ByteArray} {a b:Except Int Vl} (h1:¬op = ⟨#[38,38]⟩) (h2:¬op = ⟨#[124,124]⟩):opM op a b=a.bind fun x=>b.bind fun y=>Di (D8 op x.t x.n x.s y.t y.n y.s):=by unfold opM;rw [if_neg h1,if_neg h2]
theorem G2 {op:ByteArray} {l:List UInt8} (h:¬op = ⟨l.toArray⟩):(op.toList == l)=false:=by
 cases e:op.toList == l with
 | false=>rfl
 | true=>exact absurd (Eo (by simpa using e)) h
theorem Ae6 {m:Nat} (hX:Er m) (c:Cx) (O:Own) (w:World) (s:Ms) (j:Nat) (x y:Ex) (cs ds:List Value) (hM:Mc c O w s j) (hx:ExA c.B w m cs x) (hy:ExA c.B w m ds y) (ox:okE m x) (oy:okE m y) :
 Calls prog 137 #[.pointer (some ⟨c.r,0,none⟩),.string ⟨#[38,38]⟩,.agg cs.toArray,.agg ds.toArray] w (Bb w (opM ⟨#[38,38]⟩ (Ai s m x) (Ai s m y)) vlV):=by
 obtain⟨k,n,t,a,len,cap,rfl⟩:=hx.shape;obtain⟨k1,n1,t1,a1,len1,cap1,rfl⟩:=hy.shape;obtain⟨R,hR⟩:∃R,R=opM ⟨#[38,38]⟩ (Ai s m x) (Ai s m y):=⟨_,rfl⟩;rw [<-hR];rw [Abr] at hR;have HR0:Hid (R=_):=hR;have HC:Hid (∀W,Below w.heap.size w W->_):=fun W hW=>G0 (R0:=R) (K0:=vlV) (Dq hX c O W s j x _ (hM.below hW) (hx.below (hW.mono hM.lo.size)) ox) hW (fun er h=>by rw [hR,h];rfl);have HY:Hid (∀W,Below w.heap.size w W->_):=fun W hW=>Dq hX c O W s j y _ (hM.below hW) (hy.below (hW.mono hM.lo.size)) oy;clear hX hM hx hy ox oy hR;go_enter func137,ntmps137
 go_wp2_with fail
 refine Calls.mono (HC.out _ (by go_grown)) ?_;rintro e w1 (⟨er,rfl,HE⟩ | ⟨v,rfl,HR,HB,HB2⟩)
 . go_wp2_with fail
   exact⟨rfl,HE.out⟩
 obtain⟨hc,hf⟩:=Ar HB2.out;have hz:w.heap.size+1+1<w1.heap.size:=by have:=HB2.out.size;simp at this;omega
 cases hs:v.so with
 | true =>
  have HR1:Hid (R=(Ai s m y).bind fun y=> .ok (vB y.so)):=by unfold Hid;rw [HR0.out,HR.out];show (if v.so then _ else _)=_;rw [hs];rfl
  clear HC HR HR0;go_wp2_with fail
  refine Calls.mono (HY.out w1 HB.out) ?_;rintro e w2 ⟨hb2,hr⟩;have HB3:Hid (Below w.heap.size w w2):=Aa HB.out hb2;rcases Bf (Ai s m y) with⟨er,hN⟩ | ⟨u,hN⟩
  . rw [hN] at hr;subst hr;rw [hN] at HR1;clear hN hb2;go_wp2_with fail
    exact⟨rfl,Bb.err HB3.out HR1.out⟩
  rw [hN] at hr HR1;have hr2:e=Ending.returned (Value.bool u.so):=hr;clear hr;obtain⟨hc2,hf2⟩:=Ar hb2;have hz2:w.heap.size+1+1<w2.heap.size:=lle hz hb2.size;obtain⟨B2,hB2⟩:∃B2,B2=u.so:=⟨_,rfl⟩;have HR2:Hid (R = .ok (vB B2)):=by rw [hB2];exact HR1.out
  rw [<-hB2] at hr2;subst hr2;clear hN hb2 HY hB2 HR1;go_wp2_with fail
  refine Calls.mono (F5 B2 w2) ?_;rintro e w9 ⟨rfl,hb9⟩;have HB9:Hid (Below w.heap.size w w9):=Aa HB3.out hb9;obtain⟨hc9,hf9⟩:=Ar hb9;unfold vlV vB vN;clear hb9;go_wp2
  exact bodyPost_ret (v:= .agg #[.bool false,.int .i64 (b2i B2),.string ⟨#[]⟩]) (by simp [results,results137,go_sem,hc,hc2,hz2,hc9,hz]) rfl (Bb.ret (K:=vlV) (v:=vB B2) (A1 HB9.out (by omega) _ _ _) HR2.out)
 | false =>
  have HR1:Hid (R = .ok (vB false)):=by unfold Hid;rw [HR0.out,HR.out];show (if v.so then _ else _)=_;rw [hs];rfl
  clear HC HR HR0 HY;go_wp2_with fail
  refine Calls.mono (F5 false w1) ?_;rintro e w9 ⟨rfl,hb9⟩;have HB9:Hid (Below w.heap.size w w9):=Aa HB.out hb9;obtain⟨hc9,hf9⟩:=Ar hb9;unfold vlV vB vN;clear hb9;go_wp2
  exact bodyPost_ret (v:= .agg #[.bool false,.int .i64 (b2i false),.string ⟨#[]⟩]) (by simp [results,results137,go_sem,hc,hc9,hz]) rfl (Bb.ret (K:=vlV) (v:=vB false) (A1 HB9.out (by omega) _ _ _) HR1.out)
theorem Ahh {m:Nat} (hX:Er m) (c:Cx) (O:Own) (w:World) (s:Ms) (j:Nat) (x y:Ex) (cs ds:List Value) (hM:Mc c O w s j) (hx:ExA c.B w m cs x) (hy:ExA c.B w m ds y) (ox:okE m x) (oy:okE m y) :
 Calls prog 137 #[.pointer (some ⟨c.r,0,none⟩),.string ⟨#[124,124]⟩,.agg cs.toArray,.agg ds.toArray] w (Bb w (opM ⟨#[124,124]⟩ (Ai s m x) (Ai s m y)) vlV):=by
 obtain⟨k,n,t,a,len,cap,rfl⟩:=hx.shape;obtain⟨k1,n1,t1,a1,len1,cap1,rfl⟩:=hy.shape;obtain⟨R,hR⟩:∃R,R=opM ⟨#[124,124]⟩ (Ai s m x) (Ai s m y):=⟨_,rfl⟩;rw [<-hR];rw [Ae5] at hR;have HR0:Hid (R=_):=hR;have HC:Hid (∀W,Below w.heap.size w W->_):=fun W hW=>G0 (R0:=R) (K0:=vlV) (Dq hX c O W s j x _ (hM.below hW) (hx.below (hW.mono hM.lo.size)) ox) hW (fun er h=>by rw [hR,h];rfl);have HY:Hid (∀W,Below w.heap.size w W->_):=fun W hW=>Dq hX c O W s j y _ (hM.below hW) (hy.below (hW.mono hM.lo.size)) oy;clear hX hM hx hy ox oy hR;go_enter func137,ntmps137
 go_wp2_with fail
 refine Calls.mono (HC.out _ (by go_grown)) ?_;rintro e w1 (⟨er,rfl,HE⟩ | ⟨v,rfl,HR,HB,HB2⟩)
 . go_wp2_with fail
   exact⟨rfl,HE.out⟩
 obtain⟨hc,hf⟩:=Ar HB2.out;have hz:w.heap.size+1+1<w1.heap.size:=by have:=HB2.out.size;simp at this;omega
 cases hs:v.so with
 | true =>
  have HR1:Hid (R = .ok (vB true)):=by unfold Hid;rw [HR0.out,HR.out];show (if v.so then _ else _)=_;rw [hs];rfl
  clear HC HR HR0 HY;go_wp2_with fail
  refine Calls.mono (F5 true w1) ?_;rintro e w9 ⟨rfl,hb9⟩;have HB9:Hid (Below w.heap.size w w9):=Aa HB.out hb9;obtain⟨hc9,hf9⟩:=Ar hb9;unfold vlV vB vN;clear hb9;go_wp2
  exact bodyPost_ret (v:= .agg #[.bool false,.int .i64 (b2i true),.string ⟨#[]⟩]) (by simp [results,results137,go_sem,hc,hc9,hz]) rfl (Bb.ret (K:=vlV) (v:=vB true) (A1 HB9.out (by omega) _ _ _) HR1.out)
 | false =>
  have HR1:Hid (R=(Ai s m y).bind fun y=> .ok (vB y.so)):=by unfold Hid;rw [HR0.out,HR.out];show (if v.so then _ else _)=_;rw [hs];rfl
  clear HC HR HR0;go_wp2_with fail
  refine Calls.mono (HY.out w1 HB.out) ?_;rintro e w2 ⟨hb2,hr⟩;have HB3:Hid (Below w.heap.size w w2):=Aa HB.out hb2;rcases Bf (Ai s m y) with⟨er,hN⟩ | ⟨u,hN⟩
  . rw [hN] at hr;subst hr;rw [hN] at HR1;clear hN hb2;go_wp2_with fail
    exact⟨rfl,Bb.err HB3.out HR1.out⟩
  rw [hN] at hr HR1;have hr2:e=Ending.returned (Value.bool u.so):=hr;clear hr;obtain⟨hc2,hf2⟩:=Ar hb2;have hz2:w.heap.size+1+1<w2.heap.size:=lle hz hb2.size;obtain⟨B2,hB2⟩:∃B2,B2=u.so:=⟨_,rfl⟩;have HR2:Hid (R = .ok (vB B2)):=by rw [hB2];exact HR1.out
  rw [<-hB2] at hr2;subst hr2;clear hN hb2 HY hB2 HR1;go_wp2_with fail
  refine Calls.mono (F5 B2 w2) ?_;rintro e w9 ⟨rfl,hb9⟩;have HB9:Hid (Below w.heap.size w w9):=Aa HB3.out hb9;obtain⟨hc9,hf9⟩:=Ar hb9;unfold vlV vB vN;clear hb9;go_wp2
  exact bodyPost_ret (v:= .agg #[.bool false,.int .i64 (b2i B2),.string ⟨#[]⟩]) (by simp [results,results137,go_sem,hc,hc2,hz2,hc9,hz]) rfl (Bb.ret (K:=vlV) (v:=vB B2) (A1 HB9.out (by omega) _ _ _) HR2.out)
theorem Ad (w:World):Below w.heap.size w w.drew:=⟨rfl,rfl,rfl,Nat.le_refl _,fun _ _=>rfl⟩
theorem Abu {m:Nat} (hX:Er m) (c:Cx) (O:Own) (w:World) (s:Ms) (j:Nat) (op:ByteArray) (x y:Ex) (cs ds:List Value) (hM:Mc c O w s j) (hx:ExA c.B w m cs x) (hy:ExA c.B w m ds y) (ox:okE m x) (oy:okE m y) (h1:¬op = ⟨#[38,38]⟩) (h2:¬op = ⟨#[124,124]⟩) :
 Calls prog 137 #[.pointer (some ⟨c.r,0,none⟩),.string op,.agg cs.toArray,.agg ds.toArray] w (Bb w (opM op (Ai s m x) (Ai s m y)) vlV):=by
 obtain⟨k,n,t,a,len,cap,rfl⟩:=hx.shape;obtain⟨k1,n1,t1,a1,len1,cap1,rfl⟩:=hy.shape;obtain⟨R,hR⟩:∃R,R=opM op (Ai s m x) (Ai s m y):=⟨_,rfl⟩;rw [<-hR];rw [Y0 h1 h2] at hR;have HR0:Hid (R=_):=hR;have HF:Hid (Fit s):=hM.fit;have HO:Hid (okE m x/\okE m y):=⟨ox,oy⟩;have HP:Hid (D4 c.B w):=hM.lo.pw;have HS:Hid (c.B<=w.heap.size):=hM.lo.size;have o1:=G2 h1;have o2:=G2 h2;have HC:Hid (∀W,Below w.heap.size w W->_):=fun W hW=>G0 (R0:=R) (K0:=vlV) (hX.as c O W s j x _ (hM.below hW) (hx.below (hW.mono hM.lo.size)) ox) hW (fun er h=>by rw [hR,h];rfl);have HY:Hid (∀W,Below w.heap.size w W->_):=fun W hW=>hX.as c O W s j y _ (hM.below hW) (hy.below (hW.mono hM.lo.size)) oy;clear hX hM hx hy ox oy hR h1 h2;go_enter func137,ntmps137
 go_wp2_with fail
 refine Calls.mono (HC.out _ (by go_grown)) ?_;rintro e w1 (⟨er,rfl,HE⟩ | ⟨v,rfl,HR,HB,HB2⟩)
 . go_wp2_with fail
   exact⟨rfl,HE.out⟩
 obtain⟨hc,hf⟩:=Ar HB2.out;have hz:w.heap.size+1+1<w1.heap.size:=by have:=HB2.out.size;simp at this;omega
 have HV:Hid v.ok:=B4 HF.out HO.out.1 HR.out;have HR1:Hid (R=(Ai s m y).bind fun y=>Di (D8 op v.t v.n v.s y.t y.n y.s)):=by unfold Hid;rw [HR0.out,HR.out];rfl
 obtain⟨vt,vn,vs⟩:=v;unfold vlV;clear HC HR HR0;have g0:w1.cell? ⟨w.heap.size+1,0,none⟩=some (.int .i64 k1):=by rw [hc _ _ (by simp)];simp [go_sem]
 have g1:w1.cell? ⟨w.heap.size+1,1,none⟩=some (.int .i64 n1):=by rw [hc _ _ (by simp)];simp [go_sem]
 have g2:w1.cell? ⟨w.heap.size+1,2,none⟩=some (.string t1):=by rw [hc _ _ (by simp)];simp [go_sem]
 have g3:w1.cell? ⟨w.heap.size+1,3,none⟩=some (.slice a1 len1 cap1):=by rw [hc _ _ (by simp)];simp [go_sem]
 have HX1:Hid (∀i,i<3->w1.cell? ⟨w.heap.size+1+1,i,none⟩=([.bool false,.int .i64 0,.string ⟨#[]⟩]:List Value)[i]? /\ w1.frozen? ⟨w.heap.size+1+1,i,none⟩=false):=fun i hi=>by
  rw [hc _ _ (by simp),hf _ _ (by simp)]
  match i,hi with
  | 0,_=>exact⟨by simp [go_sem],by simp [go_sem]⟩
  | 1,_=>exact⟨by simp [go_sem],by simp [go_sem]⟩
  | 2,_=>exact⟨by simp [go_sem],by simp [go_sem]⟩
 obtain⟨W2,hW2⟩:∃W2,W2=w1.alloc (.cells #[.bool vt,.int .i64 vn,.string vs] 157):=⟨_,rfl⟩;have hz9:w.heap.size+1<w1.heap.size:=by omega
 have hn9:¬w.heap.size+1=w1.heap.size:=by omega
 have l0:W2.cell? ⟨w.heap.size+1,0,none⟩=some (.int .i64 k1):=by rw [hW2,World.cell?_alloc_past _ _ _ hz9];exact g0
 have l1:W2.cell? ⟨w.heap.size+1,1,none⟩=some (.int .i64 n1):=by rw [hW2,World.cell?_alloc_past _ _ _ hz9];exact g1
 have l2:W2.cell? ⟨w.heap.size+1,2,none⟩=some (.string t1):=by rw [hW2,World.cell?_alloc_past _ _ _ hz9];exact g2
 have l3:W2.cell? ⟨w.heap.size+1,3,none⟩=some (.slice a1 len1 cap1):=by rw [hW2,World.cell?_alloc_past _ _ _ hz9];exact g3
 have m0:W2.cell? ⟨w1.heap.size,0,none⟩=some (.bool vt):=by rw [hW2];simp [go_sem]
 have m1:W2.cell? ⟨w1.heap.size,1,none⟩=some (.int .i64 vn):=by rw [hW2];simp [go_sem]
 have m2:W2.cell? ⟨w1.heap.size,2,none⟩=some (.string vs):=by rw [hW2];simp [go_sem]
 have HX2:Hid (∀i,i<3->W2.cell? ⟨w.heap.size+1+1,i,none⟩=([.bool false,.int .i64 0,.string ⟨#[]⟩]:List Value)[i]? /\ W2.frozen? ⟨w.heap.size+1+1,i,none⟩=false):=fun i hi=>by
  have hb:Below w1.heap.size w1 W2:=by rw [hW2];exact br0.alloc lr0 _
  rw [(Ar hb).1 _ _ hz,(Ar hb).2 _ _ hz];exact HX1.out i hi
 have HWB:Hid (Below w.heap.size w W2.drew):=by rw [hW2];exact Aa HB.out (Aa (br0.alloc lr0 _) (Ad _))
 have hws:W2.heap.size=w1.heap.size+1:=by rw [hW2];simp
 have HWW:Hid (W2=_):=hW2;have HA:=hid (HY.out _ HWB.out);clear HY hW2;go_wp2_with fail
 rw [<-HWW.out];clear HWW
 go_region_with (first
  | (with_reducible refine Calls.mono HA.out ?_
     rintro e w2 ⟨hb2,hr⟩;have HB3:Hid (Below w.heap.size w w2):=Aa HWB.out hb2;rcases Bf (Ai s m y) with⟨er,hN⟩ | ⟨u,hN⟩
     . rw [hN] at hr HR1;subst hr;clear hN hb2;go_wp2_with fail
       exact⟨rfl,Bb.err HB3.out HR1.out⟩
     have HU:Hid u.ok:=B4 HF.out HO.out.2 hN;rw [hN] at hr HR1;obtain⟨ut,un,us⟩:=u;have hr2:e = .returned (.agg #[.bool ut,.int .i64 un,.string us]):=hr;clear hr;subst hr2;have HR2:Hid (R=Di (D8 op vt vn vs ut un us)):=HR1.out;obtain⟨hc2,hf2⟩:=Ar hb2;have hz0:W2.heap.size<=w2.heap.size:=hb2.size;have hz1:w1.heap.size<w2.heap.size:=by omega
     have p0:w2.cell? ⟨w1.heap.size,0,none⟩=some (.bool vt):=(hc2 _ _ (by simp [hws])).trans m0;have p1:w2.cell? ⟨w1.heap.size,1,none⟩=some (.int .i64 vn):=(hc2 _ _ (by simp [hws])).trans m1;have p2:w2.cell? ⟨w1.heap.size,2,none⟩=some (.string vs):=(hc2 _ _ (by simp [hws])).trans m2;have hz2:w.heap.size+1+1<w2.heap.size:=by omega
     have HP2:Hid (Pow w2):=(HP.out.low (HB3.out.mono HS.out).block).elim fun _ h=>h.2.2;have HOP:=hid (Ahg op vt vn vs ut un us w2 HV.out.may.1 HU.out.may.1 HV.out.may.2.1 HV.out.may.2.2 HU.out.may.2.1 HU.out.may.2.2 HP2.out);clear hN hb2 HR1 HP2)
  | (with_reducible refine Calls.mono HOP.out ?_
     rintro e w3 ⟨he,hb3⟩;obtain⟨hc3,hf3⟩:=Ar hb3;have hz3:w.heap.size+1+1<w3.heap.size:=lle hz2 hb3.size;have HB4:Hid (Below w.heap.size w w3):=Aa HB3.out hb3;obtain⟨⟨r1,r2,r3,r4⟩,hq⟩:∃q,q=D8 op vt vn vs ut un us:=⟨_,rfl⟩;rw [<-hq] at he HR2;unfold Go.Proofs.YtppcohadoilpgaaGreatDoor.vt at he;simp only at he;subst he;have HSU:=hid (Uj r1 r2 r3 r4 w3);clear hq hb3 HOP)
  | (with_reducible refine Calls.mono HSU.out ?_
     rintro e w4 ⟨hb4,hr⟩;have HB5:Hid (Below w.heap.size w w4):=Aa HB4.out hb4;rcases Bf (Di (r1,r2,r3,r4)) with⟨er,hN⟩ | ⟨u,hN⟩
     . rw [hN] at hr HR2;subst hr;clear hN hb4;go_wp2_with fail
       exact⟨rfl,Bb.err HB5.out HR2.out⟩
     rw [hN] at hr HR2;obtain⟨qt,qn,qs⟩:=u;have hr2:e = .returned (.agg #[.bool qt,.int .i64 qn,.string qs]):=hr;clear hr;subst hr2;obtain⟨hc4,hf4⟩:=Ar hb4;have HX4:∀i,i<3->w4.cell? ⟨w.heap.size+1+1,i,none⟩=([.bool false,.int .i64 0,.string ⟨#[]⟩]:List Value)[i]? /\ w4.frozen? ⟨w.heap.size+1+1,i,none⟩=false:=fun i hi=>by
      rw [hc4 _ _ hz3,hf4 _ _ hz3,hc3 _ _ hz2,hf3 _ _ hz2,hc2 _ _ (by simp [hws];omega),hf2 _ _ (by simp [hws];omega)];exact HX2.out i hi
     have x0:=(HX4 0 (by decide)).1;have x1:=(HX4 1 (by decide)).1;have x2:=(HX4 2 (by decide)).1;have y0:=(HX4 0 (by decide)).2;have y1:=(HX4 1 (by decide)).2;have y2:=(HX4 2 (by decide)).2;simp only [List.getElem?_cons_zero,List.getElem?_cons_succ] at x0 x1 x2;clear hN hb4 HSU HX4 hc hf hc2 hf2 hc3 hf3 hc4 hf4))
 all_goals go_wp2
 all_goals exact bodyPost_ret (v:= .agg #[.bool qt,.int .i64 qn,.string qs]) (by simp [results,results137,go_sem,x0,x1,x2]) rfl (Bb.ret (K:=vlV) (v:=⟨qt,qn,qs⟩) (A1 HB5.out (by omega) _ _ _) HR2.out)
theorem Ae7 {m:Nat} (hX:Er m) (c:Cx) (O:Own) (w:World) (s:Ms) (j:Nat) (op:ByteArray) (x y:Ex) (cs ds:List Value) (hM:Mc c O w s j) (hx:ExA c.B w m cs x) (hy:ExA c.B w m ds y) (ox:okE m x) (oy:okE m y) :
 Calls prog 137 #[.pointer (some ⟨c.r,0,none⟩),.string op,.agg cs.toArray,.agg ds.toArray] w (Bb w (opM op (Ai s m x) (Ai s m y)) vlV):=by
 by_cases h1:op = ⟨#[38,38]⟩
 . rw [h1];exact Ae6 hX c O w s j x y cs ds hM hx hy ox oy
 by_cases h2:op = ⟨#[124,124]⟩
 . rw [h2];exact Ahh hX c O w s j x y cs ds hM hx hy ox oy
 exact Abu hX c O w s j op x y cs ds hM hx hy ox oy h1 h2
def RB (g:Nat) (w:World):Prop:=w.heap[g]? = some (.cells #[.bool false,.int .i64 0,.string ⟨#[]⟩] 157 (0,0))
theorem RB.new (w:World):RB w.heap.size (w.alloc (.cells #[.bool false,.int .i64 0,.string ⟨#[]⟩] 157)):=by
 show (w.heap.push _)[w.heap.size]? = _;rw [Array.getElem?_push_size]
theorem RB.new2 (w:World) (o:Obj):RB (w.heap.size+1) ((w.alloc o).alloc (.cells #[.bool false,.int .i64 0,.string ⟨#[]⟩] 157)):=by
 have h:=RB.new (w.alloc o);have e:(w.alloc o).heap.size=w.heap.size+1:=by simp
 rwa [e] at h
theorem RB.lt {g:Nat} {w:World} (h:RB g w):g<w.heap.size:=by
 rcases Nat.lt_or_ge g w.heap.size with h' | h'
 . exact h'
 . unfold RB at h;simp [Array.getElem?_eq_none h'] at h
theorem RB.below {g:Nat} {w w':World} (h:RB g w) (hb:Below w.heap.size w w'):RB g w':=(hb.block g h.lt).trans h
theorem RB.alloc {g:Nat} {w:World} (h:RB g w) (o:Obj):RB g (w.alloc o):=h.below (br0.alloc lr0 o)
theorem RB.far3 {g k:Nat} {w:World} (h:RB g w) (hk:g ≠ k) (v0 v1 v2:Value):RB g (((w.setCell ⟨k,0,none⟩ v0).setCell ⟨k,1,none⟩ v1).setCell ⟨k,2,none⟩ v2) :=
 (Below.heap_setCell _ _ _ _ (by simpa using hk)).trans ((Below.heap_setCell _ _ _ _ (by simpa using hk)).trans ((Below.heap_setCell _ _ _ _ (by simpa using hk)).trans h))
theorem RB.cells {g:Nat} {w:World} (h:RB g w):w.cell? ⟨g,0,none⟩=some (.bool false)/\w.cell? ⟨g,1,none⟩=some (.int .i64 0)/\w.cell? ⟨g,2,none⟩=some (.string ⟨#[]⟩)/\w.frozen? ⟨g,0,none⟩=false/\w.frozen? ⟨g,1,none⟩=false/\w.frozen? ⟨g,2,none⟩=false :=
 ⟨Lib.cell_of_heap h 0,Lib.cell_of_heap h 1,Lib.cell_of_heap h 2,Lib.frozen_of_heap h 0,Lib.frozen_of_heap h 1,Lib.frozen_of_heap h 2⟩
theorem Ej {w w1:World} {R:Except Int Vl} {t:Bool} {n:Int} {s:ByteArray} {g:Nat} (hb:Below w.heap.size w w1) (hg:w.heap.size<=g) (h:R = .ok ⟨t,n,s⟩) :
 Bb w R vlV (.returned (.agg #[.bool t,.int .i64 n,.string s])) (((w1.setCell ⟨g,0,none⟩ (.bool t)).setCell ⟨g,1,none⟩ (.int .i64 n)).setCell ⟨g,2,none⟩ (.string s)) :=
 Bb.ret (K:=vlV) (v:=⟨t,n,s⟩) (A1 hb hg _ _ _) h
end Go.Proofs.YtppcohadoilpgaaGreatDoor
