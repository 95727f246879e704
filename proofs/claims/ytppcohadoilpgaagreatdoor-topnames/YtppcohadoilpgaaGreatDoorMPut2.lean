/-
  The contract of the machine's put. / The machine's load: the lines of a file come to a list.
-/
import Derived.Test.YtppcohadoilpgaaGreatDoorMStep
import Derived.Deep.RegionHeld2
namespace Go.Proofs.YtppcohadoilpgaaGreatDoor
open Go.ChangeShapes Go.WideShapes Go.ChangeAt Go.RowKit Go.Joins Go.Maps Go.Proofs.Tryz
set_option maxHeartbeats 4000000
set_option linter.unusedVariables false
set_option maxRecDepth 100000
theorem Kg.drew {c:Cx} {O:Own} {w W:World} {s:Ms} {j:Nat} {x:ByteArray} {k bl:Nat} (h:Kg c O w W s j x k bl):Kg c O w W.drew s j x k bl :=
 ⟨h.mc.below (Ad W),h.rol,h.map,h.c1,h.look,h.neb,h.ltb⟩
theorem Zd (c:Cx) (O:Own) (w:World) (s:Ms) (j:Nat) (x y:ByteArray) (v:Vl) (hM:Mc c O w s (j+1)) (hx:x.size<=200) (hy:y.size<=200) (hv:v.ok) (bl:Nat) (hq:s.lists x = [])
 (hP:∀W,Below w.heap.size w W->W.cell? ⟨c.r,1,none⟩=some (.map (some bl))/\(Instr.lookup 84 (.map (some bl)) (.string x) false).run prog W = .ok (.map none) W) :
 Calls prog 174 #[.pointer (some ⟨c.r,0,none⟩),.string x,.string y,vlV v] w (Df c O w j (Dl s x y.data.toList v)):=by
 obtain⟨vt,vn,vs⟩:=v;unfold vlV;obtain⟨W,hW⟩:∃W,W=w.alloc (.cells #[.bool vt,.int .i64 vn,.string vs] 157):=⟨_,rfl⟩;have HBW:Hid (Below w.heap.size w W):=by rw [hW];exact br0.alloc lr0 _
 have hMW:=hM.below HBW.out;obtain⟨c1,hlk0⟩:=hP W HBW.out;obtain⟨w1,hr1,h1,hPI⟩:=Rz (w:=w) hMW (x:=x) (by unfold maxLen;omega) c1;have hbl:O bl=some .lists:=by
  obtain⟨bv,bl',fl,ol,m1,m2,m3,m4,m5⟩:=hMW.mem;have:=m1.c1;rw [c1] at this;cases this;exact m3.1
 have hws:w.heap.size<W.heap.size:=by rw [hW];simp
 have hbn:w.heap.size ≠ bl:=fun e=>by rw [<-e,hM.top _ lr0] at hbl;cases hbl
 have hsz:(W.alloc (.map #[] 0)).heap.size=W.heap.size+1:=by simp
 have hG:Gr w O (fun b=>if b=W.heap.size then some (Ro.lst x) else O b):=fun b hb h0=>by simp only;rw [if_neg (by omega)];exact h0
 obtain⟨w2,hrun,h2,d1,hlk2,hlen,hmc,hou⟩:=hPI.drew.put (v:=⟨vt,vn,vs⟩) hx hy hv;simp only at hrun;have e9:(Bm s x []).lists x=s.lists x:=by rw [hq];show (if x=x then _ else _)=_;rw [if_pos rfl]
 rw [e9] at hlen hmc;rw [Rk] at hmc;obtain⟨T,hT⟩:∃T,T=En y.data.toList ⟨vt,vn,vs⟩ (s.lists x):=⟨_,rfl⟩;rw [<-hT] at hlen hmc;have HMC:Hid (T.length<=100->Mc c (fun b=>if b=W.heap.size then some (Ro.lst x) else O b) w2 (Bm s x T) j):=hmc;have HOU:Hid (Ou c (fun b=>if b=W.heap.size then some (Ro.lst x) else O b) w2 s.out s.left):=hou;have HG:Hid (Gr w O (fun b=>if b=W.heap.size then some (Ro.lst x) else O b)):=hG;have HBT:Hid (Bts O w w2):=by
  have b1:Bts O w (W.alloc (.map #[] 0)):=(Bts.of_below (O:=O) HBW.out).alloc _;have b2:Bts O w w1:=b1.trans (h1.bts hbl) (Gr.refl _ _);have b3:Bts O w w1.drew:=b2.more (Ad w1);exact b3.trans (h2.bts hPI.rol) hG
 have HPM:Hid (Dl s x y.data.toList ⟨vt,vn,vs⟩=if 100<T.length then .stop s 3 else .go (Bm s x T) true):=by unfold Hid Dl;rw [hT]
 have e0:W.cell? ⟨w.heap.size,0,none⟩=some (.bool vt):=by rw [hW];simp [go_sem]
 have e1:W.cell? ⟨w.heap.size,1,none⟩=some (.int .i64 vn):=by rw [hW];simp [go_sem]
 have e2:W.cell? ⟨w.heap.size,2,none⟩=some (.string vs):=by rw [hW];simp [go_sem]
 have hal:Below W.heap.size W (W.alloc (.map #[] 0)):=br0.alloc lr0 _;have f1:w1.heap[w.heap.size]? = W.heap[w.heap.size]? := (h1.block _ (by rw [hsz];omega) hbn).trans (hal.block _ hws);have f2:w2.heap[w.heap.size]? = W.heap[w.heap.size]? := (h2.block _ (lle (by rw [hsz];omega) h1.size) (by omega)).trans f1;have g0:w1.cell? ⟨w.heap.size,0,none⟩=some (.bool vt):=(World.cell?_of_block (a:=⟨w.heap.size,0,none⟩) f1).trans e0;have g1:w1.cell? ⟨w.heap.size,1,none⟩=some (.int .i64 vn):=(World.cell?_of_block (a:=⟨w.heap.size,1,none⟩) f1).trans e1;have g2:w1.cell? ⟨w.heap.size,2,none⟩=some (.string vs):=(World.cell?_of_block (a:=⟨w.heap.size,2,none⟩) f1).trans e2;have i0:w2.cell? ⟨w.heap.size,0,none⟩=some (.bool vt):=(World.cell?_of_block (a:=⟨w.heap.size,0,none⟩) f2).trans e0;have i1:w2.cell? ⟨w.heap.size,1,none⟩=some (.int .i64 vn):=(World.cell?_of_block (a:=⟨w.heap.size,1,none⟩) f2).trans e1
 have i2:w2.cell? ⟨w.heap.size,2,none⟩=some (.string vs):=(World.cell?_of_block (a:=⟨w.heap.size,2,none⟩) f2).trans e2;have k1:w1.cell? ⟨c.r,1,none⟩=some (.map (some bl)):=hPI.c1;have hlk1:=hPI.look w1.drew rfl;have hnt:=Ahf W;have hmm:=@run_makeMap prog;have HWW:Hid (W=_):=hW;have hrw:c.r<w.heap.size:=hM.lt;have hrn:¬c.r=w.heap.size:=by omega
 have hWs:W.heap.size=w.heap.size+1:=by rw [hW];simp
 have a1:(w.alloc (.cells #[.bool vt,.int .i64 vn,.string vs] 157)).cell? ⟨c.r,1,none⟩=some (.map (some bl)):=by rw [<-hW];exact c1
 have a2:=hlk0;have a3:=hnt;have a4:=hr1;rw [hWs] at a4;rw [hWs] at hlk1 hlk2 hrun hlen;rw [hW] at a2 a3 a4;clear hP hM hT hmc hou h1 h2 hv hMW hPI hal f1 f2 hG hbl hbn e9 hq hr1 hlk0 hnt hW;go_enter func174,ntmps174
 go_wp2_with fail
 clear a1 a2 a3 a4 hmm
 go_region_held2 (fun w'=>w'.cell? ⟨c.r,1,none⟩=some (.map (some bl))/\w'.cell? ⟨w.heap.size,0,none⟩=some (.bool vt)/\w'.cell? ⟨w.heap.size,1,none⟩=some (.int .i64 vn)/\w'.cell? ⟨w.heap.size,2,none⟩=some (.string vs)) (go_keep) (fail)
 by_cases hbig:100<T.length
 . have HE:Hid (Dl s x y.data.toList ⟨vt,vn,vs⟩ = .stop s 3):=by rw [HPM.out,if_pos hbig];rfl
   have hbi:(100:Int)<(T.length:Int):=by omega
   go_wp2_with fail
   (try rw [decide_eq_true (show (100:Int)<(T.length:Int) by omega)])
   refine (C1 3 _).mono ?_;rintro e w3 ⟨rfl,hw3⟩;rw [hw3];clear hw3 w3;go_wp2_with fail
   exact⟨rfl,Ak.stop HBT.out HE.out HG.out HOU.out⟩
 . have HE:Hid (Dl s x y.data.toList ⟨vt,vn,vs⟩ = .go (Bm s x T) true):=by rw [HPM.out,if_neg hbig];rfl
   have hbi:¬(100:Int)<(T.length:Int):=by omega
   go_wp2_with fail
   (try rw [decide_eq_false (show ¬(100:Int)<(T.length:Int) by omega)])
   refine (Do 3 _).mono ?_;rintro e w3 ⟨rfl,hw3⟩;rw [hw3];clear hw3 w3;go_wp2_with fail
   go_end0
   exact Ak.go (K:=fun _=> .tuple #[]) HBT.out HE.out HG.out (HMC.out (by omega))
theorem Ahl (c:Cx) (O:Own) (w:World) (s:Ms) (j:Nat) (x y:ByteArray) (v:Vl) (hM:Mc c O w s (j+1)) (hx:x.size<=200) (hy:y.size<=200) (hv:v.ok) :
 Calls prog 174 #[.pointer (some ⟨c.r,0,none⟩),.string x,.string y,vlV v] w (Df c O w j (Dl s x y.data.toList v)):=by
 obtain⟨bv,bl,fl,ol,m1,m2,m3,m4,m5⟩:=hM.mem;have hbl:bl<w.heap.size:=by obtain⟨_,_,_,_,h,_⟩:=m3;exact h.lt
 obtain⟨q,hlk,hq⟩:=m3.look (t:=x) (by unfold maxLen;omega);have hc:∀W,Below w.heap.size w W->W.cell? ⟨c.r,1,none⟩=some (.map (some bl)):=fun W hW=>(hW.cell (p:=⟨c.r,1,none⟩) m1.lt).trans m1.c1;rcases hq with⟨rfl,h0⟩ | ⟨k,rfl,hk,hown⟩
 . exact Zd c O w s j x y v hM hx hy hv bl h0 fun W hW=>⟨hc W hW,hlk W (hW.block bl hbl)⟩
 . refine R3 c O w s j x y v hM hx hy hv bl k fun W hW=>⟨(hM.below hW).less,hk,Aq hown (hW.block k hown.lt),hc W hW,fun w' hw'=>hlk w' (hw'.trans (hW.block bl hbl)),fun e=>?_,lle hbl hW.size⟩;have:=m3.1;rw [e,hk] at this;cases this
theorem Td (s:Ms) (x:ByteArray):Bm s x (s.lists x)=s:=by
 unfold Bm;have e:(fun y=>if y=x then s.lists x else s.lists y)=s.lists:=by
  funext y
  split
  . rename_i h;rw [h]
  . rfl
 rw [e]
theorem Mc.del {c:Cx} {O:Own} {w:World} {s:Ms} {j:Nat} (h:Mc c O w s j) {x y:ByteArray} (hx:x.size<=200) (hy:y.size<=200) {bl:Nat} (hc:w.cell? ⟨c.r,1,none⟩=some (.map (some bl))) :
 ∃q,(∀w',w'.heap[bl]? = w.heap[bl]? -> (Instr.lookup 84 (.map (some bl)) (.string x) false).run prog w' = .ok (.map q) w') /\
  ∀(ty:TypeId) (w1:World),Below w.heap.size w w1->∀y:ByteArray,y.size<=200->∃w2,(Builtin.delete_ #[83,9] ty #[.map q,.string y]).run prog w1 = .ok (.tuple #[]) w2/\Bts O w1 w2/\w2.cell? ⟨c.r,1,none⟩=some (.map (some bl))/\Mc c O w2 (Bm s x (Dy y.data.toList (s.lists x))) j:=by
 obtain⟨bv,bl',fl,ol,m1,m2,m3,m4,m5⟩:=h.mem;have hcc:=m1.c1;rw [hc] at hcc;cases hcc;have hbl:bl<w.heap.size:=by obtain⟨_,_,_,_,h,_⟩:=m3;exact h.lt
 obtain⟨q,hlk,hq⟩:=m3.look (t:=x) (by unfold maxLen;omega);refine⟨q,hlk,fun ty w1 hb y hy=>?_⟩;have hM1:=h.below hb;rcases hq with⟨rfl,h0⟩ | ⟨k,rfl,hk,hown⟩
 . refine⟨w1,Maps.drop_nil Iy underlying83 (Jj (s:=y) (by unfold maxLen;omega)) ty,Bts.refl _ _,(hb.cell (p:=⟨c.r,1,none⟩) h.lt).trans hc,?_⟩;have e:Dy y.data.toList (s.lists x)=s.lists x:=by rw [h0];rfl
   rw [e,Td];exact hM1
 . obtain⟨w2,hr,ho,ht⟩:=(Aq hown (hb.block k hown.lt)).drop Iy underlying83 (Jj (s:=y) (by unfold maxLen;omega)) ty;have h1:One O k w1 w2:=One.of ht.grown;rw [Z4] at ho;have hf:=h.fit.few x;have hd:=Uk y.data.toList (s.lists x);have hcr:c.r ≠ k:=fun e=>by have h2:=h.own;rw [e,hk] at h2;cases h2
   exact⟨w2,hr,h1.bts hk,(World.cell?_of_block (a:=⟨c.r,1,none⟩) (h1.block _ hM1.lt hcr)).trans ((hb.cell (p:=⟨c.r,1,none⟩) h.lt).trans hc),hM1.list hk h1 (I1 ho) ⟨bl,(hb.cell (p:=⟨c.r,1,none⟩) h.lt).trans hc,fun w' hw'=>hlk w' (hw'.trans (hb.block bl hbl))⟩ (by unfold maxLen;omega) (by omega) fun p hp=>h.fit.lists x p (Md hp)⟩
theorem Yk {c:Cx} {O:Own} {w:World} {s:Ms} {j:Nat} {x:ByteArray} (hM:Mc c O w s j) (hx:x.size<=200) (hne:s.lists x ≠ []):∃k bl,∀W,Below w.heap.size w W->Kg c O w W s j x k bl:=by
 obtain⟨bv,bl,fl,ol,m1,m2,m3,m4,m5⟩:=hM.mem;have hbl:bl<w.heap.size:=by obtain⟨_,_,_,_,h,_⟩:=m3;exact h.lt
 obtain⟨q,hlk,hq⟩:=m3.look (t:=x) (by unfold maxLen;omega);rcases hq with⟨rfl,h0⟩ | ⟨k,rfl,hk,hown⟩
 . exact absurd h0 hne
 . refine⟨k,bl,fun W hW=>⟨hM.below hW,hk,Aq hown (hW.block k hown.lt),(hW.cell (p:=⟨c.r,1,none⟩) m1.lt).trans m1.c1,fun w' hw'=>hlk w' (hw'.trans (hW.block bl hbl)),fun e=>?_,lle hbl hW.size⟩⟩;have:=m3.1;rw [e,hk] at this;cases this
theorem Kg.below {c:Cx} {O:Own} {w W W':World} {s:Ms} {j:Nat} {x:ByteArray} {k bl:Nat} (h:Kg c O w W s j x k bl) (hb:Below W.heap.size W W'):Kg c O w W' s j x k bl :=
 ⟨h.mc.below hb,h.rol,Aq h.map (hb.block k h.map.lt),(hb.cell (p:=⟨c.r,1,none⟩) h.mc.lt).trans h.c1,fun w' hw'=>h.look w' (hw'.trans (hb.block bl h.ltb)),h.neb,lle h.ltb hb.size⟩
theorem W9 (k:List UInt8) (v:Vl) (t:Tab):En k v t ≠ []:=fun e=>by
 have:=congrArg List.length e;unfold En at this;rw [Me] at this;simp at this
def Agi (l:List Fl) (n:Nat) (t:ByteArray) (k:Int):Prop:=(k = -1/\∀q,q<n->((l.getD q default).name.toList == t.toList)=false)\/∃i:Nat,k=(i:Int)/\i<n/\((l.getD i default).name.toList == t.toList)=true/\∀q,q<i->((l.getD q default).name.toList == t.toList)=false
theorem Tf (c:Addr) (s t:ByteArray) (v:Value) (w:World) (hc:w.cell? c=some (.string t)) :
 Calls prog 193 #[.agg #[.string s,v],.pointer (some c)] w fun e w'=>e = .returned (.bool (s.toList == t.toList))/\Below w.heap.size w w':=by
 obtain⟨b,o,sp⟩:=c;obtain rfl:sp=none:=World.cell?_spot hc;have hlt:=World.block_lt_of_cell? w _ hc;simp only at hlt;go_enter func193,ntmps193
 go_wp2_with fail
 go_ret
 exact⟨Am rfl,br0.alloc lr0 _⟩
theorem Rl (B:Nat) (l:List Fl) (n:Nat) (a:Option Addr) (cap cap':Nat) (c:Addr) (t:ByteArray) (w:World) (hv:FlL w B (.slice a l.length cap) l) (hB:B<=w.heap.size) (hn:n<=l.length) (hc:w.cell? c=some (.string t)) :
 Calls prog 76 #[.slice a n cap',.func (.func 193) #[] #[.pointer (some c)]] w fun e w'=>∃k:Int,e = .returned (.int .i64 k)/\Agi l n t k/\Below w.heap.size w w':=by
 obtain⟨-,a,cap,hvv,hl,hsl⟩:=hv;cases hvv;unfold maxLen at hl;have hcl:=World.block_lt_of_cell? w _ hc;have HC:Hid (w.cell? c=some (.string t)):=hc;have HCL:Hid (c.block<w.heap.size):=hcl;clear hc hcl;go_enter func76,ntmps76
 go_wp2_with fail
 go_loopw [8] (fun v wr=>∃k:Nat,k<=n/\v = .int .i64 k/\Hid (Below w.heap.size w wr/\∀q,q<k->((l.getD q default).name.toList == t.toList)=false)) (fun v _=>n - (intOf v).toNat)
 case atStart=>exact⟨0,by omega,rfl,Below.refl _ _,fun q hq=>absurd hq (Nat.not_lt_zero _)⟩
 case round =>
  obtain⟨k,hk,rfl,HQ⟩:=hrel
  by_cases hlt:k<n
  . obtain⟨b,off,rfl,hb,hi⟩:=hsl (by omega);obtain⟨a1,cap1,c0,c1,z0,z1,ht⟩:=Abf hi k _ rfl (by omega);obtain⟨x,hx⟩:∃x,x=l.getD k default:=⟨_,rfl⟩;rw [<-hx] at c0 c1;have hbw:b<w.heap.size:=by omega
    have d0:=(HQ.out.1.cell (p:=⟨b,off+k * 2,none⟩) hbw).trans c0;have d1:=(HQ.out.1.cell (p:=⟨b,off+k * 2+1,none⟩) hbw).trans c1;have i1:(k:Int)<(n:Int):=by omega
    have i2:(0:Int)<=(k:Int):=by omega
    have hcc:=fun v=>Tf c x.name t v _ ((HQ.out.1.cell HCL.out).trans HC.out);cases hs:(x.name.toList == t.toList) with
    | false =>
     have HN:Hid (∀q,q<k+1->((l.getD q default).name.toList == t.toList)=false):=fun q hq=>by
      by_cases e:q=k
      . subst e;rw [<-hx];exact hs
      . exact HQ.out.2 q (by omega)
     rw [hs] at hcc;have HCC:Hid _:=hcc;clear hcc hs hx c0 c1 hi hsl ht z0 z1;go_wp2_with fail
     refine (HCC.out _).mono ?_;rintro e w1 ⟨rfl,hb1⟩;have R2:Hid (Below w.heap.size w w1):=Aa HQ.out.1 hb1;clear hb1 HQ;go_wp2_with fail
     go_roundw
     case rel=>exact⟨k+1,by omega,by go_num,R2.out,HN.out⟩
     case measure=>simp [intOf];omega
    | true =>
     have HN:Hid (((l.getD k default).name.toList == t.toList)=true/\∀q,q<k->((l.getD q default).name.toList == t.toList)=false):=⟨by rw [<-hx];exact hs,HQ.out.2⟩;rw [hs] at hcc;have HCC:Hid _:=hcc;clear hcc hs hx c0 c1 hi hsl ht z0 z1;go_wp2_with fail
     refine (HCC.out _).mono ?_;rintro e w1 ⟨rfl,hb1⟩;have R2:Hid (Below w.heap.size w w1):=Aa HQ.out.1 hb1;clear hb1 HQ;go_wp2_with fail
     go_ret
     exact⟨k,rfl,.inr ⟨k,rfl,hlt,HN.out.1,HN.out.2⟩,R2.out⟩
  . have i1:¬(k:Int)<(n:Int):=by omega
    have HN:Hid (∀q,q<n->((l.getD q default).name.toList == t.toList)=false):=fun q hq=>HQ.out.2 q (by omega);have R2:Hid (Below w.heap.size w _):=HQ.out.1;clear HQ hsl;go_wp2_with fail
    go_ret
    exact⟨-1,rfl,.inl ⟨rfl,HN.out⟩,R2.out⟩
theorem Agt (l:List UInt8):(⟨l.toArray⟩:ByteArray).size=l.length:=by simp [ByteArray.size]
theorem Pm {x t:ByteArray}:(x.toList == t.toList)=(x == t):=by
 have e:(x == t)=(x.data == t.data):=rfl;rw [e,ByteArray.toList_eq,ByteArray.toList_eq]
 by_cases h:x.data=t.data
 . rw [h];simp
 . have h1:¬x.data.toList=t.data.toList:=fun e2=>h (Array.toList_inj.1 e2);simp []
theorem Ra {F:List Fl} {t:ByteArray} {i:Nat} (hi:i<F.length) (h1:((F.getD i default).name.toList == t.toList)=true) (h2:∀q,q<i->((F.getD q default).name.toList == t.toList)=false):F.find? (fun f=>f.name == t)=some (F.getD i default):=by
 rw [List.find?_eq_some_iff_getElem];have e:∀q,q<F.length->F.getD q default=F[q]! := fun q hq=>by simp [List.getD_eq_getElem?_getD,hq]
 refine⟨by rw [<-Pm];exact h1,i,hi,by simp [List.getD_eq_getElem?_getD,hi],fun q hq=>?_⟩;have:=h2 q hq;rw [Pm] at this;have e2:F.getD q default=F[q]:=by simp [List.getD_eq_getElem?_getD,Nat.lt_trans hq hi]
 rw [e2] at this;simp [this]
theorem S7 {F:List Fl} {t:ByteArray} (h2:∀q,q<F.length->((F.getD q default).name.toList == t.toList)=false):F.find? (fun f=>f.name == t)=none:=by
 rw [List.find?_eq_none];intro x hx;obtain⟨q,hq,rfl⟩:=List.getElem_of_mem hx;have:=h2 q hq;rw [Pm] at this;have e2:F.getD q default=F[q]:=by simp [List.getD_eq_getElem?_getD,hq]
 rw [e2] at this;simp [this]
def LdI (c:Cx) (O2:Own) (w w2 wr:World) (j:Nat) (x:ByteArray) (R:Om) (l:List ByteArray) (q:Nat):Prop:=∃O' s',Gr w2 O2 O'/\Bts O2 w2 wr/\(∃k bl,Kg c O' w wr s' j x k bl)/\R=Fu x (l.drop q) q s'
theorem Pu {s s':Ms} {x:ByteArray} {k:List UInt8} {v:Vl} {b:Bool} (h:Dl s x k v = .go s' b):b=true/\s'.lists x ≠ []:=by
 unfold Dl at h;split at h
 . cases h
 . cases h;refine⟨rfl,?_⟩;show (if x=x then _ else _) ≠ _;rw [if_pos rfl];exact W9 _ _ _
theorem Aez (c:Cx) (O:Own) (w:World) (s:Ms) (j:Nat) (x t:ByteArray) (hM:Mc c O w s (j+1)) (hx:x.size<=200) (ht:t.size<=200) :
 Calls prog 177 #[.pointer (some ⟨c.r,0,none⟩),.string x,.string t] w (Df c O w j (F4 c.F s x t)):=by
 obtain⟨R,hR⟩:∃R,R=F4 c.F s x t:=⟨_,rfl⟩;rw [<-hR];have HR0:Hid (R=_):=hR;obtain⟨W,hW⟩:∃W,W=w.alloc (.cells #[.string t] 9):=⟨_,rfl⟩;have HW:Hid (Below w.heap.size w W):=by rw [hW];exact br0.alloc lr0 _
 have HM:Hid (Mc c O W s (j+1)):=hM.below HW.out;have hrw:c.r<w.heap.size:=hM.lt;have hrn:¬c.r=w.heap.size:=by omega
 have c3:w.cell? ⟨c.r,3,none⟩=some c.fv:=by obtain⟨_,_,_,_,m1,_⟩:=hM.mem;exact m1.c3
 have hfl:=HM.out.lo.files;obtain⟨⟨fa,flen,fcap,hfv,hfl2⟩,hfs⟩:=hfl;have hfle:flen=c.F.length:=by obtain⟨a9,cap9,h9,_⟩:=hfs;rw [hfv] at h9;cases h9;rfl
 rw [hfv] at c3;have hcell:W.cell? ⟨w.heap.size,0,none⟩=some (.string t):=by rw [hW];simp [go_sem]
 have HIX:=hid (Rl c.B c.F c.F.length fa fcap fcap ⟨w.heap.size,0,none⟩ t W (by rw [<-hfle,<-hfv];exact HM.out.lo.files) HM.out.lo.size lr0 hcell);have HWW:Hid (W=_):=hW;rw [hfle] at c3;clear hM hR hfl2 hfs hfv hfle hW hcell;go_enter func177,ntmps177
 go_wp2_with fail
 rw [<-HWW.out];clear HWW;refine Calls.mono HIX.out ?_;rintro e w1 ⟨k,rfl,hix,hb1⟩;have HB1:Hid (Below w.heap.size w w1):=Aa HW.out hb1;have HM1:Hid (Mc c O w1 s (j+1)):=HM.out.below hb1;clear hb1 HIX;rcases hix with⟨rfl,hno⟩ | ⟨i,rfl,hi,hyes,hno⟩
 . have HE:Hid (R = .stop s 5):=by
    unfold Hid;rw [HR0.out];unfold F4;rw [S7 hno]
   clear hno;go_wp2_with fail
   refine (C1 5 _).mono ?_;rintro e w2 ⟨rfl,hw2⟩;rw [hw2];clear hw2 w2;go_wp2_with fail
   exact⟨rfl,Ak.stop (Bts.of_below HB1.out) HE.out (Gr.refl _ _) HM1.out.ou⟩
 obtain⟨f,hf⟩:∃f,f=c.F.getD i default:=⟨_,rfl⟩;have HE0:Hid (R=Fu x f.lines 0 (Bm s x [])):=by
  unfold Hid;rw [HR0.out];unfold F4;rw [Ra hi hyes hno,<-hf]
 have HFI:Hid (f.lines.length<=100/\∀l ∈ f.lines,l.size<=200):=HM1.out.lo.fine f (by
  rw [hf,List.getD_eq_getElem?_getD,gee hi];exact List.getElem_mem hi)
 obtain⟨bv,bl,d0,d1,hbv,hbl⟩:=HM1.out.maps;obtain⟨w2,hr2,h2,hPI⟩:=Rz (w:=w) HM1.out (x:=x) (by unfold maxLen;omega) d1;have HPI:=hid hPI;have e3:w2.cell? ⟨c.r,3,none⟩=some (.slice fa c.F.length fcap):=by
  obtain⟨_,_,_,_,m1,_⟩:=hPI.mc.mem;have h3:=m1.c3;obtain⟨_,_,_,_,m9,_⟩:=HM1.out.mem;have h4:=m9.c3;rw [(HB1.out.cell (p:=⟨c.r,3,none⟩) hrw).trans c3] at h4;exact h3.trans h4.symm
 have hfv:c.fv = .slice fa c.F.length fcap:=by
  obtain⟨_,_,_,_,m1,_⟩:=hPI.mc.mem;exact Option.some.inj (m1.c3.symm.trans e3)
 obtain⟨-,hfs⟩:=hPI.mc.lo.files;obtain⟨fa9,fcap9,h9,-,hfs2⟩:=hfs;rw [hfv] at h9;cases h9;obtain⟨b,off,rfl,hbB,hfi⟩:=hfs2 (by omega);obtain⟨la,lcap,f0,f1,-,-,hlines⟩:=Abf hfi i (off+i * 2) rfl hi;rw [<-hf] at f0 f1 hlines;have i1:(i:Int)<(c.F.length:Int):=by omega
 have i2:(0:Int)<=(i:Int):=by omega
 have HBT2:Hid (Bts O w w2):=((Bts.of_below (O:=O) HB1.out).alloc _).trans (h2.bts hbl) (Gr.refl _ _);have HG2:Hid (Gr w O (fun b=>if b=w1.heap.size then some (Ro.lst x) else O b)):=fun b hb' h0=>by
  have:=HB1.out.size;simp only;rw [if_neg (by omega)];exact h0
 have hi0:¬(i:Int)<0:=by omega
 have hmm:=@run_makeMap prog;clear hyes hno hfi hfs2 hPI h2 hfv hf;go_wp2_with fail
 (try rw [decide_eq_false hi0])
 refine (Do 5 _).mono ?_;rintro e w3 ⟨rfl,hw3⟩;rw [hw3];clear hw3 w3;go_wp2_with fail
 obtain⟨O2,hO2⟩:∃O2:Own,O2=fun b=>if b=w1.heap.size then some (Ro.lst x) else O b:=⟨_,rfl⟩;rw [<-hO2] at HPI HG2;have HI0:Hid (LdI c O2 w w2 w2 j x R f.lines 0):=⟨O2,Bm s x [],Gr.refl _ _,Bts.refl _ _,⟨_,_,HPI.out⟩,HE0.out⟩;have HLW:Hid (TxL w2 c.B (.slice la f.lines.length lcap) f.lines):=hlines.out;have HLO:Hid ((∀b,b<c.B->O2 b=none)/\c.B<=w2.heap.size):=⟨HPI.out.mc.low,HPI.out.mc.lo.size⟩;clear hi i1 i2 hi0 hbB c3 hrw hrn hO2 hlines hr2 hmm e3 f0 f1 d0 d1 hbv hbl HPI HE0 HR0 HM HM1 HW
 go_loopw [33] (fun v33 wr=>∃q:Nat,q<=f.lines.length/\v33 = .int .i64 q/\Hid (LdI c O2 w w2 wr j x R f.lines q)) (fun v33 _=>f.lines.length - (intOf v33).toNat)
 case atStart=>exact⟨0,Nat.zero_le _,rfl,HI0.out⟩
 case round =>
  obtain⟨q,hq,rfl,HL⟩:=hrel;obtain⟨O',s',hG,hbt,⟨k,bk,hPI⟩,hR9⟩:=HL.out;have HD9:=hid (And.intro hG (And.intro hbt (And.intro hPI hR9)));clear HL HI0
  by_cases hlt:q<f.lines.length
  . have j1:(q:Int)<(f.lines.length:Int):=by omega
    have j2:(0:Int)<=(q:Int):=by omega
    have HQL:Hid ((q:Int)+1<=101):=by have:=HFI.out.1;unfold Hid;omega
    have hql:=HFI.out.1;have j3: -9223372036854775808<=(q:Int)+1:=by omega
    have j4:(q:Int)+1<=9223372036854775807:=by omega
    obtain⟨la9,lcap9,h9,-,hls⟩:=HLW.out;cases h9;obtain⟨lb,lo,rfl,hlb,hli⟩:=hls (by omega);obtain⟨L,hL⟩:∃L,L=f.lines.getD q default:=⟨_,rfl⟩;have hc0:=(Ahy hli q hlt).1;rw [<-hL] at hc0;have hlowr:Below c.B w2 wr:=hbt.below HLO.out.2 HLO.out.1;have hc1:wr.cell? ⟨lb,lo+q,none⟩=some (.string L):=(hlowr.cell (p:=⟨lb,lo+q,none⟩) hlb).trans hc0;have hLs:L.size<=200:=HFI.out.2 L (by rw [hL,List.getD_eq_getElem?_getD,gee hlt];exact List.getElem_mem hlt);obtain⟨KY,hKY⟩:∃K:ByteArray,K = ⟨(Lib.itoa ((q+1:Nat):Int)).toArray⟩:=⟨_,rfl⟩;have HKY:Hid (KY.data.toList=Lib.itoa ((q+1:Nat):Int)/\KY.size<=200):=by
     have:=Rf ((q+1:Nat):Int) (by omega) (by omega);rw [hKY];exact⟨by simp,by rw [Agt];omega⟩
    have HST:Hid (∀Z,Below wr.heap.size wr Z->Calls prog 166 #[.agg #[.bool false,.int .i64 ((q:Int)+1),.string ⟨#[]⟩]] Z fun e w'=>e = .returned (.string KY)/\Below Z.heap.size Z w'):=fun Z hZ=>by
     rw [hKY,show ((q+1:Nat):Int)=(q:Int)+1 by omega];exact Gu false ((q:Int)+1) ⟨#[]⟩ Z (by omega) (by omega) (((hPI.mc.below hZ).lo.pw).elim fun _ h=>h.2.2)
    have HRL:Hid (R=(Dl s' x KY.data.toList (vS L)).then (Fu x (f.lines.drop (q+1)) (q+1))):=by
     unfold Hid;rw [hR9,List.drop_eq_getElem_cons hlt,Fu,HKY.out.1,hL,List.getD_eq_getElem?_getD,gee hlt];rfl
    have HLS:Hid (L.size<=200):=hLs;clear hG hbt hPI hR9 hli hls hc0 hL hKY hlowr hLs hql hq hlb;go_wp2_with fail
    refine (F7 ((q:Int)+1) wr).mono ?_;rintro e w3 ⟨rfl,hb3⟩;have HB3:Hid (Below wr.heap.size wr w3):=hb3;clear hb3;go_wp2_with fail
    refine Calls.mono (HST.out w3 HB3.out) ?_;rintro e w4 ⟨rfl,hb4⟩;have HB4:Hid (Below wr.heap.size wr w4):=Aa HB3.out hb4;clear hb4 HST;go_wp2_with fail
    refine (J0 L w4).mono ?_;rintro e w5 ⟨rfl,hb5⟩;have HB5:Hid (Below wr.heap.size wr w5):=Aa HB4.out hb5;have HPC:=hid (R3 c O' w5 s' j x KY (vS L) ((HD9.out.2.2.1).below HB5.out).mc hx HKY.out.2 (N9 HLS.out) bk k fun W hW=>(let h:=((HD9.out.2.2.1).below HB5.out).below hW; ⟨h.mc,h.rol,h.map,h.c1,h.look,h.neb,h.ltb⟩));unfold vlV vS at HPC;simp only at HPC;clear hb5;go_wp2_with fail
    refine Calls.mono HPC.out ?_;rintro e w6 hd;have hbt6:=hd.1;have HBT6:Hid (Bts O2 w2 w6):=HD9.out.2.1.trans ((Bts.of_below (O:=O') HB5.out).trans hbt6 (Gr.refl _ _)) HD9.out.1;have hd2:=hd.2;rcases hd.cases with⟨s9,er,h9,rfl⟩ | ⟨s9,b9,O9,h9,rfl,hG9,hMc9⟩
    . rw [h9] at hd2;have HE:Hid (R = .stop s9 er):=by unfold Hid;rw [HRL.out];show (Dl s' x KY.data.toList ⟨true,0,L⟩).then _=_;rw [h9];rfl
      obtain⟨-,O9,hG9,hou⟩:=hd2;have HO9:=hid (And.intro hG9 hou);clear hd h9 hbt6 hG9 hou;go_wp2_with fail
      exact⟨rfl,Ak.stop (HBT2.out.trans HBT6.out HG2.out) HE.out (HG2.out.trans (HD9.out.1.trans ((HO9.out.1).after HB5.out.size) HD9.out.2.1.size) HBT2.out.size) HO9.out.2⟩
    obtain⟨rfl,hne⟩:=Pu h9;have HE:Hid (R=Fu x (f.lines.drop (q+1)) (q+1) s9):=by unfold Hid;rw [HRL.out];show (Dl s' x KY.data.toList ⟨true,0,L⟩).then _=_;rw [h9];rfl
    have HN9:Hid (LdI c O2 w w2 w6 j x R f.lines (q+1)):=by
     obtain⟨k9,bl9,hP9⟩:=Yk hMc9 hx hne;have h0:=hP9 w6 br0;exact⟨O9,s9,HD9.out.1.trans (hG9.after HB5.out.size) HD9.out.2.1.size,HBT6.out,⟨k9,bl9,⟨h0.mc,h0.rol,h0.map,h0.c1,h0.look,h0.neb,h0.ltb⟩⟩,HE.out⟩
    clear hd h9 hbt6 hG9 hMc9 hd2 HPC hne;go_wp2_with fail
    go_roundw
    case rel=>exact⟨q+1,by omega,by go_num,HN9.out⟩
    case measure=>simp [intOf];omega
  . have j1:¬(q:Int)<(f.lines.length:Int):=by omega
    have HE:Hid (R = .go s' true):=by unfold Hid;rw [hR9,List.drop_eq_nil_of_le (by omega)];rfl
    clear hG hbt hPI hR9;go_wp2_with fail
    go_end0
    exact Ak.go (K:=fun _=> .tuple #[]) (HBT2.out.trans HD9.out.2.1 HG2.out) HE.out (HG2.out.trans HD9.out.1 HBT2.out.size) HD9.out.2.2.1.mc
end Go.Proofs.YtppcohadoilpgaaGreatDoor
