/-
  Contract of the reader's operand.
-/
import Derived.Test.YtppcohadoilpgaaGreatDoorRdMem
import Derived.Deep.RegionWith
import Derived.Deep.MidRow
namespace Go.Proofs.YtppcohadoilpgaaGreatDoor
open Go.ChangeShapes Go.WideShapes Go.ChangeAt Go.RowKit Go.Joins Go.Maps Go.Proofs.Tryz
set_option maxHeartbeats 8000000
set_option linter.unusedVariables false
theorem Dv (m:Nat) (o:Int) (ps:List Pc):opR (m+1) o ps=if Aj [45] ps then Hs m 7 o ps.tail
 else if Aj [33] ps then Hs m 8 o ps.tail
 else if Aj [36] ps then Hs m 4 o ps.tail
 else match ps with
  | []=> .error 5
  | p :: r =>
   if p.k=2 then .ok (A3 1 p.n [] [],r)
   else if p.k=3 then .ok (A3 2 0 p.s [],r)
   else if p.k=1 then B7 m o p.s r
   else if p.s = [40] then
    match Ax m o r with
    | .error e=> .error e
    | .ok (x,r1)=>match A8 [41] r1 with
     | .error e=> .error e
     | .ok (_,r2)=> .ok (x,r2)
   else .error 4:=by
 cases ps <;> rfl
theorem Ac (w:World):Below w.heap.size w w.drew:=⟨rfl,rfl,rfl,Nat.le_refl _,fun _ _=>rfl⟩
theorem Y1 {m:Nat} {o:Int} {ps:List Pc} {k:Nat} (hk:k<3) (hq:∀q,q<k->Aj (F9.getD q ([],0)).1 ps=false) (h:Aj (F9.getD k ([],0)).1 ps=true):opR (m+1) o ps=Hs m (F9.getD k ([],0)).2 o ps.tail:=by
 obtain rfl | rfl | rfl:k=0\/k=1\/k=2:=by omega
 . have h:Aj [45] ps=true:=h;rw [Dv];simp [h];rfl
 . have h:Aj [33] ps=true:=h;have h0:Aj [45] ps=false:=hq 0 (by omega);rw [Dv];simp [h,h0];rfl
 . have h:Aj [36] ps=true:=h;have h0:Aj [45] ps=false:=hq 0 (by omega);have h1:Aj [33] ps=false:=hq 1 (by omega);rw [Dv];simp [h,h0,h1];rfl
theorem Nz {t:List UInt8} {ps:List Pc} (h:Aj t ps=true):ps.tail.length+1=ps.length:=by
 cases ps with
 | nil=>cases h
 | cons p ps=>rfl
theorem Ace {k:Nat} (hk:k<3):(Lit.int .i64 (F9.getD k ([],0)).2).wf=true:=by
 obtain rfl | rfl | rfl:k=0\/k=1\/k=2:=by omega
 all_goals decide
set_option maxRecDepth 4000 in
theorem Tp {m:Nat} (hS:∀m',m=m'+1->Aaj m') (hW:U1 m) (hWh:Ei m):OpC (m+1):=by
 intro r o ps w h hm;have HSG:Hid (∀m',m=m'+1->Aaj m'):=hS;have HWO:Hid (U1 m):=hW;have HWH:Hid (Ei m):=hWh;clear hS hW hWh;have hlt:=h.lt;have hr:(w.alloc (.cells #[.int .i64 0,.int .i64 0,.string ⟨#[]⟩,.slice none 0 0] 31)).rangeAt 2 0 Lt.toList:=fun j v hv=>by rw [Nat.zero_add,(h.alloc _).tz.pref.2.cell j];simpa using hv
 obtain⟨A,hA⟩:∃A,A=Lt.toList:=⟨_,rfl⟩;rw [<-hA] at hr;have hn:(prog.info? 165).map (·.size)=some A.length:=by rw [hA];kernel_rfl
 have HRP:Hid (World.rangeAt _ 2 0 A):=hr;have HN:Hid ((prog.info? 165).map (·.size)=some A.length):=hn;have HA:Hid (A=Lt.toList):=hA;clear hA hr hn;obtain⟨W,hW⟩:∃W,W=w.alloc (.cells #[.int .i64 0,.int .i64 0,.string ⟨#[]⟩,.slice none 0 0] 31):=⟨_,rfl⟩;have HA0:Hid (Below w.heap.size w W):=by rw [hW];exact br0.alloc lr0 _
 have HG0:Hid (Bx w.heap.size [.int .i64 0,.int .i64 0,.string ⟨#[]⟩,.slice none 0 0] 31 W):=by rw [hW];exact Bx.new w _ _
 have HS0:Hid (w.heap.size+1<=W.heap.size):=by rw [hW];simp [Hid]
 have HB0:Hid (But r r w W):=But.of_below HA0.out;have HR0:Hid (Rdr r W o ps):=h.below HA0.out;have HWW:Hid (W=_):=hW;clear hW h;go_enter func96,ntmps96
 go_wp2_with (refine wpList_load_mid rfl 165 _ rfl 2 0 rfl A _ HRP.out underlying165 rfl HN.out ?_)
 rw [<-HWW.out];clear HWW HRP HN
 go_loopw [8] (fun v wr=>∃k:Nat,k<=3/\v = .int .i64 k/\Hid (∀q,q<k->Aj (F9.getD q ([],0)).1 ps=false)/\Hid (But r r w wr/\Rdr r wr o ps/\Bx w.heap.size [.int .i64 0,.int .i64 0,.string ⟨#[]⟩,.slice none 0 0] 31 wr/\w.heap.size+1<=wr.heap.size)) (fun v _=>3 - (intOf v).toNat)
 case atStart=>exact⟨0,by omega,rfl,fun q hq=>absurd hq (Nat.not_lt_zero _),HB0.out,HR0.out,HG0.out,HS0.out⟩
 case round =>
  obtain⟨k,hk,rfl,HQ,HI⟩:=hrel;clear HB0 HR0 HG0 HS0 HA0
  by_cases hk2:k<3
  . have i1:(k:Int)<3:=by omega
    obtain⟨t,ht⟩:∃t,t=(F9.getD k ([],0)).1:=⟨_,rfl⟩;obtain⟨x,hx⟩:∃x:ByteArray,x=bs t:=⟨_,rfl⟩;obtain⟨y,hy⟩:∃y:Int,y=(F9.getD k ([],0)).2:=⟨_,rfl⟩;have hix:=fun wr=>F1 (P:=prog) (cs:=A.toArray) (x:= .string x) (y:= .int .i64 y) wr underlying165 underlying164 rfl (by kernel_rfl) hk2 (by
     rw [HA.out,hx,hy,ht];exact Pt F9 k hk2)
    have HT:Hid (t=(F9.getD k ([],0)).1/\y=(F9.getD k ([],0)).2):=⟨ht,hy⟩;obtain⟨W1,hW1⟩:∃W1,W1=wr.alloc (.cells #[.string x,.int .i64 y] 164):=⟨_,rfl⟩;have HA1:Hid (Below wr.heap.size wr W1):=by rw [hW1];exact br0.alloc lr0 _
    have HG1:Hid (Bx wr.heap.size [.string x,.int .i64 y] 164 W1):=by rw [hW1];exact Bx.new wr _ _
    have HWW:Hid (W1=_):=hW1;have HC:=C8 r o t ps W1 (HI.out.2.1.below HA1.out);rw [<-hx] at HC;have HC:Hid _:=HC;clear hx hy ht hW1;go_wp2_with fail
    rw [<-HWW.out];clear HWW;refine Calls.mono HC.out ?_;rintro e w2 ⟨rfl,hrd,hb⟩;have HB2:Hid (But r r w w2):=(HI.out.1.more HA1.out).trans hb;have HG2:Hid (Bx w.heap.size [.int .i64 0,.int .i64 0,.string ⟨#[]⟩,.slice none 0 0] 31 w2):=(HI.out.2.2.1.below HA1.out).but hb hlt;have HE2:Hid (Bx wr.heap.size [.string x,.int .i64 y] 164 w2):=HG1.out.but hb (by have:=HI.out.2.2.2;omega);have HS2:Hid (w.heap.size+1<=w2.heap.size):=lq0 HI.out.2.2.2 (lq0 HA1.out.size hb.size);have HLW:Hid (w.heap.size+1<=wr.heap.size):=HI.out.2.2.2;clear HC HA1 HG1 HI hb;cases hS:Aj t ps with
    | false =>
     rw [hS] at hrd;have HN:Hid (∀q,q<k+1->Aj (F9.getD q ([],0)).1 ps=false):=fun q hq=>by
      by_cases e:q=k
      . subst e;rw [<-HT.out.1];exact hS
      . exact HQ.out q (by omega)
     have HR2:Hid (Rdr r w2 o ps):=show Rdr r w2 o ps by simpa using hrd
     clear hrd hS;go_wp2_with fail
     go_roundw
     case rel=>exact⟨k+1,by omega,by go_num,HN,HB2.out,HR2.out,HG2.out,HS2.out⟩
     case measure=>simp [intOf];omega
    | true =>
     rw [hS] at hrd;have HR2:Hid (Rdr r w2 o ps.tail):=show Rdr r w2 o ps.tail by simpa using hrd
     have HL2:Hid (ps.tail.length+1=ps.length):=Nz hS;have HE:Hid (opR (m+1) o ps=Hs m y o ps.tail):=by rw [HT.out.2];exact Y1 hk2 HQ.out (by rw [<-HT.out.1];exact hS)
     have e0:=HE2.out.cell 0;have e1:=HE2.out.cell 1;simp only [List.getElem?_cons_zero,List.getElem?_cons_succ] at e0 e1;obtain⟨g0,g1,g2,g3,z0,z1,z2,z3⟩:=HG2.out.four;obtain⟨m',rfl⟩:∃m',m=m'+1:=⟨m - 1,by have:=HL2.out;omega⟩;have HE1:Hid (Hs (m'+1) y o ps.tail=match Ht m' o ps.tail with
      | .error e=> .error e
      | .ok (x,r)=> .ok (A3 y 0 [] [x],r)):=by unfold Hid;rw [Hs];rfl
     have HCS:Hid _:=HSG.out m' rfl r o ps.tail w2.drew (HR2.out.below (Ac w2)) (by have:=HL2.out;omega);clear hrd hS;go_wp2_with fail
     go_region_with (
      refine Calls.mono HCS.out ?_;rintro e w3 ⟨hb,hr⟩;have HB3:Hid (But r r w w3):=(HB2.out.more (Ac w2)).trans hb;have HG3:Hid (Bx w.heap.size [.int .i64 0,.int .i64 0,.string ⟨#[]⟩,.slice none 0 0] 31 w3):=(HG2.out.below (Ac w2)).but hb hlt;have HE3:Hid (Bx wr.heap.size [.string x,.int .i64 y] 164 w3):=(HE2.out.below (Ac w2)).but hb (by have:=HLW.out;omega);have HS3:Hid (w.heap.size+1<=w3.heap.size):=lq0 HS2.out hb.size;rcases A6 (Ht m' o ps.tail) with⟨er,hN⟩ | ⟨x1,p1,hN⟩
      . rw [hN] at hr;obtain⟨rfl,hop⟩:=hr;have HF:Hid (opR (m'+1+1) o ps = .error er):=by unfold Hid;rw [HE.out,HE1.out,hN]
        have HO:Hid (Opn r w3 o):=hop;clear hb hop hN HCS;go_wp2_with fail
        refine⟨rfl,HB3.out,?_⟩;rw [HF.out];exact⟨rfl,HO.out⟩
      have HF:Hid (opR (m'+1+1) o ps = .ok (A3 y 0 [] [x1],p1)):=by unfold Hid;rw [HE.out,HE1.out,hN]
      rw [hN] at hr;obtain⟨v,rfl,hrd,hl1,cs1,rfl,hx1⟩:=hr;obtain⟨k1,n1,s1,a1,len1,cap1,rfl⟩:=hx1.shape;have HX1:Hid (ExP (fun b=>w.heap.size+1<=b) w3 (ps.tail.length - p1.length) [.int .i64 k1,.int .i64 n1,.string s1,.slice a1 len1 cap1] x1):=hx1.same (Ap.refl _ _) HS2.out lr0;have HR3:Hid (Rdr r w3 o p1):=hrd;have HL3:Hid (p1.length<ps.tail.length):=hl1;have f0:=HE3.out.cell 0;have f1:=HE3.out.cell 1;simp only [List.getElem?_cons_zero,List.getElem?_cons_succ] at f0 f1;obtain⟨j0,j1,j2,j3,y0,y1,y2,y3⟩:=HG3.out.four;have hw9:w.heap.size<w3.heap.size:=HS3.out;have hv9:¬w.heap.size=w3.heap.size:=by omega
      have hw8:wr.heap.size<w3.heap.size:=HE3.out.lt;have hv8:¬wr.heap.size=w3.heap.size:=by omega
      have HX9:Hid (ExP (fun b=>w.heap.size+1<=b) (w3.alloc (.cells #[.int .i64 k1,.int .i64 n1,.string s1,.slice a1 len1 cap1] 31)) (ps.tail.length - p1.length+1) [.int .i64 y,.int .i64 0,.string ⟨#[]⟩,.slice (some ⟨w3.heap.size,0,none⟩) 1 1] (A3 y 0 [] [x1])):=ExP.node (s:= []) (by rw [HT.out.2];exact Ace hk2) (by decide) (by simp) (SlP.one (Bx.new w3 _ _) HS3.out (HX1.out.same (Ap.below (br0.alloc lr0 _)) lr0 lr0));have HLf:Hid (p1.length<ps.length/\ps.tail.length - p1.length+1<=ps.length - p1.length):=by have:=HL3.out;have:=HL2.out;unfold Hid;omega
      clear hb hrd hl1 hx1 hN HCS)
     all_goals go_wp2_with fail
     all_goals refine bodyPost_ret (v:= .agg #[.int .i64 y,.int .i64 0,.string ⟨#[]⟩,.slice (some ⟨w3.heap.size,0,none⟩) 1 1]) (by simp [results,results96,go_sem,j0,j1,j2,j3,hw9]) rfl ?_
     all_goals exact Rq HF.out HB3.out hlt hw9 HR3.out HLf.out.1 HX9.out HLf.out.2
  . have i1:¬(k:Int)<3:=by omega
    have hk3:k=3:=by omega
    have E1:Hid (Aj [45] ps=false):=HQ.out 0 (by omega);have E2:Hid (Aj [33] ps=false):=HQ.out 1 (by omega);have E3:Hid (Aj [36] ps=false):=HQ.out 2 (by omega);have HBr:Hid (But r r w wr):=HI.out.1;have HRr:Hid (Rdr r wr o ps):=HI.out.2.1;have HGr:Hid (Bx w.heap.size [.int .i64 0,.int .i64 0,.string ⟨#[]⟩,.slice none 0 0] 31 wr):=HI.out.2.2.1;have HSr:Hid (w.heap.size+1<=wr.heap.size):=HI.out.2.2.2;clear HQ HI hk2 hk hk3;cases ps with
    | nil =>
     have HC:Hid _:=Th r o wr HRr.out;have HE:Hid (opR (m+1) o [] = .error 5):=by unfold Hid;rw [Dv];simp [Aj]
     go_wp2_with fail
     refine Calls.mono HC.out ?_;rintro e w1 ⟨rfl,hb,hop⟩;have HO:Hid (But r r w w1/\Opn r w1 o):=⟨HBr.out.trans hb,hop⟩;clear hb hop HC;go_wp2_with fail
     refine⟨rfl,HO.out.1,?_⟩;rw [HE.out];exact⟨rfl,HO.out.2⟩
    | cons p q =>
     have HC:Hid _:=Lp r o p q wr HRr.out;have HFT:Hid (p.s.length<=6000/\(Lit.int .i64 p.n).wf=true):=HRr.out.fit p (List.mem_cons_self ..);go_wp2_with fail
     refine Calls.mono HC.out ?_;rintro e w1 ⟨rfl,hrd,hb⟩;have HR1:Hid (Rdr r w1 o q):=hrd;have HB1:Hid (But r r w w1):=HBr.out.trans hb;have HS1:Hid (w.heap.size+1<=w1.heap.size):=lq0 HSr.out hb.size;have HG1_0:Hid (Bx (w.heap.size) [.int .i64 0,.int .i64 0,.string ⟨#[]⟩,.slice none 0 0] 31 w1):=HGr.out.but hb (by have:=HSr.out;have:=hlt;omega);clear hb hrd HC;obtain⟨K,hK⟩:∃K,K=p.k:=⟨_,rfl⟩;obtain⟨S,hS⟩:∃S,S=bs p.s:=⟨_,rfl⟩;obtain⟨N,hNn⟩:∃N,N=p.n:=⟨_,rfl⟩;have HK:Hid (K=p.k/\S=bs p.s/\N=p.n):=⟨hK,hS,hNn⟩;rw [<-hK,<-hS,<-hNn];clear hK hS hNn;obtain⟨W1,hW⟩:∃W',W'=w1.alloc (.cells #[.int .i64 K,.string S,.int .i64 N] 91):=⟨_,rfl⟩;have HA:Hid (Below w1.heap.size w1 W1):=by rw [hW];exact br0.alloc lr0 _
     have HGn1:Hid (Bx w1.heap.size [.int .i64 K,.string S,.int .i64 N] 91 W1):=by rw [hW];exact Bx.new w1 _ _
     have HBb1:Hid (But r r w W1):=HB1.out.more HA.out;have HSb1:Hid (w.heap.size+1<=W1.heap.size):=lq0 HS1.out HA.out.size;have HRb1:Hid (Rdr r W1 o q):=HR1.out.below HA.out;have HWW:Hid (W1=_):=hW;have HGb1_0:Hid (Bx (w.heap.size) [.int .i64 0,.int .i64 0,.string ⟨#[]⟩,.slice none 0 0] 31 W1):=HG1_0.out.below HA.out;clear hW HA;have c0:=HGn1.out.cell 0;have c1:=HGn1.out.cell 1;have c2:=HGn1.out.cell 2;simp only [List.getElem?_cons_zero,List.getElem?_cons_succ] at c0 c1 c2
     by_cases hK2:K=2
     . have EA:Hid (opR (m+1) o (p :: q) = .ok (A3 1 p.n [] [],q)):=by unfold Hid;rw [Dv];simp [E1.out,E2.out,E3.out,<-HK.out.1,hK2]
       subst hK2;obtain⟨g0,g1,g2,g3,z0,z1,z2,z3⟩:=HG1_0.out.four;have hw9:w.heap.size<w1.heap.size:=HS1.out;have hv9:¬w.heap.size=w1.heap.size:=by omega
       have HX:Hid (ExP (fun b=>w.heap.size+1<=b) (w1.alloc (.cells #[.int .i64 2,.string S,.int .i64 N] 91)) 1 [.int .i64 1,.int .i64 N,.string ⟨#[]⟩,.slice none 0 0] (A3 1 p.n [] [])):=by rw [HK.out.2.2];exact ExP.leaf (s:= []) (by decide) HFT.out.2 (by simp)
       clear c0 c1 c2;go_wp2_with fail
       refine bodyPost_ret (v:= .agg #[.int .i64 1,.int .i64 N,.string ⟨#[]⟩,.slice none 0 0]) (by simp [results,results96,go_sem,g0,g1,g2,g3,hw9]) rfl ?_;exact Rq EA.out HB1.out hlt hw9 HR1.out (by simp) HX.out (by simp)
     have b2:(K == 2)=false:=by simpa using hK2
     by_cases hK3:K=3
     . have EA:Hid (opR (m+1) o (p :: q) = .ok (A3 2 0 p.s [],q)):=by unfold Hid;rw [Dv];simp [E1.out,E2.out,E3.out,<-HK.out.1,hK3]
       subst hK3;obtain⟨g0,g1,g2,g3,z0,z1,z2,z3⟩:=HG1_0.out.four;have hw9:w.heap.size<w1.heap.size:=HS1.out;have hv9:¬w.heap.size=w1.heap.size:=by omega
       have HX:Hid (ExP (fun b=>w.heap.size+1<=b) (w1.alloc (.cells #[.int .i64 3,.string S,.int .i64 N] 91)) 1 [.int .i64 2,.int .i64 0,.string S,.slice none 0 0] (A3 2 0 p.s [])):=by rw [HK.out.2.1];exact ExP.leaf (by decide) (by decide) HFT.out.1
       clear c0 c1 c2;go_wp2_with fail
       refine bodyPost_ret (v:= .agg #[.int .i64 2,.int .i64 0,.string S,.slice none 0 0]) (by simp [results,results96,go_sem,g0,g1,g2,g3,hw9]) rfl ?_;exact Rq EA.out HB1.out hlt hw9 HR1.out (by simp) HX.out (by simp)
     have b3:(K == 3)=false:=by simpa using hK3
     by_cases hK1:K=1
     . have EA:Hid (opR (m+1) o (p :: q)=B7 m o p.s q):=by unfold Hid;rw [Dv];simp [E1.out,E2.out,E3.out,<-HK.out.1,hK1]
       have HWW2:Hid (W1=w1.alloc (.cells #[.int .i64 K,.string S,.int .i64 N] 91)):=HWW.out;subst hK1;have HC:=HWO.out r o p.s q W1 HRb1.out HFT.out.1 (by simp at hm;omega);rw [<-HK.out.2.1] at HC;have HC:Hid _:=HC;clear c0 c1 c2;go_wp2_with fail
       rw [<-HWW2.out];clear HWW2 HWW;refine Calls.mono HC.out ?_;rintro e w2 ⟨hb,hr⟩;have HB2:Hid (But r r w w2):=HBb1.out.trans hb;have HS2:Hid (w.heap.size+1<=w2.heap.size):=lq0 HSb1.out hb.size;have HG2_0:Hid (Bx (w.heap.size) [.int .i64 0,.int .i64 0,.string ⟨#[]⟩,.slice none 0 0] 31 w2):=HGb1_0.out.but hb (by have:=HSb1.out;have:=hlt;omega);have HG2_1:Hid (Bx (w1.heap.size) [.int .i64 1,.string S,.int .i64 N] 91 w2):=HGn1.out.but hb (by have:=HSb1.out;have:=hlt;have:=HS1.out;omega);rcases A6 (B7 m o p.s q) with⟨er,hN⟩ | ⟨x,p1,hN⟩
       . rw [hN] at hr;obtain⟨rfl,hop⟩:=hr;have HE:Hid (opR (m+1) o (p :: q) = .error er):=by unfold Hid;rw [EA.out,hN]
         have HO:Hid (Opn r w2 o):=hop;clear hb hop hN HC;go_wp2_with fail
         refine⟨rfl,HB2.out,?_⟩;rw [HE.out];exact⟨rfl,HO.out⟩
       rw [hN] at hr;obtain⟨v,rfl,hrd,hl1,cs1,rfl,hx1⟩:=hr;obtain⟨k1,n1,s1,a1,len1,cap1,rfl⟩:=hx1.shape;have HE:Hid (opR (m+1) o (p :: q) = .ok (x,p1)):=by unfold Hid;rw [EA.out,hN]
       have HX1:Hid (ExP (fun b=>w.heap.size+1<=b) w2 (q.length+1 - p1.length) [.int .i64 k1,.int .i64 n1,.string s1,.slice a1 len1 cap1] x):=hx1.same (Ap.refl _ _) HSb1.out lr0;have HR2:Hid (Rdr r w2 o p1):=hrd;have HL:Hid (p1.length<q.length+1):=hl1;clear hb hrd hl1 hx1 hN HC;obtain⟨g0,g1,g2,g3,z0,z1,z2,z3⟩:=HG2_0.out.four;go_wp2_with fail
       refine bodyPost_ret (v:= .agg #[.int .i64 k1,.int .i64 n1,.string s1,.slice a1 len1 cap1]) (by simp [results,results96,go_sem,g0,g1,g2,g3]) rfl ?_;exact Lr HE.out HB2.out hlt HR2.out HL.out HX1.out lr0
     have b1:(K == 1)=false:=by simpa using hK1
     have HST:Hid (S.toList=p.s):=by unfold Hid;rw [HK.out.2.1,B5]
     by_cases h40:p.s = [40]
     . have EA:Hid (opR (m+1) o (p :: q)=match Ax m o q with
        | .error e=> .error e
        | .ok (x,r1)=>match A8 [41] r1 with
         | .error e=> .error e
         | .ok (_,r2)=> .ok (x,r2)):=by unfold Hid;rw [Dv];simp [E1.out,E2.out,E3.out,<-HK.out.1,hK1,hK2,hK3,h40]
       have b4:(S.toList == [40])=true:=by rw [HST.out,h40];rfl
       have HWW2:Hid (W1=w1.alloc (.cells #[.int .i64 K,.string S,.int .i64 N] 91)):=HWW.out;clear c0 c1 c2 h40;go_wp2_with fail
       rw [<-HWW2.out];clear HWW2 HWW;refine (Af 4 _).mono ?_;rintro e w2 ⟨rfl,he⟩;subst he;have HC:Hid _:=HWH.out r o q w2 HRb1.out (by simp at hm;omega);go_wp2_with fail
       refine Calls.mono HC.out ?_;rintro e w3 ⟨hb,hr⟩;have HB3:Hid (But r r w w3):=HBb1.out.trans hb;have HS3:Hid (w.heap.size+1<=w3.heap.size):=lq0 HSb1.out hb.size;have HG3_0:Hid (Bx (w.heap.size) [.int .i64 0,.int .i64 0,.string ⟨#[]⟩,.slice none 0 0] 31 w3):=HGb1_0.out.but hb (by have:=HSb1.out;have:=hlt;omega);have HG3_1:Hid (Bx (w1.heap.size) [.int .i64 K,.string S,.int .i64 N] 91 w3):=HGn1.out.but hb (by have:=HSb1.out;have:=hlt;have:=HS1.out;omega);rcases A6 (Ax m o q) with⟨er,hN⟩ | ⟨x,p1,hN⟩
       . rw [hN] at hr;obtain⟨rfl,hop⟩:=hr;have HE:Hid (opR (m+1) o (p :: q) = .error er):=by unfold Hid;rw [EA.out];simp only [hN]
         have HO:Hid (Opn r w3 o):=hop;clear hb hop hN HC;go_wp2_with fail
         refine⟨rfl,HB3.out,?_⟩;rw [HE.out];exact⟨rfl,HO.out⟩
       have E3:Hid (Ax m o q = .ok (x,p1)):=hN;rw [hN] at hr;obtain⟨v,rfl,hrd,hk⟩:=hr;have HR3:Hid (Rdr r w3 o p1):=hrd;clear hrd hN HC;obtain⟨hl1,cs1,rfl,hx1⟩:=hk;obtain⟨k1,n1,s1,a1,len1,cap1,rfl⟩:=hx1.shape;have L3:Hid (p1.length<q.length):=hl1;have X1:Hid (ExP (fun b=>w.heap.size+1<=b) w3 (q.length - p1.length) [.int .i64 k1,.int .i64 n1,.string s1,.slice a1 len1 cap1] x):=hx1.same (Ap.refl _ _) (by have:=HSb1.out;omega) lr0;clear hb hl1 hx1;obtain⟨W3,hW⟩:∃W',W'=w3.alloc (.cells #[.int .i64 k1,.int .i64 n1,.string s1,.slice a1 len1 cap1] 31):=⟨_,rfl⟩;have HA:Hid (Below w3.heap.size w3 W3):=by rw [hW];exact br0.alloc lr0 _
       have HGn3:Hid (Bx w3.heap.size [.int .i64 k1,.int .i64 n1,.string s1,.slice a1 len1 cap1] 31 W3):=by rw [hW];exact Bx.new w3 _ _
       have HBb3:Hid (But r r w W3):=HB3.out.more HA.out;have HSb3:Hid (w.heap.size+1<=W3.heap.size):=lq0 HS3.out HA.out.size;have HRb3:Hid (Rdr r W3 o p1):=HR3.out.below HA.out;have HWW:Hid (W3=_):=hW;have HGb3_0:Hid (Bx (w.heap.size) [.int .i64 0,.int .i64 0,.string ⟨#[]⟩,.slice none 0 0] 31 W3):=HG3_0.out.below HA.out;have HGb3_1:Hid (Bx (w1.heap.size) [.int .i64 K,.string S,.int .i64 N] 91 W3):=HG3_1.out.below HA.out;have HTb3_0:Hid (ExP (fun b=>w.heap.size+1<=b) W3 (q.length - p1.length) [.int .i64 k1,.int .i64 n1,.string s1,.slice a1 len1 cap1] x):=X1.out.same (Ap.below HA.out) lr0 lr0;clear hW HA;have HC:Hid _:=Du r o [41] p1 W3 HRb3.out;go_wp2_with fail
       rw [<-HWW.out];clear HWW;refine Calls.mono HC.out ?_;rintro e w4 ⟨hb,hr⟩;have HB4:Hid (But r r w w4):=HBb3.out.trans hb;have HS4:Hid (w.heap.size+1<=w4.heap.size):=lq0 HSb3.out hb.size;have HG4_0:Hid (Bx (w.heap.size) [.int .i64 0,.int .i64 0,.string ⟨#[]⟩,.slice none 0 0] 31 w4):=HGb3_0.out.but hb (by have:=HSb3.out;have:=hlt;omega);have HG4_1:Hid (Bx (w1.heap.size) [.int .i64 K,.string S,.int .i64 N] 91 w4):=HGb3_1.out.but hb (by have:=HSb3.out;have:=hlt;have:=HS1.out;omega);have HG4_2:Hid (Bx (w3.heap.size) [.int .i64 k1,.int .i64 n1,.string s1,.slice a1 len1 cap1] 31 w4):=HGn3.out.but hb (by have:=HSb3.out;have:=hlt;have:=HS3.out;omega);have HT4_0:Hid (ExP (fun b=>w.heap.size+1<=b) w4 (q.length - p1.length) [.int .i64 k1,.int .i64 n1,.string s1,.slice a1 len1 cap1] x):=HTb3_0.out.same (Ap.but hb (by omega)) lr0 lr0;rcases A6 (A8 [41] p1) with⟨er,hN⟩ | ⟨up2,p2,hN⟩
       . rw [hN] at hr;obtain⟨rfl,hop⟩:=hr;have HE:Hid (opR (m+1) o (p :: q) = .error er):=by unfold Hid;rw [EA.out];simp only [E3.out,hN]
         have HO:Hid (Opn r w4 o):=hop;clear hb hop hN HC;go_wp2_with fail
         refine⟨rfl,HB4.out,?_⟩;rw [HE.out];exact⟨rfl,HO.out⟩
       have E4:Hid (A8 [41] p1 = .ok (up2,p2)):=hN;rw [hN] at hr;obtain⟨v,rfl,hrd,hk⟩:=hr;have HR4:Hid (Rdr r w4 o p2):=hrd;clear hrd hN HC;have L4:Hid (p2.length+1=p1.length):=Br E4.out;obtain rfl:=hk;clear hb;obtain⟨q0,q1,q2,q3,-⟩:=HG4_2.out.four;obtain⟨g0,g1,g2,g3,z0,z1,z2,z3⟩:=HG4_0.out.four;have HE:Hid (opR (m+1) o (p :: q) = .ok (x,p2)):=by unfold Hid;rw [EA.out];simp only [E3.out,E4.out]
       have HX:Hid (ExP (fun b=>w.heap.size+1<=b) w4 (q.length - p1.length) [.int .i64 k1,.int .i64 n1,.string s1,.slice a1 len1 cap1] (x)):=HT4_0.out;have HL:Hid (p2.length<(q.length+1)/\q.length - p1.length<=(q.length+1) - p2.length):=by unfold Hid;have:=L3.out;have:=L4.out;omega
       go_wp2_with fail
       refine bodyPost_ret (v:= .agg #[.int .i64 k1,.int .i64 n1,.string s1,.slice a1 len1 cap1]) (by simp [results,results96,go_sem,g0,g1,g2,g3]) rfl ?_;exact Lr HE.out HB4.out hlt HR4.out HL.out.1 HX.out HL.out.2
     have EA:Hid (opR (m+1) o (p :: q) = .error 4):=by unfold Hid;rw [Dv];simp [E1.out,E2.out,E3.out,<-HK.out.1,hK1,hK2,hK3,h40]
     have b4:(S.toList == [40])=false:=by rw [HST.out];simpa using h40
     have HWW2:Hid (W1=w1.alloc (.cells #[.int .i64 K,.string S,.int .i64 N] 91)):=HWW.out;clear c0 c1 c2 h40;go_wp2_with fail
     rw [<-HWW2.out];clear HWW2 HWW;refine (Al 4 _).mono ?_;rintro e w2 ⟨rfl,rfl⟩;go_wp2_with fail
     refine⟨rfl,HBb1.out,?_⟩;rw [EA.out];exact⟨rfl,HRb1.out.opn⟩
end Go.Proofs.YtppcohadoilpgaaGreatDoor
