/-
  The maker's blocks, and sources. / The maker's sources.
-/
import Derived.Test.YtppcohadoilpgaaGreatDoorSrcF
namespace Go.Proofs.YtppcohadoilpgaaGreatDoor
open Go.ChangeShapes Go.WideShapes Go.ChangeAt Go.RowKit Go.Joins Go.Proofs.Tryz
set_option maxHeartbeats 4000000
set_option linter.unusedVariables false
set_option maxRecDepth 100000
theorem Vd (a b c d:Value) (w:World):(Instr.field 64 (.agg #[a,b,c,d]) 2).run prog w = .ok c w:=by kernel_rfl
theorem Abb (a b c d:Value) (w:World):(Instr.field 64 (.agg #[a,b,c,d]) 1).run prog w = .ok b w:=by kernel_rfl
theorem Oy (hS:MkS 2 995) (m:Nat) (hm0:0<m) (hm:m<=10) (r:Nat) (l:List Rw) (i:Nat) (b:Bool) (w:World) (hM:Mk r w l i) (hi:i+(1+m * 995)<=1000000) :
 Calls prog 27 #[.pointer (some ⟨r,0,none⟩),.int .i64 (m:Int),.bool b] w (Gw (GB b m) (1+m * 995) r l i w):=by
 obtain⟨x,hx⟩:∃x,x=Hb l i:=⟨_,rfl⟩;have HOK:Hid (x.ok):=by rw [hx];exact hM.ok i
 have HDR:Hid _:=K8 r l i w hM (by omega);rw [<-hx] at HDR;obtain⟨xk,xa,xb,xc⟩:=x;obtain⟨J,hJ⟩:∃J:Nat,J=Fi xb m:=⟨_,rfl⟩;have hJ2:J<m:=by rw [hJ];exact Eh _ hm0
 have HPJ:Hid (∀W:World,Calls prog 20 #[.int .i64 xb,.int .i64 (m:Int)] W fun e w'=>e = .returned (.int .i64 (J:Int))/\w'=W):=fun W=>by
  have h:=Fj xb m W HOK.out.2.2.1 hm0 (by omega);rw [hJ];exact h
 have c0:(-9223372036854775808:Int)<=1+(J:Int):=by omega
 have c1:1+(J:Int)<=9223372036854775807:=by omega
 have hfd:∀(a b c d:Value) (w:World),(Instr.field 64 (.agg #[a,b,c,d]) 2).run prog w = .ok c w:=Vd;have HI:Hid (i+(1+m * 995)<=1000000):=hi;clear hi hx hJ hM;go_enter func27,ntmps27
 go_wp2_with fail
 refine Calls.mono HDR.out ?_;rintro e w1 ⟨rfl,hM1,hb1⟩;have HM1:Hid (Mk r w1 l (i+1)):=hM1;have HB1:Hid (But r r w w1):=hb1;clear hM1 hb1 HDR;unfold rwV;go_wp2_with fail
 refine Calls.mono (HPJ.out _) ?_;rintro e w2 ⟨rfl,hw2⟩;rw [hw2];clear hw2 w2 HPJ hfd;go_wp2_with fail
 go_loopw [7,14] (fun v7 v14 wr=>∃(k:Nat) (T:ByteArray),k<=J+1/\v7 = .string T/\v14 = .int .i64 (k:Int)/\Hid ((∃s,T=bs s/\GL b k s)/\∃j,Mk r wr l j/\j<=i+1+k * 995/\But r r w wr)) (fun _ v14 _=>J+1 - (intOf v14).toNat)
 case atStart=>exact⟨0,_,by omega,rfl,rfl,⟨⟨_,rfl,GL.nil⟩,i+1,HM1.out,by omega,HB1.out⟩⟩
 case round =>
  obtain⟨k,T,hk,rfl,rfl,HR⟩:=hrel;have zT:T.size<=1000000:=by
   obtain⟨⟨s,hs,hg⟩,-⟩:=HR.out;have h1:=hg.len;rw [hs,Ba];have h2:k * 12801<=10 * 12801:=Nat.mul_le_mul_right _ (by omega);omega
  by_cases hlt:k<J+1
  . have i1:(k:Int)<1+(J:Int):=by omega
    have i2:(-9223372036854775808:Int)<=(k:Int)+1:=by omega
    have i3:(k:Int)+1<=9223372036854775807:=by omega
    obtain⟨j,hMj,hj,hbj⟩:=HR.out.2;have hkm:k * 995+995<=m * 995:=by
     have:(k+1) * 995<=m * 995:=Nat.mul_le_mul_right _ (by omega);omega
    have HC:Hid (Calls prog 43 #[.pointer (some ⟨r,0,none⟩),.int .i64 2,.bool b] wr (Gw (GS 2 b) 995 r l j wr)):=hS r l j b wr hMj (by have:=HI.out;omega);have HJ:Hid (j<=i+1+k * 995/\But r r w wr):=⟨hj,hbj⟩;clear hMj hj hbj hkm;go_wp2_with fail
    refine Calls.mono HC.out ?_;rintro e w3 ⟨s2,i3',rfl,hG2,hM3,hi3,hb3⟩;obtain⟨Z,hZ⟩:∃Z,Z=bs s2:=⟨_,rfl⟩;rw [<-hZ];have z2:Z.size<=12800:=by rw [hZ,Ba];exact hG2.len2
    have HN:Hid ((∃s,T ++ (Z ++ ⟨#[32]⟩)=bs s/\GL b (k+1) s)/\∃j,Mk r w3 l j/\j<=i+1+(k+1) * 995/\But r r w w3):=by
     obtain⟨⟨s,hs,hg⟩,-⟩:=HR.out;refine⟨⟨s ++ (s2 ++ [32]),by rw [hs,hZ,<-Fa,<-Fa];rfl,GL.snoc hg hG2⟩,i3',hM3,by have:=HJ.out.1;rw [Nat.succ_mul];omega,HJ.out.2.trans hb3⟩
    clear hG2 hM3 hi3 hb3 hZ HC HR HJ;go_wp2_with fail
    go_roundw
    case rel=>exact⟨k+1,_,by omega,rfl,by go_num,HN⟩
    case measure=>simp [intOf];omega
  . have i1:¬(k:Int)<1+(J:Int):=by omega
    have HE:Hid (Gw (GB b m) (1+m * 995) r l i w (.returned (.string (T ++ ⟨#[125,10]⟩))) wr):=by
     obtain⟨⟨s,hs,hg⟩,j,hMj,hj,hbj⟩:=HR.out;have hkm:k * 995<=m * 995:=Nat.mul_le_mul_right _ (by omega);exact⟨s ++ [125,10],j,by rw [hs,<-Fa];rfl,⟨k,s,by omega,by omega,hg,rfl⟩,hMj,by omega,hbj⟩
    clear HR;go_wp2_with fail
    go_ret
    exact HE.out
theorem Wy (hX:MkE 2 64) (hS:MkS 2 995) (l:List Rw) (v:Value) (w:World) (hv:RwA w w.heap.size v l) (hP:Pow w) :
 Calls prog 13 #[v] w fun e w'=>∃s,e = .returned (.string (bs s))/\Ok s/\Below w.heap.size w w':=by
 have HV:Hid (RwA w w.heap.size v l):=hv;obtain⟨a,cap,rfl,-,-,-⟩:=hv;obtain⟨r,hr⟩:∃r,r=w.heap.size:=⟨_,rfl⟩;obtain⟨W,hW⟩:∃W,W=w.alloc (.cells #[.slice a l.length cap,.int .i64 0,.int .i64 0] 74):=⟨_,rfl⟩;have HM:Hid (Mk r W l 0):=by
  have hb:Below w.heap.size w W:=by rw [hW];exact br0.alloc lr0 _
  have hc:∀k,W.cell? ⟨r,k,none⟩=(#[.slice a l.length cap,.int .i64 0,.int .i64 0]:Array Value)[k]? := fun k=>by rw [hW,hr];exact Ad0 w _ _ k
  have hf:∀k,W.frozen? ⟨r,k,none⟩=false:=fun k=>by rw [hW,hr];exact (Bx.new w [.slice a l.length cap,.int .i64 0,.int .i64 0] 74).thaw k
  exact⟨⟨_,hc 0,by rw [hr];exact HV.out.low fun k hk=>hb.block k hk⟩,hc 1,⟨0,hc 2⟩,hf 1,hf 2,by rw [hr];exact (D4.of hP).low fun k hk=>hb.block k hk⟩
 have HB:Hid (But r r W W):=But.refl _ _ _;have HL:Hid (∀w',But r r W w'->Below w.heap.size w w'):=fun w' hb=>by
  have h1:Below w.heap.size w W:=by rw [hW];exact br0.alloc lr0 _
  exact h1.trans (hb.below h1.size (by omega) (by omega))
 have HDR:Hid _:=K8 r l 0 W HM.out (by omega);have HWW:Hid (W=_):=hW;have HRR:Hid (r=_):=hr;have hfa:∀(a b c d:Value) (w:World),(Instr.field 64 (.agg #[a,b,c,d]) 1).run prog w = .ok b w:=Abb;obtain⟨x,hx⟩:∃x,x=Hb l 0:=⟨_,rfl⟩;have HOK:Hid (x.ok):=by rw [hx];exact HM.out.ok 0
 rw [<-hx] at HDR;obtain⟨xk,xa,xb,xc⟩:=x;obtain⟨J,hJ⟩:∃J:Nat,J=Fi xa 3:=⟨_,rfl⟩;have hJ2:J<3:=by rw [hJ];exact Eh _ (by decide)
 have HPJ:Hid (∀W:World,Calls prog 20 #[.int .i64 xa,.int .i64 3] W fun e w'=>e = .returned (.int .i64 (J:Int))/\w'=W):=fun W=>by
  have h:=Fj xa 3 W HOK.out.2.1 (by decide) (by decide);rw [hJ];exact h
 clear hW hr hP HV hx hJ HOK;go_enter func13,ntmps13
 go_wp2_with fail
 rw [<-HWW.out,<-HRR.out];refine Calls.mono HDR.out ?_;rintro e w1 ⟨rfl,hM1,hb1⟩;have HM1:Hid (Mk r w1 l 1):=hM1;have HB1:Hid (But r r W w1):=hb1;clear hM1 hb1 HDR HWW HRR HB HM;unfold rwV;go_wp2_with fail
 refine Calls.mono (HPJ.out _) ?_;rintro e w2 ⟨rfl,hw2⟩;rw [hw2];clear hw2 w2 HPJ;go_wp2_with fail
 go_loopw [4,12] (fun v4 v12 wr=>∃(k:Nat) (T:ByteArray),k<=J/\v4 = .string T/\v12 = .int .i64 (k:Int)/\Hid ((∃s,T=bs s/\GR k s)/\∃j,Mk r wr l j/\j<=1+k * 3981/\But r r W wr)) (fun _ v12 _=>J - (intOf v12).toNat)
 case atStart=>exact⟨0,_,by omega,rfl,rfl,⟨⟨_,rfl,GR.first⟩,1,HM1.out,by omega,HB1.out⟩⟩
 case round =>
  obtain⟨k,T,hk,rfl,rfl,HR⟩:=hrel;have zT:T.size<=1000000:=by
   obtain⟨⟨s,hs,hg⟩,-⟩:=HR.out;have h1:=hg.len;rw [hs,Ba];omega
  by_cases hlt:k<J
  . have i1:(k:Int)<(J:Int):=by omega
    have i2:(-9223372036854775808:Int)<=(k:Int)+1:=by omega
    have i3:(k:Int)+1<=9223372036854775807:=by omega
    obtain⟨j,hMj,hj,hbj⟩:=HR.out.2;have HC:Hid (Calls prog 27 #[.pointer (some ⟨r,0,none⟩),.int .i64 4,.bool true] wr (Gw (GB true 4) (1+4 * 995) r l j wr)):=Oy hS 4 (by decide) (by decide) r l j true wr hMj (by omega);have HJ:Hid (j<=1+k * 3981/\But r r W wr):=⟨hj,hbj⟩;clear hMj hj hbj;go_wp2_with fail
    refine Calls.mono HC.out ?_;rintro e w3 ⟨s2,i3',rfl,hG2,hM3,hi3,hb3⟩;obtain⟨Z,hZ⟩:∃Z,Z=bs s2:=⟨_,rfl⟩;rw [<-hZ];have z2:Z.size<=100000:=by rw [hZ,Ba];have:=hG2.len;omega
    have HN:Hid ((∃s,T ++ (⟨#[66,69,71,73,78,32]⟩ ++ Z)=bs s/\GR (k+1) s)/\∃j,Mk r w3 l j/\j<=1+(k+1) * 3981/\But r r W w3):=by
     obtain⟨⟨s,hs,hg⟩,-⟩:=HR.out;exact⟨⟨s ++ ([66,69,71,73,78,32] ++ s2),by rw [hs,hZ,<-Fa,<-Fa];rfl,GR.begin hg hG2⟩,i3',hM3,by have:=HJ.out.1;omega,HJ.out.2.trans hb3⟩
    clear hG2 hM3 hi3 hb3 hZ HC HR HJ;go_wp2_with fail
    go_roundw
    case rel=>exact⟨k+1,_,by omega,rfl,by go_num,HN⟩
    case measure=>simp [intOf];omega
  . have i1:¬(k:Int)<(J:Int):=by omega
    obtain⟨j,hMj,hj,hbj⟩:=HR.out.2;have HJ:Hid (j<=1+k * 3981/\But r r W wr):=⟨hj,hbj⟩;have HDR:Hid _:=K8 r l j wr hMj (by omega);obtain⟨x,hx⟩:∃x,x=Hb l j:=⟨_,rfl⟩;have HOK:Hid (x.ok):=by rw [hx];exact hMj.ok j
    rw [<-hx] at HDR;obtain⟨yk,ya,yb,yc⟩:=x;obtain⟨N,hN⟩:∃J:Nat,J=Fi ya 3:=⟨_,rfl⟩;have hN2:N<3:=by rw [hN];exact Eh _ (by decide)
    have HPN:Hid (∀W:World,Calls prog 20 #[.int .i64 ya,.int .i64 3] W fun e w'=>e = .returned (.int .i64 (N:Int))/\w'=W):=fun W=>by
     have h:=Fj ya 3 W HOK.out.2.1 (by decide) (by decide);rw [hN];exact h
    have c0:(-9223372036854775808:Int)<=1+(N:Int):=by omega
    have c1:1+(N:Int)<=9223372036854775807:=by omega
    have HK:Hid (k<=2):=by unfold Hid;omega
    clear hMj hj hbj hx hN HOK;go_wp2_with fail
    refine Calls.mono HDR.out ?_;rintro e w3 ⟨rfl,hM3,hb3⟩;have HR3:Hid ((∃s,T=bs s/\GR (k+0) s)/\∃j,Mk r w3 l j/\j<=10000+0 * 3051/\But r r W w3):=⟨HR.out.1,j+1,hM3,by have:=HJ.out.1;have:=HK.out;omega,HJ.out.2.trans hb3⟩;clear hM3 hb3 HDR HR HJ;unfold rwV;go_wp2_with fail
    refine Calls.mono (HPN.out _) ?_;rintro e w2 ⟨rfl,hw2⟩;rw [hw2];clear hw2 w2 HPN;go_wp2_with fail
    have hfb:∀(a b c d:Value) (w:World),(Instr.field 64 (.agg #[a,b,c,d]) 2).run prog w = .ok c w:=Vd
    go_loopw [4,25] (fun v4 v25 wr=>∃(q:Nat) (T:ByteArray),q<=N+1/\v4 = .string T/\v25 = .int .i64 (q:Int)/\Hid ((∃s,T=bs s/\GR (k+q) s)/\∃j,Mk r wr l j/\j<=10000+q * 3051/\But r r W wr)) (fun _ v25 _=>N+1 - (intOf v25).toNat)
    case atStart=>exact⟨0,_,by omega,rfl,rfl,HR3⟩
    case round =>
     obtain⟨q,T,hq,rfl,rfl,HR⟩:=hrel;have zT:T.size<=1000000:=by
      obtain⟨⟨s,hs,hg⟩,-⟩:=HR.out;have h1:=hg.len;have:=HK.out;rw [hs,Ba];omega
     clear HR3
     by_cases hlt:q<N+1
     . have i1:(q:Int)<1+(N:Int):=by omega
       have i2:(-9223372036854775808:Int)<=(q:Int)+1:=by omega
       have i3:(q:Int)+1<=9223372036854775807:=by omega
       obtain⟨j,hMj,hj,hbj⟩:=HR.out.2;have HJ:Hid (j<=10000+q * 3051/\But r r W wr/\q<3):=⟨hj,hbj,by omega⟩;have HDR:Hid _:=K8 r l j wr hMj (by omega);obtain⟨x,hx⟩:∃x,x=Hb l j:=⟨_,rfl⟩;have HOK:Hid (x.ok):=by rw [hx];exact hMj.ok j
       rw [<-hx] at HDR;obtain⟨zk,za,zb,zc⟩:=x;obtain⟨P,hP⟩:∃J:Int,J=((Fi zb 2:Nat):Int):=⟨_,rfl⟩;have HPP:Hid (∀W:World,Calls prog 20 #[.int .i64 zb,.int .i64 2] W fun e w'=>e = .returned (.int .i64 P)/\w'=W):=fun W=>by
        have h:=Fj zb 2 W HOK.out.2.2.1 (by decide) (by decide);rw [hP];exact h
       clear hMj hj hbj hx hP HOK;go_wp2_with fail
       refine Calls.mono HDR.out ?_;rintro e w3 ⟨rfl,hM3,hb3⟩;have HM3:Hid (Mk r w3 l (j+1)):=hM3;have HB3:Hid (But r r W w3):=HJ.out.2.1.trans hb3;clear hM3 hb3 HDR;unfold rwV;go_wp2_with fail
       refine Calls.mono (HPP.out _) ?_;rintro e w2 ⟨rfl,hw2⟩;rw [hw2];clear hw2 w2 HPP
       by_cases p0:P=0
       . have pb:(P == 0)=true:=by simpa using p0
         have HC:Hid (Calls prog 28 #[.pointer (some ⟨r,0,none⟩),.int .i64 2,.bool false] w3 (Gw (GE 2 false) 64 r l (j+1) w3)):=hX r l (j+1) false w3 HM3.out (by have:=HJ.out;omega);go_wp2_with fail
         refine Calls.mono HC.out ?_;rintro e w4 ⟨s1,i4,rfl,hG1,hM4,hi4,hb4⟩;obtain⟨Y,hY⟩:∃Z,Z=bs s1:=⟨_,rfl⟩;rw [<-hY];have y2:Y.size<=320:=by rw [hY,Ba];exact hG1.len2
         have HY:Hid (Y=bs s1/\GE 2 false s1):=⟨hY,hG1⟩;have HM4:Hid (Mk r w4 l i4/\i4<=j+65/\But r r W w4):=⟨hM4,by omega,HB3.out.trans hb4⟩;have HD:Hid (Calls prog 27 #[.pointer (some ⟨r,0,none⟩),.int .i64 3,.bool false] w4 (Gw (GB false 3) (1+3 * 995) r l i4 w4)):=Oy hS 3 (by decide) (by decide) r l i4 false w4 hM4 (by have:=HJ.out;omega);clear hY hG1 hM4 hi4 hb4 HC;go_wp2_with fail
         refine Calls.mono HD.out ?_;rintro e w5 ⟨s2,i5,rfl,hG2,hM5,hi5,hb5⟩;obtain⟨Z,hZ⟩:∃Z,Z=bs s2:=⟨_,rfl⟩;rw [<-hZ];have z2:Z.size<=100000:=by rw [hZ,Ba];have:=hG2.len;omega
         have HN:Hid ((∃s,T ++ (Y ++ ⟨#[32]⟩) ++ Z=bs s/\GR (k+(q+1)) s)/\∃j,Mk r w5 l j/\j<=10000+(q+1) * 3051/\But r r W w5):=by
          obtain⟨⟨s,hs,hg⟩,-⟩:=HR.out;exact⟨⟨s ++ (s1 ++ [32]) ++ s2,by rw [hs,hZ,HY.out.1,<-Fa,<-Fa,<-Fa];rfl,GR.pat hg HY.out.2 hG2⟩,i5,hM5,by have:=HJ.out.1;have:=HM4.out.2.1;omega,HM4.out.2.2.trans hb5⟩
         clear hG2 hM5 hi5 hb5 hZ HD HR HJ HM3 HB3 HM4 HY;go_wp2_with fail
         go_roundw
         case rel=>exact⟨q+1,_,by omega,rfl,by go_num,HN⟩
         case measure=>simp [intOf];omega
       . have pb:(P == 0)=false:=by simpa using p0
         have HD:Hid (Calls prog 27 #[.pointer (some ⟨r,0,none⟩),.int .i64 3,.bool false] w3 (Gw (GB false 3) (1+3 * 995) r l (j+1) w3)):=Oy hS 3 (by decide) (by decide) r l (j+1) false w3 HM3.out (by have:=HJ.out;omega);go_wp2_with fail
         refine Calls.mono HD.out ?_;rintro e w5 ⟨s2,i5,rfl,hG2,hM5,hi5,hb5⟩;obtain⟨Z,hZ⟩:∃Z,Z=bs s2:=⟨_,rfl⟩;rw [<-hZ];have z2:Z.size<=100000:=by rw [hZ,Ba];have:=hG2.len;omega
         have HN:Hid ((∃s,T ++ Z=bs s/\GR (k+(q+1)) s)/\∃j,Mk r w5 l j/\j<=10000+(q+1) * 3051/\But r r W w5):=by
          obtain⟨⟨s,hs,hg⟩,-⟩:=HR.out;exact⟨⟨s ++ s2,by rw [hs,hZ,<-Fa],GR.main hg hG2⟩,i5,hM5,by have:=HJ.out.1;omega,HB3.out.trans hb5⟩
         clear hG2 hM5 hi5 hb5 hZ HD HR HJ HM3 HB3;go_wp2_with fail
         go_roundw
         case rel=>exact⟨q+1,_,by omega,rfl,by go_num,HN⟩
         case measure=>simp [intOf];omega
     . have i1:¬(q:Int)<1+(N:Int):=by omega
       have HE:Hid (∃s,Ending.returned (.string (T ++ ⟨#[69,78,68,32,123,32,112,114,105,110,116,32,120,44,32,121,44,32,122,44,32,115,101,101,100,59,32,102,111,114,32,40,107,32,105,110,32,98,41,32,123,32,112,114,105,110,116,32,107,44,32,98,91,107,93,59,32,125,32,125,10]⟩)) = .returned (.string (bs s))/\Ok s/\Below w.heap.size w wr):=by
        obtain⟨⟨s,hs,hg⟩,j,hMj,hj,hbj⟩:=HR.out;exact⟨s ++ Aed,by rw [hs,<-Fa];rfl,⟨k+q,s,by have:=HK.out;omega,hg,rfl⟩,HL.out wr hbj⟩
       clear HR;go_wp2_with fail
       go_ret
       exact HE.out
end Go.Proofs.YtppcohadoilpgaaGreatDoor
