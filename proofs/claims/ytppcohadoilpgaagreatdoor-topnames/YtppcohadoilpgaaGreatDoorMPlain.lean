/-
  The machine's plain statements, kind by kind.
-/
import Derived.Test.YtppcohadoilpgaaGreatDoorMStep
import Derived.Test.YtppcohadoilpgaaGreatDoorMPut2
import Derived.Test.YtppcohadoilpgaaGreatDoorMAsk9
import Derived.Test.YtppcohadoilpgaaGreatDoorMPrint
import Derived.Deep.RegionHeld2
import Derived.OwnWalk
namespace Go.Proofs.YtppcohadoilpgaaGreatDoor
open Go.ChangeShapes Go.WideShapes Go.ChangeAt Go.RowKit Go.Joins Go.Maps Go.Proofs.Tryz
set_option maxHeartbeats 4000000
set_option linter.unusedVariables false
set_option maxRecDepth 100000
theorem Ab7 (m:Nat) (c:Cx) (O:Own) (w:World) (s:Ms) (j:Nat) (a t:ByteArray) (es:List Ex) (bd el:List Sm) (cs:List Value) (hM:Mc c O w s (j+1)) (hx:SmA c.B w (m+1) cs (.mk 1 a t es bd el)) (hok:okS (m+1) (.mk 1 a t es bd el)) :
 Calls prog 148 #[.pointer (some ⟨c.r,0,none⟩),.agg cs.toArray] w (Df c O w j (A2 c.F m s (.mk 1 a t es bd el))):=by
 obtain⟨v1,v2,v3,rfl,wk,wa,wt,⟨ea,ecap,rfl,hmax,hsl⟩,⟨a2,cap2,rfl,-,-⟩,⟨a3,cap3,rfl,-,-⟩⟩:=hx;obtain⟨-,-,hpa,hs2,ht2,hall,-,-⟩:=hok;obtain⟨R,hR⟩:∃R,R=A2 c.F m s (.mk 1 a t es bd el):=⟨_,rfl⟩;rw [<-hR];have HR0:Hid (R=orM s (Ai s m (es.getD 0 default)) fun v=> .go (Dz s a v) true):=by rw [hR];simp [A2,Hid]
 clear hR;have hll:es.length=1:=by have:=D9 hpa;simpa [Ek] using this
 obtain⟨b,off,rfl,hb,hi⟩:=hsl (by omega);have hbw:b<w.heap.size:=by have:=hM.lo.size;omega
 have hbn:¬b=w.heap.size:=by omega
 rw [hll];obtain⟨k0,n0,s0,a0,len0,cap0,p00,p01,p02,p03,hx0,hm0⟩:=kid hi 0 (off) (by omega) (by omega);have ok0:okE m (es.getD 0 default):=hall _ hm0;have hrw:c.r<w.heap.size:=hM.lt;have hrn:¬c.r=w.heap.size:=by omega
 have HSB:Hid (c.B<=w.heap.size):=hM.lo.size;have HF:Hid (Fit s):=hM.fit;show Calls prog 148 #[.pointer (some ⟨c.r,0,none⟩),.agg #[.int .i64 1,.string a,.string t,.slice (some ⟨b,off,none⟩) 1 ecap,.slice a2 bd.length cap2,.slice a3 el.length cap3]] w _;obtain⟨W,hW⟩:∃W,W=w.alloc (.cells #[.int .i64 1,.string a,.string t,.slice (some ⟨b,off,none⟩) 1 ecap,.slice a2 bd.length cap2,.slice a3 el.length cap3] 54):=⟨_,rfl⟩;have HW:Hid (Below w.heap.size w W):=by rw [hW];exact br0.alloc lr0 _
 have HM:Hid (Mc c O W s (j+1)):=hM.below HW.out;have HWW:Hid (W=_):=hW;have hws:w.heap.size<W.heap.size:=by rw [hW];simp
 have l1:W.cell? ⟨w.heap.size,1,none⟩=some (.string a):=by rw [hW];simp [go_sem]
 have l2:W.cell? ⟨w.heap.size,2,none⟩=some (.string t):=by rw [hW];simp [go_sem]
 have l3:W.cell? ⟨w.heap.size,3,none⟩=some (.slice (some ⟨b,off,none⟩) 1 ecap):=by rw [hW];simp [go_sem]
 have hbW:b<W.heap.size:=Nat.lt_trans hbw hws;have q00:W.cell? ⟨b,off,none⟩=some (.int .i64 k0):=(HW.out.cell (p:=⟨b,off,none⟩) hbw).trans p00;have q01:W.cell? ⟨b,off+1,none⟩=some (.int .i64 n0):=(HW.out.cell (p:=⟨b,off+1,none⟩) hbw).trans p01;have q02:W.cell? ⟨b,off+2,none⟩=some (.string s0):=(HW.out.cell (p:=⟨b,off+2,none⟩) hbw).trans p02;have q03:W.cell? ⟨b,off+3,none⟩=some (.slice a0 len0 cap0):=(HW.out.cell (p:=⟨b,off+3,none⟩) hbw).trans p03;have hX0:ExA c.B W m [.int .i64 k0,.int .i64 n0,.string s0,.slice a0 len0 cap0] (es.getD 0 default):=hx0.out.below (HW.out.mono HSB.out);obtain⟨bv,bl,c0,c1,hbv,hbl⟩:=HM.out.maps;have hrW:c.r<W.heap.size:=HM.out.lt;have HC:=hid ((Hw m).as c O W.drew s (j+1) _ _ (HM.out.below (Ad _)) (hX0.below ((Ad W).mono HM.out.lo.size)) ok0);have HO0:Hid (okE m (es.getD 0 default)):=ok0
 have HBV:Hid (O bv=some .vars/\O w.heap.size=none/\O b=none):=⟨hbv,hM.top _ lr0,hM.low b hb⟩;have hvr:¬c.r=bv:=fun e=>by have h:=hM.own;rw [e,hbv] at h;cases h
 have hvb:¬b=bv:=fun e=>by have h:=HBV.out.2.2;rw [e,hbv] at h;cases h
 have hvw:¬w.heap.size=bv:=fun e=>by have h:=HBV.out.2.1;rw [e,hbv] at h;cases h
 clear hsl hall wk wa wt hM hx0 hm0 p00 p01 p02 p03 hi hb hll hW hX0 ok0 hpa c1 hbl hbv;go_enter func148,ntmps148
 go_wp2_with fail
 rw [<-HWW.out];clear HWW
 go_region_held2 (fun w'=>w'.cell? ⟨w.heap.size,1,none⟩=some (.string a)/\w'.cell? ⟨w.heap.size,3,none⟩=some (.slice (some ⟨b,off,none⟩) 1 ecap)/\w'.cell? ⟨b,off,none⟩=some (.int .i64 k0)/\w'.cell? ⟨b,off+1,none⟩=some (.int .i64 n0)/\w'.cell? ⟨b,off+2,none⟩=some (.string s0)/\w'.cell? ⟨b,off+3,none⟩=some (.slice a0 len0 cap0)/\w'.cell? ⟨c.r,0,none⟩=some (.map (some bv))) (go_keep) (first
  | (with_reducible refine Calls.mono HC.out ?_
     rintro e w1 ⟨hb1,hr⟩;have HBW1:Hid (Below W.heap.size W w1):=Aa (Ad _) hb1;have HB1:Hid (Below w.heap.size w w1):=Aa HW.out HBW1.out;have rl1:w1.cell? ⟨w.heap.size,1,none⟩=some (.string a):=(HBW1.out.cell (p:=⟨w.heap.size,1,none⟩) hws).trans l1;have rl3:w1.cell? ⟨w.heap.size,3,none⟩=some (.slice (some ⟨b,off,none⟩) 1 ecap):=(HBW1.out.cell (p:=⟨w.heap.size,3,none⟩) hws).trans l3;have rq00:w1.cell? ⟨b,off,none⟩=some (.int .i64 k0):=(HBW1.out.cell (p:=⟨b,off,none⟩) hbW).trans q00;have rq01:w1.cell? ⟨b,off+1,none⟩=some (.int .i64 n0):=(HBW1.out.cell (p:=⟨b,off+1,none⟩) hbW).trans q01;have rq02:w1.cell? ⟨b,off+2,none⟩=some (.string s0):=(HBW1.out.cell (p:=⟨b,off+2,none⟩) hbW).trans q02;have rq03:w1.cell? ⟨b,off+3,none⟩=some (.slice a0 len0 cap0):=(HBW1.out.cell (p:=⟨b,off+3,none⟩) hbW).trans q03
     have rc0:w1.cell? ⟨c.r,0,none⟩=some (.map (some bv)):=(HBW1.out.cell (p:=⟨c.r,0,none⟩) hrW).trans c0;rcases Bf (Ai s m (es.getD 0 default)) with⟨er,hN⟩ | ⟨u,hN⟩
     . rw [hN] at hr HR0;subst hr;have HOU:Hid (Ou c O w1 s.out s.left):=(HM.out.below HBW1.out).ou;clear hN hb1;go_wp2_with fail
       exact⟨rfl,Ak.stop (Bts.of_below HB1.out) HR0.out (Gr.refl _ _) HOU.out⟩
     have hU:u.ok:=B4 HF.out HO0.out hN;obtain⟨w2,hrun,h1,-,hMc⟩:=(HM.out.below HBW1.out).setVar (nm:=a) (by unfold maxLen;omega) hU rc0;rw [hN] at hr HR0;obtain⟨ut,un,us⟩:=u;simp only at hrun;have hr2:e = .returned (.agg #[.bool ut,.int .i64 un,.string us]):=hr;clear hr;subst hr2;have HM2:Hid (Mc c O w2 (Dz s a ⟨ut,un,us⟩) j):=hMc;have HR2:Hid (R = .go (Dz s a ⟨ut,un,us⟩) true):=HR0.out;have HBT:Hid (Bts O w w2):=(Bts.of_below (O:=O) HB1.out).trans (h1.bts HBV.out.1) (Gr.refl _ _);have hz1:W.heap.size<=w1.heap.size:=HBW1.out.size;have vl1:w2.cell? ⟨w.heap.size,1,none⟩=some (.string a):=(World.cell?_of_block (a:=⟨w.heap.size,1,none⟩) (h1.block _ (by simp only;omega) (by simp only;assumption))).trans rl1
     have vl3:w2.cell? ⟨w.heap.size,3,none⟩=some (.slice (some ⟨b,off,none⟩) 1 ecap):=(World.cell?_of_block (a:=⟨w.heap.size,3,none⟩) (h1.block _ (by simp only;omega) (by simp only;assumption))).trans rl3;have vq00:w2.cell? ⟨b,off,none⟩=some (.int .i64 k0):=(World.cell?_of_block (a:=⟨b,off,none⟩) (h1.block _ (by simp only;omega) (by simp only;assumption))).trans rq00;have vq01:w2.cell? ⟨b,off+1,none⟩=some (.int .i64 n0):=(World.cell?_of_block (a:=⟨b,off+1,none⟩) (h1.block _ (by simp only;omega) (by simp only;assumption))).trans rq01;have vq02:w2.cell? ⟨b,off+2,none⟩=some (.string s0):=(World.cell?_of_block (a:=⟨b,off+2,none⟩) (h1.block _ (by simp only;omega) (by simp only;assumption))).trans rq02;have vq03:w2.cell? ⟨b,off+3,none⟩=some (.slice a0 len0 cap0):=(World.cell?_of_block (a:=⟨b,off+3,none⟩) (h1.block _ (by simp only;omega) (by simp only;assumption))).trans rq03
     have vc0:w2.cell? ⟨c.r,0,none⟩=some (.map (some bv)):=(World.cell?_of_block (a:=⟨c.r,0,none⟩) (h1.block _ (by simp only;omega) (by simp only;assumption))).trans rc0;clear hN hb1 hU hMc h1 HC))
 go_wp2_with fail
 go_end0
 exact Ak.go (K:=fun _=> .tuple #[]) HBT.out HR2.out (Gr.refl _ _) HM2.out
theorem Ab8 (m:Nat) (c:Cx) (O:Own) (w:World) (s:Ms) (j:Nat) (a t:ByteArray) (es:List Ex) (bd el:List Sm) (cs:List Value) (hM:Mc c O w s (j+1)) (hx:SmA c.B w (m+1) cs (.mk 2 a t es bd el)) (hok:okS (m+1) (.mk 2 a t es bd el)) :
 Calls prog 148 #[.pointer (some ⟨c.r,0,none⟩),.agg cs.toArray] w (Df c O w j (A2 c.F m s (.mk 2 a t es bd el))):=by
 obtain⟨v1,v2,v3,rfl,wk,wa,wt,⟨ea,ecap,rfl,hmax,hsl⟩,⟨a2,cap2,rfl,-,-⟩,⟨a3,cap3,rfl,-,-⟩⟩:=hx;obtain⟨-,-,hpa,hs2,ht2,hall,-,-⟩:=hok;obtain⟨R,hR⟩:∃R,R=A2 c.F m s (.mk 2 a t es bd el):=⟨_,rfl⟩;rw [<-hR];have HR0:Hid (R=orM s (Ai s m (es.getD 0 default)) fun x=>orM s (Ai s m (es.getD 1 default)) fun v=>Dl s a x.key v):=by rw [hR];simp [A2,Hid]
 clear hR;have hll:es.length=2:=by have:=D9 hpa;simpa [Ek] using this
 obtain⟨b,off,rfl,hb,hi⟩:=hsl (by omega);have hbw:b<w.heap.size:=by have:=hM.lo.size;omega
 have hbn:¬b=w.heap.size:=by omega
 rw [hll];obtain⟨k0,n0,s0,a0,len0,cap0,p00,p01,p02,p03,hx0,hm0⟩:=kid hi 0 (off) (by omega) (by omega);have ok0:okE m (es.getD 0 default):=hall _ hm0;obtain⟨k1,n1,s1,a1,len1,cap1,p10,p11,p12,p13,hx1,hm1⟩:=kid hi 1 (off+4) (by omega) (by omega);have ok1:okE m (es.getD 1 default):=hall _ hm1;have hrw:c.r<w.heap.size:=hM.lt;have hrn:¬c.r=w.heap.size:=by omega
 have HSB:Hid (c.B<=w.heap.size):=hM.lo.size;have HF:Hid (Fit s):=hM.fit;show Calls prog 148 #[.pointer (some ⟨c.r,0,none⟩),.agg #[.int .i64 2,.string a,.string t,.slice (some ⟨b,off,none⟩) 2 ecap,.slice a2 bd.length cap2,.slice a3 el.length cap3]] w _;obtain⟨W,hW⟩:∃W,W=w.alloc (.cells #[.int .i64 2,.string a,.string t,.slice (some ⟨b,off,none⟩) 2 ecap,.slice a2 bd.length cap2,.slice a3 el.length cap3] 54):=⟨_,rfl⟩;have HW:Hid (Below w.heap.size w W):=by rw [hW];exact br0.alloc lr0 _
 have HM:Hid (Mc c O W s (j+1)):=hM.below HW.out;have HWW:Hid (W=_):=hW;have hws:w.heap.size<W.heap.size:=by rw [hW];simp
 have l1:W.cell? ⟨w.heap.size,1,none⟩=some (.string a):=by rw [hW];simp [go_sem]
 have l2:W.cell? ⟨w.heap.size,2,none⟩=some (.string t):=by rw [hW];simp [go_sem]
 have l3:W.cell? ⟨w.heap.size,3,none⟩=some (.slice (some ⟨b,off,none⟩) 2 ecap):=by rw [hW];simp [go_sem]
 have hbW:b<W.heap.size:=Nat.lt_trans hbw hws;have q00:W.cell? ⟨b,off,none⟩=some (.int .i64 k0):=(HW.out.cell (p:=⟨b,off,none⟩) hbw).trans p00;have q01:W.cell? ⟨b,off+1,none⟩=some (.int .i64 n0):=(HW.out.cell (p:=⟨b,off+1,none⟩) hbw).trans p01;have q02:W.cell? ⟨b,off+2,none⟩=some (.string s0):=(HW.out.cell (p:=⟨b,off+2,none⟩) hbw).trans p02;have q03:W.cell? ⟨b,off+3,none⟩=some (.slice a0 len0 cap0):=(HW.out.cell (p:=⟨b,off+3,none⟩) hbw).trans p03;have hX0:ExA c.B W m [.int .i64 k0,.int .i64 n0,.string s0,.slice a0 len0 cap0] (es.getD 0 default):=hx0.out.below (HW.out.mono HSB.out);have q10:W.cell? ⟨b,off+4,none⟩=some (.int .i64 k1):=(HW.out.cell (p:=⟨b,off+4,none⟩) hbw).trans p10;have q11:W.cell? ⟨b,off+5,none⟩=some (.int .i64 n1):=(HW.out.cell (p:=⟨b,off+5,none⟩) hbw).trans p11;have q12:W.cell? ⟨b,off+6,none⟩=some (.string s1):=(HW.out.cell (p:=⟨b,off+6,none⟩) hbw).trans p12
 have q13:W.cell? ⟨b,off+7,none⟩=some (.slice a1 len1 cap1):=(HW.out.cell (p:=⟨b,off+7,none⟩) hbw).trans p13;have hX1:ExA c.B W m [.int .i64 k1,.int .i64 n1,.string s1,.slice a1 len1 cap1] (es.getD 1 default):=hx1.out.below (HW.out.mono HSB.out);have hrW:c.r<W.heap.size:=HM.out.lt;have HOB:Hid (O w.heap.size=none/\O b=none):=⟨hM.top _ lr0,hM.low b hb⟩;have HC:=hid (J3 (j':=j) (R0:=R) (K0:=fun _=> .tuple #[]) (Hp (Hw m) c O W s (j+1) _ _ HM.out hX0 ok0) HW.out HM.out (fun er h=>by rw [HR0.out,h];rfl));have HC2:=hid (fun (Z:World) (hbZ:Below W.heap.size W Z)=>(Hw m).as c O Z s (j+1) _ _ (HM.out.below hbZ) (hX1.below (hbZ.mono HM.out.lo.size)) ok1);have HO0:Hid (okE m (es.getD 0 default)/\okE m (es.getD 1 default)):=⟨ok0,ok1⟩;clear hsl hall wk wa wt hM hx0 hm0 hx1 hm1 hi hb hll hW hX0 hX1 ok0 ok1 hpa;go_enter func148,ntmps148
 go_wp2_with fail
 rw [<-HWW.out];clear HWW;refine Calls.mono HC.out ?_;rintro e w1 (⟨er,rfl,HE⟩ | ⟨x,rfl,HX,HB1,HBW1,HM1⟩)
 . go_wp2_with fail
   exact⟨rfl,HE.out⟩
 have HV:Hid x.ok:=B4 HF.out HO0.out.1 HX.out;have HR1:Hid (R=orM s (Ai s m (es.getD 1 default)) fun v=>Dl s a x.key v):=by unfold Hid;rw [HR0.out,HX.out];rfl
 obtain⟨KY,hKY⟩:∃K,K=x.str:=⟨_,rfl⟩;have HKY:Hid (KY=x.str/\KY.size<=200):=⟨hKY,by rw [hKY];exact HV.out.len⟩;rw [<-hKY];have rl1:w1.cell? ⟨w.heap.size,1,none⟩=some (.string a):=(HBW1.out.cell (p:=⟨w.heap.size,1,none⟩) hws).trans l1;have rl3:w1.cell? ⟨w.heap.size,3,none⟩=some (.slice (some ⟨b,off,none⟩) 2 ecap):=(HBW1.out.cell (p:=⟨w.heap.size,3,none⟩) hws).trans l3;have rq00:w1.cell? ⟨b,off,none⟩=some (.int .i64 k0):=(HBW1.out.cell (p:=⟨b,off,none⟩) hbW).trans q00;have rq01:w1.cell? ⟨b,off+1,none⟩=some (.int .i64 n0):=(HBW1.out.cell (p:=⟨b,off+1,none⟩) hbW).trans q01;have rq02:w1.cell? ⟨b,off+2,none⟩=some (.string s0):=(HBW1.out.cell (p:=⟨b,off+2,none⟩) hbW).trans q02;have rq03:w1.cell? ⟨b,off+3,none⟩=some (.slice a0 len0 cap0):=(HBW1.out.cell (p:=⟨b,off+3,none⟩) hbW).trans q03;have rq10:w1.cell? ⟨b,off+4,none⟩=some (.int .i64 k1):=(HBW1.out.cell (p:=⟨b,off+4,none⟩) hbW).trans q10
 have rq11:w1.cell? ⟨b,off+5,none⟩=some (.int .i64 n1):=(HBW1.out.cell (p:=⟨b,off+5,none⟩) hbW).trans q11;have rq12:w1.cell? ⟨b,off+6,none⟩=some (.string s1):=(HBW1.out.cell (p:=⟨b,off+6,none⟩) hbW).trans q12;have rq13:w1.cell? ⟨b,off+7,none⟩=some (.slice a1 len1 cap1):=(HBW1.out.cell (p:=⟨b,off+7,none⟩) hbW).trans q13;have HC3:=hid (J3 (j':=j) (R0:=R) (K0:=fun _=> .tuple #[]) (HC2.out w1.drew (Aa HBW1.out (Ad _))) (Aa HB1.out (Ad _)) (HM1.out.below (Ad _)) (fun er h=>by rw [HR1.out,h];rfl));clear HC hKY HX HC2;go_wp2_with fail
 go_region_held2 (fun w'=>w'.cell? ⟨w.heap.size,1,none⟩=some (.string a)/\w'.cell? ⟨w.heap.size,3,none⟩=some (.slice (some ⟨b,off,none⟩) 2 ecap)/\w'.cell? ⟨b,off,none⟩=some (.int .i64 k0)/\w'.cell? ⟨b,off+1,none⟩=some (.int .i64 n0)/\w'.cell? ⟨b,off+2,none⟩=some (.string s0)/\w'.cell? ⟨b,off+3,none⟩=some (.slice a0 len0 cap0)/\w'.cell? ⟨b,off+4,none⟩=some (.int .i64 k1)/\w'.cell? ⟨b,off+5,none⟩=some (.int .i64 n1)/\w'.cell? ⟨b,off+6,none⟩=some (.string s1)/\w'.cell? ⟨b,off+7,none⟩=some (.slice a1 len1 cap1)) (go_keep) (first
  | (with_reducible refine Calls.mono HC3.out ?_
     rintro e w2 (⟨er,rfl,HE⟩ | ⟨u,rfl,HU,HB2,HBW2,HM2⟩)
     . go_wp2_with fail
       exact⟨rfl,HE.out⟩
     have hU:u.ok:=B4 HF.out HO0.out.2 HU.out;have HBWW2:Hid (Below W.heap.size W w2):=Aa (Aa HBW1.out (Ad _)) HBW2.out;have tl1:w2.cell? ⟨w.heap.size,1,none⟩=some (.string a):=(HBWW2.out.cell (p:=⟨w.heap.size,1,none⟩) hws).trans l1;have tl3:w2.cell? ⟨w.heap.size,3,none⟩=some (.slice (some ⟨b,off,none⟩) 2 ecap):=(HBWW2.out.cell (p:=⟨w.heap.size,3,none⟩) hws).trans l3;have tq00:w2.cell? ⟨b,off,none⟩=some (.int .i64 k0):=(HBWW2.out.cell (p:=⟨b,off,none⟩) hbW).trans q00;have tq01:w2.cell? ⟨b,off+1,none⟩=some (.int .i64 n0):=(HBWW2.out.cell (p:=⟨b,off+1,none⟩) hbW).trans q01;have tq02:w2.cell? ⟨b,off+2,none⟩=some (.string s0):=(HBWW2.out.cell (p:=⟨b,off+2,none⟩) hbW).trans q02;have tq03:w2.cell? ⟨b,off+3,none⟩=some (.slice a0 len0 cap0):=(HBWW2.out.cell (p:=⟨b,off+3,none⟩) hbW).trans q03;have tq10:w2.cell? ⟨b,off+4,none⟩=some (.int .i64 k1):=(HBWW2.out.cell (p:=⟨b,off+4,none⟩) hbW).trans q10
     have tq11:w2.cell? ⟨b,off+5,none⟩=some (.int .i64 n1):=(HBWW2.out.cell (p:=⟨b,off+5,none⟩) hbW).trans q11;have tq12:w2.cell? ⟨b,off+6,none⟩=some (.string s1):=(HBWW2.out.cell (p:=⟨b,off+6,none⟩) hbW).trans q12;have tq13:w2.cell? ⟨b,off+7,none⟩=some (.slice a1 len1 cap1):=(HBWW2.out.cell (p:=⟨b,off+7,none⟩) hbW).trans q13;have HR2:Hid (R=Dl s a KY.data.toList u):=by unfold Hid;rw [HR1.out,HU.out,HKY.out.1];rfl
     have HP:=hid (Ahl c O w2 s j a KY u HM2.out hs2 HKY.out.2 hU);obtain⟨ut,un,us⟩:=u;unfold vlV at HP ⊢;clear HC3 HU hU)
  | (with_reducible refine Calls.mono HP.out ?_
     rintro e w3 hd;have HD:Hid (Df c O w j R e w3):=(hd.after HB2.out).same HR2.out;rcases hd.cases with⟨s9,er,h9,rfl⟩ | ⟨s9,b9,O',h9,rfl,hG,hMc⟩
     . clear hd h9;go_wp2_with fail
       exact⟨rfl,HD.out⟩
     have HBT:Hid (Bts O w2 w3):=hd.1;have ul1:w3.cell? ⟨w.heap.size,1,none⟩=some (.string a):=(HBT.out.cell (b:=w.heap.size) (lle hws HBWW2.out.size) HOB.out.1 _).trans tl1;have ul3:w3.cell? ⟨w.heap.size,3,none⟩=some (.slice (some ⟨b,off,none⟩) 2 ecap):=(HBT.out.cell (b:=w.heap.size) (lle hws HBWW2.out.size) HOB.out.1 _).trans tl3;have uq00:w3.cell? ⟨b,off,none⟩=some (.int .i64 k0):=(HBT.out.cell (b:=b) (lle hbW HBWW2.out.size) HOB.out.2 _).trans tq00;have uq01:w3.cell? ⟨b,off+1,none⟩=some (.int .i64 n0):=(HBT.out.cell (b:=b) (lle hbW HBWW2.out.size) HOB.out.2 _).trans tq01;have uq02:w3.cell? ⟨b,off+2,none⟩=some (.string s0):=(HBT.out.cell (b:=b) (lle hbW HBWW2.out.size) HOB.out.2 _).trans tq02;have uq03:w3.cell? ⟨b,off+3,none⟩=some (.slice a0 len0 cap0):=(HBT.out.cell (b:=b) (lle hbW HBWW2.out.size) HOB.out.2 _).trans tq03
     have uq10:w3.cell? ⟨b,off+4,none⟩=some (.int .i64 k1):=(HBT.out.cell (b:=b) (lle hbW HBWW2.out.size) HOB.out.2 _).trans tq10;have uq11:w3.cell? ⟨b,off+5,none⟩=some (.int .i64 n1):=(HBT.out.cell (b:=b) (lle hbW HBWW2.out.size) HOB.out.2 _).trans tq11;have uq12:w3.cell? ⟨b,off+6,none⟩=some (.string s1):=(HBT.out.cell (b:=b) (lle hbW HBWW2.out.size) HOB.out.2 _).trans tq12;have uq13:w3.cell? ⟨b,off+7,none⟩=some (.slice a1 len1 cap1):=(HBT.out.cell (b:=b) (lle hbW HBWW2.out.size) HOB.out.2 _).trans tq13;clear hd h9 hG hMc HP))
 go_wp2_with fail
 go_end0
 exact HD.out
theorem Acb (m:Nat) (c:Cx) (O:Own) (w:World) (s:Ms) (j:Nat) (a t:ByteArray) (es:List Ex) (bd el:List Sm) (cs:List Value) (hM:Mc c O w s (j+1)) (hx:SmA c.B w (m+1) cs (.mk 9 a t es bd el)) (hok:okS (m+1) (.mk 9 a t es bd el)) :
 Calls prog 148 #[.pointer (some ⟨c.r,0,none⟩),.agg cs.toArray] w (Df c O w j (A2 c.F m s (.mk 9 a t es bd el))):=by
 obtain⟨v1,v2,v3,rfl,wk,wa,wt,⟨ea,ecap,rfl,hmax,hsl⟩,⟨a2,cap2,rfl,-,-⟩,⟨a3,cap3,rfl,-,-⟩⟩:=hx;obtain⟨-,-,hpa,hs2,ht2,hall,-,-⟩:=hok;obtain⟨R,hR⟩:∃R,R=A2 c.F m s (.mk 9 a t es bd el):=⟨_,rfl⟩;rw [<-hR];have HR0:Hid (R=orM s (Ai s m (es.getD 0 default)) fun x=> .go (Bm s a (Dy x.key (s.lists a))) true):=by rw [hR];simp [A2,Hid]
 clear hR;have hll:es.length=1:=by have:=D9 hpa;simpa [Ek] using this
 obtain⟨b,off,rfl,hb,hi⟩:=hsl (by omega);have hbw:b<w.heap.size:=by have:=hM.lo.size;omega
 have hbn:¬b=w.heap.size:=by omega
 rw [hll];obtain⟨k0,n0,s0,a0,len0,cap0,p00,p01,p02,p03,hx0,hm0⟩:=kid hi 0 (off) (by omega) (by omega);have ok0:okE m (es.getD 0 default):=hall _ hm0;have hrw:c.r<w.heap.size:=hM.lt;have hrn:¬c.r=w.heap.size:=by omega
 have HSB:Hid (c.B<=w.heap.size):=hM.lo.size;have HF:Hid (Fit s):=hM.fit;show Calls prog 148 #[.pointer (some ⟨c.r,0,none⟩),.agg #[.int .i64 9,.string a,.string t,.slice (some ⟨b,off,none⟩) 1 ecap,.slice a2 bd.length cap2,.slice a3 el.length cap3]] w _;obtain⟨W,hW⟩:∃W,W=w.alloc (.cells #[.int .i64 9,.string a,.string t,.slice (some ⟨b,off,none⟩) 1 ecap,.slice a2 bd.length cap2,.slice a3 el.length cap3] 54):=⟨_,rfl⟩;have HW:Hid (Below w.heap.size w W):=by rw [hW];exact br0.alloc lr0 _
 have HM:Hid (Mc c O W s (j+1)):=hM.below HW.out;have HWW:Hid (W=_):=hW;have hws:w.heap.size<W.heap.size:=by rw [hW];simp
 have l1:W.cell? ⟨w.heap.size,1,none⟩=some (.string a):=by rw [hW];simp [go_sem]
 have l2:W.cell? ⟨w.heap.size,2,none⟩=some (.string t):=by rw [hW];simp [go_sem]
 have l3:W.cell? ⟨w.heap.size,3,none⟩=some (.slice (some ⟨b,off,none⟩) 1 ecap):=by rw [hW];simp [go_sem]
 have hbW:b<W.heap.size:=Nat.lt_trans hbw hws;have q00:W.cell? ⟨b,off,none⟩=some (.int .i64 k0):=(HW.out.cell (p:=⟨b,off,none⟩) hbw).trans p00;have q01:W.cell? ⟨b,off+1,none⟩=some (.int .i64 n0):=(HW.out.cell (p:=⟨b,off+1,none⟩) hbw).trans p01;have q02:W.cell? ⟨b,off+2,none⟩=some (.string s0):=(HW.out.cell (p:=⟨b,off+2,none⟩) hbw).trans p02;have q03:W.cell? ⟨b,off+3,none⟩=some (.slice a0 len0 cap0):=(HW.out.cell (p:=⟨b,off+3,none⟩) hbw).trans p03;have hX0:ExA c.B W m [.int .i64 k0,.int .i64 n0,.string s0,.slice a0 len0 cap0] (es.getD 0 default):=hx0.out.below (HW.out.mono HSB.out);obtain⟨bv,bl,c0,c1,hbv,hbl⟩:=HM.out.maps;have hrW:c.r<W.heap.size:=HM.out.lt;have HOB:Hid (O w.heap.size=none/\O b=none):=⟨hM.top _ lr0,hM.low b hb⟩;obtain⟨q,hlk,hdel⟩:=HM.out.del (x:=a) (y:=a) hs2 hs2 c1;have HDL:=hid hdel;have hlk0:=hlk W.drew rfl;have hblW:bl<W.heap.size:=by
  rcases Nat.lt_or_ge bl W.heap.size with h | h
  . exact h
  . rw [HM.out.top bl h] at hbl;cases hbl
 have HLK:Hid (∀w',Below W.heap.size W w'->(Instr.lookup 84 (.map (some bl)) (.string a) false).run prog w' = .ok (.map q) w'):=fun w' hb=>hlk w' (hb.block bl hblW);have HC:=hid (J3 (j':=j) (R0:=R) (K0:=fun _=> .tuple #[]) (Hp (Hw m) c O W.drew s (j+1) _ _ (HM.out.below (Ad _)) (hX0.below ((Ad W).mono HM.out.lo.size)) ok0) (Aa HW.out (Ad _)) (HM.out.below (Ad _)) (fun er h=>by rw [HR0.out,h];rfl));have HO0:Hid (okE m (es.getD 0 default)):=ok0;clear hsl hall wk wa wt hM hx0 hm0 p00 p01 p02 p03 hi hb hll hW hX0 ok0 hpa hlk hdel hbv hbl c0;go_enter func148,ntmps148
 go_wp2_with fail
 rw [<-HWW.out];clear HWW
 go_region_held2 (fun w'=>w'.cell? ⟨w.heap.size,1,none⟩=some (.string a)/\w'.cell? ⟨w.heap.size,3,none⟩=some (.slice (some ⟨b,off,none⟩) 1 ecap)/\w'.cell? ⟨b,off,none⟩=some (.int .i64 k0)/\w'.cell? ⟨b,off+1,none⟩=some (.int .i64 n0)/\w'.cell? ⟨b,off+2,none⟩=some (.string s0)/\w'.cell? ⟨b,off+3,none⟩=some (.slice a0 len0 cap0)/\w'.cell? ⟨c.r,1,none⟩=some (.map (some bl))) (go_keep) (first
  | (with_reducible refine Calls.mono HC.out ?_
     rintro e w1 (⟨er,rfl,HE⟩ | ⟨x,rfl,HX,HB1,HBD1,HM1⟩)
     . go_wp2_with fail
       exact⟨rfl,HE.out⟩
     have HBW1:Hid (Below W.heap.size W w1):=Aa (Ad _) HBD1.out;have hxl:=(B4 HF.out HO0.out HX.out).len;obtain⟨w2,hrun,hbt,d1,hMc⟩:=HDL.out 0 w1 HBW1.out x.str hxl;have HR1:Hid (R = .go (Bm s a (Dy x.str.data.toList (s.lists a))) true):=by unfold Hid;rw [HR0.out,HX.out];rfl
     obtain⟨KY,hKY⟩:∃K,K=x.str:=⟨_,rfl⟩;rw [<-hKY] at hrun hMc HR1 ⊢;have HM2:Hid (Mc c O w2 (Bm s a (Dy KY.data.toList (s.lists a))) (j+1)):=hMc;have HBT:Hid (Bts O w w2):=(Bts.of_below (O:=O) HB1.out).trans hbt (Gr.refl _ _);have hlk1:=HLK.out w1 HBW1.out;have rl1:w1.cell? ⟨w.heap.size,1,none⟩=some (.string a):=(HBW1.out.cell (p:=⟨w.heap.size,1,none⟩) hws).trans l1;have rl3:w1.cell? ⟨w.heap.size,3,none⟩=some (.slice (some ⟨b,off,none⟩) 1 ecap):=(HBW1.out.cell (p:=⟨w.heap.size,3,none⟩) hws).trans l3;have rq00:w1.cell? ⟨b,off,none⟩=some (.int .i64 k0):=(HBW1.out.cell (p:=⟨b,off,none⟩) hbW).trans q00;have rq01:w1.cell? ⟨b,off+1,none⟩=some (.int .i64 n0):=(HBW1.out.cell (p:=⟨b,off+1,none⟩) hbW).trans q01;have rq02:w1.cell? ⟨b,off+2,none⟩=some (.string s0):=(HBW1.out.cell (p:=⟨b,off+2,none⟩) hbW).trans q02
     have rq03:w1.cell? ⟨b,off+3,none⟩=some (.slice a0 len0 cap0):=(HBW1.out.cell (p:=⟨b,off+3,none⟩) hbW).trans q03;have rc1:w1.cell? ⟨c.r,1,none⟩=some (.map (some bl)):=(HBW1.out.cell (p:=⟨c.r,1,none⟩) hrW).trans c1;have ul1:w2.cell? ⟨w.heap.size,1,none⟩=some (.string a):=(hbt.cell (b:=w.heap.size) (lle hws HBW1.out.size) HOB.out.1 _).trans rl1;have ul3:w2.cell? ⟨w.heap.size,3,none⟩=some (.slice (some ⟨b,off,none⟩) 1 ecap):=(hbt.cell (b:=w.heap.size) (lle hws HBW1.out.size) HOB.out.1 _).trans rl3;have uq00:w2.cell? ⟨b,off,none⟩=some (.int .i64 k0):=(hbt.cell (b:=b) (lle hbW HBW1.out.size) HOB.out.2 _).trans rq00;have uq01:w2.cell? ⟨b,off+1,none⟩=some (.int .i64 n0):=(hbt.cell (b:=b) (lle hbW HBW1.out.size) HOB.out.2 _).trans rq01;have uq02:w2.cell? ⟨b,off+2,none⟩=some (.string s0):=(hbt.cell (b:=b) (lle hbW HBW1.out.size) HOB.out.2 _).trans rq02
     have uq03:w2.cell? ⟨b,off+3,none⟩=some (.slice a0 len0 cap0):=(hbt.cell (b:=b) (lle hbW HBW1.out.size) HOB.out.2 _).trans rq03;clear HC HX hxl hKY hMc hbt))
 all_goals go_wp2_with fail
 all_goals go_end0
 all_goals exact Ak.go (K:=fun _=> .tuple #[]) HBT.out HR1.out (Gr.refl _ _) HM2.out.less
theorem Aca (m:Nat) (c:Cx) (O:Own) (w:World) (s:Ms) (j:Nat) (a t:ByteArray) (es:List Ex) (bd el:List Sm) (cs:List Value) (hM:Mc c O w s (j+1)) (hx:SmA c.B w (m+1) cs (.mk 4 a t es bd el)) (hok:okS (m+1) (.mk 4 a t es bd el)) (hle:es.length<=4000) :
 Calls prog 148 #[.pointer (some ⟨c.r,0,none⟩),.agg cs.toArray] w (Df c O w j (A2 c.F m s (.mk 4 a t es bd el))):=by
 obtain⟨v1,v2,v3,rfl,wk,wa,wt,⟨ea,ecap,rfl,hmax,hsl⟩,⟨a2,cap2,rfl,-,-⟩,⟨a3,cap3,rfl,-,-⟩⟩:=hx;obtain⟨-,-,hpa,hs2,ht2,hall,-,-⟩:=hok;obtain⟨R,hR⟩:∃R,R=A2 c.F m s (.mk 4 a t es bd el):=⟨_,rfl⟩;rw [<-hR];have HR0:Hid (R=orM s (Cw (Ai s m) es) fun vs=>Dx s (vs.map Vl.str)):=by rw [hR];simp [A2,Hid]
 clear hR;have hsl2:Sl w c.B 4 (.slice ea es.length ecap) es.length (fun i c'=>∃x,es[i]? = some x/\ExA c.B w m c' x):=⟨ea,ecap,rfl,hmax,hsl⟩;have hl1:1<=es.length:=by have:=D9 hpa;simpa [Ek] using this
 have hrw:c.r<w.heap.size:=hM.lt;have hrn:¬c.r=w.heap.size:=by omega
 have HSB:Hid (c.B<=w.heap.size):=hM.lo.size;have HF:Hid (Fit s):=hM.fit;show Calls prog 148 #[.pointer (some ⟨c.r,0,none⟩),.agg #[.int .i64 4,.string a,.string t,.slice ea es.length ecap,.slice a2 bd.length cap2,.slice a3 el.length cap3]] w _;obtain⟨W,hW⟩:∃W,W=w.alloc (.cells #[.int .i64 4,.string a,.string t,.slice ea es.length ecap,.slice a2 bd.length cap2,.slice a3 el.length cap3] 54):=⟨_,rfl⟩;have HW:Hid (Below w.heap.size w W):=by rw [hW];exact br0.alloc lr0 _
 have HM:Hid (Mc c O W s (j+1)):=hM.below HW.out;have HWW:Hid (W=_):=hW;have hws:w.heap.size<W.heap.size:=by rw [hW];simp
 have l1:W.cell? ⟨w.heap.size,1,none⟩=some (.string a):=by rw [hW];simp [go_sem]
 have l2:W.cell? ⟨w.heap.size,2,none⟩=some (.string t):=by rw [hW];simp [go_sem]
 have l3:W.cell? ⟨w.heap.size,3,none⟩=some (.slice ea es.length ecap):=by rw [hW];simp [go_sem]
 have HC:=hid (Za m c O W s (j+1) es _ HM.out (hsl2.below (HW.out.mono HSB.out) fun _ _ ⟨x,hx,he⟩=>⟨x,hx,he.below (HW.out.mono HSB.out)⟩) hall hle (by omega));clear hsl hall wk wa wt hM hW hpa hsl2 hl1;go_enter func148,ntmps148
 go_wp2_with fail
 rw [<-HWW.out];clear HWW;refine Calls.mono HC.out ?_;rintro e w3 hd;have HD:Hid (Df c O w (j+1) R e w3):=(hd.after HW.out).same HR0.out;rcases hd.cases with⟨s9,er,h9,rfl⟩ | ⟨s9,b9,O',h9,rfl,hG,hMc⟩
 . clear hd h9;go_wp2_with fail
   exact⟨rfl,HD.out.less⟩
 clear hd h9 hG hMc HC;go_wp2_with fail
 go_end0
 exact HD.out.less
theorem Ab9 (m:Nat) (c:Cx) (O:Own) (w:World) (s:Ms) (j:Nat) (a t:ByteArray) (es:List Ex) (bd el:List Sm) (cs:List Value) (hM:Mc c O w s (j+1)) (hx:SmA c.B w (m+1) cs (.mk 3 a t es bd el)) (hok:okS (m+1) (.mk 3 a t es bd el)) :
 Calls prog 148 #[.pointer (some ⟨c.r,0,none⟩),.agg cs.toArray] w (Df c O w j (A2 c.F m s (.mk 3 a t es bd el))):=by
 obtain⟨v1,v2,v3,rfl,wk,wa,wt,⟨ea,ecap,rfl,hmax,hsl⟩,⟨a2,cap2,rfl,-,-⟩,⟨a3,cap3,rfl,-,-⟩⟩:=hx;obtain⟨-,-,hpa,hs2,ht2,hall,-,-⟩:=hok;obtain⟨R,hR⟩:∃R,R=A2 c.F m s (.mk 3 a t es bd el):=⟨_,rfl⟩;rw [<-hR];have HR0:Hid (R=orM s (Ai s m (es.getD 0 default)) fun x=>orM s (Ai s m (es.getD 1 default)) fun v=>De s x v.str):=by rw [hR];simp [A2,Hid]
 clear hR;have hll:es.length=2:=by have:=D9 hpa;simpa [Ek] using this
 obtain⟨b,off,rfl,hb,hi⟩:=hsl (by omega);have hbw:b<w.heap.size:=by have:=hM.lo.size;omega
 have hbn:¬b=w.heap.size:=by omega
 rw [hll];obtain⟨k0,n0,s0,a0,len0,cap0,p00,p01,p02,p03,hx0,hm0⟩:=kid hi 0 (off) (by omega) (by omega);have ok0:okE m (es.getD 0 default):=hall _ hm0;obtain⟨k1,n1,s1,a1,len1,cap1,p10,p11,p12,p13,hx1,hm1⟩:=kid hi 1 (off+4) (by omega) (by omega);have ok1:okE m (es.getD 1 default):=hall _ hm1;have hrw:c.r<w.heap.size:=hM.lt;have hrn:¬c.r=w.heap.size:=by omega
 have HSB:Hid (c.B<=w.heap.size):=hM.lo.size;have HF:Hid (Fit s):=hM.fit;show Calls prog 148 #[.pointer (some ⟨c.r,0,none⟩),.agg #[.int .i64 3,.string a,.string t,.slice (some ⟨b,off,none⟩) 2 ecap,.slice a2 bd.length cap2,.slice a3 el.length cap3]] w _;obtain⟨W,hW⟩:∃W,W=w.alloc (.cells #[.int .i64 3,.string a,.string t,.slice (some ⟨b,off,none⟩) 2 ecap,.slice a2 bd.length cap2,.slice a3 el.length cap3] 54):=⟨_,rfl⟩;have HW:Hid (Below w.heap.size w W):=by rw [hW];exact br0.alloc lr0 _
 have HM:Hid (Mc c O W s (j+1)):=hM.below HW.out;have HWW:Hid (W=_):=hW;have hws:w.heap.size<W.heap.size:=by rw [hW];simp
 have l1:W.cell? ⟨w.heap.size,1,none⟩=some (.string a):=by rw [hW];simp [go_sem]
 have l2:W.cell? ⟨w.heap.size,2,none⟩=some (.string t):=by rw [hW];simp [go_sem]
 have l3:W.cell? ⟨w.heap.size,3,none⟩=some (.slice (some ⟨b,off,none⟩) 2 ecap):=by rw [hW];simp [go_sem]
 have hbW:b<W.heap.size:=Nat.lt_trans hbw hws;have q00:W.cell? ⟨b,off,none⟩=some (.int .i64 k0):=(HW.out.cell (p:=⟨b,off,none⟩) hbw).trans p00;have q01:W.cell? ⟨b,off+1,none⟩=some (.int .i64 n0):=(HW.out.cell (p:=⟨b,off+1,none⟩) hbw).trans p01;have q02:W.cell? ⟨b,off+2,none⟩=some (.string s0):=(HW.out.cell (p:=⟨b,off+2,none⟩) hbw).trans p02;have q03:W.cell? ⟨b,off+3,none⟩=some (.slice a0 len0 cap0):=(HW.out.cell (p:=⟨b,off+3,none⟩) hbw).trans p03;have hX0:ExA c.B W m [.int .i64 k0,.int .i64 n0,.string s0,.slice a0 len0 cap0] (es.getD 0 default):=hx0.out.below (HW.out.mono HSB.out);have q10:W.cell? ⟨b,off+4,none⟩=some (.int .i64 k1):=(HW.out.cell (p:=⟨b,off+4,none⟩) hbw).trans p10;have q11:W.cell? ⟨b,off+5,none⟩=some (.int .i64 n1):=(HW.out.cell (p:=⟨b,off+5,none⟩) hbw).trans p11;have q12:W.cell? ⟨b,off+6,none⟩=some (.string s1):=(HW.out.cell (p:=⟨b,off+6,none⟩) hbw).trans p12
 have q13:W.cell? ⟨b,off+7,none⟩=some (.slice a1 len1 cap1):=(HW.out.cell (p:=⟨b,off+7,none⟩) hbw).trans p13;have hX1:ExA c.B W m [.int .i64 k1,.int .i64 n1,.string s1,.slice a1 len1 cap1] (es.getD 1 default):=hx1.out.below (HW.out.mono HSB.out);have hrW:c.r<W.heap.size:=HM.out.lt;have HOB:Hid (O w.heap.size=none/\O b=none):=⟨hM.top _ lr0,hM.low b hb⟩;have HC:=hid (J3 (j':=j) (R0:=R) (K0:=fun _=> .tuple #[]) ((Hw m).as c O W s (j+1) _ _ HM.out hX0 ok0) HW.out HM.out (fun er h=>by rw [HR0.out,h];rfl));have HC2:=hid (fun (Z:World) (hbZ:Below W.heap.size W Z)=>Hp (Hw m) c O Z s (j+1) _ _ (HM.out.below hbZ) (hX1.below (hbZ.mono HM.out.lo.size)) ok1);have HO0:Hid (okE m (es.getD 0 default)/\okE m (es.getD 1 default)):=⟨ok0,ok1⟩;clear hsl hall wk wa wt hM hx0 hm0 hx1 hm1 hi hb hll hW hX0 hX1 ok0 ok1 hpa;go_enter func148,ntmps148
 go_wp2_with fail
 rw [<-HWW.out];clear HWW;refine Calls.mono HC.out ?_;rintro e w1 (⟨er,rfl,HE⟩ | ⟨x,rfl,HX,HB1,HBW1,HM1⟩)
 . go_wp2_with fail
   exact⟨rfl,HE.out⟩
 have HV:Hid x.ok:=B4 HF.out HO0.out.1 HX.out;have HR1:Hid (R=orM s (Ai s m (es.getD 1 default)) fun v=>De s x v.str):=by unfold Hid;rw [HR0.out,HX.out];rfl
 obtain⟨xt,xn,xs⟩:=x;unfold vlV;obtain⟨W1,hW1⟩:∃W1,W1=w1.alloc (.cells #[.bool xt,.int .i64 xn,.string xs] 157):=⟨_,rfl⟩;have HBA:Hid (Below w1.heap.size w1 W1):=by rw [hW1];exact br0.alloc lr0 _
 have hw1s:w1.heap.size<W1.heap.size:=by rw [hW1];simp
 have HBWA:Hid (Below W.heap.size W W1):=Aa HBW1.out HBA.out;have z0:W1.cell? ⟨w1.heap.size,0,none⟩=some (.bool xt):=by rw [hW1];simp [go_sem]
 have z1:W1.cell? ⟨w1.heap.size,1,none⟩=some (.int .i64 xn):=by rw [hW1];simp [go_sem]
 have z2:W1.cell? ⟨w1.heap.size,2,none⟩=some (.string xs):=by rw [hW1];simp [go_sem]
 have HO1:Hid (O w1.heap.size=none):=HM1.out.top _ lr0;have rl1:W1.cell? ⟨w.heap.size,1,none⟩=some (.string a):=(HBWA.out.cell (p:=⟨w.heap.size,1,none⟩) hws).trans l1;have rl3:W1.cell? ⟨w.heap.size,3,none⟩=some (.slice (some ⟨b,off,none⟩) 2 ecap):=(HBWA.out.cell (p:=⟨w.heap.size,3,none⟩) hws).trans l3;have rq00:W1.cell? ⟨b,off,none⟩=some (.int .i64 k0):=(HBWA.out.cell (p:=⟨b,off,none⟩) hbW).trans q00;have rq01:W1.cell? ⟨b,off+1,none⟩=some (.int .i64 n0):=(HBWA.out.cell (p:=⟨b,off+1,none⟩) hbW).trans q01;have rq02:W1.cell? ⟨b,off+2,none⟩=some (.string s0):=(HBWA.out.cell (p:=⟨b,off+2,none⟩) hbW).trans q02;have rq03:W1.cell? ⟨b,off+3,none⟩=some (.slice a0 len0 cap0):=(HBWA.out.cell (p:=⟨b,off+3,none⟩) hbW).trans q03;have rq10:W1.cell? ⟨b,off+4,none⟩=some (.int .i64 k1):=(HBWA.out.cell (p:=⟨b,off+4,none⟩) hbW).trans q10
 have rq11:W1.cell? ⟨b,off+5,none⟩=some (.int .i64 n1):=(HBWA.out.cell (p:=⟨b,off+5,none⟩) hbW).trans q11;have rq12:W1.cell? ⟨b,off+6,none⟩=some (.string s1):=(HBWA.out.cell (p:=⟨b,off+6,none⟩) hbW).trans q12;have rq13:W1.cell? ⟨b,off+7,none⟩=some (.slice a1 len1 cap1):=(HBWA.out.cell (p:=⟨b,off+7,none⟩) hbW).trans q13;have HC3:=hid (J3 (j':=j) (R0:=R) (K0:=fun _=> .tuple #[]) (HC2.out W1.drew (Aa HBWA.out (Ad _))) (Aa (Aa HB1.out HBA.out) (Ad _)) ((HM1.out.below HBA.out).below (Ad _)) (fun er h=>by rw [HR1.out,h];rfl));have HWW1:Hid (W1=_):=hW1;clear HC HX HC2 hW1;have rr1:w1.heap.size<W1.heap.size:=hw1s;go_wp2_with fail
 rw [<-HWW1.out];clear HWW1
 go_region_held2 (fun w'=>w'.cell? ⟨w.heap.size,1,none⟩=some (.string a)/\w'.cell? ⟨w.heap.size,3,none⟩=some (.slice (some ⟨b,off,none⟩) 2 ecap)/\w'.cell? ⟨b,off,none⟩=some (.int .i64 k0)/\w'.cell? ⟨b,off+1,none⟩=some (.int .i64 n0)/\w'.cell? ⟨b,off+2,none⟩=some (.string s0)/\w'.cell? ⟨b,off+3,none⟩=some (.slice a0 len0 cap0)/\w'.cell? ⟨b,off+4,none⟩=some (.int .i64 k1)/\w'.cell? ⟨b,off+5,none⟩=some (.int .i64 n1)/\w'.cell? ⟨b,off+6,none⟩=some (.string s1)/\w'.cell? ⟨b,off+7,none⟩=some (.slice a1 len1 cap1)/\w'.cell? ⟨w1.heap.size,0,none⟩=some (.bool xt)/\w'.cell? ⟨w1.heap.size,1,none⟩=some (.int .i64 xn)/\w'.cell? ⟨w1.heap.size,2,none⟩=some (.string xs)) (go_keep) (first
  | (with_reducible refine Calls.mono HC3.out ?_
     rintro e w2 (⟨er,rfl,HE⟩ | ⟨u,rfl,HU,HB2,HBW2,HM2⟩)
     . go_wp2_with fail
       exact⟨rfl,HE.out⟩
     have hU:u.ok:=B4 HF.out HO0.out.2 HU.out;have HBW12:Hid (Below W1.heap.size W1 w2):=Aa (Ad _) HBW2.out;have HBWW2:Hid (Below W.heap.size W w2):=Aa HBWA.out HBW12.out;have tl1:w2.cell? ⟨w.heap.size,1,none⟩=some (.string a):=(HBWW2.out.cell (p:=⟨w.heap.size,1,none⟩) hws).trans l1;have tl3:w2.cell? ⟨w.heap.size,3,none⟩=some (.slice (some ⟨b,off,none⟩) 2 ecap):=(HBWW2.out.cell (p:=⟨w.heap.size,3,none⟩) hws).trans l3;have tq00:w2.cell? ⟨b,off,none⟩=some (.int .i64 k0):=(HBWW2.out.cell (p:=⟨b,off,none⟩) hbW).trans q00;have tq01:w2.cell? ⟨b,off+1,none⟩=some (.int .i64 n0):=(HBWW2.out.cell (p:=⟨b,off+1,none⟩) hbW).trans q01;have tq02:w2.cell? ⟨b,off+2,none⟩=some (.string s0):=(HBWW2.out.cell (p:=⟨b,off+2,none⟩) hbW).trans q02;have tq03:w2.cell? ⟨b,off+3,none⟩=some (.slice a0 len0 cap0):=(HBWW2.out.cell (p:=⟨b,off+3,none⟩) hbW).trans q03
     have tq10:w2.cell? ⟨b,off+4,none⟩=some (.int .i64 k1):=(HBWW2.out.cell (p:=⟨b,off+4,none⟩) hbW).trans q10;have tq11:w2.cell? ⟨b,off+5,none⟩=some (.int .i64 n1):=(HBWW2.out.cell (p:=⟨b,off+5,none⟩) hbW).trans q11;have tq12:w2.cell? ⟨b,off+6,none⟩=some (.string s1):=(HBWW2.out.cell (p:=⟨b,off+6,none⟩) hbW).trans q12;have tq13:w2.cell? ⟨b,off+7,none⟩=some (.slice a1 len1 cap1):=(HBWW2.out.cell (p:=⟨b,off+7,none⟩) hbW).trans q13;have tz0:w2.cell? ⟨w1.heap.size,0,none⟩=some (.bool xt):=(HBW12.out.cell (p:=⟨w1.heap.size,0,none⟩) hw1s).trans z0;have tz1:w2.cell? ⟨w1.heap.size,1,none⟩=some (.int .i64 xn):=(HBW12.out.cell (p:=⟨w1.heap.size,1,none⟩) hw1s).trans z1;have tz2:w2.cell? ⟨w1.heap.size,2,none⟩=some (.string xs):=(HBW12.out.cell (p:=⟨w1.heap.size,2,none⟩) hw1s).trans z2;have HR2:Hid (R=De s ⟨xt,xn,xs⟩ u.str):=by unfold Hid;rw [HR1.out,HU.out];rfl
     obtain⟨KY,hKY⟩:∃K,K=u.str:=⟨_,rfl⟩;have hul:=hU.len;rw [<-hKY] at HR2 hul ⊢;have HP:=hid (Ac6 c O w2 s (j+1) ⟨xt,xn,xs⟩ KY HM2.out HV.out hul);unfold vlV at HP;clear HC3 HU hU hKY)
  | (with_reducible refine Calls.mono HP.out ?_
     rintro e w3 hd;have HD:Hid (Df c O w (j+1) R e w3):=(hd.after HB2.out).same HR2.out;rcases hd.cases with⟨s9,er,h9,rfl⟩ | ⟨s9,b9,O',h9,rfl,hG,hMc⟩
     . clear hd h9;go_wp2_with fail
       exact⟨rfl,HD.out.less⟩
     have HBT:Hid (Bts O w2 w3):=hd.1;have hw12:w1.heap.size<w2.heap.size:=lle hw1s HBW12.out.size;have ul1:w3.cell? ⟨w.heap.size,1,none⟩=some (.string a):=(HBT.out.cell (b:=w.heap.size) (lle hws HBWW2.out.size) HOB.out.1 _).trans tl1;have ul3:w3.cell? ⟨w.heap.size,3,none⟩=some (.slice (some ⟨b,off,none⟩) 2 ecap):=(HBT.out.cell (b:=w.heap.size) (lle hws HBWW2.out.size) HOB.out.1 _).trans tl3;have uq00:w3.cell? ⟨b,off,none⟩=some (.int .i64 k0):=(HBT.out.cell (b:=b) (lle hbW HBWW2.out.size) HOB.out.2 _).trans tq00;have uq01:w3.cell? ⟨b,off+1,none⟩=some (.int .i64 n0):=(HBT.out.cell (b:=b) (lle hbW HBWW2.out.size) HOB.out.2 _).trans tq01;have uq02:w3.cell? ⟨b,off+2,none⟩=some (.string s0):=(HBT.out.cell (b:=b) (lle hbW HBWW2.out.size) HOB.out.2 _).trans tq02;have uq03:w3.cell? ⟨b,off+3,none⟩=some (.slice a0 len0 cap0):=(HBT.out.cell (b:=b) (lle hbW HBWW2.out.size) HOB.out.2 _).trans tq03
     have uq10:w3.cell? ⟨b,off+4,none⟩=some (.int .i64 k1):=(HBT.out.cell (b:=b) (lle hbW HBWW2.out.size) HOB.out.2 _).trans tq10;have uq11:w3.cell? ⟨b,off+5,none⟩=some (.int .i64 n1):=(HBT.out.cell (b:=b) (lle hbW HBWW2.out.size) HOB.out.2 _).trans tq11;have uq12:w3.cell? ⟨b,off+6,none⟩=some (.string s1):=(HBT.out.cell (b:=b) (lle hbW HBWW2.out.size) HOB.out.2 _).trans tq12;have uq13:w3.cell? ⟨b,off+7,none⟩=some (.slice a1 len1 cap1):=(HBT.out.cell (b:=b) (lle hbW HBWW2.out.size) HOB.out.2 _).trans tq13;have uz0:w3.cell? ⟨w1.heap.size,0,none⟩=some (.bool xt):=(HBT.out.cell (b:=w1.heap.size) hw12 HO1.out _).trans tz0;have uz1:w3.cell? ⟨w1.heap.size,1,none⟩=some (.int .i64 xn):=(HBT.out.cell (b:=w1.heap.size) hw12 HO1.out _).trans tz1;have uz2:w3.cell? ⟨w1.heap.size,2,none⟩=some (.string xs):=(HBT.out.cell (b:=w1.heap.size) hw12 HO1.out _).trans tz2;clear hd h9 hG hMc HP))
 go_wp2_with fail
 go_end0
 exact HD.out.less
theorem Y9 (m:Nat) (c:Cx) (O:Own) (w:World) (s:Ms) (j:Nat) (a t:ByteArray) (es:List Ex) (bd el:List Sm) (cs:List Value) (hM:Mc c O w s (j+1)) (hx:SmA c.B w (m+1) cs (.mk 10 a t es bd el)) (hok:okS (m+1) (.mk 10 a t es bd el)) :
 Calls prog 148 #[.pointer (some ⟨c.r,0,none⟩),.agg cs.toArray] w (Df c O w j (A2 c.F m s (.mk 10 a t es bd el))):=by
 obtain⟨v1,v2,v3,rfl,wk,wa,wt,⟨ea,ecap,rfl,hmax,hsl⟩,⟨a2,cap2,rfl,-,-⟩,⟨a3,cap3,rfl,-,-⟩⟩:=hx;obtain⟨-,-,hpa,hs2,ht2,hall,-,-⟩:=hok;obtain⟨R,hR⟩:∃R,R=A2 c.F m s (.mk 10 a t es bd el):=⟨_,rfl⟩;rw [<-hR];have HR0:Hid (R=F4 c.F s a t):=by rw [hR];simp [A2,Hid]
 clear hR;have hrw:c.r<w.heap.size:=hM.lt;have hrn:¬c.r=w.heap.size:=by omega
 have HSB:Hid (c.B<=w.heap.size):=hM.lo.size;have HF:Hid (Fit s):=hM.fit;show Calls prog 148 #[.pointer (some ⟨c.r,0,none⟩),.agg #[.int .i64 10,.string a,.string t,.slice ea es.length ecap,.slice a2 bd.length cap2,.slice a3 el.length cap3]] w _;obtain⟨W,hW⟩:∃W,W=w.alloc (.cells #[.int .i64 10,.string a,.string t,.slice ea es.length ecap,.slice a2 bd.length cap2,.slice a3 el.length cap3] 54):=⟨_,rfl⟩;have HW:Hid (Below w.heap.size w W):=by rw [hW];exact br0.alloc lr0 _
 have HM:Hid (Mc c O W s (j+1)):=hM.below HW.out;have HWW:Hid (W=_):=hW;have hws:w.heap.size<W.heap.size:=by rw [hW];simp
 have l1:W.cell? ⟨w.heap.size,1,none⟩=some (.string a):=by rw [hW];simp [go_sem]
 have l2:W.cell? ⟨w.heap.size,2,none⟩=some (.string t):=by rw [hW];simp [go_sem]
 have l3:W.cell? ⟨w.heap.size,3,none⟩=some (.slice ea es.length ecap):=by rw [hW];simp [go_sem]
 have HC:=hid (Aez c O W s j a t HM.out hs2 ht2);clear hsl hall wk wa wt hM hW hpa;go_enter func148,ntmps148
 go_wp2_with fail
 rw [<-HWW.out];clear HWW;refine Calls.mono HC.out ?_;rintro e w3 hd;have HD:Hid (Df c O w j R e w3):=(hd.after HW.out).same HR0.out;rcases hd.cases with⟨s9,er,h9,rfl⟩ | ⟨s9,b9,O',h9,rfl,hG,hMc⟩
 . clear hd h9;go_wp2_with fail
   exact⟨rfl,HD.out⟩
 clear hd h9 hG hMc HC;go_wp2_with fail
 go_end0
 exact HD.out
end Go.Proofs.YtppcohadoilpgaaGreatDoor
