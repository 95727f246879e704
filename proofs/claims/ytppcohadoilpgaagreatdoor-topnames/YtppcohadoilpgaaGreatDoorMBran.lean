/-
  The machine's branch and while.
-/
import Derived.Test.YtppcohadoilpgaaGreatDoorMStep
import Derived.Test.YtppcohadoilpgaaGreatDoorMSpec
import Derived.Test.YtppcohadoilpgaaGreatDoorMAsk9
namespace Go.Proofs.YtppcohadoilpgaaGreatDoor
open Go.ChangeShapes Go.WideShapes Go.ChangeAt Go.RowKit Go.Joins Go.Maps Go.Proofs.Tryz
set_option maxHeartbeats 4000000
set_option linter.unusedVariables false
set_option maxRecDepth 100000
theorem Ea {B m:Nat} {w w':World} {v:Value} {l:List Sm} (h:Sl w B 6 v l.length (fun i c'=>∃x,l[i]? = some x/\SmA B w m c' x)) (hb:Below B w w'):Sl w' B 6 v l.length (fun i c'=>∃x,l[i]? = some x/\SmA B w' m c' x):=by
 obtain⟨a,cap,rfl,hl,hs⟩:=h;refine⟨a,cap,rfl,hl,fun h0=>?_⟩;obtain⟨b,off,e,hB,hi⟩:=hs h0;refine⟨b,off,e,hB,fun i hlt=>?_⟩;obtain⟨cs,h1,h2,x,h3,h4⟩:=hi i hlt;exact⟨cs,h1,fun j hj=>(hb.cell (p:=⟨b,off+i * 6+j,none⟩) hB).trans (h2 j hj),x,h3,h4.below hb⟩
theorem Vz {m:Nat} (hS:DoC m) (c:Cx) (O:Own) (w:World) (s:Ms) (j:Nat) (a t:ByteArray) (es:List Ex) (bd el:List Sm) (cs:List Value) (hM:Mc c O w s j) (hx:SmA c.B w (m+1) cs (.mk 5 a t es bd el)) (hok:okS (m+1) (.mk 5 a t es bd el)) (hfe:C6 (m+1) (.mk 5 a t es bd el)) :
 Calls prog 145 #[.pointer (some ⟨c.r,0,none⟩),.agg cs.toArray] w (Ak c O w j (orM s (Ai s m (es.getD 0 default)) fun v=>if v.so then A0 (Ag c.F m) bd s else A0 (Ag c.F m) el s) Value.bool):=by
 obtain⟨v1,v2,v3,rfl,wk,wa,wt,⟨ea,ecap,rfl,hmax,hsl⟩,hv2,hv3⟩:=hx;obtain⟨-,-,hpa,hs2,ht2,hall,hob,hoe⟩:=hok;obtain⟨-,hfb,hfl⟩:=hfe;obtain⟨R,hR⟩:∃R,R=orM s (Ai s m (es.getD 0 default)) fun v=>if v.so then A0 (Ag c.F m) bd s else A0 (Ag c.F m) el s:=⟨_,rfl⟩;rw [<-hR];have HR0:Hid (R=_):=hR;clear hR;have hll:es.length=1:=by have:=D9 hpa;simpa [Ek] using this
 obtain⟨b,off,rfl,hb,hi⟩:=hsl (by omega);have hbw:b<w.heap.size:=by have:=hM.lo.size;omega
 have hbn:¬b=w.heap.size:=by omega
 rw [hll];obtain⟨k0,n0,s0,a0,len0,cap0,p00,p01,p02,p03,hx0,hm0⟩:=kid hi 0 off (by omega) (by omega);have ok0:okE m (es.getD 0 default):=hall _ hm0;have hrw:c.r<w.heap.size:=hM.lt;have hrn:¬c.r=w.heap.size:=by omega
 have HLO:Hid ((∀b,b<c.B->O b=none)/\c.B<=w.heap.size):=⟨hM.low,hM.lo.size⟩;have HTOP:Hid (O w.heap.size=none):=hM.top _ lr0;have HBO:Hid (b<c.B):=hb;obtain⟨a2,cap2,hq2,-⟩:=id hv2;subst hq2;obtain⟨a3,cap3,hq3,-⟩:=id hv3;subst hq3;have HST:Hid (∀(Z:World) (O':Own) (s':Ms) (j':Nat),Below c.B w Z->Mc c O' Z s' j'->(Calls prog 80 #[.pointer (some ⟨c.r,0,none⟩),.slice a2 bd.length cap2] Z (Ak c O' Z j' (A0 (Ag c.F m) bd s') Value.bool))/\Calls prog 80 #[.pointer (some ⟨c.r,0,none⟩),.slice a3 el.length cap3] Z (Ak c O' Z j' (A0 (Ag c.F m) el s') Value.bool)):=fun Z O' s' j' hZ hM'=>⟨D7 hS c O' Z s' j' bd _ hM' (Ea hv2 hZ) hob hfb,D7 hS c O' Z s' j' el _ hM' (Ea hv3 hZ) hoe hfl⟩;show Calls prog 145 #[.pointer (some ⟨c.r,0,none⟩),.agg #[.int .i64 5,.string a,.string t,.slice (some ⟨b,off,none⟩) 1 ecap,.slice a2 bd.length cap2,.slice a3 el.length cap3]] w _
 obtain⟨W,hW⟩:∃W,W=w.alloc (.cells #[.int .i64 5,.string a,.string t,.slice (some ⟨b,off,none⟩) 1 ecap,.slice a2 bd.length cap2,.slice a3 el.length cap3] 54):=⟨_,rfl⟩;have HW:Hid (Below w.heap.size w W):=by rw [hW];exact br0.alloc lr0 _
 have HM:Hid (Mc c O W s j):=hM.below HW.out;have HWW:Hid (W=_):=hW;have hws:w.heap.size<W.heap.size:=by rw [hW];simp
 have l3:W.cell? ⟨w.heap.size,3,none⟩=some (.slice (some ⟨b,off,none⟩) 1 ecap):=by rw [hW];simp [go_sem]
 have l4:W.cell? ⟨w.heap.size,4,none⟩=some (.slice a2 bd.length cap2):=by rw [hW];simp [go_sem]
 have l5:W.cell? ⟨w.heap.size,5,none⟩=some (.slice a3 el.length cap3):=by rw [hW];simp [go_sem]
 have hbW:b<W.heap.size:=Nat.lt_trans hbw hws;have q0:W.cell? ⟨b,off,none⟩=some (.int .i64 k0):=(HW.out.cell (p:=⟨b,off,none⟩) hbw).trans p00;have q1:W.cell? ⟨b,off+1,none⟩=some (.int .i64 n0):=(HW.out.cell (p:=⟨b,off+1,none⟩) hbw).trans p01;have q2:W.cell? ⟨b,off+2,none⟩=some (.string s0):=(HW.out.cell (p:=⟨b,off+2,none⟩) hbw).trans p02;have q3:W.cell? ⟨b,off+3,none⟩=some (.slice a0 len0 cap0):=(HW.out.cell (p:=⟨b,off+3,none⟩) hbw).trans p03;have hX0:ExA c.B W m [.int .i64 k0,.int .i64 n0,.string s0,.slice a0 len0 cap0] (es.getD 0 default):=hx0.out.below (HW.out.mono HLO.out.2);have HC:=hid (J3 (j':=j) (R0:=R) (K0:=Value.bool) (Dq (Hw m) c O W s j _ _ HM.out hX0 ok0) HW.out HM.out (fun er h=>by rw [HR0.out,h];rfl));clear hsl hall wk wa wt hM hx0 hm0 hi hb hll hW hX0 ok0 hpa hv2 hv3 hob hoe hfb hfl hS;go_enter func145,ntmps145
 go_wp2_with fail
 rw [<-HWW.out];clear HWW;refine Calls.mono HC.out ?_;rintro e w1 (⟨er,rfl,HE⟩ | ⟨x,rfl,HX,HB1,HBW1,HM1⟩)
 . go_wp2_with fail
   exact⟨rfl,HE.out⟩
 have rl4:w1.cell? ⟨w.heap.size,4,none⟩=some (.slice a2 bd.length cap2):=(HBW1.out.cell (p:=⟨w.heap.size,4,none⟩) hws).trans l4;have rl5:w1.cell? ⟨w.heap.size,5,none⟩=some (.slice a3 el.length cap3):=(HBW1.out.cell (p:=⟨w.heap.size,5,none⟩) hws).trans l5;have HSS:=hid (HST.out w1 O s j (HB1.out.mono HLO.out.2) HM1.out);have HR1:Hid (R=if x.so then A0 (Ag c.F m) bd s else A0 (Ag c.F m) el s):=by unfold Hid;rw [HR0.out,HX.out];rfl
 clear HC HST HR0 HX;cases hso:x.so with
 | true =>
  have HR2:Hid (R=A0 (Ag c.F m) bd s):=by unfold Hid;rw [HR1.out,hso];rfl
  clear hso HR1;go_wp2_with fail
  refine Calls.mono HSS.out.1 ?_;intro e w2 hd;have HF:=hid (Ak.same (Ak.after HB1.out hd) HR2.out);rcases hd.cases with⟨s9,er,h9,rfl⟩ | ⟨s9,b9,O9,h9,rfl,hG9,hMc9⟩
  . clear hd h9 HSS;go_wp2_with fail
    exact⟨rfl,HF.out⟩
  clear hd h9 hG9 hMc9 HSS;go_wp2_with fail
  go_ret
  exact HF.out
 | false =>
  have HR2:Hid (R=A0 (Ag c.F m) el s):=by unfold Hid;rw [HR1.out,hso];rfl
  clear hso HR1;go_wp2_with fail
  refine Calls.mono HSS.out.2 ?_;intro e w2 hd;have HF:=hid (Ak.same (Ak.after HB1.out hd) HR2.out);rcases hd.cases with⟨s9,er,h9,rfl⟩ | ⟨s9,b9,O9,h9,rfl,hG9,hMc9⟩
  . clear hd h9 HSS;go_wp2_with fail
    exact⟨rfl,HF.out⟩
  clear hd h9 hG9 hMc9 HSS;go_wp2_with fail
  go_ret
  exact HF.out
theorem Ak.chain {c:Cx} {O O1:Own} {w W w':World} {j:Nat} {R:Om} {K:Bool->Value} {e:Ending} (hb:Bts O w W) (hG:Gr w O O1) (h:Ak c O1 W j R K e w'):Ak c O w j R K e w':=by
 obtain⟨h1,h2⟩:=h;refine⟨hb.trans h1 hG,?_⟩;cases R with
 | go s b=>exact⟨h2.1,h2.2.imp fun O' h=>⟨hG.trans h.1 hb.size,h.2⟩⟩
 | stop s er=>exact⟨h2.1,h2.2.imp fun O' h=>⟨hG.trans h.1 hb.size,h.2⟩⟩
def leftAt (c:Cx) (w:World):Nat:=((c.fuel:Int) - intOf ((w.cell? ⟨c.r,10,none⟩).getD (.int .i64 0))).toNat
theorem Mc.leftAt {c:Cx} {O:Own} {w:World} {s:Ms} {j:Nat} (h:Mc c O w s j):leftAt c w=s.left:=by
 obtain⟨bv,bl,fl,ol,h1,-⟩:=h.mem;unfold Go.Proofs.YtppcohadoilpgaaGreatDoor.leftAt;rw [h1.c10];simp [intOf];omega
def WhI (c:Cx) (O:Own) (W wr:World) (j:Nat) (q:Ms->Except Int Vl) (f:Ms->Om) (R:Om):Prop:=∃O' s' n,Gr W O O'/\Bts O W wr/\Mc c O' wr s' j/\s'.left<n/\R=Dd q f n s'
theorem Aaa {m:Nat} (hS:DoC m) (c:Cx) (O:Own) (w:World) (s:Ms) (j:Nat) (a t:ByteArray) (es:List Ex) (bd el:List Sm) (cs:List Value) (hM:Mc c O w s j) (hx:SmA c.B w (m+1) cs (.mk 6 a t es bd el)) (hok:okS (m+1) (.mk 6 a t es bd el)) (hfe:C6 (m+1) (.mk 6 a t es bd el)) :
 Calls prog 146 #[.pointer (some ⟨c.r,0,none⟩),.agg cs.toArray] w (Ak c O w j (Dd (fun s=>Ai s m (es.getD 0 default)) (A0 (Ag c.F m) bd) (s.left+1) s) Value.bool):=by
 obtain⟨v1,v2,v3,rfl,wk,wa,wt,⟨ea,ecap,rfl,hmax,hsl⟩,hv2,hv3⟩:=hx;obtain⟨-,-,hpa,hs2,ht2,hall,hob,hoe⟩:=hok;obtain⟨-,hfb,hfl⟩:=hfe;obtain⟨R,hR⟩:∃R,R=Dd (fun s=>Ai s m (es.getD 0 default)) (A0 (Ag c.F m) bd) (s.left+1) s:=⟨_,rfl⟩;rw [<-hR];have HR0:Hid (R=_):=hR;clear hR;have hll:es.length=1:=by have:=D9 hpa;simpa [Ek] using this
 obtain⟨b,off,rfl,hb,hi⟩:=hsl (by omega);have hbw:b<w.heap.size:=by have:=hM.lo.size;omega
 have hbn:¬b=w.heap.size:=by omega
 rw [hll];obtain⟨k0,n0,s0,a0,len0,cap0,p00,p01,p02,p03,hx0,hm0⟩:=kid hi 0 off (by omega) (by omega);have ok0:okE m (es.getD 0 default):=hall _ hm0;have hrw:c.r<w.heap.size:=hM.lt;have hrn:¬c.r=w.heap.size:=by omega
 have HLO:Hid ((∀b,b<c.B->O b=none)/\c.B<=w.heap.size):=⟨hM.low,hM.lo.size⟩;have HTOP:Hid (O w.heap.size=none):=hM.top _ lr0;have HBO:Hid (b<c.B):=hb;obtain⟨a2,cap2,hq2,-⟩:=id hv2;subst hq2;obtain⟨a3,cap3,hq3,-⟩:=id hv3;subst hq3;have HST:Hid (∀(Z:World) (O':Own) (s':Ms) (j':Nat),Below c.B w Z->Mc c O' Z s' j'->(Calls prog 80 #[.pointer (some ⟨c.r,0,none⟩),.slice a2 bd.length cap2] Z (Ak c O' Z j' (A0 (Ag c.F m) bd s') Value.bool))/\Calls prog 80 #[.pointer (some ⟨c.r,0,none⟩),.slice a3 el.length cap3] Z (Ak c O' Z j' (A0 (Ag c.F m) el s') Value.bool)):=fun Z O' s' j' hZ hM'=>⟨D7 hS c O' Z s' j' bd _ hM' (Ea hv2 hZ) hob hfb,D7 hS c O' Z s' j' el _ hM' (Ea hv3 hZ) hoe hfl⟩;show Calls prog 146 #[.pointer (some ⟨c.r,0,none⟩),.agg #[.int .i64 6,.string a,.string t,.slice (some ⟨b,off,none⟩) 1 ecap,.slice a2 bd.length cap2,.slice a3 el.length cap3]] w _
 obtain⟨W,hW⟩:∃W,W=w.alloc (.cells #[.int .i64 6,.string a,.string t,.slice (some ⟨b,off,none⟩) 1 ecap,.slice a2 bd.length cap2,.slice a3 el.length cap3] 54):=⟨_,rfl⟩;have HW:Hid (Below w.heap.size w W):=by rw [hW];exact br0.alloc lr0 _
 have HM:Hid (Mc c O W s j):=hM.below HW.out;have HWW:Hid (W=_):=hW;have hws:w.heap.size<W.heap.size:=by rw [hW];simp
 have l3:W.cell? ⟨w.heap.size,3,none⟩=some (.slice (some ⟨b,off,none⟩) 1 ecap):=by rw [hW];simp [go_sem]
 have l4:W.cell? ⟨w.heap.size,4,none⟩=some (.slice a2 bd.length cap2):=by rw [hW];simp [go_sem]
 have l5:W.cell? ⟨w.heap.size,5,none⟩=some (.slice a3 el.length cap3):=by rw [hW];simp [go_sem]
 have hbW:b<W.heap.size:=Nat.lt_trans hbw hws;have q0:W.cell? ⟨b,off,none⟩=some (.int .i64 k0):=(HW.out.cell (p:=⟨b,off,none⟩) hbw).trans p00;have q1:W.cell? ⟨b,off+1,none⟩=some (.int .i64 n0):=(HW.out.cell (p:=⟨b,off+1,none⟩) hbw).trans p01;have q2:W.cell? ⟨b,off+2,none⟩=some (.string s0):=(HW.out.cell (p:=⟨b,off+2,none⟩) hbw).trans p02;have q3:W.cell? ⟨b,off+3,none⟩=some (.slice a0 len0 cap0):=(HW.out.cell (p:=⟨b,off+3,none⟩) hbw).trans p03;have hX0:ExA c.B W m [.int .i64 k0,.int .i64 n0,.string s0,.slice a0 len0 cap0] (es.getD 0 default):=hx0.out.below (HW.out.mono HLO.out.2);have HAK:Hid (∀(Z:World) (O':Own) (s':Ms),Below c.B W Z->Mc c O' Z s' j->_):=fun Z O' s' hZ hM'=>Dq (Hw m) c O' Z s' j _ _ hM' (hX0.below hZ) ok0;have HI0:Hid (WhI c O W W j (fun s=>Ai s m (es.getD 0 default)) (A0 (Ag c.F m) bd) R):=⟨O,s,_,Gr.refl _ _,Bts.refl _ _,HM.out,Nat.lt_succ_self _,HR0.out⟩
 have HLW:Hid (c.B<=W.heap.size/\O w.heap.size=none/\O b=none):=⟨lq0 HLO.out.2 HW.out.size,HTOP.out,HLO.out.1 b hb⟩;clear hsl hall wk wa wt hM hx0 hm0 hi hb hll hW hX0 ok0 hpa hv2 hv3 hob hoe hfb hfl hS;go_enter func146,ntmps146
 go_wp2_with fail
 rw [<-HWW.out];clear HWW p00 p01 p02 p03 HR0
 go_loopw [] (fun wr=>Hid (WhI c O W wr j (fun s=>Ai s m (es.getD 0 default)) (A0 (Ag c.F m) bd) R)) (fun wr=>leftAt c wr)
 case atStart=>exact HI0.out
 case round =>
  have HV:=hrel;clear hrel HI0;obtain⟨O1,s1,n,hG,hbt,hM1,hn,hR⟩:=HV.out;have HD:=hid (And.intro hG (And.intro hbt (And.intro hM1 (And.intro hn hR))));have HLF:Hid (leftAt c wr=s1.left):=hM1.leftAt;have hlow:Below c.B W wr:=hbt.below HLW.out.1 HLO.out.1;have rl3:wr.cell? ⟨w.heap.size,3,none⟩=some (.slice (some ⟨b,off,none⟩) 1 ecap):=(hbt.cell hws HLW.out.2.1 _).trans l3;have rl4:wr.cell? ⟨w.heap.size,4,none⟩=some (.slice a2 bd.length cap2):=(hbt.cell hws HLW.out.2.1 _).trans l4;have rq0:wr.cell? ⟨b,off,none⟩=some (.int .i64 k0):=(hbt.cell hbW HLW.out.2.2 _).trans q0;have rq1:wr.cell? ⟨b,off+1,none⟩=some (.int .i64 n0):=(hbt.cell hbW HLW.out.2.2 _).trans q1;have rq2:wr.cell? ⟨b,off+2,none⟩=some (.string s0):=(hbt.cell hbW HLW.out.2.2 _).trans q2;have rq3:wr.cell? ⟨b,off+3,none⟩=some (.slice a0 len0 cap0):=(hbt.cell hbW HLW.out.2.2 _).trans q3;have HZ:=hid (HAK.out wr O1 s1 hlow hM1)
  obtain⟨n,rfl⟩:∃k,n=k+1:=⟨n - 1,by omega⟩;have HR1:Hid (R=orM s1 (Ai s1 m (es.getD 0 default)) fun v=>if v.so then Az s1 fun s1=>(A0 (Ag c.F m) bd s1).then (Dd (fun s=>Ai s m (es.getD 0 default)) (A0 (Ag c.F m) bd) n) else .go s1 true):=hR;have HC:=hid (J3 (j':=j) (R0:=R) (K0:=Value.bool) HZ.out br0 hM1 (fun er h=>by rw [HR1.out,h];rfl));have HBR:Hid (Bts O w wr):=(Bts.of_below (O:=O) HW.out).trans hbt (Gr.refl _ _);have HGR:Hid (Gr w O O1):=hG.after HW.out.size;have HON:Hid (O1 w.heap.size=none):=hG _ hws HTOP.out;have hwr:w.heap.size<wr.heap.size:=lle hws hbt.size;clear hG hbt hM1 hn hR HV hlow HZ HAK HM HW HBO HLW l3 l4 l5 q0 q1 q2 q3;go_wp2_with fail
  refine Calls.mono HC.out ?_;rintro e w1 (⟨er,rfl,HE⟩ | ⟨x,rfl,HX,HB1,-,HM1⟩)
  . have HF:=hid (Ak.chain HBR.out HGR.out HE.out);go_wp2_with fail
    exact⟨rfl,HF.out⟩
  have m4:w1.cell? ⟨w.heap.size,4,none⟩=some (.slice a2 bd.length cap2):=(HB1.out.cell (p:=⟨w.heap.size,4,none⟩) hwr).trans rl4;have hw1:w.heap.size<w1.heap.size:=lle hwr HB1.out.size;have HB1R:Hid (Bts O w w1):=HBR.out.more HB1.out;clear HC rl3 rl4 rq0 rq1 rq2 rq3;cases hso:x.so with
  | false =>
   have HR2:Hid (R = .go s1 true):=by unfold Hid;rw [HR1.out,HX.out];show (if x.so=true then _ else _)=_;rw [hso];rfl
   clear hso HR1 HX HST;go_wp2_with fail
   go_ret
   exact Ak.go (K:=Value.bool) HB1R.out HR2.out HGR.out HM1.out
  | true =>
   have HR2:Hid (R=Az s1 fun s1=>(A0 (Ag c.F m) bd s1).then (Dd (fun s=>Ai s m (es.getD 0 default)) (A0 (Ag c.F m) bd) n)):=by unfold Hid;rw [HR1.out,HX.out];show (if x.so=true then _ else _)=_;rw [hso];rfl
   clear hso HR1 HX
   by_cases h0:s1.left=0
   . have HR3:Hid (R = .stop s1 1):=by unfold Hid;rw [HR2.out];unfold Az;rw [if_pos h0]
     have HBN:=hid (C0 c O1 w1 s1 j HM1.out h0);clear h0 HST;go_wp2_with fail
     refine Calls.mono HBN.out ?_;rintro e w2 ⟨rfl,hb2⟩;have HB2:Hid (Below w1.heap.size w1 w2):=hb2;clear hb2 HBN;go_wp2_with fail
     exact⟨rfl,Ak.stop (HB1R.out.more HB2.out) HR3.out HGR.out (HM1.out.below HB2.out).ou⟩
   have HR3:Hid (R=(A0 (Ag c.F m) bd { s1 with left:=s1.left - 1 }).then (Dd (fun s=>Ai s m (es.getD 0 default)) (A0 (Ag c.F m) bd) n)):=by unfold Hid;rw [HR2.out];unfold Az;rw [if_neg h0]
   have HBC:=hid (D5 c O1 w1 s1 j HM1.out h0);have HLL:Hid (0<s1.left):=Nat.pos_of_ne_zero h0;clear h0;go_wp2_with fail
   refine Calls.mono HBC.out ?_;rintro e w2 ⟨rfl,hbt2,hM2⟩;have HBT2:Hid (Bts O w w2):=HB1R.out.trans hbt2 HGR.out;have n4:w2.cell? ⟨w.heap.size,4,none⟩=some (.slice a2 bd.length cap2):=(hbt2.cell hw1 HON.out _).trans m4;have HSS:=hid ((HST.out w2 O1 _ j (HBT2.out.below HLO.out.2 HLO.out.1) hM2.less).1);have HBS:Hid (w1.heap.size<=w2.heap.size):=hbt2.size;have HBA:Hid (Bts O1 w1 w2):=hbt2;clear hbt2 hM2 HBC HST m4;go_wp2_with fail
   refine Calls.mono HSS.out ?_;intro e w3 hd;have HBT3:Hid (Bts O w w3):=HBT2.out.trans hd.1 HGR.out;have HBX:Hid (Bts O1 w1 w3):=HBA.out.trans hd.1 (Gr.refl _ _);rcases hd.cases with⟨s9,er,h9,rfl⟩ | ⟨s9,b9,O9,h9,rfl,hG9,hMc9⟩
   . have HF:=hid (Ak.chain HBT2.out HGR.out (Ak.same (R':=R) hd (by rw [HR3.out,Gd h9,h9])));clear hd h9 HSS;go_wp2_with fail
     exact⟨rfl,HF.out⟩
   cases b9 with
   | false =>
    have HF:=hid (Ak.chain HBT2.out HGR.out (Ak.same (R':=R) hd (by rw [HR3.out,Hq h9,h9])));clear hd h9 hG9 hMc9 HSS;go_wp2_with fail
    go_ret
    exact HF.out
   | true =>
    have HL9:Hid (s9.left<=s1.left - 1):=by
     have:=Zo c.F m (s1.left - 1) bd { s1 with left:=s1.left - 1 } lr0;rw [h9] at this;exact this
    have HNX:Hid (WhI c O W w3 j (fun s=>Ai s m (es.getD 0 default)) (A0 (Ag c.F m) bd) R):=by
     have hn:=HD.out.2.2.2.1;have h1:=HL9.out;have h2:=HLL.out;refine⟨O9,s9,n,HD.out.1.trans (hG9.after (lq0 HB1.out.size HBS.out)) HD.out.2.1.size,?_,hMc9,by omega,by rw [HR3.out,I7 h9]⟩;exact (HD.out.2.1.more HB1.out).trans HBX.out HD.out.1
    have HME:Hid (leftAt c w3<leftAt c wr):=by
     unfold Hid;have h1:=HL9.out;have h2:=HLL.out;rw [HLF.out,hMc9.leftAt];omega
    clear hd h9 hG9 hMc9 HSS;go_wp2_with fail
    go_roundw
    case rel=>exact HNX.out
    case measure=>exact HME.out
end Go.Proofs.YtppcohadoilpgaaGreatDoor
