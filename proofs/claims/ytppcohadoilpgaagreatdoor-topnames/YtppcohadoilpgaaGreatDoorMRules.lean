/-
  The machine's rule. / The machine's rulesOf: the rules of a time, one by one.
-/
import Derived.Test.YtppcohadoilpgaaGreatDoorMStmt
namespace Go.Proofs.YtppcohadoilpgaaGreatDoor
open Go.ChangeShapes Go.WideShapes Go.ChangeAt Go.RowKit Go.Joins Go.Maps Go.Proofs.Tryz
set_option maxHeartbeats 4000000
set_option linter.unusedVariables false
set_option maxRecDepth 100000
theorem Abq (m:Nat) (c:Cx) (O:Own) (w:World) (s:Ms) (j:Nat) (r:Ru) (cs:List Value) (hM:Mc c O w s j) (hx:RuA c.B w m cs r) (hok:okR m r) (hfe:∀x ∈ r.body,C6 m x) :
 Calls prog 53 #[.pointer (some ⟨c.r,0,none⟩),.agg cs.toArray] w (Ak c O w j (Ep c.F m s r) Value.bool):=by
 obtain⟨R,hR⟩:∃R,R=Ep c.F m s r:=⟨_,rfl⟩;rw [<-hR];obtain⟨wh,hs,pt,bd⟩:=r;obtain⟨c0,c1,c2,c3,v,rfl,wk,hpt,hbd⟩:=hx;simp only at hbd hpt hfe;obtain⟨k0,n0,s0,a0,len0,cap0,hsh⟩:=hpt.shape;simp only [List.cons.injEq,and_true] at hsh;obtain⟨rfl,rfl,rfl,rfl⟩:=hsh;obtain⟨a2,cap2,hq2,-⟩:=id hbd;subst hq2;have HR0:Hid (R=Az s fun s=>if hs then orM s (Ai s m pt) fun v=>if v.so then A0 (Ag c.F m) bd s else .go s true else A0 (Ag c.F m) bd s):=hR;clear hR;show Calls prog 53 #[.pointer (some ⟨c.r,0,none⟩),.agg #[.int .i64 wh,.bool hs,.int .i64 k0,.int .i64 n0,.string s0,.slice a0 len0 cap0,.slice a2 bd.length cap2]] w _;have HOK:Hid (hs=true->okE m pt):=fun e=>(hok.2.2.1 e).2;have HPT:Hid (ExA c.B w m [.int .i64 k0,.int .i64 n0,.string s0,.slice a0 len0 cap0] pt):=hpt;have hrw:c.r<w.heap.size:=hM.lt;have hrn:¬c.r=w.heap.size:=by omega
 have HLO:Hid ((∀b,b<c.B->O b=none)/\c.B<=w.heap.size):=⟨hM.low,hM.lo.size⟩;have HTOP:Hid (O w.heap.size=none):=hM.top _ lr0;have HST:Hid (∀(Z:World) (O':Own) (s':Ms) (j':Nat),Below c.B w Z->Mc c O' Z s' j'->Calls prog 80 #[.pointer (some ⟨c.r,0,none⟩),.slice a2 bd.length cap2] Z (Ak c O' Z j' (A0 (Ag c.F m) bd s') Value.bool)):=fun Z O' s' j' hZ hM'=>D7 (Agy m) c O' Z s' j' bd _ hM' (Ea hbd hZ) hok.2.2.2 hfe;obtain⟨W,hW⟩:∃W,W=w.alloc (.cells #[.int .i64 wh,.bool hs,.int .i64 k0,.int .i64 n0,.string s0,.slice a0 len0 cap0,.slice a2 bd.length cap2] 34):=⟨_,rfl⟩;have HW:Hid (Below w.heap.size w W):=by rw [hW];exact br0.alloc lr0 _
 have HM:Hid (Mc c O W s j):=hM.below HW.out;have HWW:Hid (W=_):=hW;have hws:w.heap.size<W.heap.size:=by rw [hW];simp
 have l0:W.cell? ⟨w.heap.size,0,none⟩=some (.int .i64 wh):=by rw [hW];simp [go_sem]
 have l1:W.cell? ⟨w.heap.size,1,none⟩=some (.bool hs):=by rw [hW];simp [go_sem]
 have l2:W.cell? ⟨w.heap.size,2,none⟩=some (.int .i64 k0):=by rw [hW];simp [go_sem]
 have l3:W.cell? ⟨w.heap.size,3,none⟩=some (.int .i64 n0):=by rw [hW];simp [go_sem]
 have l4:W.cell? ⟨w.heap.size,4,none⟩=some (.string s0):=by rw [hW];simp [go_sem]
 have l5:W.cell? ⟨w.heap.size,5,none⟩=some (.slice a0 len0 cap0):=by rw [hW];simp [go_sem]
 have l6:W.cell? ⟨w.heap.size,6,none⟩=some (.slice a2 bd.length cap2):=by rw [hW];simp [go_sem]
 clear hM hW hok hfe wk hpt hbd
 by_cases h0:s.left=0
 . have HR1:Hid (R = .stop s 1):=by unfold Hid;rw [HR0.out];unfold Az;rw [if_pos h0]
   have HBN:=hid (C0 c O W s j HM.out h0);clear h0;go_enter func53,ntmps53
   go_wp2_with fail
   rw [<-HWW.out];clear HWW;refine Calls.mono HBN.out ?_;rintro e w1 ⟨rfl,hb1⟩;have HB1:Hid (Below w.heap.size w w1):=Aa HW.out hb1;have HOU:Hid (Ou c O w1 s.out s.left):=(HM.out.below hb1).ou;clear hb1 HBN;go_wp2_with fail
   exact⟨rfl,Ak.stop (Bts.of_below HB1.out) HR1.out (Gr.refl _ _) HOU.out⟩
 obtain⟨s2,hs2⟩:∃s2:Ms,s2 = { s with left:=s.left - 1 }:=⟨_,rfl⟩;have HR1:Hid (R=if hs then orM s2 (Ai s2 m pt) fun v=>if v.so then A0 (Ag c.F m) bd s2 else .go s2 true else A0 (Ag c.F m) bd s2):=by unfold Hid;rw [HR0.out];unfold Az;rw [if_neg h0,hs2]
 have HBC:=hid (D5 c O W s j HM.out h0);rw [<-hs2] at HBC;clear h0 hs2 HR0;go_enter func53,ntmps53
 go_wp2_with fail
 rw [<-HWW.out];clear HWW;refine Calls.mono HBC.out ?_;rintro e w1 ⟨rfl,hbt1,hM1⟩;have HBT1:Hid (Bts O w w1):=(Bts.of_below (O:=O) HW.out).trans hbt1 (Gr.refl _ _);have HM1:=hid hM1.less;have hw1:w.heap.size<w1.heap.size:=lle hws hbt1.size;have r0:w1.cell? ⟨w.heap.size,0,none⟩=some (.int .i64 wh):=(hbt1.cell hws HTOP.out _).trans l0;have r1:w1.cell? ⟨w.heap.size,1,none⟩=some (.bool hs):=(hbt1.cell hws HTOP.out _).trans l1;have r2:w1.cell? ⟨w.heap.size,2,none⟩=some (.int .i64 k0):=(hbt1.cell hws HTOP.out _).trans l2;have r3:w1.cell? ⟨w.heap.size,3,none⟩=some (.int .i64 n0):=(hbt1.cell hws HTOP.out _).trans l3;have r4:w1.cell? ⟨w.heap.size,4,none⟩=some (.string s0):=(hbt1.cell hws HTOP.out _).trans l4;have r5:w1.cell? ⟨w.heap.size,5,none⟩=some (.slice a0 len0 cap0):=(hbt1.cell hws HTOP.out _).trans l5
 have r6:w1.cell? ⟨w.heap.size,6,none⟩=some (.slice a2 bd.length cap2):=(hbt1.cell hws HTOP.out _).trans l6;clear hbt1 hM1 HBC l0 l1 l2 l3 l4 l5 l6;cases hs with
 | false =>
  have HR2:Hid (R=A0 (Ag c.F m) bd s2):=HR1.out;have HC:=hid (HST.out w1 O s2 j (HBT1.out.below HLO.out.2 HLO.out.1) HM1.out);clear HST;go_wp2_with fail
  refine Calls.mono HC.out ?_;intro e w9 hd;have HF:=hid (Ak.chain HBT1.out (Gr.refl _ _) (Ak.same hd HR2.out));rcases hd.cases with⟨s9,er,h9,rfl⟩ | ⟨s9,b9,O9,h9,rfl,hG9,hMc9⟩
  . clear hd h9 HC;go_wp2_with fail
    exact⟨rfl,HF.out⟩
  clear hd h9 hG9 hMc9 HC;go_wp2_with fail
  go_ret
  exact HF.out
 | true =>
  have HR3:Hid (R=orM s2 (Ai s2 m pt) fun v=>if v.so then A0 (Ag c.F m) bd s2 else .go s2 true):=HR1.out;have HA:=hid (J3 (j':=j) (R0:=R) (K0:=Value.bool) (Dq (Hw m) c O w1 s2 j _ _ HM1.out (HPT.out.below (HBT1.out.below HLO.out.2 HLO.out.1)) (HOK.out rfl)) br0 HM1.out (fun er h=>by rw [HR3.out,h];rfl));clear HOK HPT HR1;go_wp2_with fail
  refine Calls.mono HA.out ?_;rintro e w2 (⟨er,rfl,HE⟩ | ⟨x,rfl,HX,HB2,-,HM2⟩)
  . have HF:=hid (Ak.chain HBT1.out (Gr.refl _ _) HE.out);go_wp2_with fail
    exact⟨rfl,HF.out⟩
  have HBT2:Hid (Bts O w w2):=HBT1.out.more HB2.out;have t6:w2.cell? ⟨w.heap.size,6,none⟩=some (.slice a2 bd.length cap2):=(HB2.out.cell (p:=⟨w.heap.size,6,none⟩) hw1).trans r6;clear HA r0 r1 r2 r3 r4 r5 r6;cases hso:x.so with
  | false =>
   have HR2:Hid (R = .go s2 true):=by unfold Hid;rw [HR3.out,HX.out];show (if x.so=true then _ else _)=_;rw [hso];rfl
   clear hso HX HR3 HST;go_wp2_with fail
   go_ret
   exact Ak.go (K:=Value.bool) HBT2.out HR2.out (Gr.refl _ _) HM2.out
  | true =>
   have HR2:Hid (R=A0 (Ag c.F m) bd s2):=by unfold Hid;rw [HR3.out,HX.out];show (if x.so=true then _ else _)=_;rw [hso];rfl
   clear hso HX HR3;have HC:=hid (HST.out w2 O s2 j (HBT2.out.below HLO.out.2 HLO.out.1) HM2.out);clear HST;go_wp2_with fail
   refine Calls.mono HC.out ?_;intro e w9 hd;have HF:=hid (Ak.chain HBT2.out (Gr.refl _ _) (Ak.same hd HR2.out));rcases hd.cases with⟨s9,er,h9,rfl⟩ | ⟨s9,b9,O9,h9,rfl,hG9,hMc9⟩
   . clear hd h9 HC;go_wp2_with fail
     exact⟨rfl,HF.out⟩
   clear hd h9 hG9 hMc9 HC;go_wp2_with fail
   go_ret
   exact HF.out
instance:Inhabited Ru:=⟨⟨0,false,default,[]⟩⟩
theorem Ag8 {B m b off:Nat} {w:World} {l:List Ru} (hi:∀i,i<l.length->∃cs:List Value,cs.length=7/\(∀j,j<7->w.cell? ⟨b,off+i * 7+j,none⟩=cs[j]?)/\∃x,l[i]? = some x/\RuA B w m cs x) (i o:Nat) (ho:off+i * 7=o) (h:i<l.length) :
 ∃(wh:Int) (hs:Bool) (k n:Int) (s:ByteArray) (a0:Option Addr) (len0 cap0:Nat) (a1:Option Addr) (len1 cap1:Nat),w.cell? ⟨b,o,none⟩=some (.int .i64 wh)/\w.cell? ⟨b,o+1,none⟩=some (.bool hs)/\w.cell? ⟨b,o+2,none⟩=some (.int .i64 k)/\w.cell? ⟨b,o+3,none⟩=some (.int .i64 n)/\w.cell? ⟨b,o+4,none⟩=some (.string s)/\w.cell? ⟨b,o+5,none⟩=some (.slice a0 len0 cap0)/\w.cell? ⟨b,o+6,none⟩=some (.slice a1 len1 cap1)/\Hid (l[i].when=wh) /\
  Hid (RuA B w m [.int .i64 wh,.bool hs,.int .i64 k,.int .i64 n,.string s,.slice a0 len0 cap0,.slice a1 len1 cap1] l[i]):=by
 obtain⟨cs,hcl,hcell,x,hx,hex⟩:=hi i h;subst ho;rw [gee h] at hx;cases hx;have hex2:=hex;obtain⟨c0,c1,c2,c3,v,rfl,wk,hpt,⟨a1,cap1,rfl,-⟩⟩:=hex2;obtain⟨k0,n0,s0,a0,len0,cap0,hsh⟩:=hpt.shape;simp only [List.cons.injEq,and_true] at hsh;obtain⟨rfl,rfl,rfl,rfl⟩:=hsh;exact⟨_,_,k0,n0,s0,a0,len0,cap0,a1,_,cap1,hcell 0 (by omega),hcell 1 (by omega),hcell 2 (by omega),hcell 3 (by omega),hcell 4 (by omega),hcell 5 (by omega),hcell 6 (by omega),rfl,hex⟩
def onM:Om->Om
 | .go s _=> .go s true
 | .stop s e=> .stop s e
def RlI (c:Cx) (O:Own) (w wr:World) (j:Nat) (when:Int) (R:Om) (i:Nat):Prop:=∃O' s',Gr w O O'/\Bts O w wr/\Mc c O' wr s' j/\R=onM (A0 (Ep c.F c.m) ((c.R.drop i).filter fun r=>r.when == when) s')
theorem Ws (c:Cx) (O:Own) (w:World) (s:Ms) (j:Nat) (when:Int) (hM:Mc c O w s j) (hfe:∀r ∈ c.R,∀x ∈ r.body,C6 c.m x) :
 Calls prog 35 #[.pointer (some ⟨c.r,0,none⟩),.int .i64 when] w (Df c O w j (Ci c.F c.m c.R when s)):=by
 obtain⟨R,hR⟩:∃R,R=Ci c.F c.m c.R when s:=⟨_,rfl⟩;rw [<-hR];have hR1:R=onM (A0 (Ep c.F c.m) (c.R.filter fun r=>r.when == when) s):=hR;obtain⟨a,cap,hrv,hmax,hsl⟩:=hM.lo.rules;have HSL:Hid (0<c.R.length->∃b off,a=some ⟨b,off,none⟩/\b<c.B/\∀i,i<c.R.length->∃cs:List Value,cs.length=7/\(∀j,j<7->w.cell? ⟨b,off+i * 7+j,none⟩=cs[j]?)/\∃x,c.R[i]? = some x/\RuA c.B w c.m cs x):=hsl;have HLO:Hid ((∀b,b<c.B->O b=none)/\c.B<=w.heap.size):=⟨hM.low,hM.lo.size⟩;have HOK:Hid (∀x ∈ c.R,okR c.m x/\∀y ∈ x.body,C6 c.m y):=fun x hx=>⟨hM.lo.ok x hx,hfe x hx⟩;have HI0:Hid (RlI c O w w j when R 0):=⟨O,s,Gr.refl _ _,Bts.refl _ _,hM,hR1⟩;have HMX:Hid ((c.R.length:Int)<=9223372036854775807):=by have h9:c.R.length<=maxLen:=hmax;unfold maxLen at h9;unfold Hid;omega
 have c2:w.cell? ⟨c.r,2,none⟩=some (.slice a c.R.length cap):=by
  obtain⟨_,_,_,_,m1,_⟩:=hM.mem;rw [<-hrv];exact m1.c2
 clear hsl hM hfe hmax hR hR1 hrv;go_enter func35,ntmps35
 go_wp2_with fail
 go_loopw [11] (fun v11 wr=>∃i:Nat,i<=c.R.length/\v11 = .int .i64 i/\Hid (RlI c O w wr j when R i)) (fun v11 _=>c.R.length - (intOf v11).toNat)
 case atStart=>exact⟨0,Nat.zero_le _,rfl,HI0.out⟩
 case round =>
  obtain⟨i,hil,rfl,HV⟩:=hrel;obtain⟨O1,s1,hG,hbt,hM1,hR⟩:=HV.out;have HD:=hid (And.intro hG (And.intro hbt (And.intro hM1 hR)));clear HV HI0 c2
  by_cases hlt:i<c.R.length
  . have i1:(i:Int)<(c.R.length:Int):=by omega
    have i2:(0:Int)<=(i:Int):=by omega
    have i3: -9223372036854775808<=(i:Int)+1:=by omega
    have i4:(i:Int)+1<=9223372036854775807:=by have:=HMX.out;omega
    obtain⟨b,off,rfl,hbB,hii⟩:=HSL.out (by omega);obtain⟨wh,hs,k0,n0,s0,a0,len0,cap0,a1,len1,cap1,p0,p1,p2,p3,p4,p5,p6,hwh,hx0⟩:=Ag8 hii i (off+i * 7) rfl hlt;have hlow:Below c.B w wr:=hbt.below HLO.out.2 HLO.out.1;have q0:wr.cell? ⟨b,off+i * 7,none⟩=some (.int .i64 wh):=(hlow.cell (p:=⟨b,off+i * 7,none⟩) hbB).trans p0;have q1:wr.cell? ⟨b,off+i * 7+1,none⟩=some (.bool hs):=(hlow.cell (p:=⟨b,off+i * 7+1,none⟩) hbB).trans p1;have q2:wr.cell? ⟨b,off+i * 7+2,none⟩=some (.int .i64 k0):=(hlow.cell (p:=⟨b,off+i * 7+2,none⟩) hbB).trans p2;have q3:wr.cell? ⟨b,off+i * 7+3,none⟩=some (.int .i64 n0):=(hlow.cell (p:=⟨b,off+i * 7+3,none⟩) hbB).trans p3;have q4:wr.cell? ⟨b,off+i * 7+4,none⟩=some (.string s0):=(hlow.cell (p:=⟨b,off+i * 7+4,none⟩) hbB).trans p4;have q5:wr.cell? ⟨b,off+i * 7+5,none⟩=some (.slice a0 len0 cap0):=(hlow.cell (p:=⟨b,off+i * 7+5,none⟩) hbB).trans p5
    have q6:wr.cell? ⟨b,off+i * 7+6,none⟩=some (.slice a1 len1 cap1):=(hlow.cell (p:=⟨b,off+i * 7+6,none⟩) hbB).trans p6;obtain⟨W1,hW1⟩:∃W1,W1=wr.alloc (.cells #[.int .i64 wh,.bool hs,.int .i64 k0,.int .i64 n0,.string s0,.slice a0 len0 cap0,.slice a1 len1 cap1] 34):=⟨_,rfl⟩;have HB1:Hid (Below wr.heap.size wr W1):=by rw [hW1];exact br0.alloc lr0 _
    have HWW:Hid (W1=_):=hW1;obtain⟨X,hX⟩:∃X,X=c.R[i]:=⟨_,rfl⟩;have HDR:Hid (c.R.drop i=X :: c.R.drop (i+1)):=by
     unfold Hid;rw [List.drop_eq_getElem_cons hlt,hX]
    have hmem:=HOK.out X (by rw [hX];exact List.getElem_mem hlt);rw [<-hX] at hx0 hwh;have HWH:Hid (X.when=wh):=hwh.out;have HCA:=hid (Abq c.m c O1 W1 s1 j X _ (hM1.below HB1.out) ((hx0.out.below hlow).below (HB1.out.mono (lq0 HLO.out.2 hlow.size))) hmem.1 hmem.2);clear p0 p1 p2 p3 p4 p5 p6 hx0 hii hW1 HSL HOK hX hmem hlow hG hbt hM1 hR hwh
    by_cases hww:wh=when
    . have e1:(wh == when)=true:=by rw [hww];simp
      have HRX:Hid (R=onM ((Ep c.F c.m s1 X).then (A0 (Ep c.F c.m) ((c.R.drop (i+1)).filter fun r=>r.when == when)))):=by
       unfold Hid;rw [HD.out.2.2.2,HDR.out,List.filter_cons_of_pos (by rw [HWH.out];exact e1)];rfl
      clear hww HWH HDR;go_wp2_with fail
      rw [<-HWW.out];clear HWW q0 q1 q2 q3 q4 q5 q6;refine Calls.mono HCA.out ?_;intro e w2 hd;have hd2:=hd.after HB1.out;have HBT2:Hid (Bts O w w2):=HD.out.2.1.trans hd2.1 HD.out.1;rcases hd2.cases with⟨s9,er,h9,rfl⟩ | ⟨s9,b9,O9,h9,rfl,hG9,hMc9⟩
      . have hd3:=hd2.2;rw [h9] at hd3;obtain⟨-,O9,hG9,hou⟩:=hd3;have HE:Hid (R = .stop s9 er):=by unfold Hid;rw [HRX.out,Gd h9];rfl
        have HO9:=hid (And.intro hG9 hou);clear hd hd2 h9 hG9 hou HCA;go_wp2_with fail
        exact⟨rfl,Ak.stop HBT2.out HE.out (HD.out.1.trans HO9.out.1 HD.out.2.1.size) HO9.out.2⟩
      have HN9:=hid (And.intro hG9 hMc9);cases b9 with
      | false =>
       have HE:Hid (R = .go s9 true):=by unfold Hid;rw [HRX.out,Hq h9];rfl
       clear hd hd2 h9 hG9 hMc9 HCA;go_wp2_with fail
       go_end0
       exact Ak.go (K:=fun _=> .tuple #[]) HBT2.out HE.out (HD.out.1.trans HN9.out.1 HD.out.2.1.size) HN9.out.2
      | true =>
       have HNX:Hid (RlI c O w w2 j when R (i+1)):=⟨O9,s9,HD.out.1.trans HN9.out.1 HD.out.2.1.size,HBT2.out,HN9.out.2,by rw [HRX.out,I7 h9]⟩;clear hd hd2 h9 hG9 hMc9 HCA HN9;go_wp2_with fail
       go_roundw
       case rel=>exact⟨i+1,by omega,by go_num,HNX.out⟩
       case measure=>simp [intOf];omega
    . have e1:(wh == when)=false:=by simp;exact hww
      have HNX:Hid (RlI c O w W1 j when R (i+1)):=⟨O1,s1,HD.out.1,HD.out.2.1.more HB1.out,HD.out.2.2.1.below HB1.out,by rw [HD.out.2.2.2,HDR.out,List.filter_cons_of_neg (by rw [HWH.out,e1];simp)]⟩;clear hww HWH HDR HCA;go_wp2_with fail
      rw [<-HWW.out];clear HWW q0 q1 q2 q3 q4 q5 q6;go_roundw
      case rel=>exact⟨i+1,by omega,by go_num,HNX.out⟩
      case measure=>simp [intOf];omega
  . have i1:¬(i:Int)<(c.R.length:Int):=by omega
    have HE:Hid (R = .go s1 true):=by unfold Hid;rw [hR,List.drop_eq_nil_of_le (by omega)];rfl
    clear hG hbt hM1 hR;go_wp2_with fail
    go_end0
    exact Ak.go (K:=fun _=> .tuple #[]) HD.out.2.1 HE.out HD.out.1 HD.out.2.2.1
end Go.Proofs.YtppcohadoilpgaaGreatDoor
