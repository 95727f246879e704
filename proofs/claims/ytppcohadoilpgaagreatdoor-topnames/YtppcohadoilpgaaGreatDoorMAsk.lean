/-
  The machine's ask, kind by kind.
-/
import Derived.Test.YtppcohadoilpgaaGreatDoorMVals
import Derived.Deep.RegionHeld2
import Derived.OwnWalk
namespace Go.Proofs.YtppcohadoilpgaaGreatDoor
open Go.ChangeShapes Go.WideShapes Go.ChangeAt Go.RowKit Go.Joins Go.Maps Go.Proofs.Tryz
set_option maxHeartbeats 4000000
set_option linter.unusedVariables false
set_option maxRecDepth 100000
theorem Agk {m:Nat} (hX:Er m) (c:Cx) (O:Own) (w:World) (s:Ms) (j:Nat) (n:Int) (t:ByteArray) (l:List Ex) (cs:List Value) (hM:Mc c O w s j) (hx:ExA c.B w (m+1) cs (.mk 1 n t l)) (hok:okE (m+1) (.mk 1 n t l)) :
 Calls prog 108 #[.pointer (some ⟨c.r,0,none⟩),.agg cs.toArray] w (Dm w (Ai s (m+1) (.mk 1 n t l))):=by
 obtain⟨v,rfl,wk,wn,ws,a,cap,rfl,hmax,hsl⟩:=hx;obtain⟨-,-,hpa,hs2,hn0,hn1,hall⟩:=hok;obtain⟨R,hR⟩:∃R,R=Ai s (m+1) (.mk 1 n t l):=⟨_,rfl⟩;rw [<-hR];have HR0:Hid (R = .ok (vN n)):=by rw [hR];simp [Ai,Hid]
 clear hR;have hrw:c.r<w.heap.size:=hM.lt;have hrn:¬c.r=w.heap.size:=by omega
 have hrn1:¬c.r=w.heap.size+1:=by omega
 have HSB:Hid (c.B<=w.heap.size):=hM.lo.size;have HF:Hid (Fit s):=hM.fit;have HPW:Hid (D4 c.B w):=hM.lo.pw;show Calls prog 108 #[.pointer (some ⟨c.r,0,none⟩),.agg #[.int .i64 1,.int .i64 n,.string t,.slice a l.length cap]] w _;obtain⟨W,hW⟩:∃W,W=(w.alloc (.cells #[.int .i64 1,.int .i64 n,.string t,.slice a l.length cap] 31)).alloc (.cells #[.bool false,.int .i64 0,.string ⟨#[]⟩] 157):=⟨_,rfl⟩;have HW:Hid (Below w.heap.size w W):=by rw [hW];exact Aa (br0.alloc lr0 _) (br0.alloc lr0 _)
 have HM:Hid (Mc c O W s j):=hM.below HW.out;have HB0:Hid (RB (w.heap.size+1) W):=by rw [hW];exact RB.new2 _ _
 have HWW:Hid (W=_):=hW;have HWZ:Hid (W.heap.size=w.heap.size+1+1):=by rw [hW];simp [Hid]
 have l2:W.cell? ⟨w.heap.size,2,none⟩=some (.string t):=by rw [hW];simp [go_sem]
 have l3:W.cell? ⟨w.heap.size,3,none⟩=some (.slice a l.length cap):=by rw [hW];simp [go_sem]
 clear hsl hall wk wn ws hM hW HM;go_enter func108,ntmps108
 go_wp2_with fail
 rw [<-HWW.out];clear HWW;refine (F7 n W).mono ?_;rintro e w1 ⟨rfl,hb1⟩;have HB1:Hid (Below w.heap.size w w1):=Aa HW.out hb1;have HRB:Hid (RB (w.heap.size+1) w1):=HB0.out.below hb1;clear hb1;obtain⟨x0,x1,x2,y0,y1,y2⟩:=HRB.out.cells;go_wp2
 exact bodyPost_ret (v:= .agg #[.bool false,.int .i64 n,.string ⟨#[]⟩]) (by simp [results,results108,go_sem,x0,x1,x2]) rfl (Ej HB1.out (Nat.le_succ _) HR0.out)
theorem Agl {m:Nat} (hX:Er m) (c:Cx) (O:Own) (w:World) (s:Ms) (j:Nat) (n:Int) (t:ByteArray) (l:List Ex) (cs:List Value) (hM:Mc c O w s j) (hx:ExA c.B w (m+1) cs (.mk 2 n t l)) (hok:okE (m+1) (.mk 2 n t l)) :
 Calls prog 108 #[.pointer (some ⟨c.r,0,none⟩),.agg cs.toArray] w (Dm w (Ai s (m+1) (.mk 2 n t l))):=by
 obtain⟨v,rfl,wk,wn,ws,a,cap,rfl,hmax,hsl⟩:=hx;obtain⟨-,-,hpa,hs2,hn0,hn1,hall⟩:=hok;obtain⟨R,hR⟩:∃R,R=Ai s (m+1) (.mk 2 n t l):=⟨_,rfl⟩;rw [<-hR];have HR0:Hid (R = .ok (vS t)):=by rw [hR];simp [Ai,Hid]
 clear hR;have hrw:c.r<w.heap.size:=hM.lt;have hrn:¬c.r=w.heap.size:=by omega
 have hrn1:¬c.r=w.heap.size+1:=by omega
 have HSB:Hid (c.B<=w.heap.size):=hM.lo.size;have HF:Hid (Fit s):=hM.fit;have HPW:Hid (D4 c.B w):=hM.lo.pw;show Calls prog 108 #[.pointer (some ⟨c.r,0,none⟩),.agg #[.int .i64 2,.int .i64 n,.string t,.slice a l.length cap]] w _;obtain⟨W,hW⟩:∃W,W=(w.alloc (.cells #[.int .i64 2,.int .i64 n,.string t,.slice a l.length cap] 31)).alloc (.cells #[.bool false,.int .i64 0,.string ⟨#[]⟩] 157):=⟨_,rfl⟩;have HW:Hid (Below w.heap.size w W):=by rw [hW];exact Aa (br0.alloc lr0 _) (br0.alloc lr0 _)
 have HM:Hid (Mc c O W s j):=hM.below HW.out;have HB0:Hid (RB (w.heap.size+1) W):=by rw [hW];exact RB.new2 _ _
 have HWW:Hid (W=_):=hW;have HWZ:Hid (W.heap.size=w.heap.size+1+1):=by rw [hW];simp [Hid]
 have l2:W.cell? ⟨w.heap.size,2,none⟩=some (.string t):=by rw [hW];simp [go_sem]
 have l3:W.cell? ⟨w.heap.size,3,none⟩=some (.slice a l.length cap):=by rw [hW];simp [go_sem]
 clear hsl hall wk wn ws hM hW HM;go_enter func108,ntmps108
 go_wp2_with fail
 rw [<-HWW.out];clear HWW;refine (J0 t W).mono ?_;rintro e w1 ⟨rfl,hb1⟩;have HB1:Hid (Below w.heap.size w w1):=Aa HW.out hb1;have HRB:Hid (RB (w.heap.size+1) w1):=HB0.out.below hb1;clear hb1;obtain⟨x0,x1,x2,y0,y1,y2⟩:=HRB.out.cells;go_wp2
 exact bodyPost_ret (v:= .agg #[.bool true,.int .i64 0,.string t]) (by simp [results,results108,go_sem,x0,x1,x2]) rfl (Ej HB1.out (Nat.le_succ _) HR0.out)
theorem Agm {m:Nat} (hX:Er m) (c:Cx) (O:Own) (w:World) (s:Ms) (j:Nat) (n:Int) (t:ByteArray) (l:List Ex) (cs:List Value) (hM:Mc c O w s j) (hx:ExA c.B w (m+1) cs (.mk 3 n t l)) (hok:okE (m+1) (.mk 3 n t l)) :
 Calls prog 108 #[.pointer (some ⟨c.r,0,none⟩),.agg cs.toArray] w (Dm w (Ai s (m+1) (.mk 3 n t l))):=by
 obtain⟨v,rfl,wk,wn,ws,a,cap,rfl,hmax,hsl⟩:=hx;obtain⟨-,-,hpa,hs2,hn0,hn1,hall⟩:=hok;obtain⟨R,hR⟩:∃R,R=Ai s (m+1) (.mk 3 n t l):=⟨_,rfl⟩;rw [<-hR];have HR0:Hid (R = .ok (s.vars t)):=by rw [hR];simp [Ai,Hid]
 clear hR;have hrw:c.r<w.heap.size:=hM.lt;have hrn:¬c.r=w.heap.size:=by omega
 have hrn1:¬c.r=w.heap.size+1:=by omega
 have HSB:Hid (c.B<=w.heap.size):=hM.lo.size;have HF:Hid (Fit s):=hM.fit;have HPW:Hid (D4 c.B w):=hM.lo.pw;show Calls prog 108 #[.pointer (some ⟨c.r,0,none⟩),.agg #[.int .i64 3,.int .i64 n,.string t,.slice a l.length cap]] w _;obtain⟨W,hW⟩:∃W,W=(w.alloc (.cells #[.int .i64 3,.int .i64 n,.string t,.slice a l.length cap] 31)).alloc (.cells #[.bool false,.int .i64 0,.string ⟨#[]⟩] 157):=⟨_,rfl⟩;have HW:Hid (Below w.heap.size w W):=by rw [hW];exact Aa (br0.alloc lr0 _) (br0.alloc lr0 _)
 have HM:Hid (Mc c O W s j):=hM.below HW.out;have HB0:Hid (RB (w.heap.size+1) W):=by rw [hW];exact RB.new2 _ _
 have HWW:Hid (W=_):=hW;have HWZ:Hid (W.heap.size=w.heap.size+1+1):=by rw [hW];simp [Hid]
 have l2:W.cell? ⟨w.heap.size,2,none⟩=some (.string t):=by rw [hW];simp [go_sem]
 have l3:W.cell? ⟨w.heap.size,3,none⟩=some (.slice a l.length cap):=by rw [hW];simp [go_sem]
 obtain⟨bv,bl,fl,ol,HC,HV,-⟩:=(HM.out.below (Ad W)).open;have c0:W.cell? ⟨c.r,0,none⟩=some (.map (some bv)):=HC.c0;have hlk:=HV.look (t:=t) (by unfold maxLen;omega);obtain⟨⟨vt,vn,vs⟩,hv⟩:∃v,v=s.vars t:=⟨_,rfl⟩;rw [<-hv] at hlk HR0;simp only at hlk;clear hsl hall wk wn ws hM HC HV hpa hv HM hW;have HRB:Hid (RB (w.heap.size+1) W):=HB0.out;obtain⟨x0,x1,x2,y0,y1,y2⟩:=HRB.out.cells;have hrn2:¬w.heap.size+1=c.r:=by omega
 go_enter func108,ntmps108
 go_wp2_with fail
 rw [<-HWW.out];clear HWW
 go_region_held2 (fun w'=>w'.cell? ⟨c.r,0,none⟩=some (.map (some bv))/\w'.cell? ⟨w.heap.size,2,none⟩=some (.string t)) (go_keep) (fail)
 go_wp2
 exact bodyPost_ret (v:= .agg #[.bool vt,.int .i64 vn,.string vs]) (by simp [results,results108,go_sem,x0,x1,x2]) rfl (Ej (Aa HW.out (Ad _)) (Nat.le_succ _) HR0.out)
theorem Adz {m:Nat} (hX:Er m) (c:Cx) (O:Own) (w:World) (s:Ms) (j:Nat) (n:Int) (t:ByteArray) (l:List Ex) (cs:List Value) (hM:Mc c O w s j) (hx:ExA c.B w (m+1) cs (.mk 12 n t l)) (hok:okE (m+1) (.mk 12 n t l)) :
 Calls prog 108 #[.pointer (some ⟨c.r,0,none⟩),.agg cs.toArray] w (Dm w (Ai s (m+1) (.mk 12 n t l))):=by
 obtain⟨v,rfl,wk,wn,ws,a,cap,rfl,hmax,hsl⟩:=hx;obtain⟨-,-,hpa,hs2,hn0,hn1,hall⟩:=hok;obtain⟨R,hR⟩:∃R,R=Ai s (m+1) (.mk 12 n t l):=⟨_,rfl⟩;rw [<-hR];have HR0:Hid (R = .ok (vN (if t = ⟨#[78,82]⟩ then (s.recs:Int) else (s.flds.length:Int)))):=by rw [hR];simp [Ai,Hid]
 clear hR;have hrw:c.r<w.heap.size:=hM.lt;have hrn:¬c.r=w.heap.size:=by omega
 have hrn1:¬c.r=w.heap.size+1:=by omega
 have HSB:Hid (c.B<=w.heap.size):=hM.lo.size;have HF:Hid (Fit s):=hM.fit;have HPW:Hid (D4 c.B w):=hM.lo.pw;show Calls prog 108 #[.pointer (some ⟨c.r,0,none⟩),.agg #[.int .i64 12,.int .i64 n,.string t,.slice a l.length cap]] w _;obtain⟨W,hW⟩:∃W,W=(w.alloc (.cells #[.int .i64 12,.int .i64 n,.string t,.slice a l.length cap] 31)).alloc (.cells #[.bool false,.int .i64 0,.string ⟨#[]⟩] 157):=⟨_,rfl⟩;have HW:Hid (Below w.heap.size w W):=by rw [hW];exact Aa (br0.alloc lr0 _) (br0.alloc lr0 _)
 have HM:Hid (Mc c O W s j):=hM.below HW.out;have HB0:Hid (RB (w.heap.size+1) W):=by rw [hW];exact RB.new2 _ _
 have HWW:Hid (W=_):=hW;have HWZ:Hid (W.heap.size=w.heap.size+1+1):=by rw [hW];simp [Hid]
 have l2:W.cell? ⟨w.heap.size,2,none⟩=some (.string t):=by rw [hW];simp [go_sem]
 have l3:W.cell? ⟨w.heap.size,3,none⟩=some (.slice a l.length cap):=by rw [hW];simp [go_sem]
 have HC:=hid (Aa1 c O W s j t HM.out);obtain⟨N,hN⟩:∃N:Int,N=if t = ⟨#[78,82]⟩ then (s.recs:Int) else (s.flds.length:Int):=⟨_,rfl⟩;rw [<-hN] at HC HR0;clear hsl hall wk wn ws hM hW hN HM;go_enter func108,ntmps108
 go_wp2_with fail
 rw [<-HWW.out];clear HWW;refine Calls.mono HC.out ?_;rintro e w1 ⟨rfl,hb1⟩;have HB1:Hid (Below w.heap.size w w1):=Aa HW.out hb1;have HRB1:Hid (RB (w.heap.size+1) w1):=HB0.out.below hb1;clear hb1 HC;go_wp2_with fail
 refine (F7 N w1).mono ?_;rintro e w2 ⟨rfl,hb2⟩;have HB2:Hid (Below w.heap.size w w2):=Aa HB1.out hb2;have HRB:Hid (RB (w.heap.size+1) w2):=HRB1.out.below hb2;clear hb2;obtain⟨x0,x1,x2,y0,y1,y2⟩:=HRB.out.cells;go_wp2
 exact bodyPost_ret (v:= .agg #[.bool false,.int .i64 N,.string ⟨#[]⟩]) (by simp [results,results108,go_sem,x0,x1,x2]) rfl (Ej HB2.out (Nat.le_succ _) HR0.out)
theorem Adx {m:Nat} (hX:Er m) (c:Cx) (O:Own) (w:World) (s:Ms) (j:Nat) (n:Int) (t:ByteArray) (l:List Ex) (cs:List Value) (hM:Mc c O w s j) (hx:ExA c.B w (m+1) cs (.mk 10 n t l)) (hok:okE (m+1) (.mk 10 n t l)) :
 Calls prog 108 #[.pointer (some ⟨c.r,0,none⟩),.agg cs.toArray] w (Dm w (Ai s (m+1) (.mk 10 n t l))):=by
 obtain⟨v,rfl,wk,wn,ws,a,cap,rfl,hmax,hsl⟩:=hx;obtain⟨-,-,hpa,hs2,hn0,hn1,hall⟩:=hok;obtain⟨R,hR⟩:∃R,R=Ai s (m+1) (.mk 10 n t l):=⟨_,rfl⟩;rw [<-hR];have HR0:Hid (R=(Ai s m (l.getD 0 default)).bind fun v=>if v.so then Ai s m (l.getD 1 default) else Ai s m (l.getD 2 default)):=by rw [hR];simp [Ai,Hid]
 clear hR;have hll:l.length=3:=by have:=Da hpa;simp [D1] at this;omega
 obtain⟨b,off,rfl,hb,hi⟩:=hsl (by omega);have hbw:b<w.heap.size:=by have:=hM.lo.size;omega
 have hbn:¬b=w.heap.size:=by omega
 have hbn1:¬b=w.heap.size+1:=by omega
 have hbn2:¬w.heap.size+1=b:=by omega
 rw [hll];obtain⟨k0,n0,s0,a0,len0,cap0,p00,p01,p02,p03,hx0,hm0⟩:=kid hi 0 (off) (by omega) (by omega);have ok0:okE m (l.getD 0 default):=hall _ hm0;obtain⟨k1,n1,s1,a1,len1,cap1,p10,p11,p12,p13,hx1,hm1⟩:=kid hi 1 (off+4) (by omega) (by omega);have ok1:okE m (l.getD 1 default):=hall _ hm1;obtain⟨k2,n2,s2,a2,len2,cap2,p20,p21,p22,p23,hx2,hm2⟩:=kid hi 2 (off+8) (by omega) (by omega);have ok2:okE m (l.getD 2 default):=hall _ hm2;have hrw:c.r<w.heap.size:=hM.lt;have hrn:¬c.r=w.heap.size:=by omega
 have hrn1:¬c.r=w.heap.size+1:=by omega
 have HSB:Hid (c.B<=w.heap.size):=hM.lo.size;have HF:Hid (Fit s):=hM.fit;have HPW:Hid (D4 c.B w):=hM.lo.pw;show Calls prog 108 #[.pointer (some ⟨c.r,0,none⟩),.agg #[.int .i64 10,.int .i64 n,.string t,.slice (some ⟨b,off,none⟩) 3 cap]] w _;obtain⟨W,hW⟩:∃W,W=(w.alloc (.cells #[.int .i64 10,.int .i64 n,.string t,.slice (some ⟨b,off,none⟩) 3 cap] 31)).alloc (.cells #[.bool false,.int .i64 0,.string ⟨#[]⟩] 157):=⟨_,rfl⟩;have HW:Hid (Below w.heap.size w W):=by rw [hW];exact Aa (br0.alloc lr0 _) (br0.alloc lr0 _)
 have HM:Hid (Mc c O W s j):=hM.below HW.out;have HB0:Hid (RB (w.heap.size+1) W):=by rw [hW];exact RB.new2 _ _
 have HWW:Hid (W=_):=hW;have HWZ:Hid (W.heap.size=w.heap.size+1+1):=by rw [hW];simp [Hid]
 have l2:W.cell? ⟨w.heap.size,2,none⟩=some (.string t):=by rw [hW];simp [go_sem]
 have l3:W.cell? ⟨w.heap.size,3,none⟩=some (.slice (some ⟨b,off,none⟩) 3 cap):=by rw [hW];simp [go_sem]
 have q00:W.cell? ⟨b,off,none⟩=some (.int .i64 k0):=(HW.out.cell (p:=⟨b,off,none⟩) hbw).trans p00;have q01:W.cell? ⟨b,off+1,none⟩=some (.int .i64 n0):=(HW.out.cell (p:=⟨b,off+1,none⟩) hbw).trans p01;have q02:W.cell? ⟨b,off+2,none⟩=some (.string s0):=(HW.out.cell (p:=⟨b,off+2,none⟩) hbw).trans p02;have q03:W.cell? ⟨b,off+3,none⟩=some (.slice a0 len0 cap0):=(HW.out.cell (p:=⟨b,off+3,none⟩) hbw).trans p03;have hX0:ExA c.B W m [.int .i64 k0,.int .i64 n0,.string s0,.slice a0 len0 cap0] (l.getD 0 default):=hx0.out.below (HW.out.mono HSB.out);have q10:W.cell? ⟨b,off+4,none⟩=some (.int .i64 k1):=(HW.out.cell (p:=⟨b,off+4,none⟩) hbw).trans p10;have q11:W.cell? ⟨b,off+5,none⟩=some (.int .i64 n1):=(HW.out.cell (p:=⟨b,off+5,none⟩) hbw).trans p11;have q12:W.cell? ⟨b,off+6,none⟩=some (.string s1):=(HW.out.cell (p:=⟨b,off+6,none⟩) hbw).trans p12
 have q13:W.cell? ⟨b,off+7,none⟩=some (.slice a1 len1 cap1):=(HW.out.cell (p:=⟨b,off+7,none⟩) hbw).trans p13;have hX1:ExA c.B W m [.int .i64 k1,.int .i64 n1,.string s1,.slice a1 len1 cap1] (l.getD 1 default):=hx1.out.below (HW.out.mono HSB.out);have q20:W.cell? ⟨b,off+8,none⟩=some (.int .i64 k2):=(HW.out.cell (p:=⟨b,off+8,none⟩) hbw).trans p20;have q21:W.cell? ⟨b,off+9,none⟩=some (.int .i64 n2):=(HW.out.cell (p:=⟨b,off+9,none⟩) hbw).trans p21;have q22:W.cell? ⟨b,off+10,none⟩=some (.string s2):=(HW.out.cell (p:=⟨b,off+10,none⟩) hbw).trans p22;have q23:W.cell? ⟨b,off+11,none⟩=some (.slice a2 len2 cap2):=(HW.out.cell (p:=⟨b,off+11,none⟩) hbw).trans p23;have hX2:ExA c.B W m [.int .i64 k2,.int .i64 n2,.string s2,.slice a2 len2 cap2] (l.getD 2 default):=hx2.out.below (HW.out.mono HSB.out)
 have HC:=hid (V3 hX c O W.drew s j _ _ _ _ _ _ (HM.out.below (Ad _)) (hX0.below ((Ad W).mono HM.out.lo.size)) (hX1.below ((Ad W).mono HM.out.lo.size)) (hX2.below ((Ad W).mono HM.out.lo.size)) ok0 ok1 ok2);rw [<-HR0.out] at HC;have hbw1:b<W.heap.size:=lle hbw HW.out.size;have hw01:w.heap.size<W.heap.size:=by rw [HWZ.out];omega
 have HZW:Hid (W.heap.size<=W.heap.size):=Nat.le_refl _;clear hsl hall wk wn ws hM hx0 hm0 p00 p01 p02 p03 hx1 hm1 p10 p11 p12 p13 hx2 hm2 p20 p21 p22 p23 hi hb hll hW hX hX0 ok0 hX1 ok1 hX2 ok2 hpa HR0 HM;go_enter func108,ntmps108
 go_wp2_with fail
 rw [<-HWW.out];clear HWW
 go_region_held2 (fun w'=>w'.cell? ⟨w.heap.size,2,none⟩=some (.string t)/\w'.cell? ⟨w.heap.size,3,none⟩=some (.slice (some ⟨b,off,none⟩) 3 cap)/\w'.cell? ⟨b,off,none⟩=some (.int .i64 k0)/\w'.cell? ⟨b,off+1,none⟩=some (.int .i64 n0)/\w'.cell? ⟨b,off+2,none⟩=some (.string s0)/\w'.cell? ⟨b,off+3,none⟩=some (.slice a0 len0 cap0)/\w'.cell? ⟨b,off+4,none⟩=some (.int .i64 k1)/\w'.cell? ⟨b,off+5,none⟩=some (.int .i64 n1)/\w'.cell? ⟨b,off+6,none⟩=some (.string s1)/\w'.cell? ⟨b,off+7,none⟩=some (.slice a1 len1 cap1)/\w'.cell? ⟨b,off+8,none⟩=some (.int .i64 k2)/\w'.cell? ⟨b,off+9,none⟩=some (.int .i64 n2)/\w'.cell? ⟨b,off+10,none⟩=some (.string s2)/\w'.cell? ⟨b,off+11,none⟩=some (.slice a2 len2 cap2)) (go_keep) (first
  | (with_reducible refine Calls.mono HC.out ?_
     rintro e w1 ⟨hb1,hr⟩;have HB1:Hid (Below w.heap.size w w1):=Aa HW.out (Aa (Ad _) hb1);have HRB:Hid (RB (w.heap.size+1) w1):=(HB0.out.below (Ad _)).below hb1;have rl2:w1.cell? ⟨w.heap.size,2,none⟩=some (.string t):=(hb1.cell (p:=⟨w.heap.size,2,none⟩) (lle hw01 HZW.out)).trans l2;have rl3:w1.cell? ⟨w.heap.size,3,none⟩=some (.slice (some ⟨b,off,none⟩) 3 cap):=(hb1.cell (p:=⟨w.heap.size,3,none⟩) (lle hw01 HZW.out)).trans l3;have rq00:w1.cell? ⟨b,off,none⟩=some (.int .i64 k0):=(hb1.cell (p:=⟨b,off,none⟩) (lle hbw1 HZW.out)).trans q00;have rq01:w1.cell? ⟨b,off+1,none⟩=some (.int .i64 n0):=(hb1.cell (p:=⟨b,off+1,none⟩) (lle hbw1 HZW.out)).trans q01;have rq02:w1.cell? ⟨b,off+2,none⟩=some (.string s0):=(hb1.cell (p:=⟨b,off+2,none⟩) (lle hbw1 HZW.out)).trans q02;have rq03:w1.cell? ⟨b,off+3,none⟩=some (.slice a0 len0 cap0):=(hb1.cell (p:=⟨b,off+3,none⟩) (lle hbw1 HZW.out)).trans q03
     have rq10:w1.cell? ⟨b,off+4,none⟩=some (.int .i64 k1):=(hb1.cell (p:=⟨b,off+4,none⟩) (lle hbw1 HZW.out)).trans q10;have rq11:w1.cell? ⟨b,off+5,none⟩=some (.int .i64 n1):=(hb1.cell (p:=⟨b,off+5,none⟩) (lle hbw1 HZW.out)).trans q11;have rq12:w1.cell? ⟨b,off+6,none⟩=some (.string s1):=(hb1.cell (p:=⟨b,off+6,none⟩) (lle hbw1 HZW.out)).trans q12;have rq13:w1.cell? ⟨b,off+7,none⟩=some (.slice a1 len1 cap1):=(hb1.cell (p:=⟨b,off+7,none⟩) (lle hbw1 HZW.out)).trans q13;have rq20:w1.cell? ⟨b,off+8,none⟩=some (.int .i64 k2):=(hb1.cell (p:=⟨b,off+8,none⟩) (lle hbw1 HZW.out)).trans q20;have rq21:w1.cell? ⟨b,off+9,none⟩=some (.int .i64 n2):=(hb1.cell (p:=⟨b,off+9,none⟩) (lle hbw1 HZW.out)).trans q21;have rq22:w1.cell? ⟨b,off+10,none⟩=some (.string s2):=(hb1.cell (p:=⟨b,off+10,none⟩) (lle hbw1 HZW.out)).trans q22
     have rq23:w1.cell? ⟨b,off+11,none⟩=some (.slice a2 len2 cap2):=(hb1.cell (p:=⟨b,off+11,none⟩) (lle hbw1 HZW.out)).trans q23;obtain⟨x0,x1,x2,y0,y1,y2⟩:=HRB.out.cells;clear hb1 HC;rcases Bf R with⟨er,hN⟩ | ⟨u,hN⟩
     . rw [hN] at hr;subst hr;have HE:Hid (R = .error er):=hN;clear hN;go_wp2_with fail
       exact⟨rfl,Bb.err HB1.out HE.out⟩
     rw [hN] at hr;have HE:Hid (R = .ok u):=hN;obtain⟨qt,qn,qs⟩:=u;have hr2:e = .returned (.agg #[.bool qt,.int .i64 qn,.string qs]):=hr;clear hr hN;subst hr2))
 go_wp2
 exact bodyPost_ret (v:= .agg #[.bool qt,.int .i64 qn,.string qs]) (by simp [results,results108,go_sem,x0,x1,x2]) rfl (Ej HB1.out (Nat.le_succ _) HE.out)
theorem Agp {m:Nat} (hX:Er m) (c:Cx) (O:Own) (w:World) (s:Ms) (j:Nat) (n:Int) (t:ByteArray) (l:List Ex) (cs:List Value) (hM:Mc c O w s j) (hx:ExA c.B w (m+1) cs (.mk 6 n t l)) (hok:okE (m+1) (.mk 6 n t l)) :
 Calls prog 108 #[.pointer (some ⟨c.r,0,none⟩),.agg cs.toArray] w (Dm w (Ai s (m+1) (.mk 6 n t l))):=by
 obtain⟨v,rfl,wk,wn,ws,a,cap,rfl,hmax,hsl⟩:=hx;obtain⟨-,-,hpa,hs2,hn0,hn1,hall⟩:=hok;obtain⟨R,hR⟩:∃R,R=Ai s (m+1) (.mk 6 n t l):=⟨_,rfl⟩;rw [<-hR];have HR0:Hid (R=opM t (Ai s m (l.getD 0 default)) (Ai s m (l.getD 1 default))):=by rw [hR];simp [Ai,Hid]
 clear hR;have hll:l.length=2:=by have:=Da hpa;simp [D1] at this;omega
 obtain⟨b,off,rfl,hb,hi⟩:=hsl (by omega);have hbw:b<w.heap.size:=by have:=hM.lo.size;omega
 have hbn:¬b=w.heap.size:=by omega
 have hbn1:¬b=w.heap.size+1:=by omega
 have hbn2:¬w.heap.size+1=b:=by omega
 rw [hll];obtain⟨k0,n0,s0,a0,len0,cap0,p00,p01,p02,p03,hx0,hm0⟩:=kid hi 0 (off) (by omega) (by omega);have ok0:okE m (l.getD 0 default):=hall _ hm0;obtain⟨k1,n1,s1,a1,len1,cap1,p10,p11,p12,p13,hx1,hm1⟩:=kid hi 1 (off+4) (by omega) (by omega);have ok1:okE m (l.getD 1 default):=hall _ hm1;have hrw:c.r<w.heap.size:=hM.lt;have hrn:¬c.r=w.heap.size:=by omega
 have hrn1:¬c.r=w.heap.size+1:=by omega
 have HSB:Hid (c.B<=w.heap.size):=hM.lo.size;have HF:Hid (Fit s):=hM.fit;have HPW:Hid (D4 c.B w):=hM.lo.pw;show Calls prog 108 #[.pointer (some ⟨c.r,0,none⟩),.agg #[.int .i64 6,.int .i64 n,.string t,.slice (some ⟨b,off,none⟩) 2 cap]] w _;obtain⟨W,hW⟩:∃W,W=(w.alloc (.cells #[.int .i64 6,.int .i64 n,.string t,.slice (some ⟨b,off,none⟩) 2 cap] 31)).alloc (.cells #[.bool false,.int .i64 0,.string ⟨#[]⟩] 157):=⟨_,rfl⟩;have HW:Hid (Below w.heap.size w W):=by rw [hW];exact Aa (br0.alloc lr0 _) (br0.alloc lr0 _)
 have HM:Hid (Mc c O W s j):=hM.below HW.out;have HB0:Hid (RB (w.heap.size+1) W):=by rw [hW];exact RB.new2 _ _
 have HWW:Hid (W=_):=hW;have HWZ:Hid (W.heap.size=w.heap.size+1+1):=by rw [hW];simp [Hid]
 have l2:W.cell? ⟨w.heap.size,2,none⟩=some (.string t):=by rw [hW];simp [go_sem]
 have l3:W.cell? ⟨w.heap.size,3,none⟩=some (.slice (some ⟨b,off,none⟩) 2 cap):=by rw [hW];simp [go_sem]
 have q00:W.cell? ⟨b,off,none⟩=some (.int .i64 k0):=(HW.out.cell (p:=⟨b,off,none⟩) hbw).trans p00;have q01:W.cell? ⟨b,off+1,none⟩=some (.int .i64 n0):=(HW.out.cell (p:=⟨b,off+1,none⟩) hbw).trans p01;have q02:W.cell? ⟨b,off+2,none⟩=some (.string s0):=(HW.out.cell (p:=⟨b,off+2,none⟩) hbw).trans p02;have q03:W.cell? ⟨b,off+3,none⟩=some (.slice a0 len0 cap0):=(HW.out.cell (p:=⟨b,off+3,none⟩) hbw).trans p03;have hX0:ExA c.B W m [.int .i64 k0,.int .i64 n0,.string s0,.slice a0 len0 cap0] (l.getD 0 default):=hx0.out.below (HW.out.mono HSB.out);have q10:W.cell? ⟨b,off+4,none⟩=some (.int .i64 k1):=(HW.out.cell (p:=⟨b,off+4,none⟩) hbw).trans p10;have q11:W.cell? ⟨b,off+5,none⟩=some (.int .i64 n1):=(HW.out.cell (p:=⟨b,off+5,none⟩) hbw).trans p11;have q12:W.cell? ⟨b,off+6,none⟩=some (.string s1):=(HW.out.cell (p:=⟨b,off+6,none⟩) hbw).trans p12
 have q13:W.cell? ⟨b,off+7,none⟩=some (.slice a1 len1 cap1):=(HW.out.cell (p:=⟨b,off+7,none⟩) hbw).trans p13;have hX1:ExA c.B W m [.int .i64 k1,.int .i64 n1,.string s1,.slice a1 len1 cap1] (l.getD 1 default):=hx1.out.below (HW.out.mono HSB.out);have HC:=hid (Ae7 hX c O W.drew s j t _ _ _ _ (HM.out.below (Ad _)) (hX0.below ((Ad W).mono HM.out.lo.size)) (hX1.below ((Ad W).mono HM.out.lo.size)) ok0 ok1);rw [<-HR0.out] at HC;have hbw1:b<W.heap.size:=lle hbw HW.out.size;have hw01:w.heap.size<W.heap.size:=by rw [HWZ.out];omega
 have HZW:Hid (W.heap.size<=W.heap.size):=Nat.le_refl _;clear hsl hall wk wn ws hM hx0 hm0 p00 p01 p02 p03 hx1 hm1 p10 p11 p12 p13 hi hb hll hW hX hX0 ok0 hX1 ok1 hpa HR0 HM;go_enter func108,ntmps108
 go_wp2_with fail
 rw [<-HWW.out];clear HWW
 go_region_held2 (fun w'=>w'.cell? ⟨w.heap.size,2,none⟩=some (.string t)/\w'.cell? ⟨w.heap.size,3,none⟩=some (.slice (some ⟨b,off,none⟩) 2 cap)/\w'.cell? ⟨b,off,none⟩=some (.int .i64 k0)/\w'.cell? ⟨b,off+1,none⟩=some (.int .i64 n0)/\w'.cell? ⟨b,off+2,none⟩=some (.string s0)/\w'.cell? ⟨b,off+3,none⟩=some (.slice a0 len0 cap0)/\w'.cell? ⟨b,off+4,none⟩=some (.int .i64 k1)/\w'.cell? ⟨b,off+5,none⟩=some (.int .i64 n1)/\w'.cell? ⟨b,off+6,none⟩=some (.string s1)/\w'.cell? ⟨b,off+7,none⟩=some (.slice a1 len1 cap1)) (go_keep) (first
  | (with_reducible refine Calls.mono HC.out ?_
     rintro e w1 ⟨hb1,hr⟩;have HB1:Hid (Below w.heap.size w w1):=Aa HW.out (Aa (Ad _) hb1);have HRB:Hid (RB (w.heap.size+1) w1):=(HB0.out.below (Ad _)).below hb1;have rl2:w1.cell? ⟨w.heap.size,2,none⟩=some (.string t):=(hb1.cell (p:=⟨w.heap.size,2,none⟩) (lle hw01 HZW.out)).trans l2;have rl3:w1.cell? ⟨w.heap.size,3,none⟩=some (.slice (some ⟨b,off,none⟩) 2 cap):=(hb1.cell (p:=⟨w.heap.size,3,none⟩) (lle hw01 HZW.out)).trans l3;have rq00:w1.cell? ⟨b,off,none⟩=some (.int .i64 k0):=(hb1.cell (p:=⟨b,off,none⟩) (lle hbw1 HZW.out)).trans q00;have rq01:w1.cell? ⟨b,off+1,none⟩=some (.int .i64 n0):=(hb1.cell (p:=⟨b,off+1,none⟩) (lle hbw1 HZW.out)).trans q01;have rq02:w1.cell? ⟨b,off+2,none⟩=some (.string s0):=(hb1.cell (p:=⟨b,off+2,none⟩) (lle hbw1 HZW.out)).trans q02;have rq03:w1.cell? ⟨b,off+3,none⟩=some (.slice a0 len0 cap0):=(hb1.cell (p:=⟨b,off+3,none⟩) (lle hbw1 HZW.out)).trans q03
     have rq10:w1.cell? ⟨b,off+4,none⟩=some (.int .i64 k1):=(hb1.cell (p:=⟨b,off+4,none⟩) (lle hbw1 HZW.out)).trans q10;have rq11:w1.cell? ⟨b,off+5,none⟩=some (.int .i64 n1):=(hb1.cell (p:=⟨b,off+5,none⟩) (lle hbw1 HZW.out)).trans q11;have rq12:w1.cell? ⟨b,off+6,none⟩=some (.string s1):=(hb1.cell (p:=⟨b,off+6,none⟩) (lle hbw1 HZW.out)).trans q12;have rq13:w1.cell? ⟨b,off+7,none⟩=some (.slice a1 len1 cap1):=(hb1.cell (p:=⟨b,off+7,none⟩) (lle hbw1 HZW.out)).trans q13;obtain⟨x0,x1,x2,y0,y1,y2⟩:=HRB.out.cells;clear hb1 HC;rcases Bf R with⟨er,hN⟩ | ⟨u,hN⟩
     . rw [hN] at hr;subst hr;have HE:Hid (R = .error er):=hN;clear hN;go_wp2_with fail
       exact⟨rfl,Bb.err HB1.out HE.out⟩
     rw [hN] at hr;have HE:Hid (R = .ok u):=hN;obtain⟨qt,qn,qs⟩:=u;have hr2:e = .returned (.agg #[.bool qt,.int .i64 qn,.string qs]):=hr;clear hr hN;subst hr2))
 go_wp2
 exact bodyPost_ret (v:= .agg #[.bool qt,.int .i64 qn,.string qs]) (by simp [results,results108,go_sem,x0,x1,x2]) rfl (Ej HB1.out (Nat.le_succ _) HE.out)
theorem Agn {m:Nat} (hX:Er m) (c:Cx) (O:Own) (w:World) (s:Ms) (j:Nat) (n:Int) (t:ByteArray) (l:List Ex) (cs:List Value) (hM:Mc c O w s j) (hx:ExA c.B w (m+1) cs (.mk 4 n t l)) (hok:okE (m+1) (.mk 4 n t l)) :
 Calls prog 108 #[.pointer (some ⟨c.r,0,none⟩),.agg cs.toArray] w (Dm w (Ai s (m+1) (.mk 4 n t l))):=by
 obtain⟨v,rfl,wk,wn,ws,a,cap,rfl,hmax,hsl⟩:=hx;obtain⟨-,-,hpa,hs2,hn0,hn1,hall⟩:=hok;obtain⟨R,hR⟩:∃R,R=Ai s (m+1) (.mk 4 n t l):=⟨_,rfl⟩;rw [<-hR];have HR0:Hid (R=(Ai s m (l.getD 0 default)).bind fun v=>(Cu s v).bind fun x=> .ok (vS x)):=by rw [hR];simp [Ai,Hid]
 clear hR;have hll:l.length=1:=by have:=Da hpa;simp [D1] at this;omega
 obtain⟨b,off,rfl,hb,hi⟩:=hsl (by omega);have hbw:b<w.heap.size:=by have:=hM.lo.size;omega
 have hbn:¬b=w.heap.size:=by omega
 have hbn1:¬b=w.heap.size+1:=by omega
 have hbn2:¬w.heap.size+1=b:=by omega
 rw [hll];obtain⟨k0,n0,s0,a0,len0,cap0,p00,p01,p02,p03,hx0,hm0⟩:=kid hi 0 (off) (by omega) (by omega);have ok0:okE m (l.getD 0 default):=hall _ hm0;have hrw:c.r<w.heap.size:=hM.lt;have hrn:¬c.r=w.heap.size:=by omega
 have hrn1:¬c.r=w.heap.size+1:=by omega
 have HSB:Hid (c.B<=w.heap.size):=hM.lo.size;have HF:Hid (Fit s):=hM.fit;have HPW:Hid (D4 c.B w):=hM.lo.pw;show Calls prog 108 #[.pointer (some ⟨c.r,0,none⟩),.agg #[.int .i64 4,.int .i64 n,.string t,.slice (some ⟨b,off,none⟩) 1 cap]] w _;obtain⟨W,hW⟩:∃W,W=(w.alloc (.cells #[.int .i64 4,.int .i64 n,.string t,.slice (some ⟨b,off,none⟩) 1 cap] 31)).alloc (.cells #[.bool false,.int .i64 0,.string ⟨#[]⟩] 157):=⟨_,rfl⟩;have HW:Hid (Below w.heap.size w W):=by rw [hW];exact Aa (br0.alloc lr0 _) (br0.alloc lr0 _)
 have HM:Hid (Mc c O W s j):=hM.below HW.out;have HB0:Hid (RB (w.heap.size+1) W):=by rw [hW];exact RB.new2 _ _
 have HWW:Hid (W=_):=hW;have HWZ:Hid (W.heap.size=w.heap.size+1+1):=by rw [hW];simp [Hid]
 have l2:W.cell? ⟨w.heap.size,2,none⟩=some (.string t):=by rw [hW];simp [go_sem]
 have l3:W.cell? ⟨w.heap.size,3,none⟩=some (.slice (some ⟨b,off,none⟩) 1 cap):=by rw [hW];simp [go_sem]
 have q00:W.cell? ⟨b,off,none⟩=some (.int .i64 k0):=(HW.out.cell (p:=⟨b,off,none⟩) hbw).trans p00;have q01:W.cell? ⟨b,off+1,none⟩=some (.int .i64 n0):=(HW.out.cell (p:=⟨b,off+1,none⟩) hbw).trans p01;have q02:W.cell? ⟨b,off+2,none⟩=some (.string s0):=(HW.out.cell (p:=⟨b,off+2,none⟩) hbw).trans p02;have q03:W.cell? ⟨b,off+3,none⟩=some (.slice a0 len0 cap0):=(HW.out.cell (p:=⟨b,off+3,none⟩) hbw).trans p03;have hX0:ExA c.B W m [.int .i64 k0,.int .i64 n0,.string s0,.slice a0 len0 cap0] (l.getD 0 default):=hx0.out.below (HW.out.mono HSB.out);have HC:=hid (G0 (R0:=R) (K0:=vlV) (Er.as hX c O W s j _ _ HM.out hX0 ok0) HW.out (fun er h=>by rw [HR0.out,h];rfl));have HO0:Hid (okE m (l.getD 0 default)):=ok0;clear hsl hall wk wn ws hM hX hX0 ok0 hx0 hm0 hi hb hll hpa q00 q01 q02 q03 l2 l3 hW;go_enter func108,ntmps108
 go_wp2_with fail
 rw [<-HWW.out];clear HWW;refine Calls.mono HC.out ?_;rintro e w1 (⟨er,rfl,HE⟩ | ⟨v,rfl,HR,HB1,HB1W⟩)
 . go_wp2_with fail
   exact⟨rfl,HE.out⟩
 have HRB1:Hid (RB (w.heap.size+1) w1):=HB0.out.below HB1W.out;have HV:Hid v.ok:=B4 HF.out HO0.out HR.out;have HR1:Hid (R=(Cu s v).bind fun x=> .ok (vS x)):=by unfold Hid;rw [HR0.out,HR.out];rfl
 have HCF:=hid (G0 (R0:=R) (K0:=vlV) (Abc c O w1 s j v (HM.out.below HB1W.out) HV.out) HB1.out (fun er h=>by rw [HR1.out,h];rfl));obtain⟨vt,vn,vs⟩:=v;unfold vlV at HCF ⊢;clear HC HR HR0;go_wp2_with fail
 refine Calls.mono HCF.out ?_;rintro e w2 (⟨er,rfl,HE⟩ | ⟨x,rfl,HR2,HB2,HB2W⟩)
 . go_wp2_with fail
   exact⟨rfl,HE.out⟩
 have HR3:Hid (R = .ok (vS x)):=by unfold Hid;rw [HR1.out,HR2.out];rfl
 have HRB2:Hid (RB (w.heap.size+1) w2):=HRB1.out.below HB2W.out;clear HCF HR1 HR2;go_wp2_with fail
 refine (J0 x w2).mono ?_;rintro e w3 ⟨rfl,hb3⟩;have HB3:Hid (Below w.heap.size w w3):=Aa HB2.out hb3;have HRB:Hid (RB (w.heap.size+1) w3):=HRB2.out.below hb3;clear hb3;obtain⟨x0,x1,x2,y0,y1,y2⟩:=HRB.out.cells;go_wp2
 exact bodyPost_ret (v:= .agg #[.bool true,.int .i64 0,.string x]) (by simp [results,results108,go_sem,x0,x1,x2]) rfl (Ej HB3.out (Nat.le_succ _) HR3.out)
theorem Agr {m:Nat} (hX:Er m) (c:Cx) (O:Own) (w:World) (s:Ms) (j:Nat) (n:Int) (t:ByteArray) (l:List Ex) (cs:List Value) (hM:Mc c O w s j) (hx:ExA c.B w (m+1) cs (.mk 8 n t l)) (hok:okE (m+1) (.mk 8 n t l)) :
 Calls prog 108 #[.pointer (some ⟨c.r,0,none⟩),.agg cs.toArray] w (Dm w (Ai s (m+1) (.mk 8 n t l))):=by
 obtain⟨v,rfl,wk,wn,ws,a,cap,rfl,hmax,hsl⟩:=hx;obtain⟨-,-,hpa,hs2,hn0,hn1,hall⟩:=hok;obtain⟨R,hR⟩:∃R,R=Ai s (m+1) (.mk 8 n t l):=⟨_,rfl⟩;rw [<-hR];have HR0:Hid (R=(Ai s m (l.getD 0 default)).bind fun v=> .ok (vB (!v.so))):=by rw [hR];simp [Ai,Hid]
 clear hR;have hll:l.length=1:=by have:=Da hpa;simp [D1] at this;omega
 obtain⟨b,off,rfl,hb,hi⟩:=hsl (by omega);have hbw:b<w.heap.size:=by have:=hM.lo.size;omega
 have hbn:¬b=w.heap.size:=by omega
 have hbn1:¬b=w.heap.size+1:=by omega
 have hbn2:¬w.heap.size+1=b:=by omega
 rw [hll];obtain⟨k0,n0,s0,a0,len0,cap0,p00,p01,p02,p03,hx0,hm0⟩:=kid hi 0 (off) (by omega) (by omega);have ok0:okE m (l.getD 0 default):=hall _ hm0;have hrw:c.r<w.heap.size:=hM.lt;have hrn:¬c.r=w.heap.size:=by omega
 have hrn1:¬c.r=w.heap.size+1:=by omega
 have HSB:Hid (c.B<=w.heap.size):=hM.lo.size;have HF:Hid (Fit s):=hM.fit;have HPW:Hid (D4 c.B w):=hM.lo.pw;show Calls prog 108 #[.pointer (some ⟨c.r,0,none⟩),.agg #[.int .i64 8,.int .i64 n,.string t,.slice (some ⟨b,off,none⟩) 1 cap]] w _;obtain⟨W,hW⟩:∃W,W=(w.alloc (.cells #[.int .i64 8,.int .i64 n,.string t,.slice (some ⟨b,off,none⟩) 1 cap] 31)).alloc (.cells #[.bool false,.int .i64 0,.string ⟨#[]⟩] 157):=⟨_,rfl⟩;have HW:Hid (Below w.heap.size w W):=by rw [hW];exact Aa (br0.alloc lr0 _) (br0.alloc lr0 _)
 have HM:Hid (Mc c O W s j):=hM.below HW.out;have HB0:Hid (RB (w.heap.size+1) W):=by rw [hW];exact RB.new2 _ _
 have HWW:Hid (W=_):=hW;have HWZ:Hid (W.heap.size=w.heap.size+1+1):=by rw [hW];simp [Hid]
 have l2:W.cell? ⟨w.heap.size,2,none⟩=some (.string t):=by rw [hW];simp [go_sem]
 have l3:W.cell? ⟨w.heap.size,3,none⟩=some (.slice (some ⟨b,off,none⟩) 1 cap):=by rw [hW];simp [go_sem]
 have q00:W.cell? ⟨b,off,none⟩=some (.int .i64 k0):=(HW.out.cell (p:=⟨b,off,none⟩) hbw).trans p00;have q01:W.cell? ⟨b,off+1,none⟩=some (.int .i64 n0):=(HW.out.cell (p:=⟨b,off+1,none⟩) hbw).trans p01;have q02:W.cell? ⟨b,off+2,none⟩=some (.string s0):=(HW.out.cell (p:=⟨b,off+2,none⟩) hbw).trans p02;have q03:W.cell? ⟨b,off+3,none⟩=some (.slice a0 len0 cap0):=(HW.out.cell (p:=⟨b,off+3,none⟩) hbw).trans p03;have hX0:ExA c.B W m [.int .i64 k0,.int .i64 n0,.string s0,.slice a0 len0 cap0] (l.getD 0 default):=hx0.out.below (HW.out.mono HSB.out);have HC:=hid (G0 (R0:=R) (K0:=vlV) (Dq hX c O W s j _ _ HM.out hX0 ok0) HW.out (fun er h=>by rw [HR0.out,h];rfl));have HO0:Hid (okE m (l.getD 0 default)):=ok0;clear hsl hall wk wn ws hM hX hX0 ok0 hx0 hm0 hi hb hll hpa q00 q01 q02 q03 l2 l3 hW;go_enter func108,ntmps108
 go_wp2_with fail
 rw [<-HWW.out];clear HWW;refine Calls.mono HC.out ?_;rintro e w1 (⟨er,rfl,HE⟩ | ⟨v,rfl,HR,HB1,HB1W⟩)
 . go_wp2_with fail
   exact⟨rfl,HE.out⟩
 have HRB1:Hid (RB (w.heap.size+1) w1):=HB0.out.below HB1W.out;have HV:Hid v.ok:=B4 HF.out HO0.out HR.out;have HR1:Hid (R = .ok (vB (!v.so))):=by unfold Hid;rw [HR0.out,HR.out];rfl
 obtain⟨B1,hB1⟩:∃B1,B1=v.so:=⟨_,rfl⟩;rw [<-hB1] at HR1 ⊢;clear HC HR HR0 hB1;go_wp2_with fail
 refine Calls.mono (F5 (!B1) w1) ?_;rintro e w2 ⟨rfl,hb2⟩;have HB2:Hid (Below w.heap.size w w2):=Aa HB1.out hb2;have HRB:Hid (RB (w.heap.size+1) w2):=HRB1.out.below hb2;clear hb2;unfold vlV vB vN;obtain⟨x0,x1,x2,y0,y1,y2⟩:=HRB.out.cells;go_wp2
 exact bodyPost_ret (v:= .agg #[.bool false,.int .i64 (b2i (!B1)),.string ⟨#[]⟩]) (by simp [results,results108,go_sem,x0,x1,x2]) rfl (Ej HB2.out (Nat.le_succ _) HR1.out)
theorem Agq {m:Nat} (hX:Er m) (c:Cx) (O:Own) (w:World) (s:Ms) (j:Nat) (n:Int) (t:ByteArray) (l:List Ex) (cs:List Value) (hM:Mc c O w s j) (hx:ExA c.B w (m+1) cs (.mk 7 n t l)) (hok:okE (m+1) (.mk 7 n t l)) :
 Calls prog 108 #[.pointer (some ⟨c.r,0,none⟩),.agg cs.toArray] w (Dm w (Ai s (m+1) (.mk 7 n t l))):=by
 obtain⟨v,rfl,wk,wn,ws,a,cap,rfl,hmax,hsl⟩:=hx;obtain⟨-,-,hpa,hs2,hn0,hn1,hall⟩:=hok;obtain⟨R,hR⟩:∃R,R=Ai s (m+1) (.mk 7 n t l):=⟨_,rfl⟩;rw [<-hR];have HR0:Hid (R=(Ai s m (l.getD 0 default)).bind fun v=>Di (D8 ⟨#[45]⟩ false 0 ⟨#[]⟩ v.t v.n v.s)):=by rw [hR];simp [Ai,Hid]
 clear hR;have hll:l.length=1:=by have:=Da hpa;simp [D1] at this;omega
 obtain⟨b,off,rfl,hb,hi⟩:=hsl (by omega);have hbw:b<w.heap.size:=by have:=hM.lo.size;omega
 have hbn:¬b=w.heap.size:=by omega
 have hbn1:¬b=w.heap.size+1:=by omega
 have hbn2:¬w.heap.size+1=b:=by omega
 rw [hll];obtain⟨k0,n0,s0,a0,len0,cap0,p00,p01,p02,p03,hx0,hm0⟩:=kid hi 0 (off) (by omega) (by omega);have ok0:okE m (l.getD 0 default):=hall _ hm0;have hrw:c.r<w.heap.size:=hM.lt;have hrn:¬c.r=w.heap.size:=by omega
 have hrn1:¬c.r=w.heap.size+1:=by omega
 have HSB:Hid (c.B<=w.heap.size):=hM.lo.size;have HF:Hid (Fit s):=hM.fit;have HPW:Hid (D4 c.B w):=hM.lo.pw;show Calls prog 108 #[.pointer (some ⟨c.r,0,none⟩),.agg #[.int .i64 7,.int .i64 n,.string t,.slice (some ⟨b,off,none⟩) 1 cap]] w _;obtain⟨W,hW⟩:∃W,W=(w.alloc (.cells #[.int .i64 7,.int .i64 n,.string t,.slice (some ⟨b,off,none⟩) 1 cap] 31)).alloc (.cells #[.bool false,.int .i64 0,.string ⟨#[]⟩] 157):=⟨_,rfl⟩;have HW:Hid (Below w.heap.size w W):=by rw [hW];exact Aa (br0.alloc lr0 _) (br0.alloc lr0 _)
 have HM:Hid (Mc c O W s j):=hM.below HW.out;have HB0:Hid (RB (w.heap.size+1) W):=by rw [hW];exact RB.new2 _ _
 have HWW:Hid (W=_):=hW;have HWZ:Hid (W.heap.size=w.heap.size+1+1):=by rw [hW];simp [Hid]
 have l2:W.cell? ⟨w.heap.size,2,none⟩=some (.string t):=by rw [hW];simp [go_sem]
 have l3:W.cell? ⟨w.heap.size,3,none⟩=some (.slice (some ⟨b,off,none⟩) 1 cap):=by rw [hW];simp [go_sem]
 have q00:W.cell? ⟨b,off,none⟩=some (.int .i64 k0):=(HW.out.cell (p:=⟨b,off,none⟩) hbw).trans p00;have q01:W.cell? ⟨b,off+1,none⟩=some (.int .i64 n0):=(HW.out.cell (p:=⟨b,off+1,none⟩) hbw).trans p01;have q02:W.cell? ⟨b,off+2,none⟩=some (.string s0):=(HW.out.cell (p:=⟨b,off+2,none⟩) hbw).trans p02;have q03:W.cell? ⟨b,off+3,none⟩=some (.slice a0 len0 cap0):=(HW.out.cell (p:=⟨b,off+3,none⟩) hbw).trans p03;have hX0:ExA c.B W m [.int .i64 k0,.int .i64 n0,.string s0,.slice a0 len0 cap0] (l.getD 0 default):=hx0.out.below (HW.out.mono HSB.out);have HC:=hid (fun (X:World) (hbX:Below W.heap.size W X)=>hX.as c O X s j _ _ (HM.out.below hbX) (hX0.below (hbX.mono HM.out.lo.size)) ok0);have HO0:Hid (okE m (l.getD 0 default)):=ok0;have hbw1:b<W.heap.size:=lle hbw HW.out.size;have hw01:w.heap.size<W.heap.size:=by rw [HWZ.out];omega
 have HZW:Hid (W.heap.size<=W.heap.size):=Nat.le_refl _;clear hsl hall wk wn ws hM hx0 hm0 p00 p01 p02 p03 hi hb hll hW hX hX0 ok0 hpa HM;go_enter func108,ntmps108
 go_wp2_with fail
 rw [<-HWW.out];clear HWW
 go_region_held2 (fun w'=>w'.cell? ⟨w.heap.size,2,none⟩=some (.string t)/\w'.cell? ⟨w.heap.size,3,none⟩=some (.slice (some ⟨b,off,none⟩) 1 cap)/\w'.cell? ⟨b,off,none⟩=some (.int .i64 k0)/\w'.cell? ⟨b,off+1,none⟩=some (.int .i64 n0)/\w'.cell? ⟨b,off+2,none⟩=some (.string s0)/\w'.cell? ⟨b,off+3,none⟩=some (.slice a0 len0 cap0)) (go_keep) (first
  | (with_reducible refine Calls.mono (F7 0 W.drew) ?_
     rintro e w1 ⟨rfl,hb1⟩;have HBW1:Hid (Below W.heap.size W w1):=Aa (Ad _) hb1;have HRB1:Hid (RB (w.heap.size+1) w1):=HB0.out.below HBW1.out;have rl2:w1.cell? ⟨w.heap.size,2,none⟩=some (.string t):=(hb1.cell (p:=⟨w.heap.size,2,none⟩) (lle hw01 HZW.out)).trans l2;have rl3:w1.cell? ⟨w.heap.size,3,none⟩=some (.slice (some ⟨b,off,none⟩) 1 cap):=(hb1.cell (p:=⟨w.heap.size,3,none⟩) (lle hw01 HZW.out)).trans l3;have rq00:w1.cell? ⟨b,off,none⟩=some (.int .i64 k0):=(hb1.cell (p:=⟨b,off,none⟩) (lle hbw1 HZW.out)).trans q00;have rq01:w1.cell? ⟨b,off+1,none⟩=some (.int .i64 n0):=(hb1.cell (p:=⟨b,off+1,none⟩) (lle hbw1 HZW.out)).trans q01;have rq02:w1.cell? ⟨b,off+2,none⟩=some (.string s0):=(hb1.cell (p:=⟨b,off+2,none⟩) (lle hbw1 HZW.out)).trans q02;have rq03:w1.cell? ⟨b,off+3,none⟩=some (.slice a0 len0 cap0):=(hb1.cell (p:=⟨b,off+3,none⟩) (lle hbw1 HZW.out)).trans q03
     have HCA:=hid (HC.out w1 HBW1.out);clear hb1 HC)
  | (with_reducible refine Calls.mono HCA.out ?_
     rintro e w2 ⟨hb2,hr⟩;have HBW2:Hid (Below W.heap.size W w2):=Aa HBW1.out hb2;have HB2:Hid (Below w.heap.size w w2):=Aa HW.out HBW2.out;have HRB2:Hid (RB (w.heap.size+1) w2):=HRB1.out.below hb2;have HZ2:Hid (W.heap.size<=w1.heap.size):=HBW1.out.size;have sl2:w2.cell? ⟨w.heap.size,2,none⟩=some (.string t):=(HBW2.out.cell (p:=⟨w.heap.size,2,none⟩) hw01).trans l2;have sl3:w2.cell? ⟨w.heap.size,3,none⟩=some (.slice (some ⟨b,off,none⟩) 1 cap):=(HBW2.out.cell (p:=⟨w.heap.size,3,none⟩) hw01).trans l3;have sq00:w2.cell? ⟨b,off,none⟩=some (.int .i64 k0):=(HBW2.out.cell (p:=⟨b,off,none⟩) hbw1).trans q00;have sq01:w2.cell? ⟨b,off+1,none⟩=some (.int .i64 n0):=(HBW2.out.cell (p:=⟨b,off+1,none⟩) hbw1).trans q01;have sq02:w2.cell? ⟨b,off+2,none⟩=some (.string s0):=(HBW2.out.cell (p:=⟨b,off+2,none⟩) hbw1).trans q02
     have sq03:w2.cell? ⟨b,off+3,none⟩=some (.slice a0 len0 cap0):=(HBW2.out.cell (p:=⟨b,off+3,none⟩) hbw1).trans q03;rcases Bf (Ai s m (l.getD 0 default)) with⟨er,hN⟩ | ⟨u,hN⟩
     . rw [hN] at hr HR0;subst hr;clear hN hb2;go_wp2_with fail
       exact⟨rfl,Bb.err HB2.out HR0.out⟩
     have HU:Hid u.ok:=B4 HF.out HO0.out hN;rw [hN] at hr HR0;obtain⟨ut,un,us⟩:=u;have hr2:e = .returned (.agg #[.bool ut,.int .i64 un,.string us]):=hr;clear hr;subst hr2;have HR2:Hid (R=Di (D8 ⟨#[45]⟩ false 0 ⟨#[]⟩ ut un us)):=HR0.out;have HP2:Hid (Pow w2):=(HPW.out.low (HB2.out.mono HSB.out).block).elim fun _ h=>h.2.2;have HOP:=hid (Ahg ⟨#[45]⟩ false 0 ⟨#[]⟩ ut un us w2 (by decide) HU.out.may.1 (by decide) (by decide) HU.out.may.2.1 HU.out.may.2.2 HP2.out);clear hN hb2 HP2 HCA)
  | (with_reducible refine Calls.mono HOP.out ?_
     rintro e w3 ⟨he,hb3⟩;have HBW3:Hid (Below W.heap.size W w3):=Aa HBW2.out hb3;have HRB3:Hid (RB (w.heap.size+1) w3):=HRB2.out.below hb3;have tl2:w3.cell? ⟨w.heap.size,2,none⟩=some (.string t):=(HBW3.out.cell (p:=⟨w.heap.size,2,none⟩) hw01).trans l2;have tl3:w3.cell? ⟨w.heap.size,3,none⟩=some (.slice (some ⟨b,off,none⟩) 1 cap):=(HBW3.out.cell (p:=⟨w.heap.size,3,none⟩) hw01).trans l3;have tq00:w3.cell? ⟨b,off,none⟩=some (.int .i64 k0):=(HBW3.out.cell (p:=⟨b,off,none⟩) hbw1).trans q00;have tq01:w3.cell? ⟨b,off+1,none⟩=some (.int .i64 n0):=(HBW3.out.cell (p:=⟨b,off+1,none⟩) hbw1).trans q01;have tq02:w3.cell? ⟨b,off+2,none⟩=some (.string s0):=(HBW3.out.cell (p:=⟨b,off+2,none⟩) hbw1).trans q02;have tq03:w3.cell? ⟨b,off+3,none⟩=some (.slice a0 len0 cap0):=(HBW3.out.cell (p:=⟨b,off+3,none⟩) hbw1).trans q03;obtain⟨⟨r1,r2,r3,r4⟩,hq⟩:∃q,q=D8 ⟨#[45]⟩ false 0 ⟨#[]⟩ ut un us:=⟨_,rfl⟩
     rw [<-hq] at he HR2;unfold vt at he;simp only at he;subst he;have HSU:=hid (Uj r1 r2 r3 r4 w3);clear hq hb3 HOP)
  | (with_reducible refine Calls.mono HSU.out ?_
     rintro e w4 ⟨hb4,hr⟩;have HBW4:Hid (Below W.heap.size W w4):=Aa HBW3.out hb4;have HB4:Hid (Below w.heap.size w w4):=Aa HW.out HBW4.out;have HRB:Hid (RB (w.heap.size+1) w4):=HRB3.out.below hb4;have ul2:w4.cell? ⟨w.heap.size,2,none⟩=some (.string t):=(HBW4.out.cell (p:=⟨w.heap.size,2,none⟩) hw01).trans l2;have ul3:w4.cell? ⟨w.heap.size,3,none⟩=some (.slice (some ⟨b,off,none⟩) 1 cap):=(HBW4.out.cell (p:=⟨w.heap.size,3,none⟩) hw01).trans l3;have uq00:w4.cell? ⟨b,off,none⟩=some (.int .i64 k0):=(HBW4.out.cell (p:=⟨b,off,none⟩) hbw1).trans q00;have uq01:w4.cell? ⟨b,off+1,none⟩=some (.int .i64 n0):=(HBW4.out.cell (p:=⟨b,off+1,none⟩) hbw1).trans q01;have uq02:w4.cell? ⟨b,off+2,none⟩=some (.string s0):=(HBW4.out.cell (p:=⟨b,off+2,none⟩) hbw1).trans q02;have uq03:w4.cell? ⟨b,off+3,none⟩=some (.slice a0 len0 cap0):=(HBW4.out.cell (p:=⟨b,off+3,none⟩) hbw1).trans q03
     obtain⟨x0,x1,x2,y0,y1,y2⟩:=HRB.out.cells;rcases Bf (Di (r1,r2,r3,r4)) with⟨er,hN⟩ | ⟨u,hN⟩
     . rw [hN] at hr HR2;subst hr;clear hN hb4;go_wp2_with fail
       exact⟨rfl,Bb.err HB4.out HR2.out⟩
     rw [hN] at hr HR2;obtain⟨qt,qn,qs⟩:=u;have hr2:e = .returned (.agg #[.bool qt,.int .i64 qn,.string qs]):=hr;clear hr;subst hr2;clear hN hb4 HSU))
 go_wp2
 exact bodyPost_ret (v:= .agg #[.bool qt,.int .i64 qn,.string qs]) (by simp [results,results108,go_sem,x0,x1,x2]) rfl (Ej HB4.out (Nat.le_succ _) HR2.out)
theorem Ago {m:Nat} (hX:Er m) (c:Cx) (O:Own) (w:World) (s:Ms) (j:Nat) (n:Int) (t:ByteArray) (l:List Ex) (cs:List Value) (hM:Mc c O w s j) (hx:ExA c.B w (m+1) cs (.mk 5 n t l)) (hok:okE (m+1) (.mk 5 n t l)) :
 Calls prog 108 #[.pointer (some ⟨c.r,0,none⟩),.agg cs.toArray] w (Dm w (Ai s (m+1) (.mk 5 n t l))):=by
 obtain⟨v,rfl,wk,wn,ws,a,cap,rfl,hmax,hsl⟩:=hx;obtain⟨-,-,hpa,hs2,hn0,hn1,hall⟩:=hok;obtain⟨R,hR⟩:∃R,R=Ai s (m+1) (.mk 5 n t l):=⟨_,rfl⟩;rw [<-hR];have HR0:Hid (R=(Ai s m (l.getD 0 default)).bind fun v=> .ok ((Cm v.key (s.lists t)).getD (vN 0))):=by rw [hR];simp [Ai,Hid]
 clear hR;have hll:l.length=1:=by have:=Da hpa;simp [D1] at this;omega
 obtain⟨b,off,rfl,hb,hi⟩:=hsl (by omega);have hbw:b<w.heap.size:=by have:=hM.lo.size;omega
 have hbn:¬b=w.heap.size:=by omega
 have hbn1:¬b=w.heap.size+1:=by omega
 have hbn2:¬w.heap.size+1=b:=by omega
 rw [hll];obtain⟨k0,n0,s0,a0,len0,cap0,p00,p01,p02,p03,hx0,hm0⟩:=kid hi 0 (off) (by omega) (by omega);have ok0:okE m (l.getD 0 default):=hall _ hm0;have hrw:c.r<w.heap.size:=hM.lt;have hrn:¬c.r=w.heap.size:=by omega
 have hrn1:¬c.r=w.heap.size+1:=by omega
 have HSB:Hid (c.B<=w.heap.size):=hM.lo.size;have HF:Hid (Fit s):=hM.fit;have HPW:Hid (D4 c.B w):=hM.lo.pw;show Calls prog 108 #[.pointer (some ⟨c.r,0,none⟩),.agg #[.int .i64 5,.int .i64 n,.string t,.slice (some ⟨b,off,none⟩) 1 cap]] w _;obtain⟨W,hW⟩:∃W,W=(w.alloc (.cells #[.int .i64 5,.int .i64 n,.string t,.slice (some ⟨b,off,none⟩) 1 cap] 31)).alloc (.cells #[.bool false,.int .i64 0,.string ⟨#[]⟩] 157):=⟨_,rfl⟩;have HW:Hid (Below w.heap.size w W):=by rw [hW];exact Aa (br0.alloc lr0 _) (br0.alloc lr0 _)
 have HM:Hid (Mc c O W s j):=hM.below HW.out;have HB0:Hid (RB (w.heap.size+1) W):=by rw [hW];exact RB.new2 _ _
 have HWW:Hid (W=_):=hW;have HWZ:Hid (W.heap.size=w.heap.size+1+1):=by rw [hW];simp [Hid]
 have l2:W.cell? ⟨w.heap.size,2,none⟩=some (.string t):=by rw [hW];simp [go_sem]
 have l3:W.cell? ⟨w.heap.size,3,none⟩=some (.slice (some ⟨b,off,none⟩) 1 cap):=by rw [hW];simp [go_sem]
 have q00:W.cell? ⟨b,off,none⟩=some (.int .i64 k0):=(HW.out.cell (p:=⟨b,off,none⟩) hbw).trans p00;have q01:W.cell? ⟨b,off+1,none⟩=some (.int .i64 n0):=(HW.out.cell (p:=⟨b,off+1,none⟩) hbw).trans p01;have q02:W.cell? ⟨b,off+2,none⟩=some (.string s0):=(HW.out.cell (p:=⟨b,off+2,none⟩) hbw).trans p02;have q03:W.cell? ⟨b,off+3,none⟩=some (.slice a0 len0 cap0):=(HW.out.cell (p:=⟨b,off+3,none⟩) hbw).trans p03;have hX0:ExA c.B W m [.int .i64 k0,.int .i64 n0,.string s0,.slice a0 len0 cap0] (l.getD 0 default):=hx0.out.below (HW.out.mono HSB.out);have HC:=hid (G0 (R0:=R) (K0:=vlV) (Hp hX c O W.drew s j _ _ (HM.out.below (Ad _)) (hX0.below ((Ad W).mono HM.out.lo.size)) ok0) (Aa HW.out (Ad W)) (fun er h=>by rw [HR0.out,h];rfl));have HO0:Hid (okE m (l.getD 0 default)):=ok0;have hbw1:b<W.heap.size:=lle hbw HW.out.size;have hw01:w.heap.size<W.heap.size:=by rw [HWZ.out];omega
 have hr01:c.r<W.heap.size:=HM.out.lt;have hrn2:¬w.heap.size+1=c.r:=by omega
 obtain⟨bv,bl,fl,ol,HCl,-,HLs,-⟩:=HM.out.open;have c1:=HCl.c1;obtain⟨q,hlk,hq⟩:=HLs.look (t:=t) (by unfold maxLen;omega);have HQ:Hid (Ii W q (s.lists t)):=hq.imp id fun⟨k,h1,_,h2⟩=>⟨k,h1,h2⟩;have HLK:Hid (∀w',Below W.heap.size W w'->(Instr.lookup 84 (.map (some bl)) (.string t) false).run prog w' = .ok (.map q) w'):=fun w' hb=>hlk w' (hb.block bl (by obtain⟨_,_,_,_,h,_⟩:=HLs;exact h.lt));have hlk0:=HLK.out W.drew (Ad W);clear hsl hall wk wn ws hM hx0 hm0 p00 p01 p02 p03 hi hb hll hW hX hX0 ok0 hpa HM HCl HLs hlk hq;go_enter func108,ntmps108
 go_wp2_with fail
 rw [<-HWW.out];clear HWW
 go_region_held2 (fun w'=>w'.cell? ⟨w.heap.size,2,none⟩=some (.string t)/\w'.cell? ⟨w.heap.size,3,none⟩=some (.slice (some ⟨b,off,none⟩) 1 cap)/\w'.cell? ⟨b,off,none⟩=some (.int .i64 k0)/\w'.cell? ⟨b,off+1,none⟩=some (.int .i64 n0)/\w'.cell? ⟨b,off+2,none⟩=some (.string s0)/\w'.cell? ⟨b,off+3,none⟩=some (.slice a0 len0 cap0)/\w'.cell? ⟨c.r,1,none⟩=some (.map (some bl))) (go_keep) (first
  | (with_reducible refine Calls.mono HC.out ?_
     rintro e w1 (⟨er,rfl,HE⟩ | ⟨v,rfl,HR,HB1,HB1W⟩)
     . go_wp2_with fail
       exact⟨rfl,HE.out⟩
     have HBW1:Hid (Below W.heap.size W w1):=Aa (Ad W) HB1W.out;have HRB:Hid (RB (w.heap.size+1) w1):=HB0.out.below HBW1.out;have hv:=(B4 HF.out HO0.out HR.out).len;have HR1:Hid (R = .ok ((Cm v.key (s.lists t)).getD (vN 0))):=by unfold Hid;rw [HR0.out,HR.out];rfl
     have hlk1:=HLK.out w1 HBW1.out;have hin:=(HQ.out.below HBW1.out).look (x:=v.str) (by unfold maxLen;omega);obtain⟨⟨qt,qn,qs⟩,hqq⟩:∃u,u=(Cm v.key (s.lists t)).getD (vN 0):=⟨_,rfl⟩;unfold Vl.key at hqq HR1;rw [<-hqq] at hin HR1;simp only at hin;obtain⟨X,hX⟩:∃X,X=v.str:=⟨_,rfl⟩;rw [<-hX] at hin ⊢;have rl2:w1.cell? ⟨w.heap.size,2,none⟩=some (.string t):=(HBW1.out.cell (p:=⟨w.heap.size,2,none⟩) hw01).trans l2;have rl3:w1.cell? ⟨w.heap.size,3,none⟩=some (.slice (some ⟨b,off,none⟩) 1 cap):=(HBW1.out.cell (p:=⟨w.heap.size,3,none⟩) hw01).trans l3;have rq00:w1.cell? ⟨b,off,none⟩=some (.int .i64 k0):=(HBW1.out.cell (p:=⟨b,off,none⟩) hbw1).trans q00;have rq01:w1.cell? ⟨b,off+1,none⟩=some (.int .i64 n0):=(HBW1.out.cell (p:=⟨b,off+1,none⟩) hbw1).trans q01;have rq02:w1.cell? ⟨b,off+2,none⟩=some (.string s0):=(HBW1.out.cell (p:=⟨b,off+2,none⟩) hbw1).trans q02
     have rq03:w1.cell? ⟨b,off+3,none⟩=some (.slice a0 len0 cap0):=(HBW1.out.cell (p:=⟨b,off+3,none⟩) hbw1).trans q03;have rc1:w1.cell? ⟨c.r,1,none⟩=some (.map (some bl)):=(HBW1.out.cell (p:=⟨c.r,1,none⟩) hr01).trans c1;obtain⟨x0,x1,x2,y0,y1,y2⟩:=HRB.out.cells;clear HC HR hv hqq hX))
 all_goals go_wp2
 all_goals exact bodyPost_ret (v:= .agg #[.bool qt,.int .i64 qn,.string qs]) (by simp [results,results108,go_sem,x0,x1,x2]) rfl (Ej HB1.out (Nat.le_succ _) HR1.out)
theorem Ady {m:Nat} (hX:Er m) (c:Cx) (O:Own) (w:World) (s:Ms) (j:Nat) (n:Int) (t:ByteArray) (l:List Ex) (cs:List Value) (hM:Mc c O w s j) (hx:ExA c.B w (m+1) cs (.mk 11 n t l)) (hok:okE (m+1) (.mk 11 n t l)) :
 Calls prog 108 #[.pointer (some ⟨c.r,0,none⟩),.agg cs.toArray] w (Dm w (Ai s (m+1) (.mk 11 n t l))):=by
 obtain⟨v,rfl,wk,wn,ws,a,cap,rfl,hmax,hsl⟩:=hx;obtain⟨-,-,hpa,hs2,hn0,hn1,hall⟩:=hok;obtain⟨R,hR⟩:∃R,R=Ai s (m+1) (.mk 11 n t l):=⟨_,rfl⟩;rw [<-hR];have HR0:Hid (R=(Cw (Ai s m) l).bind fun vs=>Di (Ir t vs)):=by rw [hR];simp [Ai,Hid]
 clear hR;have hsl2:Sl w c.B 4 (.slice a l.length cap) l.length (fun i c'=>∃x,l[i]? = some x/\ExA c.B w m c' x):=⟨a,cap,rfl,hmax,hsl⟩;have hl3:l.length<=3:=by
  have:=Da hpa;simp only [D1,if_true,Dn] at this;split at this <;> (try split at this) <;> (try split at this) <;> omega
 have hrw:c.r<w.heap.size:=hM.lt;have hrn:¬c.r=w.heap.size:=by omega
 have hrn1:¬c.r=w.heap.size+1:=by omega
 have HSB:Hid (c.B<=w.heap.size):=hM.lo.size;have HF:Hid (Fit s):=hM.fit;have HPW:Hid (D4 c.B w):=hM.lo.pw;show Calls prog 108 #[.pointer (some ⟨c.r,0,none⟩),.agg #[.int .i64 11,.int .i64 n,.string t,.slice a l.length cap]] w _;obtain⟨W,hW⟩:∃W,W=(w.alloc (.cells #[.int .i64 11,.int .i64 n,.string t,.slice a l.length cap] 31)).alloc (.cells #[.bool false,.int .i64 0,.string ⟨#[]⟩] 157):=⟨_,rfl⟩;have HW:Hid (Below w.heap.size w W):=by rw [hW];exact Aa (br0.alloc lr0 _) (br0.alloc lr0 _)
 have HM:Hid (Mc c O W s j):=hM.below HW.out;have HB0:Hid (RB (w.heap.size+1) W):=by rw [hW];exact RB.new2 _ _
 have HWW:Hid (W=_):=hW;have HWZ:Hid (W.heap.size=w.heap.size+1+1):=by rw [hW];simp [Hid]
 have l2:W.cell? ⟨w.heap.size,2,none⟩=some (.string t):=by rw [hW];simp [go_sem]
 have l3:W.cell? ⟨w.heap.size,3,none⟩=some (.slice a l.length cap):=by rw [hW];simp [go_sem]
 have HC:=hid (Xd hX c O W.drew s j l _ (HM.out.below (Ad _)) (hsl2.below ((HW.out.trans ((Ad W).mono HW.out.size)).mono HSB.out) (fun _ _ ⟨x,hx,he⟩=>⟨x,hx,he.below ((HW.out.trans ((Ad W).mono HW.out.size)).mono HSB.out)⟩)) hall (by omega));have HALL:Hid (∀x ∈ l,okE m x):=hall;have HMX:Hid (MxB c.B w):=hM.lo.mx;have hw01:w.heap.size<W.heap.size:=by rw [HWZ.out];omega
 clear hsl hall wk wn ws hM hW hX hpa HM hsl2 hl3;go_enter func108,ntmps108
 go_wp2_with fail
 rw [<-HWW.out];clear HWW
 go_region_held2 (fun w'=>w'.cell? ⟨w.heap.size,2,none⟩=some (.string t)/\w'.cell? ⟨w.heap.size,3,none⟩=some (.slice a l.length cap)) (go_keep) (first
  | (with_reducible refine Calls.mono HC.out ?_
     rintro e w1 ⟨hb1,hr⟩;have HBW1:Hid (Below W.heap.size W w1):=Aa (Ad _) hb1;have HB1:Hid (Below w.heap.size w w1):=Aa HW.out HBW1.out;have HRB1:Hid (RB (w.heap.size+1) w1):=HB0.out.below HBW1.out;have rl2:w1.cell? ⟨w.heap.size,2,none⟩=some (.string t):=(HBW1.out.cell (p:=⟨w.heap.size,2,none⟩) hw01).trans l2;have rl3:w1.cell? ⟨w.heap.size,3,none⟩=some (.slice a l.length cap):=(HBW1.out.cell (p:=⟨w.heap.size,3,none⟩) hw01).trans l3;rcases Bf (Cw (Ai s m) l) with⟨er,hN⟩ | ⟨vs,hN⟩
     . rw [hN] at hr HR0;subst hr;clear hN hb1;go_wp2_with fail
       exact⟨rfl,Bb.err HB1.out HR0.out⟩
     rw [hN] at hr HR0;obtain⟨v',rfl,hrow⟩:=hr;have HOK:Hid (∀u ∈ vs,u.ok):=fun u hu=>let ⟨x,hx,he⟩:=Il hN u hu;B4 HF.out (HALL.out x hx) he
     have HR2:Hid (R=Di (Ir t vs)):=HR0.out;have HP1:Hid (Pow w1):=(HPW.out.low (HB1.out.mono HSB.out).block).elim fun _ h=>h.2.2;have HX1:Hid (Mx w1):=(HMX.out.below (HB1.out.mono HSB.out)).mx (lq0 HSB.out HB1.out.size);have HCC:=hid (Ad8 t vs v' _ w1 HOK.out hrow HP1.out HX1.out);obtain⟨a9,len9,cap9,rfl⟩:∃a len cap,v' = .slice a len cap:=by
      rcases hrow.2 with⟨rfl,_⟩ | ⟨g,cap,cur,rfl,_⟩
      . exact⟨_,_,_,rfl⟩
      . exact⟨_,_,_,rfl⟩
     clear hN hb1 hrow HC HP1 HX1)
  | (with_reducible refine Calls.mono HCC.out ?_
     rintro e w3 ⟨he,hb3⟩;have HBW3:Hid (Below W.heap.size W w3):=Aa HBW1.out hb3;have HRB3:Hid (RB (w.heap.size+1) w3):=HRB1.out.below hb3;have tl2:w3.cell? ⟨w.heap.size,2,none⟩=some (.string t):=(HBW3.out.cell (p:=⟨w.heap.size,2,none⟩) hw01).trans l2;have tl3:w3.cell? ⟨w.heap.size,3,none⟩=some (.slice a l.length cap):=(HBW3.out.cell (p:=⟨w.heap.size,3,none⟩) hw01).trans l3;obtain⟨⟨r1,r2,r3,r4⟩,hq⟩:∃q,q=Ir t vs:=⟨_,rfl⟩;rw [<-hq] at he HR2;unfold vt at he;simp only at he;subst he;have HSU:=hid (Uj r1 r2 r3 r4 w3);clear hq hb3 HCC)
  | (with_reducible refine Calls.mono HSU.out ?_
     rintro e w4 ⟨hb4,hr⟩;have HBW4:Hid (Below W.heap.size W w4):=Aa HBW3.out hb4;have HB4:Hid (Below w.heap.size w w4):=Aa HW.out HBW4.out;have HRB:Hid (RB (w.heap.size+1) w4):=HRB3.out.below hb4;have ul2:w4.cell? ⟨w.heap.size,2,none⟩=some (.string t):=(HBW4.out.cell (p:=⟨w.heap.size,2,none⟩) hw01).trans l2;have ul3:w4.cell? ⟨w.heap.size,3,none⟩=some (.slice a l.length cap):=(HBW4.out.cell (p:=⟨w.heap.size,3,none⟩) hw01).trans l3;obtain⟨x0,x1,x2,y0,y1,y2⟩:=HRB.out.cells;rcases Bf (Di (r1,r2,r3,r4)) with⟨er,hN⟩ | ⟨u,hN⟩
     . rw [hN] at hr HR2;subst hr;clear hN hb4;go_wp2_with fail
       exact⟨rfl,Bb.err HB4.out HR2.out⟩
     rw [hN] at hr HR2;obtain⟨qt,qn,qs⟩:=u;have hr2:e = .returned (.agg #[.bool qt,.int .i64 qn,.string qs]):=hr;clear hr;subst hr2;clear hN hb4 HSU))
 all_goals go_wp2
 all_goals exact bodyPost_ret (v:= .agg #[.bool qt,.int .i64 qn,.string qs]) (by simp [results,results108,go_sem,x0,x1,x2]) rfl (Ej HB4.out (Nat.le_succ _) HR2.out)
end Go.Proofs.YtppcohadoilpgaaGreatDoor
