/-
  The machine's stmt, kind by kind, and all statements.
-/
import Derived.Test.YtppcohadoilpgaaGreatDoorMEach
import Derived.Test.YtppcohadoilpgaaGreatDoorMPlain
namespace Go.Proofs.YtppcohadoilpgaaGreatDoor
open Go.ChangeShapes Go.WideShapes Go.ChangeAt Go.RowKit Go.Joins Go.Maps Go.Proofs.Tryz
set_option maxHeartbeats 4000000
set_option linter.unusedVariables false
set_option maxRecDepth 100000
theorem Lj (x:ByteArray):∀(l:List ByteArray) (i:Nat) (s s':Ms) (b:Bool),Fu x l i s = .go s' b->b=true
 | [],_,_,_,_,h=>by cases h;rfl
 | y :: l,i,s,s',b,h=>by
  have e:Fu x (y :: l) i s=(Dl s x (Lib.itoa ((i+1:Nat):Int)) (vS y)).then (Fu x l (i+1)):=rfl;rw [e] at h;cases hp:Dl s x (Lib.itoa ((i+1:Nat):Int)) (vS y) with
  | stop s2 er=>rw [Gd hp] at h;cases h
  | go s2 b2 =>
   obtain⟨rfl,-⟩:=Pu hp;rw [I7 hp] at h;exact Lj x l (i+1) s2 s' b h
theorem Fh {α:Type} {s s':Ms} {x:Except Int α} {f:α->Om} {b:Bool} (hf:∀v,f v = .go s' b->b=true) (h:orM s x f = .go s' b):b=true:=by
 cases x with
 | ok v=>exact hf v h
 | error e=>cases h
theorem Sr {s s':Ms} {v:Vl} {t:ByteArray} {b:Bool} (h:De s v t = .go s' b):b=true:=by
 unfold De at h;split at h
 . cases h
 . split at h
   . cases h
   . split at h
     . cases h
     . cases h;rfl
theorem Rv {s s':Ms} {l:List ByteArray} {b:Bool} (h:Dx s l = .go s' b):b=true:=by
 unfold Dx at h;split at h
 . cases h
 . cases h;rfl
theorem Te {F:List Fl} {s s':Ms} {x t:ByteArray} {b:Bool} (h:F4 F s x t = .go s' b):b=true:=by
 unfold F4 at h;split at h
 . cases h
 . exact Lj _ _ _ _ _ _ h
theorem Dh {F:List Fl} {m:Nat} {s s':Ms} {x:Sm} {b:Bool} (h:A2 F m s x = .go s' b):b=true:=by
 obtain⟨k,a,t,es,bd,el⟩:=x;unfold A2 at h
 dsimp only at h
 by_cases h1:k=1
 . rw [if_pos h1] at h;exact Fh (fun v e=>by cases e;rfl) h
 rw [if_neg h1] at h
 by_cases h2:k=2
 . rw [if_pos h2] at h;exact Fh (fun v e=>Fh (fun v e=>(Pu e).1) e) h
 rw [if_neg h2] at h
 by_cases h3:k=3
 . rw [if_pos h3] at h;exact Fh (fun v e=>Fh (fun v e=>Sr e) e) h
 rw [if_neg h3] at h
 by_cases h4:k=4
 . rw [if_pos h4] at h;exact Fh (fun v e=>Rv e) h
 rw [if_neg h4] at h
 by_cases h9:k=9
 . rw [if_pos h9] at h;exact Fh (fun v e=>by cases e;rfl) h
 rw [if_neg h9] at h
 by_cases h10:k=10
 . rw [if_pos h10] at h;exact Te h
 . rw [if_neg h10] at h;cases h;rfl
theorem Afz {m:Nat} (hS:DoC m) (c:Cx) (O:Own) (w:World) (s:Ms) (j:Nat) (a t:ByteArray) (es:List Ex) (bd el:List Sm) (cs:List Value) (hM:Mc c O w s j) (hx:SmA c.B w (m+1) cs (.mk 1 a t es bd el)) (hok:okS (m+1) (.mk 1 a t es bd el)) (hfe:C6 (m+1) (.mk 1 a t es bd el)) :
 Calls prog 109 #[.pointer (some ⟨c.r,0,none⟩),.agg cs.toArray] w (Ak c O w j (Ag c.F (m+1) s (.mk 1 a t es bd el)) Value.bool):=by
 have HXX:=hid hx;obtain⟨v1,v2,v3,rfl,wk,wa,wt,⟨ea,ecap,rfl,-,-⟩,⟨a2,cap2,rfl,-,-⟩,⟨a3,cap3,rfl,-,-⟩⟩:=hx;obtain⟨R,hR⟩:∃R,R=Ag c.F (m+1) s (.mk 1 a t es bd el):=⟨_,rfl⟩;rw [<-hR];have HR0:Hid (R=Az s fun s2=>A2 c.F m s2 (.mk 1 a t es bd el)):=by rw [hR];simp [Ag,Hid]
 clear hR;show Calls prog 109 #[.pointer (some ⟨c.r,0,none⟩),.agg #[.int .i64 1,.string a,.string t,.slice ea es.length ecap,.slice a2 bd.length cap2,.slice a3 el.length cap3]] w _;have HOK:Hid (okS (m+1) (.mk 1 a t es bd el)/\C6 (m+1) (.mk 1 a t es bd el)):=⟨hok,hfe⟩;have HSS:=hid hS;have hrw:c.r<w.heap.size:=hM.lt;have hrn:¬c.r=w.heap.size:=by omega
 have HLO:Hid ((∀b,b<c.B->O b=none)/\c.B<=w.heap.size):=⟨hM.low,hM.lo.size⟩;have HTOP:Hid (O w.heap.size=none):=hM.top _ lr0;obtain⟨W,hW⟩:∃W,W=w.alloc (.cells #[.int .i64 1,.string a,.string t,.slice ea es.length ecap,.slice a2 bd.length cap2,.slice a3 el.length cap3] 54):=⟨_,rfl⟩;have HW:Hid (Below w.heap.size w W):=by rw [hW];exact br0.alloc lr0 _
 have HM:Hid (Mc c O W s j):=hM.below HW.out;have HWW:Hid (W=_):=hW;have hws:w.heap.size<W.heap.size:=by rw [hW];simp
 have l0:W.cell? ⟨w.heap.size,0,none⟩=some (.int .i64 1):=by rw [hW];simp [go_sem]
 have l1:W.cell? ⟨w.heap.size,1,none⟩=some (.string a):=by rw [hW];simp [go_sem]
 have l2:W.cell? ⟨w.heap.size,2,none⟩=some (.string t):=by rw [hW];simp [go_sem]
 have l3:W.cell? ⟨w.heap.size,3,none⟩=some (.slice ea es.length ecap):=by rw [hW];simp [go_sem]
 have l4:W.cell? ⟨w.heap.size,4,none⟩=some (.slice a2 bd.length cap2):=by rw [hW];simp [go_sem]
 have l5:W.cell? ⟨w.heap.size,5,none⟩=some (.slice a3 el.length cap3):=by rw [hW];simp [go_sem]
 clear hM hW hok hfe hS wk wa wt
 by_cases h0:s.left=0
 . have HR1:Hid (R = .stop s 1):=by unfold Hid;rw [HR0.out];unfold Az;rw [if_pos h0]
   have HBN:=hid (C0 c O W s j HM.out h0);clear h0;go_enter func109,ntmps109
   go_wp2_with fail
   rw [<-HWW.out];clear HWW;refine Calls.mono HBN.out ?_;rintro e w1 ⟨rfl,hb1⟩;have HB1:Hid (Below w.heap.size w w1):=Aa HW.out hb1;have HOU:Hid (Ou c O w1 s.out s.left):=(HM.out.below hb1).ou;clear hb1 HBN;go_wp2_with fail
   exact⟨rfl,Ak.stop (Bts.of_below HB1.out) HR1.out (Gr.refl _ _) HOU.out⟩
 obtain⟨s2,hs2⟩:∃s2:Ms,s2 = { s with left:=s.left - 1 }:=⟨_,rfl⟩;have HR1:Hid (R=A2 c.F m s2 (.mk 1 a t es bd el)):=by unfold Hid;rw [HR0.out];unfold Az;rw [if_neg h0,hs2]
 have HBC:=hid (D5 c O W s j HM.out h0);rw [<-hs2] at HBC;clear h0 hs2 HR0;go_enter func109,ntmps109
 go_wp2_with fail
 rw [<-HWW.out];clear HWW;refine Calls.mono HBC.out ?_;rintro e w1 ⟨rfl,hbt1,hM1⟩;have HBT1:Hid (Bts O w w1):=(Bts.of_below (O:=O) HW.out).trans hbt1 (Gr.refl _ _);have r0:w1.cell? ⟨w.heap.size,0,none⟩=some (.int .i64 1):=(hbt1.cell hws HTOP.out _).trans l0;have r1:w1.cell? ⟨w.heap.size,1,none⟩=some (.string a):=(hbt1.cell hws HTOP.out _).trans l1;have r2:w1.cell? ⟨w.heap.size,2,none⟩=some (.string t):=(hbt1.cell hws HTOP.out _).trans l2;have r3:w1.cell? ⟨w.heap.size,3,none⟩=some (.slice ea es.length ecap):=(hbt1.cell hws HTOP.out _).trans l3;have r4:w1.cell? ⟨w.heap.size,4,none⟩=some (.slice a2 bd.length cap2):=(hbt1.cell hws HTOP.out _).trans l4;have r5:w1.cell? ⟨w.heap.size,5,none⟩=some (.slice a3 el.length cap3):=(hbt1.cell hws HTOP.out _).trans l5;have HC:=hid (Ab7 m c O w1 s2 j a t es bd el _ hM1 (HXX.out.below (HBT1.out.below HLO.out.2 HLO.out.1)) HOK.out.1)
 clear hbt1 hM1 HBC l0 l1 l2 l3 l4 l5;go_wp2_with fail
 refine Calls.mono HC.out ?_;intro e w2 hd;have hd2:=Ak.chain HBT1.out (Gr.refl _ _) (Ak.same hd HR1.out);rcases hd2.cases with⟨s9,er,h9,rfl⟩ | ⟨s9,b9,O9,h9,rfl,hG9,hMc9⟩
 . have HF:Hid (Ak c O w j R Value.bool (.panicked [Fb er]) w2):=by
    obtain⟨f1,f2⟩:=hd2;rw [h9] at f2 ⊢;exact⟨f1,f2⟩
   clear hd hd2 h9 HC;go_wp2_with fail
   exact⟨rfl,HF.out⟩
 obtain rfl:b9=true:=Dh (HR1.out.symm.trans h9);have HF:Hid (Ak c O w j R Value.bool (.returned (.bool true)) w2):=Ak.go (K:=Value.bool) hd2.1 h9 hG9 hMc9;clear hd hd2 h9 hG9 hMc9 HC;go_wp2_with fail
 go_ret
 exact HF.out
theorem Af0 {m:Nat} (hS:DoC m) (c:Cx) (O:Own) (w:World) (s:Ms) (j:Nat) (a t:ByteArray) (es:List Ex) (bd el:List Sm) (cs:List Value) (hM:Mc c O w s j) (hx:SmA c.B w (m+1) cs (.mk 2 a t es bd el)) (hok:okS (m+1) (.mk 2 a t es bd el)) (hfe:C6 (m+1) (.mk 2 a t es bd el)) :
 Calls prog 109 #[.pointer (some ⟨c.r,0,none⟩),.agg cs.toArray] w (Ak c O w j (Ag c.F (m+1) s (.mk 2 a t es bd el)) Value.bool):=by
 have HXX:=hid hx;obtain⟨v1,v2,v3,rfl,wk,wa,wt,⟨ea,ecap,rfl,-,-⟩,⟨a2,cap2,rfl,-,-⟩,⟨a3,cap3,rfl,-,-⟩⟩:=hx;obtain⟨R,hR⟩:∃R,R=Ag c.F (m+1) s (.mk 2 a t es bd el):=⟨_,rfl⟩;rw [<-hR];have HR0:Hid (R=Az s fun s2=>A2 c.F m s2 (.mk 2 a t es bd el)):=by rw [hR];simp [Ag,Hid]
 clear hR;show Calls prog 109 #[.pointer (some ⟨c.r,0,none⟩),.agg #[.int .i64 2,.string a,.string t,.slice ea es.length ecap,.slice a2 bd.length cap2,.slice a3 el.length cap3]] w _;have HOK:Hid (okS (m+1) (.mk 2 a t es bd el)/\C6 (m+1) (.mk 2 a t es bd el)):=⟨hok,hfe⟩;have HSS:=hid hS;have hrw:c.r<w.heap.size:=hM.lt;have hrn:¬c.r=w.heap.size:=by omega
 have HLO:Hid ((∀b,b<c.B->O b=none)/\c.B<=w.heap.size):=⟨hM.low,hM.lo.size⟩;have HTOP:Hid (O w.heap.size=none):=hM.top _ lr0;obtain⟨W,hW⟩:∃W,W=w.alloc (.cells #[.int .i64 2,.string a,.string t,.slice ea es.length ecap,.slice a2 bd.length cap2,.slice a3 el.length cap3] 54):=⟨_,rfl⟩;have HW:Hid (Below w.heap.size w W):=by rw [hW];exact br0.alloc lr0 _
 have HM:Hid (Mc c O W s j):=hM.below HW.out;have HWW:Hid (W=_):=hW;have hws:w.heap.size<W.heap.size:=by rw [hW];simp
 have l0:W.cell? ⟨w.heap.size,0,none⟩=some (.int .i64 2):=by rw [hW];simp [go_sem]
 have l1:W.cell? ⟨w.heap.size,1,none⟩=some (.string a):=by rw [hW];simp [go_sem]
 have l2:W.cell? ⟨w.heap.size,2,none⟩=some (.string t):=by rw [hW];simp [go_sem]
 have l3:W.cell? ⟨w.heap.size,3,none⟩=some (.slice ea es.length ecap):=by rw [hW];simp [go_sem]
 have l4:W.cell? ⟨w.heap.size,4,none⟩=some (.slice a2 bd.length cap2):=by rw [hW];simp [go_sem]
 have l5:W.cell? ⟨w.heap.size,5,none⟩=some (.slice a3 el.length cap3):=by rw [hW];simp [go_sem]
 clear hM hW hok hfe hS wk wa wt
 by_cases h0:s.left=0
 . have HR1:Hid (R = .stop s 1):=by unfold Hid;rw [HR0.out];unfold Az;rw [if_pos h0]
   have HBN:=hid (C0 c O W s j HM.out h0);clear h0;go_enter func109,ntmps109
   go_wp2_with fail
   rw [<-HWW.out];clear HWW;refine Calls.mono HBN.out ?_;rintro e w1 ⟨rfl,hb1⟩;have HB1:Hid (Below w.heap.size w w1):=Aa HW.out hb1;have HOU:Hid (Ou c O w1 s.out s.left):=(HM.out.below hb1).ou;clear hb1 HBN;go_wp2_with fail
   exact⟨rfl,Ak.stop (Bts.of_below HB1.out) HR1.out (Gr.refl _ _) HOU.out⟩
 obtain⟨s2,hs2⟩:∃s2:Ms,s2 = { s with left:=s.left - 1 }:=⟨_,rfl⟩;have HR1:Hid (R=A2 c.F m s2 (.mk 2 a t es bd el)):=by unfold Hid;rw [HR0.out];unfold Az;rw [if_neg h0,hs2]
 have HBC:=hid (D5 c O W s j HM.out h0);rw [<-hs2] at HBC;clear h0 hs2 HR0;go_enter func109,ntmps109
 go_wp2_with fail
 rw [<-HWW.out];clear HWW;refine Calls.mono HBC.out ?_;rintro e w1 ⟨rfl,hbt1,hM1⟩;have HBT1:Hid (Bts O w w1):=(Bts.of_below (O:=O) HW.out).trans hbt1 (Gr.refl _ _);have r0:w1.cell? ⟨w.heap.size,0,none⟩=some (.int .i64 2):=(hbt1.cell hws HTOP.out _).trans l0;have r1:w1.cell? ⟨w.heap.size,1,none⟩=some (.string a):=(hbt1.cell hws HTOP.out _).trans l1;have r2:w1.cell? ⟨w.heap.size,2,none⟩=some (.string t):=(hbt1.cell hws HTOP.out _).trans l2;have r3:w1.cell? ⟨w.heap.size,3,none⟩=some (.slice ea es.length ecap):=(hbt1.cell hws HTOP.out _).trans l3;have r4:w1.cell? ⟨w.heap.size,4,none⟩=some (.slice a2 bd.length cap2):=(hbt1.cell hws HTOP.out _).trans l4;have r5:w1.cell? ⟨w.heap.size,5,none⟩=some (.slice a3 el.length cap3):=(hbt1.cell hws HTOP.out _).trans l5;have HC:=hid (Ab8 m c O w1 s2 j a t es bd el _ hM1 (HXX.out.below (HBT1.out.below HLO.out.2 HLO.out.1)) HOK.out.1)
 clear hbt1 hM1 HBC l0 l1 l2 l3 l4 l5;go_wp2_with fail
 refine Calls.mono HC.out ?_;intro e w2 hd;have hd2:=Ak.chain HBT1.out (Gr.refl _ _) (Ak.same hd HR1.out);rcases hd2.cases with⟨s9,er,h9,rfl⟩ | ⟨s9,b9,O9,h9,rfl,hG9,hMc9⟩
 . have HF:Hid (Ak c O w j R Value.bool (.panicked [Fb er]) w2):=by
    obtain⟨f1,f2⟩:=hd2;rw [h9] at f2 ⊢;exact⟨f1,f2⟩
   clear hd hd2 h9 HC;go_wp2_with fail
   exact⟨rfl,HF.out⟩
 obtain rfl:b9=true:=Dh (HR1.out.symm.trans h9);have HF:Hid (Ak c O w j R Value.bool (.returned (.bool true)) w2):=Ak.go (K:=Value.bool) hd2.1 h9 hG9 hMc9;clear hd hd2 h9 hG9 hMc9 HC;go_wp2_with fail
 go_ret
 exact HF.out
theorem Af1 {m:Nat} (hS:DoC m) (c:Cx) (O:Own) (w:World) (s:Ms) (j:Nat) (a t:ByteArray) (es:List Ex) (bd el:List Sm) (cs:List Value) (hM:Mc c O w s j) (hx:SmA c.B w (m+1) cs (.mk 3 a t es bd el)) (hok:okS (m+1) (.mk 3 a t es bd el)) (hfe:C6 (m+1) (.mk 3 a t es bd el)) :
 Calls prog 109 #[.pointer (some ⟨c.r,0,none⟩),.agg cs.toArray] w (Ak c O w j (Ag c.F (m+1) s (.mk 3 a t es bd el)) Value.bool):=by
 have HXX:=hid hx;obtain⟨v1,v2,v3,rfl,wk,wa,wt,⟨ea,ecap,rfl,-,-⟩,⟨a2,cap2,rfl,-,-⟩,⟨a3,cap3,rfl,-,-⟩⟩:=hx;obtain⟨R,hR⟩:∃R,R=Ag c.F (m+1) s (.mk 3 a t es bd el):=⟨_,rfl⟩;rw [<-hR];have HR0:Hid (R=Az s fun s2=>A2 c.F m s2 (.mk 3 a t es bd el)):=by rw [hR];simp [Ag,Hid]
 clear hR;show Calls prog 109 #[.pointer (some ⟨c.r,0,none⟩),.agg #[.int .i64 3,.string a,.string t,.slice ea es.length ecap,.slice a2 bd.length cap2,.slice a3 el.length cap3]] w _;have HOK:Hid (okS (m+1) (.mk 3 a t es bd el)/\C6 (m+1) (.mk 3 a t es bd el)):=⟨hok,hfe⟩;have HSS:=hid hS;have hrw:c.r<w.heap.size:=hM.lt;have hrn:¬c.r=w.heap.size:=by omega
 have HLO:Hid ((∀b,b<c.B->O b=none)/\c.B<=w.heap.size):=⟨hM.low,hM.lo.size⟩;have HTOP:Hid (O w.heap.size=none):=hM.top _ lr0;obtain⟨W,hW⟩:∃W,W=w.alloc (.cells #[.int .i64 3,.string a,.string t,.slice ea es.length ecap,.slice a2 bd.length cap2,.slice a3 el.length cap3] 54):=⟨_,rfl⟩;have HW:Hid (Below w.heap.size w W):=by rw [hW];exact br0.alloc lr0 _
 have HM:Hid (Mc c O W s j):=hM.below HW.out;have HWW:Hid (W=_):=hW;have hws:w.heap.size<W.heap.size:=by rw [hW];simp
 have l0:W.cell? ⟨w.heap.size,0,none⟩=some (.int .i64 3):=by rw [hW];simp [go_sem]
 have l1:W.cell? ⟨w.heap.size,1,none⟩=some (.string a):=by rw [hW];simp [go_sem]
 have l2:W.cell? ⟨w.heap.size,2,none⟩=some (.string t):=by rw [hW];simp [go_sem]
 have l3:W.cell? ⟨w.heap.size,3,none⟩=some (.slice ea es.length ecap):=by rw [hW];simp [go_sem]
 have l4:W.cell? ⟨w.heap.size,4,none⟩=some (.slice a2 bd.length cap2):=by rw [hW];simp [go_sem]
 have l5:W.cell? ⟨w.heap.size,5,none⟩=some (.slice a3 el.length cap3):=by rw [hW];simp [go_sem]
 clear hM hW hok hfe hS wk wa wt
 by_cases h0:s.left=0
 . have HR1:Hid (R = .stop s 1):=by unfold Hid;rw [HR0.out];unfold Az;rw [if_pos h0]
   have HBN:=hid (C0 c O W s j HM.out h0);clear h0;go_enter func109,ntmps109
   go_wp2_with fail
   rw [<-HWW.out];clear HWW;refine Calls.mono HBN.out ?_;rintro e w1 ⟨rfl,hb1⟩;have HB1:Hid (Below w.heap.size w w1):=Aa HW.out hb1;have HOU:Hid (Ou c O w1 s.out s.left):=(HM.out.below hb1).ou;clear hb1 HBN;go_wp2_with fail
   exact⟨rfl,Ak.stop (Bts.of_below HB1.out) HR1.out (Gr.refl _ _) HOU.out⟩
 obtain⟨s2,hs2⟩:∃s2:Ms,s2 = { s with left:=s.left - 1 }:=⟨_,rfl⟩;have HR1:Hid (R=A2 c.F m s2 (.mk 3 a t es bd el)):=by unfold Hid;rw [HR0.out];unfold Az;rw [if_neg h0,hs2]
 have HBC:=hid (D5 c O W s j HM.out h0);rw [<-hs2] at HBC;clear h0 hs2 HR0;go_enter func109,ntmps109
 go_wp2_with fail
 rw [<-HWW.out];clear HWW;refine Calls.mono HBC.out ?_;rintro e w1 ⟨rfl,hbt1,hM1⟩;have HBT1:Hid (Bts O w w1):=(Bts.of_below (O:=O) HW.out).trans hbt1 (Gr.refl _ _);have r0:w1.cell? ⟨w.heap.size,0,none⟩=some (.int .i64 3):=(hbt1.cell hws HTOP.out _).trans l0;have r1:w1.cell? ⟨w.heap.size,1,none⟩=some (.string a):=(hbt1.cell hws HTOP.out _).trans l1;have r2:w1.cell? ⟨w.heap.size,2,none⟩=some (.string t):=(hbt1.cell hws HTOP.out _).trans l2;have r3:w1.cell? ⟨w.heap.size,3,none⟩=some (.slice ea es.length ecap):=(hbt1.cell hws HTOP.out _).trans l3;have r4:w1.cell? ⟨w.heap.size,4,none⟩=some (.slice a2 bd.length cap2):=(hbt1.cell hws HTOP.out _).trans l4;have r5:w1.cell? ⟨w.heap.size,5,none⟩=some (.slice a3 el.length cap3):=(hbt1.cell hws HTOP.out _).trans l5;have HC:=hid (Ab9 m c O w1 s2 j a t es bd el _ hM1 (HXX.out.below (HBT1.out.below HLO.out.2 HLO.out.1)) HOK.out.1)
 clear hbt1 hM1 HBC l0 l1 l2 l3 l4 l5;go_wp2_with fail
 refine Calls.mono HC.out ?_;intro e w2 hd;have hd2:=Ak.chain HBT1.out (Gr.refl _ _) (Ak.same hd HR1.out);rcases hd2.cases with⟨s9,er,h9,rfl⟩ | ⟨s9,b9,O9,h9,rfl,hG9,hMc9⟩
 . have HF:Hid (Ak c O w j R Value.bool (.panicked [Fb er]) w2):=by
    obtain⟨f1,f2⟩:=hd2;rw [h9] at f2 ⊢;exact⟨f1,f2⟩
   clear hd hd2 h9 HC;go_wp2_with fail
   exact⟨rfl,HF.out⟩
 obtain rfl:b9=true:=Dh (HR1.out.symm.trans h9);have HF:Hid (Ak c O w j R Value.bool (.returned (.bool true)) w2):=Ak.go (K:=Value.bool) hd2.1 h9 hG9 hMc9;clear hd hd2 h9 hG9 hMc9 HC;go_wp2_with fail
 go_ret
 exact HF.out
theorem Af2 {m:Nat} (hS:DoC m) (c:Cx) (O:Own) (w:World) (s:Ms) (j:Nat) (a t:ByteArray) (es:List Ex) (bd el:List Sm) (cs:List Value) (hM:Mc c O w s j) (hx:SmA c.B w (m+1) cs (.mk 4 a t es bd el)) (hok:okS (m+1) (.mk 4 a t es bd el)) (hfe:C6 (m+1) (.mk 4 a t es bd el)) :
 Calls prog 109 #[.pointer (some ⟨c.r,0,none⟩),.agg cs.toArray] w (Ak c O w j (Ag c.F (m+1) s (.mk 4 a t es bd el)) Value.bool):=by
 have HXX:=hid hx;obtain⟨v1,v2,v3,rfl,wk,wa,wt,⟨ea,ecap,rfl,-,-⟩,⟨a2,cap2,rfl,-,-⟩,⟨a3,cap3,rfl,-,-⟩⟩:=hx;obtain⟨R,hR⟩:∃R,R=Ag c.F (m+1) s (.mk 4 a t es bd el):=⟨_,rfl⟩;rw [<-hR];have HR0:Hid (R=Az s fun s2=>A2 c.F m s2 (.mk 4 a t es bd el)):=by rw [hR];simp [Ag,Hid]
 clear hR;show Calls prog 109 #[.pointer (some ⟨c.r,0,none⟩),.agg #[.int .i64 4,.string a,.string t,.slice ea es.length ecap,.slice a2 bd.length cap2,.slice a3 el.length cap3]] w _;have HOK:Hid (okS (m+1) (.mk 4 a t es bd el)/\C6 (m+1) (.mk 4 a t es bd el)):=⟨hok,hfe⟩;have HSS:=hid hS;have hrw:c.r<w.heap.size:=hM.lt;have hrn:¬c.r=w.heap.size:=by omega
 have HLO:Hid ((∀b,b<c.B->O b=none)/\c.B<=w.heap.size):=⟨hM.low,hM.lo.size⟩;have HTOP:Hid (O w.heap.size=none):=hM.top _ lr0;obtain⟨W,hW⟩:∃W,W=w.alloc (.cells #[.int .i64 4,.string a,.string t,.slice ea es.length ecap,.slice a2 bd.length cap2,.slice a3 el.length cap3] 54):=⟨_,rfl⟩;have HW:Hid (Below w.heap.size w W):=by rw [hW];exact br0.alloc lr0 _
 have HM:Hid (Mc c O W s j):=hM.below HW.out;have HWW:Hid (W=_):=hW;have hws:w.heap.size<W.heap.size:=by rw [hW];simp
 have l0:W.cell? ⟨w.heap.size,0,none⟩=some (.int .i64 4):=by rw [hW];simp [go_sem]
 have l1:W.cell? ⟨w.heap.size,1,none⟩=some (.string a):=by rw [hW];simp [go_sem]
 have l2:W.cell? ⟨w.heap.size,2,none⟩=some (.string t):=by rw [hW];simp [go_sem]
 have l3:W.cell? ⟨w.heap.size,3,none⟩=some (.slice ea es.length ecap):=by rw [hW];simp [go_sem]
 have l4:W.cell? ⟨w.heap.size,4,none⟩=some (.slice a2 bd.length cap2):=by rw [hW];simp [go_sem]
 have l5:W.cell? ⟨w.heap.size,5,none⟩=some (.slice a3 el.length cap3):=by rw [hW];simp [go_sem]
 clear hM hW hok hfe hS wk wa wt
 by_cases h0:s.left=0
 . have HR1:Hid (R = .stop s 1):=by unfold Hid;rw [HR0.out];unfold Az;rw [if_pos h0]
   have HBN:=hid (C0 c O W s j HM.out h0);clear h0;go_enter func109,ntmps109
   go_wp2_with fail
   rw [<-HWW.out];clear HWW;refine Calls.mono HBN.out ?_;rintro e w1 ⟨rfl,hb1⟩;have HB1:Hid (Below w.heap.size w w1):=Aa HW.out hb1;have HOU:Hid (Ou c O w1 s.out s.left):=(HM.out.below hb1).ou;clear hb1 HBN;go_wp2_with fail
   exact⟨rfl,Ak.stop (Bts.of_below HB1.out) HR1.out (Gr.refl _ _) HOU.out⟩
 obtain⟨s2,hs2⟩:∃s2:Ms,s2 = { s with left:=s.left - 1 }:=⟨_,rfl⟩;have HR1:Hid (R=A2 c.F m s2 (.mk 4 a t es bd el)):=by unfold Hid;rw [HR0.out];unfold Az;rw [if_neg h0,hs2]
 have HBC:=hid (D5 c O W s j HM.out h0);rw [<-hs2] at HBC;clear h0 hs2 HR0;go_enter func109,ntmps109
 go_wp2_with fail
 rw [<-HWW.out];clear HWW;refine Calls.mono HBC.out ?_;rintro e w1 ⟨rfl,hbt1,hM1⟩;have HBT1:Hid (Bts O w w1):=(Bts.of_below (O:=O) HW.out).trans hbt1 (Gr.refl _ _);have r0:w1.cell? ⟨w.heap.size,0,none⟩=some (.int .i64 4):=(hbt1.cell hws HTOP.out _).trans l0;have r1:w1.cell? ⟨w.heap.size,1,none⟩=some (.string a):=(hbt1.cell hws HTOP.out _).trans l1;have r2:w1.cell? ⟨w.heap.size,2,none⟩=some (.string t):=(hbt1.cell hws HTOP.out _).trans l2;have r3:w1.cell? ⟨w.heap.size,3,none⟩=some (.slice ea es.length ecap):=(hbt1.cell hws HTOP.out _).trans l3;have r4:w1.cell? ⟨w.heap.size,4,none⟩=some (.slice a2 bd.length cap2):=(hbt1.cell hws HTOP.out _).trans l4;have r5:w1.cell? ⟨w.heap.size,5,none⟩=some (.slice a3 el.length cap3):=(hbt1.cell hws HTOP.out _).trans l5;have HC:=hid (Aca m c O w1 s2 j a t es bd el _ hM1 (HXX.out.below (HBT1.out.below HLO.out.2 HLO.out.1)) HOK.out.1 HOK.out.2.1)
 clear hbt1 hM1 HBC l0 l1 l2 l3 l4 l5;go_wp2_with fail
 refine Calls.mono HC.out ?_;intro e w2 hd;have hd2:=Ak.chain HBT1.out (Gr.refl _ _) (Ak.same hd HR1.out);rcases hd2.cases with⟨s9,er,h9,rfl⟩ | ⟨s9,b9,O9,h9,rfl,hG9,hMc9⟩
 . have HF:Hid (Ak c O w j R Value.bool (.panicked [Fb er]) w2):=by
    obtain⟨f1,f2⟩:=hd2;rw [h9] at f2 ⊢;exact⟨f1,f2⟩
   clear hd hd2 h9 HC;go_wp2_with fail
   exact⟨rfl,HF.out⟩
 obtain rfl:b9=true:=Dh (HR1.out.symm.trans h9);have HF:Hid (Ak c O w j R Value.bool (.returned (.bool true)) w2):=Ak.go (K:=Value.bool) hd2.1 h9 hG9 hMc9;clear hd hd2 h9 hG9 hMc9 HC;go_wp2_with fail
 go_ret
 exact HF.out
theorem Af3 {m:Nat} (hS:DoC m) (c:Cx) (O:Own) (w:World) (s:Ms) (j:Nat) (a t:ByteArray) (es:List Ex) (bd el:List Sm) (cs:List Value) (hM:Mc c O w s j) (hx:SmA c.B w (m+1) cs (.mk 5 a t es bd el)) (hok:okS (m+1) (.mk 5 a t es bd el)) (hfe:C6 (m+1) (.mk 5 a t es bd el)) :
 Calls prog 109 #[.pointer (some ⟨c.r,0,none⟩),.agg cs.toArray] w (Ak c O w j (Ag c.F (m+1) s (.mk 5 a t es bd el)) Value.bool):=by
 have HXX:=hid hx;obtain⟨v1,v2,v3,rfl,wk,wa,wt,⟨ea,ecap,rfl,-,-⟩,⟨a2,cap2,rfl,-,-⟩,⟨a3,cap3,rfl,-,-⟩⟩:=hx;obtain⟨R,hR⟩:∃R,R=Ag c.F (m+1) s (.mk 5 a t es bd el):=⟨_,rfl⟩;rw [<-hR];have HR0:Hid (R=Az s fun s2=>orM s2 (Ai s2 m (es.getD 0 default)) fun v=>if v.so then A0 (Ag c.F m) bd s2 else A0 (Ag c.F m) el s2):=by rw [hR];simp [Ag,Hid]
 clear hR;show Calls prog 109 #[.pointer (some ⟨c.r,0,none⟩),.agg #[.int .i64 5,.string a,.string t,.slice ea es.length ecap,.slice a2 bd.length cap2,.slice a3 el.length cap3]] w _;have HOK:Hid (okS (m+1) (.mk 5 a t es bd el)/\C6 (m+1) (.mk 5 a t es bd el)):=⟨hok,hfe⟩;have HSS:=hid hS;have hrw:c.r<w.heap.size:=hM.lt;have hrn:¬c.r=w.heap.size:=by omega
 have HLO:Hid ((∀b,b<c.B->O b=none)/\c.B<=w.heap.size):=⟨hM.low,hM.lo.size⟩;have HTOP:Hid (O w.heap.size=none):=hM.top _ lr0;obtain⟨W,hW⟩:∃W,W=w.alloc (.cells #[.int .i64 5,.string a,.string t,.slice ea es.length ecap,.slice a2 bd.length cap2,.slice a3 el.length cap3] 54):=⟨_,rfl⟩;have HW:Hid (Below w.heap.size w W):=by rw [hW];exact br0.alloc lr0 _
 have HM:Hid (Mc c O W s j):=hM.below HW.out;have HWW:Hid (W=_):=hW;have hws:w.heap.size<W.heap.size:=by rw [hW];simp
 have l0:W.cell? ⟨w.heap.size,0,none⟩=some (.int .i64 5):=by rw [hW];simp [go_sem]
 have l1:W.cell? ⟨w.heap.size,1,none⟩=some (.string a):=by rw [hW];simp [go_sem]
 have l2:W.cell? ⟨w.heap.size,2,none⟩=some (.string t):=by rw [hW];simp [go_sem]
 have l3:W.cell? ⟨w.heap.size,3,none⟩=some (.slice ea es.length ecap):=by rw [hW];simp [go_sem]
 have l4:W.cell? ⟨w.heap.size,4,none⟩=some (.slice a2 bd.length cap2):=by rw [hW];simp [go_sem]
 have l5:W.cell? ⟨w.heap.size,5,none⟩=some (.slice a3 el.length cap3):=by rw [hW];simp [go_sem]
 clear hM hW hok hfe hS wk wa wt
 by_cases h0:s.left=0
 . have HR1:Hid (R = .stop s 1):=by unfold Hid;rw [HR0.out];unfold Az;rw [if_pos h0]
   have HBN:=hid (C0 c O W s j HM.out h0);clear h0;go_enter func109,ntmps109
   go_wp2_with fail
   rw [<-HWW.out];clear HWW;refine Calls.mono HBN.out ?_;rintro e w1 ⟨rfl,hb1⟩;have HB1:Hid (Below w.heap.size w w1):=Aa HW.out hb1;have HOU:Hid (Ou c O w1 s.out s.left):=(HM.out.below hb1).ou;clear hb1 HBN;go_wp2_with fail
   exact⟨rfl,Ak.stop (Bts.of_below HB1.out) HR1.out (Gr.refl _ _) HOU.out⟩
 obtain⟨s2,hs2⟩:∃s2:Ms,s2 = { s with left:=s.left - 1 }:=⟨_,rfl⟩;have HR1:Hid (R=orM s2 (Ai s2 m (es.getD 0 default)) fun v=>if v.so then A0 (Ag c.F m) bd s2 else A0 (Ag c.F m) el s2):=by unfold Hid;rw [HR0.out];unfold Az;rw [if_neg h0,hs2]
 have HBC:=hid (D5 c O W s j HM.out h0);rw [<-hs2] at HBC;clear h0 hs2 HR0;go_enter func109,ntmps109
 go_wp2_with fail
 rw [<-HWW.out];clear HWW;refine Calls.mono HBC.out ?_;rintro e w1 ⟨rfl,hbt1,hM1⟩;have HBT1:Hid (Bts O w w1):=(Bts.of_below (O:=O) HW.out).trans hbt1 (Gr.refl _ _);have r0:w1.cell? ⟨w.heap.size,0,none⟩=some (.int .i64 5):=(hbt1.cell hws HTOP.out _).trans l0;have r1:w1.cell? ⟨w.heap.size,1,none⟩=some (.string a):=(hbt1.cell hws HTOP.out _).trans l1;have r2:w1.cell? ⟨w.heap.size,2,none⟩=some (.string t):=(hbt1.cell hws HTOP.out _).trans l2;have r3:w1.cell? ⟨w.heap.size,3,none⟩=some (.slice ea es.length ecap):=(hbt1.cell hws HTOP.out _).trans l3;have r4:w1.cell? ⟨w.heap.size,4,none⟩=some (.slice a2 bd.length cap2):=(hbt1.cell hws HTOP.out _).trans l4;have r5:w1.cell? ⟨w.heap.size,5,none⟩=some (.slice a3 el.length cap3):=(hbt1.cell hws HTOP.out _).trans l5;have HC:=hid (Vz HSS.out c O w1 s2 j a t es bd el _ hM1.less (HXX.out.below (HBT1.out.below HLO.out.2 HLO.out.1)) HOK.out.1 HOK.out.2)
 clear hbt1 hM1 HBC l0 l1 l2 l3 l4 l5;go_wp2_with fail
 refine Calls.mono HC.out ?_;intro e w2 hd;have HF:=hid (Ak.chain HBT1.out (Gr.refl _ _) (Ak.same hd HR1.out));rcases hd.cases with⟨s9,er,h9,rfl⟩ | ⟨s9,b9,O9,h9,rfl,hG9,hMc9⟩
 . clear hd h9 HC;go_wp2_with fail
   exact⟨rfl,HF.out⟩
 clear hd h9 hG9 hMc9 HC;go_wp2_with fail
 go_ret
 exact HF.out
theorem Af4 {m:Nat} (hS:DoC m) (c:Cx) (O:Own) (w:World) (s:Ms) (j:Nat) (a t:ByteArray) (es:List Ex) (bd el:List Sm) (cs:List Value) (hM:Mc c O w s j) (hx:SmA c.B w (m+1) cs (.mk 6 a t es bd el)) (hok:okS (m+1) (.mk 6 a t es bd el)) (hfe:C6 (m+1) (.mk 6 a t es bd el)) :
 Calls prog 109 #[.pointer (some ⟨c.r,0,none⟩),.agg cs.toArray] w (Ak c O w j (Ag c.F (m+1) s (.mk 6 a t es bd el)) Value.bool):=by
 have HXX:=hid hx;obtain⟨v1,v2,v3,rfl,wk,wa,wt,⟨ea,ecap,rfl,-,-⟩,⟨a2,cap2,rfl,-,-⟩,⟨a3,cap3,rfl,-,-⟩⟩:=hx;obtain⟨R,hR⟩:∃R,R=Ag c.F (m+1) s (.mk 6 a t es bd el):=⟨_,rfl⟩;rw [<-hR];have HR0:Hid (R=Az s fun s2=>Dd (fun s=>Ai s m (es.getD 0 default)) (A0 (Ag c.F m) bd) (s2.left+1) s2):=by rw [hR];simp [Ag,Hid]
 clear hR;show Calls prog 109 #[.pointer (some ⟨c.r,0,none⟩),.agg #[.int .i64 6,.string a,.string t,.slice ea es.length ecap,.slice a2 bd.length cap2,.slice a3 el.length cap3]] w _;have HOK:Hid (okS (m+1) (.mk 6 a t es bd el)/\C6 (m+1) (.mk 6 a t es bd el)):=⟨hok,hfe⟩;have HSS:=hid hS;have hrw:c.r<w.heap.size:=hM.lt;have hrn:¬c.r=w.heap.size:=by omega
 have HLO:Hid ((∀b,b<c.B->O b=none)/\c.B<=w.heap.size):=⟨hM.low,hM.lo.size⟩;have HTOP:Hid (O w.heap.size=none):=hM.top _ lr0;obtain⟨W,hW⟩:∃W,W=w.alloc (.cells #[.int .i64 6,.string a,.string t,.slice ea es.length ecap,.slice a2 bd.length cap2,.slice a3 el.length cap3] 54):=⟨_,rfl⟩;have HW:Hid (Below w.heap.size w W):=by rw [hW];exact br0.alloc lr0 _
 have HM:Hid (Mc c O W s j):=hM.below HW.out;have HWW:Hid (W=_):=hW;have hws:w.heap.size<W.heap.size:=by rw [hW];simp
 have l0:W.cell? ⟨w.heap.size,0,none⟩=some (.int .i64 6):=by rw [hW];simp [go_sem]
 have l1:W.cell? ⟨w.heap.size,1,none⟩=some (.string a):=by rw [hW];simp [go_sem]
 have l2:W.cell? ⟨w.heap.size,2,none⟩=some (.string t):=by rw [hW];simp [go_sem]
 have l3:W.cell? ⟨w.heap.size,3,none⟩=some (.slice ea es.length ecap):=by rw [hW];simp [go_sem]
 have l4:W.cell? ⟨w.heap.size,4,none⟩=some (.slice a2 bd.length cap2):=by rw [hW];simp [go_sem]
 have l5:W.cell? ⟨w.heap.size,5,none⟩=some (.slice a3 el.length cap3):=by rw [hW];simp [go_sem]
 clear hM hW hok hfe hS wk wa wt
 by_cases h0:s.left=0
 . have HR1:Hid (R = .stop s 1):=by unfold Hid;rw [HR0.out];unfold Az;rw [if_pos h0]
   have HBN:=hid (C0 c O W s j HM.out h0);clear h0;go_enter func109,ntmps109
   go_wp2_with fail
   rw [<-HWW.out];clear HWW;refine Calls.mono HBN.out ?_;rintro e w1 ⟨rfl,hb1⟩;have HB1:Hid (Below w.heap.size w w1):=Aa HW.out hb1;have HOU:Hid (Ou c O w1 s.out s.left):=(HM.out.below hb1).ou;clear hb1 HBN;go_wp2_with fail
   exact⟨rfl,Ak.stop (Bts.of_below HB1.out) HR1.out (Gr.refl _ _) HOU.out⟩
 obtain⟨s2,hs2⟩:∃s2:Ms,s2 = { s with left:=s.left - 1 }:=⟨_,rfl⟩;have HR1:Hid (R=Dd (fun s=>Ai s m (es.getD 0 default)) (A0 (Ag c.F m) bd) (s2.left+1) s2):=by unfold Hid;rw [HR0.out];unfold Az;rw [if_neg h0,hs2]
 have HBC:=hid (D5 c O W s j HM.out h0);rw [<-hs2] at HBC;clear h0 hs2 HR0;go_enter func109,ntmps109
 go_wp2_with fail
 rw [<-HWW.out];clear HWW;refine Calls.mono HBC.out ?_;rintro e w1 ⟨rfl,hbt1,hM1⟩;have HBT1:Hid (Bts O w w1):=(Bts.of_below (O:=O) HW.out).trans hbt1 (Gr.refl _ _);have r0:w1.cell? ⟨w.heap.size,0,none⟩=some (.int .i64 6):=(hbt1.cell hws HTOP.out _).trans l0;have r1:w1.cell? ⟨w.heap.size,1,none⟩=some (.string a):=(hbt1.cell hws HTOP.out _).trans l1;have r2:w1.cell? ⟨w.heap.size,2,none⟩=some (.string t):=(hbt1.cell hws HTOP.out _).trans l2;have r3:w1.cell? ⟨w.heap.size,3,none⟩=some (.slice ea es.length ecap):=(hbt1.cell hws HTOP.out _).trans l3;have r4:w1.cell? ⟨w.heap.size,4,none⟩=some (.slice a2 bd.length cap2):=(hbt1.cell hws HTOP.out _).trans l4;have r5:w1.cell? ⟨w.heap.size,5,none⟩=some (.slice a3 el.length cap3):=(hbt1.cell hws HTOP.out _).trans l5;have HC:=hid (Aaa HSS.out c O w1 s2 j a t es bd el _ hM1.less (HXX.out.below (HBT1.out.below HLO.out.2 HLO.out.1)) HOK.out.1 HOK.out.2)
 clear hbt1 hM1 HBC l0 l1 l2 l3 l4 l5;go_wp2_with fail
 refine Calls.mono HC.out ?_;intro e w2 hd;have HF:=hid (Ak.chain HBT1.out (Gr.refl _ _) (Ak.same hd HR1.out));rcases hd.cases with⟨s9,er,h9,rfl⟩ | ⟨s9,b9,O9,h9,rfl,hG9,hMc9⟩
 . clear hd h9 HC;go_wp2_with fail
   exact⟨rfl,HF.out⟩
 clear hd h9 hG9 hMc9 HC;go_wp2_with fail
 go_ret
 exact HF.out
theorem Af5 {m:Nat} (hS:DoC m) (c:Cx) (O:Own) (w:World) (s:Ms) (j:Nat) (a t:ByteArray) (es:List Ex) (bd el:List Sm) (cs:List Value) (hM:Mc c O w s j) (hx:SmA c.B w (m+1) cs (.mk 7 a t es bd el)) (hok:okS (m+1) (.mk 7 a t es bd el)) (hfe:C6 (m+1) (.mk 7 a t es bd el)) :
 Calls prog 109 #[.pointer (some ⟨c.r,0,none⟩),.agg cs.toArray] w (Ak c O w j (Ag c.F (m+1) s (.mk 7 a t es bd el)) Value.bool):=by
 have HXX:=hid hx;obtain⟨v1,v2,v3,rfl,wk,wa,wt,⟨ea,ecap,rfl,-,-⟩,⟨a2,cap2,rfl,-,-⟩,⟨a3,cap3,rfl,-,-⟩⟩:=hx;obtain⟨R,hR⟩:∃R,R=Ag c.F (m+1) s (.mk 7 a t es bd el):=⟨_,rfl⟩;rw [<-hR];have HR0:Hid (R=Az s fun s2=>A0 (fun s key=>Az s fun s=>A0 (Ag c.F m) bd (Dz s a (vS ⟨key.toArray⟩))) ((s2.lists t).map (·.1)) s2):=by rw [hR];simp [Ag,Hid]
 clear hR;show Calls prog 109 #[.pointer (some ⟨c.r,0,none⟩),.agg #[.int .i64 7,.string a,.string t,.slice ea es.length ecap,.slice a2 bd.length cap2,.slice a3 el.length cap3]] w _;have HOK:Hid (okS (m+1) (.mk 7 a t es bd el)/\C6 (m+1) (.mk 7 a t es bd el)):=⟨hok,hfe⟩;have HSS:=hid hS;have hrw:c.r<w.heap.size:=hM.lt;have hrn:¬c.r=w.heap.size:=by omega
 have HLO:Hid ((∀b,b<c.B->O b=none)/\c.B<=w.heap.size):=⟨hM.low,hM.lo.size⟩;have HTOP:Hid (O w.heap.size=none):=hM.top _ lr0;obtain⟨W,hW⟩:∃W,W=w.alloc (.cells #[.int .i64 7,.string a,.string t,.slice ea es.length ecap,.slice a2 bd.length cap2,.slice a3 el.length cap3] 54):=⟨_,rfl⟩;have HW:Hid (Below w.heap.size w W):=by rw [hW];exact br0.alloc lr0 _
 have HM:Hid (Mc c O W s j):=hM.below HW.out;have HWW:Hid (W=_):=hW;have hws:w.heap.size<W.heap.size:=by rw [hW];simp
 have l0:W.cell? ⟨w.heap.size,0,none⟩=some (.int .i64 7):=by rw [hW];simp [go_sem]
 have l1:W.cell? ⟨w.heap.size,1,none⟩=some (.string a):=by rw [hW];simp [go_sem]
 have l2:W.cell? ⟨w.heap.size,2,none⟩=some (.string t):=by rw [hW];simp [go_sem]
 have l3:W.cell? ⟨w.heap.size,3,none⟩=some (.slice ea es.length ecap):=by rw [hW];simp [go_sem]
 have l4:W.cell? ⟨w.heap.size,4,none⟩=some (.slice a2 bd.length cap2):=by rw [hW];simp [go_sem]
 have l5:W.cell? ⟨w.heap.size,5,none⟩=some (.slice a3 el.length cap3):=by rw [hW];simp [go_sem]
 clear hM hW hok hfe hS wk wa wt
 by_cases h0:s.left=0
 . have HR1:Hid (R = .stop s 1):=by unfold Hid;rw [HR0.out];unfold Az;rw [if_pos h0]
   have HBN:=hid (C0 c O W s j HM.out h0);clear h0;go_enter func109,ntmps109
   go_wp2_with fail
   rw [<-HWW.out];clear HWW;refine Calls.mono HBN.out ?_;rintro e w1 ⟨rfl,hb1⟩;have HB1:Hid (Below w.heap.size w w1):=Aa HW.out hb1;have HOU:Hid (Ou c O w1 s.out s.left):=(HM.out.below hb1).ou;clear hb1 HBN;go_wp2_with fail
   exact⟨rfl,Ak.stop (Bts.of_below HB1.out) HR1.out (Gr.refl _ _) HOU.out⟩
 obtain⟨s2,hs2⟩:∃s2:Ms,s2 = { s with left:=s.left - 1 }:=⟨_,rfl⟩;have HR1:Hid (R=A0 (fun s key=>Az s fun s=>A0 (Ag c.F m) bd (Dz s a (vS ⟨key.toArray⟩))) ((s2.lists t).map (·.1)) s2):=by unfold Hid;rw [HR0.out];unfold Az;rw [if_neg h0,hs2]
 have HBC:=hid (D5 c O W s j HM.out h0);rw [<-hs2] at HBC;clear h0 hs2 HR0;go_enter func109,ntmps109
 go_wp2_with fail
 rw [<-HWW.out];clear HWW;refine Calls.mono HBC.out ?_;rintro e w1 ⟨rfl,hbt1,hM1⟩;have HBT1:Hid (Bts O w w1):=(Bts.of_below (O:=O) HW.out).trans hbt1 (Gr.refl _ _);have r0:w1.cell? ⟨w.heap.size,0,none⟩=some (.int .i64 7):=(hbt1.cell hws HTOP.out _).trans l0;have r1:w1.cell? ⟨w.heap.size,1,none⟩=some (.string a):=(hbt1.cell hws HTOP.out _).trans l1;have r2:w1.cell? ⟨w.heap.size,2,none⟩=some (.string t):=(hbt1.cell hws HTOP.out _).trans l2;have r3:w1.cell? ⟨w.heap.size,3,none⟩=some (.slice ea es.length ecap):=(hbt1.cell hws HTOP.out _).trans l3;have r4:w1.cell? ⟨w.heap.size,4,none⟩=some (.slice a2 bd.length cap2):=(hbt1.cell hws HTOP.out _).trans l4;have r5:w1.cell? ⟨w.heap.size,5,none⟩=some (.slice a3 el.length cap3):=(hbt1.cell hws HTOP.out _).trans l5;have HC:=hid (Aa4 HSS.out c O w1 s2 j a t es bd el _ hM1.less (HXX.out.below (HBT1.out.below HLO.out.2 HLO.out.1)) HOK.out.1 HOK.out.2)
 clear hbt1 hM1 HBC l0 l1 l2 l3 l4 l5;go_wp2_with fail
 refine Calls.mono HC.out ?_;intro e w2 hd;have HF:=hid (Ak.chain HBT1.out (Gr.refl _ _) (Ak.same hd HR1.out));rcases hd.cases with⟨s9,er,h9,rfl⟩ | ⟨s9,b9,O9,h9,rfl,hG9,hMc9⟩
 . clear hd h9 HC;go_wp2_with fail
   exact⟨rfl,HF.out⟩
 clear hd h9 hG9 hMc9 HC;go_wp2_with fail
 go_ret
 exact HF.out
theorem Af6 {m:Nat} (hS:DoC m) (c:Cx) (O:Own) (w:World) (s:Ms) (j:Nat) (a t:ByteArray) (es:List Ex) (bd el:List Sm) (cs:List Value) (hM:Mc c O w s j) (hx:SmA c.B w (m+1) cs (.mk 8 a t es bd el)) (hok:okS (m+1) (.mk 8 a t es bd el)) (hfe:C6 (m+1) (.mk 8 a t es bd el)) :
 Calls prog 109 #[.pointer (some ⟨c.r,0,none⟩),.agg cs.toArray] w (Ak c O w j (Ag c.F (m+1) s (.mk 8 a t es bd el)) Value.bool):=by
 have HXX:=hid hx;obtain⟨v1,v2,v3,rfl,wk,wa,wt,⟨ea,ecap,rfl,-,-⟩,⟨a2,cap2,rfl,-,-⟩,⟨a3,cap3,rfl,-,-⟩⟩:=hx;obtain⟨R,hR⟩:∃R,R=Ag c.F (m+1) s (.mk 8 a t es bd el):=⟨_,rfl⟩;rw [<-hR];have HR0:Hid (R=Az s fun s2=> .go s2 false):=by rw [hR];simp [Ag,Hid]
 clear hR;show Calls prog 109 #[.pointer (some ⟨c.r,0,none⟩),.agg #[.int .i64 8,.string a,.string t,.slice ea es.length ecap,.slice a2 bd.length cap2,.slice a3 el.length cap3]] w _;have HOK:Hid (okS (m+1) (.mk 8 a t es bd el)/\C6 (m+1) (.mk 8 a t es bd el)):=⟨hok,hfe⟩;have HSS:=hid hS;have hrw:c.r<w.heap.size:=hM.lt;have hrn:¬c.r=w.heap.size:=by omega
 have HLO:Hid ((∀b,b<c.B->O b=none)/\c.B<=w.heap.size):=⟨hM.low,hM.lo.size⟩;have HTOP:Hid (O w.heap.size=none):=hM.top _ lr0;obtain⟨W,hW⟩:∃W,W=w.alloc (.cells #[.int .i64 8,.string a,.string t,.slice ea es.length ecap,.slice a2 bd.length cap2,.slice a3 el.length cap3] 54):=⟨_,rfl⟩;have HW:Hid (Below w.heap.size w W):=by rw [hW];exact br0.alloc lr0 _
 have HM:Hid (Mc c O W s j):=hM.below HW.out;have HWW:Hid (W=_):=hW;have hws:w.heap.size<W.heap.size:=by rw [hW];simp
 have l0:W.cell? ⟨w.heap.size,0,none⟩=some (.int .i64 8):=by rw [hW];simp [go_sem]
 have l1:W.cell? ⟨w.heap.size,1,none⟩=some (.string a):=by rw [hW];simp [go_sem]
 have l2:W.cell? ⟨w.heap.size,2,none⟩=some (.string t):=by rw [hW];simp [go_sem]
 have l3:W.cell? ⟨w.heap.size,3,none⟩=some (.slice ea es.length ecap):=by rw [hW];simp [go_sem]
 have l4:W.cell? ⟨w.heap.size,4,none⟩=some (.slice a2 bd.length cap2):=by rw [hW];simp [go_sem]
 have l5:W.cell? ⟨w.heap.size,5,none⟩=some (.slice a3 el.length cap3):=by rw [hW];simp [go_sem]
 clear hM hW hok hfe hS wk wa wt
 by_cases h0:s.left=0
 . have HR1:Hid (R = .stop s 1):=by unfold Hid;rw [HR0.out];unfold Az;rw [if_pos h0]
   have HBN:=hid (C0 c O W s j HM.out h0);clear h0;go_enter func109,ntmps109
   go_wp2_with fail
   rw [<-HWW.out];clear HWW;refine Calls.mono HBN.out ?_;rintro e w1 ⟨rfl,hb1⟩;have HB1:Hid (Below w.heap.size w w1):=Aa HW.out hb1;have HOU:Hid (Ou c O w1 s.out s.left):=(HM.out.below hb1).ou;clear hb1 HBN;go_wp2_with fail
   exact⟨rfl,Ak.stop (Bts.of_below HB1.out) HR1.out (Gr.refl _ _) HOU.out⟩
 obtain⟨s2,hs2⟩:∃s2:Ms,s2 = { s with left:=s.left - 1 }:=⟨_,rfl⟩;have HR1:Hid (R = .go s2 false):=by unfold Hid;rw [HR0.out];unfold Az;rw [if_neg h0,hs2]
 have HBC:=hid (D5 c O W s j HM.out h0);rw [<-hs2] at HBC;clear h0 hs2 HR0;go_enter func109,ntmps109
 go_wp2_with fail
 rw [<-HWW.out];clear HWW;refine Calls.mono HBC.out ?_;rintro e w1 ⟨rfl,hbt1,hM1⟩;have HBT1:Hid (Bts O w w1):=(Bts.of_below (O:=O) HW.out).trans hbt1 (Gr.refl _ _);have r0:w1.cell? ⟨w.heap.size,0,none⟩=some (.int .i64 8):=(hbt1.cell hws HTOP.out _).trans l0;have r1:w1.cell? ⟨w.heap.size,1,none⟩=some (.string a):=(hbt1.cell hws HTOP.out _).trans l1;have r2:w1.cell? ⟨w.heap.size,2,none⟩=some (.string t):=(hbt1.cell hws HTOP.out _).trans l2;have r3:w1.cell? ⟨w.heap.size,3,none⟩=some (.slice ea es.length ecap):=(hbt1.cell hws HTOP.out _).trans l3;have r4:w1.cell? ⟨w.heap.size,4,none⟩=some (.slice a2 bd.length cap2):=(hbt1.cell hws HTOP.out _).trans l4;have r5:w1.cell? ⟨w.heap.size,5,none⟩=some (.slice a3 el.length cap3):=(hbt1.cell hws HTOP.out _).trans l5;have HM1:=hid hM1.less;clear hbt1 hM1 HBC l0 l1 l2 l3 l4 l5;go_wp2_with fail
 go_ret
 exact Ak.go (K:=Value.bool) HBT1.out HR1.out (Gr.refl _ _) HM1.out
theorem Af7 {m:Nat} (hS:DoC m) (c:Cx) (O:Own) (w:World) (s:Ms) (j:Nat) (a t:ByteArray) (es:List Ex) (bd el:List Sm) (cs:List Value) (hM:Mc c O w s j) (hx:SmA c.B w (m+1) cs (.mk 9 a t es bd el)) (hok:okS (m+1) (.mk 9 a t es bd el)) (hfe:C6 (m+1) (.mk 9 a t es bd el)) :
 Calls prog 109 #[.pointer (some ⟨c.r,0,none⟩),.agg cs.toArray] w (Ak c O w j (Ag c.F (m+1) s (.mk 9 a t es bd el)) Value.bool):=by
 have HXX:=hid hx;obtain⟨v1,v2,v3,rfl,wk,wa,wt,⟨ea,ecap,rfl,-,-⟩,⟨a2,cap2,rfl,-,-⟩,⟨a3,cap3,rfl,-,-⟩⟩:=hx;obtain⟨R,hR⟩:∃R,R=Ag c.F (m+1) s (.mk 9 a t es bd el):=⟨_,rfl⟩;rw [<-hR];have HR0:Hid (R=Az s fun s2=>A2 c.F m s2 (.mk 9 a t es bd el)):=by rw [hR];simp [Ag,Hid]
 clear hR;show Calls prog 109 #[.pointer (some ⟨c.r,0,none⟩),.agg #[.int .i64 9,.string a,.string t,.slice ea es.length ecap,.slice a2 bd.length cap2,.slice a3 el.length cap3]] w _;have HOK:Hid (okS (m+1) (.mk 9 a t es bd el)/\C6 (m+1) (.mk 9 a t es bd el)):=⟨hok,hfe⟩;have HSS:=hid hS;have hrw:c.r<w.heap.size:=hM.lt;have hrn:¬c.r=w.heap.size:=by omega
 have HLO:Hid ((∀b,b<c.B->O b=none)/\c.B<=w.heap.size):=⟨hM.low,hM.lo.size⟩;have HTOP:Hid (O w.heap.size=none):=hM.top _ lr0;obtain⟨W,hW⟩:∃W,W=w.alloc (.cells #[.int .i64 9,.string a,.string t,.slice ea es.length ecap,.slice a2 bd.length cap2,.slice a3 el.length cap3] 54):=⟨_,rfl⟩;have HW:Hid (Below w.heap.size w W):=by rw [hW];exact br0.alloc lr0 _
 have HM:Hid (Mc c O W s j):=hM.below HW.out;have HWW:Hid (W=_):=hW;have hws:w.heap.size<W.heap.size:=by rw [hW];simp
 have l0:W.cell? ⟨w.heap.size,0,none⟩=some (.int .i64 9):=by rw [hW];simp [go_sem]
 have l1:W.cell? ⟨w.heap.size,1,none⟩=some (.string a):=by rw [hW];simp [go_sem]
 have l2:W.cell? ⟨w.heap.size,2,none⟩=some (.string t):=by rw [hW];simp [go_sem]
 have l3:W.cell? ⟨w.heap.size,3,none⟩=some (.slice ea es.length ecap):=by rw [hW];simp [go_sem]
 have l4:W.cell? ⟨w.heap.size,4,none⟩=some (.slice a2 bd.length cap2):=by rw [hW];simp [go_sem]
 have l5:W.cell? ⟨w.heap.size,5,none⟩=some (.slice a3 el.length cap3):=by rw [hW];simp [go_sem]
 clear hM hW hok hfe hS wk wa wt
 by_cases h0:s.left=0
 . have HR1:Hid (R = .stop s 1):=by unfold Hid;rw [HR0.out];unfold Az;rw [if_pos h0]
   have HBN:=hid (C0 c O W s j HM.out h0);clear h0;go_enter func109,ntmps109
   go_wp2_with fail
   rw [<-HWW.out];clear HWW;refine Calls.mono HBN.out ?_;rintro e w1 ⟨rfl,hb1⟩;have HB1:Hid (Below w.heap.size w w1):=Aa HW.out hb1;have HOU:Hid (Ou c O w1 s.out s.left):=(HM.out.below hb1).ou;clear hb1 HBN;go_wp2_with fail
   exact⟨rfl,Ak.stop (Bts.of_below HB1.out) HR1.out (Gr.refl _ _) HOU.out⟩
 obtain⟨s2,hs2⟩:∃s2:Ms,s2 = { s with left:=s.left - 1 }:=⟨_,rfl⟩;have HR1:Hid (R=A2 c.F m s2 (.mk 9 a t es bd el)):=by unfold Hid;rw [HR0.out];unfold Az;rw [if_neg h0,hs2]
 have HBC:=hid (D5 c O W s j HM.out h0);rw [<-hs2] at HBC;clear h0 hs2 HR0;go_enter func109,ntmps109
 go_wp2_with fail
 rw [<-HWW.out];clear HWW;refine Calls.mono HBC.out ?_;rintro e w1 ⟨rfl,hbt1,hM1⟩;have HBT1:Hid (Bts O w w1):=(Bts.of_below (O:=O) HW.out).trans hbt1 (Gr.refl _ _);have r0:w1.cell? ⟨w.heap.size,0,none⟩=some (.int .i64 9):=(hbt1.cell hws HTOP.out _).trans l0;have r1:w1.cell? ⟨w.heap.size,1,none⟩=some (.string a):=(hbt1.cell hws HTOP.out _).trans l1;have r2:w1.cell? ⟨w.heap.size,2,none⟩=some (.string t):=(hbt1.cell hws HTOP.out _).trans l2;have r3:w1.cell? ⟨w.heap.size,3,none⟩=some (.slice ea es.length ecap):=(hbt1.cell hws HTOP.out _).trans l3;have r4:w1.cell? ⟨w.heap.size,4,none⟩=some (.slice a2 bd.length cap2):=(hbt1.cell hws HTOP.out _).trans l4;have r5:w1.cell? ⟨w.heap.size,5,none⟩=some (.slice a3 el.length cap3):=(hbt1.cell hws HTOP.out _).trans l5;have HC:=hid (Acb m c O w1 s2 j a t es bd el _ hM1 (HXX.out.below (HBT1.out.below HLO.out.2 HLO.out.1)) HOK.out.1)
 clear hbt1 hM1 HBC l0 l1 l2 l3 l4 l5;go_wp2_with fail
 refine Calls.mono HC.out ?_;intro e w2 hd;have hd2:=Ak.chain HBT1.out (Gr.refl _ _) (Ak.same hd HR1.out);rcases hd2.cases with⟨s9,er,h9,rfl⟩ | ⟨s9,b9,O9,h9,rfl,hG9,hMc9⟩
 . have HF:Hid (Ak c O w j R Value.bool (.panicked [Fb er]) w2):=by
    obtain⟨f1,f2⟩:=hd2;rw [h9] at f2 ⊢;exact⟨f1,f2⟩
   clear hd hd2 h9 HC;go_wp2_with fail
   exact⟨rfl,HF.out⟩
 obtain rfl:b9=true:=Dh (HR1.out.symm.trans h9);have HF:Hid (Ak c O w j R Value.bool (.returned (.bool true)) w2):=Ak.go (K:=Value.bool) hd2.1 h9 hG9 hMc9;clear hd hd2 h9 hG9 hMc9 HC;go_wp2_with fail
 go_ret
 exact HF.out
theorem Acv {m:Nat} (hS:DoC m) (c:Cx) (O:Own) (w:World) (s:Ms) (j:Nat) (a t:ByteArray) (es:List Ex) (bd el:List Sm) (cs:List Value) (hM:Mc c O w s j) (hx:SmA c.B w (m+1) cs (.mk 10 a t es bd el)) (hok:okS (m+1) (.mk 10 a t es bd el)) (hfe:C6 (m+1) (.mk 10 a t es bd el)) :
 Calls prog 109 #[.pointer (some ⟨c.r,0,none⟩),.agg cs.toArray] w (Ak c O w j (Ag c.F (m+1) s (.mk 10 a t es bd el)) Value.bool):=by
 have HXX:=hid hx;obtain⟨v1,v2,v3,rfl,wk,wa,wt,⟨ea,ecap,rfl,-,-⟩,⟨a2,cap2,rfl,-,-⟩,⟨a3,cap3,rfl,-,-⟩⟩:=hx;obtain⟨R,hR⟩:∃R,R=Ag c.F (m+1) s (.mk 10 a t es bd el):=⟨_,rfl⟩;rw [<-hR];have HR0:Hid (R=Az s fun s2=>A2 c.F m s2 (.mk 10 a t es bd el)):=by rw [hR];simp [Ag,Hid]
 clear hR;show Calls prog 109 #[.pointer (some ⟨c.r,0,none⟩),.agg #[.int .i64 10,.string a,.string t,.slice ea es.length ecap,.slice a2 bd.length cap2,.slice a3 el.length cap3]] w _;have HOK:Hid (okS (m+1) (.mk 10 a t es bd el)/\C6 (m+1) (.mk 10 a t es bd el)):=⟨hok,hfe⟩;have HSS:=hid hS;have hrw:c.r<w.heap.size:=hM.lt;have hrn:¬c.r=w.heap.size:=by omega
 have HLO:Hid ((∀b,b<c.B->O b=none)/\c.B<=w.heap.size):=⟨hM.low,hM.lo.size⟩;have HTOP:Hid (O w.heap.size=none):=hM.top _ lr0;obtain⟨W,hW⟩:∃W,W=w.alloc (.cells #[.int .i64 10,.string a,.string t,.slice ea es.length ecap,.slice a2 bd.length cap2,.slice a3 el.length cap3] 54):=⟨_,rfl⟩;have HW:Hid (Below w.heap.size w W):=by rw [hW];exact br0.alloc lr0 _
 have HM:Hid (Mc c O W s j):=hM.below HW.out;have HWW:Hid (W=_):=hW;have hws:w.heap.size<W.heap.size:=by rw [hW];simp
 have l0:W.cell? ⟨w.heap.size,0,none⟩=some (.int .i64 10):=by rw [hW];simp [go_sem]
 have l1:W.cell? ⟨w.heap.size,1,none⟩=some (.string a):=by rw [hW];simp [go_sem]
 have l2:W.cell? ⟨w.heap.size,2,none⟩=some (.string t):=by rw [hW];simp [go_sem]
 have l3:W.cell? ⟨w.heap.size,3,none⟩=some (.slice ea es.length ecap):=by rw [hW];simp [go_sem]
 have l4:W.cell? ⟨w.heap.size,4,none⟩=some (.slice a2 bd.length cap2):=by rw [hW];simp [go_sem]
 have l5:W.cell? ⟨w.heap.size,5,none⟩=some (.slice a3 el.length cap3):=by rw [hW];simp [go_sem]
 clear hM hW hok hfe hS wk wa wt
 by_cases h0:s.left=0
 . have HR1:Hid (R = .stop s 1):=by unfold Hid;rw [HR0.out];unfold Az;rw [if_pos h0]
   have HBN:=hid (C0 c O W s j HM.out h0);clear h0;go_enter func109,ntmps109
   go_wp2_with fail
   rw [<-HWW.out];clear HWW;refine Calls.mono HBN.out ?_;rintro e w1 ⟨rfl,hb1⟩;have HB1:Hid (Below w.heap.size w w1):=Aa HW.out hb1;have HOU:Hid (Ou c O w1 s.out s.left):=(HM.out.below hb1).ou;clear hb1 HBN;go_wp2_with fail
   exact⟨rfl,Ak.stop (Bts.of_below HB1.out) HR1.out (Gr.refl _ _) HOU.out⟩
 obtain⟨s2,hs2⟩:∃s2:Ms,s2 = { s with left:=s.left - 1 }:=⟨_,rfl⟩;have HR1:Hid (R=A2 c.F m s2 (.mk 10 a t es bd el)):=by unfold Hid;rw [HR0.out];unfold Az;rw [if_neg h0,hs2]
 have HBC:=hid (D5 c O W s j HM.out h0);rw [<-hs2] at HBC;clear h0 hs2 HR0;go_enter func109,ntmps109
 go_wp2_with fail
 rw [<-HWW.out];clear HWW;refine Calls.mono HBC.out ?_;rintro e w1 ⟨rfl,hbt1,hM1⟩;have HBT1:Hid (Bts O w w1):=(Bts.of_below (O:=O) HW.out).trans hbt1 (Gr.refl _ _);have r0:w1.cell? ⟨w.heap.size,0,none⟩=some (.int .i64 10):=(hbt1.cell hws HTOP.out _).trans l0;have r1:w1.cell? ⟨w.heap.size,1,none⟩=some (.string a):=(hbt1.cell hws HTOP.out _).trans l1;have r2:w1.cell? ⟨w.heap.size,2,none⟩=some (.string t):=(hbt1.cell hws HTOP.out _).trans l2;have r3:w1.cell? ⟨w.heap.size,3,none⟩=some (.slice ea es.length ecap):=(hbt1.cell hws HTOP.out _).trans l3;have r4:w1.cell? ⟨w.heap.size,4,none⟩=some (.slice a2 bd.length cap2):=(hbt1.cell hws HTOP.out _).trans l4;have r5:w1.cell? ⟨w.heap.size,5,none⟩=some (.slice a3 el.length cap3):=(hbt1.cell hws HTOP.out _).trans l5;have HC:=hid (Y9 m c O w1 s2 j a t es bd el _ hM1 (HXX.out.below (HBT1.out.below HLO.out.2 HLO.out.1)) HOK.out.1)
 clear hbt1 hM1 HBC l0 l1 l2 l3 l4 l5;go_wp2_with fail
 refine Calls.mono HC.out ?_;intro e w2 hd;have hd2:=Ak.chain HBT1.out (Gr.refl _ _) (Ak.same hd HR1.out);rcases hd2.cases with⟨s9,er,h9,rfl⟩ | ⟨s9,b9,O9,h9,rfl,hG9,hMc9⟩
 . have HF:Hid (Ak c O w j R Value.bool (.panicked [Fb er]) w2):=by
    obtain⟨f1,f2⟩:=hd2;rw [h9] at f2 ⊢;exact⟨f1,f2⟩
   clear hd hd2 h9 HC;go_wp2_with fail
   exact⟨rfl,HF.out⟩
 obtain rfl:b9=true:=Dh (HR1.out.symm.trans h9);have HF:Hid (Ak c O w j R Value.bool (.returned (.bool true)) w2):=Ak.go (K:=Value.bool) hd2.1 h9 hG9 hMc9;clear hd hd2 h9 hG9 hMc9 HC;go_wp2_with fail
 go_ret
 exact HF.out
theorem Agy:∀m,DoC m
 | 0=>fun c O w s j x cs hM hx=>by cases x;exact absurd hx (by unfold SmA;exact id)
 | m+1=>fun c O w s j x cs hM hx hok hfe=>by
  obtain⟨k,a,t,es,bd,el⟩:=x;have h1:=hok.1;have h2:=hok.2.1;have hk:k=1\/k=2\/k=3\/k=4\/k=5\/k=6\/k=7\/k=8\/k=9\/k=10:=by omega
  have ih:=Agy m;rcases hk with rfl | rfl | rfl | rfl | rfl | rfl | rfl | rfl | rfl | rfl
  . exact Afz ih c O w s j a t es bd el cs hM hx hok hfe
  . exact Af0 ih c O w s j a t es bd el cs hM hx hok hfe
  . exact Af1 ih c O w s j a t es bd el cs hM hx hok hfe
  . exact Af2 ih c O w s j a t es bd el cs hM hx hok hfe
  . exact Af3 ih c O w s j a t es bd el cs hM hx hok hfe
  . exact Af4 ih c O w s j a t es bd el cs hM hx hok hfe
  . exact Af5 ih c O w s j a t es bd el cs hM hx hok hfe
  . exact Af6 ih c O w s j a t es bd el cs hM hx hok hfe
  . exact Af7 ih c O w s j a t es bd el cs hM hx hok hfe
  . exact Acv ih c O w s j a t es bd el cs hM hx hok hfe
end Go.Proofs.YtppcohadoilpgaaGreatDoor
