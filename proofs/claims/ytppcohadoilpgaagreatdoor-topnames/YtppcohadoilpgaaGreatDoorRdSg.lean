/-
  Contract of the reader's signed; what enter handed back, called at the end. / Contract of the reader's whole.
-/
import Derived.Test.YtppcohadoilpgaaGreatDoorRdMem
import Derived.Defers
import Derived.Test.YtppcohadoilpgaaGreatDoorRdOp
import Derived.Deep.RegionWith
namespace Go.Proofs.YtppcohadoilpgaaGreatDoor
open Go.ChangeShapes Go.WideShapes Go.ChangeAt Go.RowKit Go.Joins Go.Maps Go.Proofs.Tryz
set_option maxHeartbeats 8000000
set_option linter.unusedVariables false
theorem Iz (r g:Nat) (o:Int) (ps:List Pc) (u:FrameMode) (w:World) (h:Rdr r w (o+1) ps) (ho:0<=o) (hg:Lv r g w) :
 CallsD prog 91 #[.pointer (some ⟨g,0,none⟩)] u w fun e u' w'=>u'=u/\(e = .returned (.tuple #[])/\w'=w.setCell ⟨r,1,none⟩ (.int .i64 o)):=by
 have c1:=h.c1;have f1:=h.f1;have hi:=h.hi;have q0:=hg.2.cell 0;simp only [List.getElem?_toArray,List.getElem?_cons_zero] at q0;have i1:o+1 - 1=o:=by omega
 have i2: -9223372036854775808<=o:=by omega
 have i3:o<=9223372036854775807:=by omega
 clear h hg
 go_enter_d func91,ntmps91
 go_wp2_with fail
 go_end0
 exact⟨rfl,by simp⟩
theorem Ff (r g:Nat) (o:Int) (u:FrameMode) (w:World) (h:Opn r w (o+1)) (ho:0<=o) (hg:Lv r g w) :
 CallsD prog 91 #[.pointer (some ⟨g,0,none⟩)] u w fun e u' w'=>u'=u/\(e = .returned (.tuple #[])/\Opn r w' o/\But r r w w'):=by
 obtain⟨o',c1,f1,l1,l2,l3⟩:=h;have q0:=hg.2.cell 0;simp only [List.getElem?_toArray,List.getElem?_cons_zero] at q0;have i2: -9223372036854775808<=o' - 1:=by omega
 have i3:o' - 1<=9223372036854775807:=by omega
 have HB:Hid (Opn r (w.setCell ⟨r,1,none⟩ (.int .i64 (o' - 1))) o/\But r r w (w.setCell ⟨r,1,none⟩ (.int .i64 (o' - 1)))):=⟨⟨o' - 1,World.cell?_setCell_same _ _ _ c1,by simp [f1],by omega,by omega,ho⟩,(But.refl r r w).set 1 _⟩;clear hg
 go_enter_d func91,ntmps91
 go_wp2_with fail
 go_end0
 exact⟨rfl,HB.out⟩
theorem Lv.but {r g:Nat} {w w':World} (h:Lv r g w) (hb:But r r w w'):Lv r g w':=⟨h.1,h.2.stays (hb.block _ h.2.lt h.1 h.1)⟩
theorem Lv.set4 {r g g':Nat} {w:World} (h:Lv r g w) (hne:g' ≠ g) (a b c d:Value):Lv r g (set4 w g' a b c d) :=
 ⟨h.1,h.2.stays (by
  simp only [Go.Proofs.YtppcohadoilpgaaGreatDoor.set4];rw [Below.heap_setCell _ _ _ _ (by simpa using fun e=>hne e.symm),Below.heap_setCell _ _ _ _ (by simpa using fun e=>hne e.symm),Below.heap_setCell _ _ _ _ (by simpa using fun e=>hne e.symm),Below.heap_setCell _ _ _ _ (by simpa using fun e=>hne e.symm)])⟩
theorem Ce.left {r n:Nat} {o:Int} {w U:World} {R:Rd Ex} {x:Ex} {p:List Pc} {v:Value} (h:Ce r (o+1) w R (KE w n) (.returned v) U) (hR:R = .ok (x,p)) (ho:0<=o) (h4:o<=40) (hr:r<w.heap.size):Ce r o w R (KE w n) (.returned v) (U.setCell ⟨r,1,none⟩ (.int .i64 o)):=by
 obtain⟨h1,h2⟩:=h;refine⟨h1.trans ((But.refl _ _ _).set 1 _),?_⟩;rw [hR] at h2 ⊢;obtain⟨v',e,h3,h5,cs,e2,h6⟩:=h2;exact⟨v',e,h3.opened o ho h4,h5,cs,e2,h6.same ((Ap.refl _ _).set hr 1 _) lr0 lr0⟩
theorem Wx {m:Nat} (hX:OpC m):Aaj (m+1):=by
 intro r o ps w h hm;have HX:Hid (OpC m):=hX;clear hX;have lo:=h.lo;have hlt:=h.lt;obtain⟨W,hW⟩:∃W,W=w.alloc (.cells #[.int .i64 0,.int .i64 0,.string ⟨#[]⟩,.slice none 0 0] 31):=⟨_,rfl⟩;have HA0:Hid (Below w.heap.size w W):=by rw [hW];exact br0.alloc lr0 _
 have HG0:Hid (Bx w.heap.size [.int .i64 0,.int .i64 0,.string ⟨#[]⟩,.slice none 0 0] 31 W):=by rw [hW];exact Bx.new w _ _
 have HS0:Hid (w.heap.size+1<=W.heap.size):=by rw [hW];simp [Hid]
 have HB0:Hid (But r r w W):=But.of_below HA0.out;have HR0:Hid (Rdr r W o ps):=h.below HA0.out;have HWW:Hid (W=_):=hW;clear hW h
 by_cases ho:40<o+1
 . have HE:Hid (Ht (m+1) o ps = .error 1):=by unfold Hid;rw [Ht,if_pos ho]
   have HC:Hid _:=Pd r o ps W HR0.out ho
   go_enter_defers func118,ntmps118
   go_wp2_with fail
   rw [<-HWW.out];clear HWW;refine Calls.mono HC.out ?_;rintro e w1 ⟨rfl,hb,hop⟩;have HO:Hid (But r r w w1/\Opn r w1 o):=⟨HB0.out.trans hb,hop⟩;clear hb hop HC;go_wp2_with fail
   refine⟨HO.out.1,?_⟩;rw [HE.out];exact⟨rfl,HO.out.2⟩
 . have HE:Hid (Ht (m+1) o ps=opR m (o+1) ps):=by unfold Hid;rw [Ht,if_neg ho]
   have HC:Hid _:=Pb r o ps W HR0.out ho
   go_enter_defers func118,ntmps118
   go_wp2_with fail
   rw [<-HWW.out];clear HWW;refine Calls.mono HC.out ?_;rintro e w1 ⟨rfl,hrd,hb,hlv⟩;have HB1:Hid (But r r w w1):=HB0.out.trans hb;have HS1:Hid (w.heap.size+1<=w1.heap.size):=lq0 HS0.out hb.size;have HG1:Hid (Bx (w.heap.size) [.int .i64 0,.int .i64 0,.string ⟨#[]⟩,.slice none 0 0] 31 w1):=HG0.out.but hb hlt;have HV1:Hid (Lv r W.heap.size w1):=hlv;have HR1:Hid (Rdr r w1 (o+1) ps):=hrd;have HC2:Hid _:=HX.out r (o+1) ps w1 hrd (by omega);clear hb hlv hrd HC;go_wp2_with fail
   refine Calls.mono HC2.out ?_;rintro e w2 ⟨hb,hr⟩;have HB2:Hid (But r r w w2):=HB1.out.trans hb;have HG2:Hid (Bx (w.heap.size) [.int .i64 0,.int .i64 0,.string ⟨#[]⟩,.slice none 0 0] 31 w2):=HG1.out.but hb hlt;have HV2:Hid (Lv r W.heap.size w2):=HV1.out.but hb;rcases A6 (opR m (o+1) ps) with⟨er,hN⟩ | ⟨x,p1,hN⟩
   . rw [hN] at hr HE;obtain⟨rfl,hop⟩:=hr;have HO:Hid (Opn r w2 (o+1)):=hop;clear hb hop hN HC2;go_wp2_with fail
     refine leaves_cons (f:=91) (args:= #[.pointer (some ⟨W.heap.size,0,none⟩)]) (by simp) (by simp [go_sem]) ?_;refine (Ff r W.heap.size o _ w2 HO.out lo HV2.out).mono ?_;rintro e u' w3 ⟨rfl,rfl,h1,h2⟩;refine⟨HB2.out.trans h2,?_⟩;rw [HE.out];exact⟨rfl,h1⟩
   . rw [hN] at hr HE;obtain⟨v,rfl,hrd,hl1,cs1,rfl,hx1⟩:=hr;obtain⟨k1,n1,s1,a1,len1,cap1,rfl⟩:=hx1.shape;have HX1:Hid (ExP (fun b=>w.heap.size+1<=b) w2 (ps.length - p1.length) [.int .i64 k1,.int .i64 n1,.string s1,.slice a1 len1 cap1] x):=hx1.same (Ap.refl _ _) HS1.out lr0;have HR2:Hid (Rdr r w2 (o+1) p1):=hrd;have HL:Hid (p1.length<ps.length):=hl1;obtain⟨g0,g1,g2,g3,z0,z1,z2,z3⟩:=HG2.out.four;clear hb hrd hl1 hx1 hN HC2;go_wp2_with fail
     refine leaves_cons (f:=91) (args:= #[.pointer (some ⟨W.heap.size,0,none⟩)]) (by simp) (by simp [go_sem]) ?_;have HRU:Hid (Rdr r (set4 w2 w.heap.size (.int .i64 k1) (.int .i64 n1) (.string s1) (.slice a1 len1 cap1)) (o+1) p1):=HR2.out.low (Below.set4 w2 hlt _ _ _ _);refine (Iz r W.heap.size o p1 _ _ HRU.out lo (HV2.out.set4 (by have:=HS0.out;omega) _ _ _ _)).mono ?_;rintro e u' w3 ⟨rfl,rfl,rfl⟩;have hne:¬r=w.heap.size:=by omega
     refine⟨.agg #[.int .i64 k1,.int .i64 n1,.string s1,.slice a1 len1 cap1],by simp [results,results118,go_sem,g0,g1,g2,g3],?_⟩;exact Ce.left (Lr HE.out HB2.out hlt HR2.out HL.out HX1.out lr0) HE.out lo (by omega) hlt
theorem Aab {m:Nat} (hX:Ei m) (hY:Vw m):Ei (m+1):=by
 intro r o ps w h hm;have HX:Hid (Ei m):=hX;have HY:Hid (Vw m):=hY;clear hX hY;have lo:=h.lo;have hlt:=h.lt;obtain⟨W,hW⟩:∃W,W=w.alloc (.cells #[.int .i64 0,.int .i64 0,.string ⟨#[]⟩,.slice none 0 0] 31):=⟨_,rfl⟩;have HA0:Hid (Below w.heap.size w W):=by rw [hW];exact br0.alloc lr0 _
 have HG0:Hid (Bx w.heap.size [.int .i64 0,.int .i64 0,.string ⟨#[]⟩,.slice none 0 0] 31 W):=by rw [hW];exact Bx.new w _ _
 have HS0:Hid (w.heap.size+1<=W.heap.size):=by rw [hW];simp [Hid]
 have HB0:Hid (But r r w W):=But.of_below HA0.out;have HR0:Hid (Rdr r W o ps):=h.below HA0.out;have HWW:Hid (W=_):=hW;clear hW h
 by_cases ho:40<o+1
 . have HE:Hid (Ax (m+1) o ps = .error 1):=by unfold Hid;rw [Ax,if_pos ho]
   have HC:Hid _:=Pd r o ps W HR0.out ho
   go_enter_defers func42,ntmps42
   go_wp2_with fail
   rw [<-HWW.out];clear HWW;refine Calls.mono HC.out ?_;rintro e w1 ⟨rfl,hb,hop⟩;have HO:Hid (But r r w w1/\Opn r w1 o):=⟨HB0.out.trans hb,hop⟩;clear hb hop HC;go_wp2_with fail
   refine⟨HO.out.1,?_⟩;rw [HE.out];exact⟨rfl,HO.out.2⟩
 have E0:Hid ((40<o+1)=False):=eq_false ho;have HC:Hid _:=Pb r o ps W HR0.out ho
 go_enter_defers func42,ntmps42
 go_wp2_with fail
 rw [<-HWW.out];clear HWW;refine Calls.mono HC.out ?_;rintro e w1 ⟨rfl,hrd,hb,hlv⟩;have HV0:Hid (Lv r W.heap.size w1):=hlv;have HR1:Hid (Rdr r w1 (o+1) ps):=hrd;have HB1:Hid (But r r w w1):=HB0.out.trans hb;have HS1:Hid (w.heap.size+1<=w1.heap.size):=lq0 HS0.out hb.size;have HG1_0:Hid (Bx (w.heap.size) [.int .i64 0,.int .i64 0,.string ⟨#[]⟩,.slice none 0 0] 31 w1):=HG0.out.but hb (by have:=HS0.out;have:=hlt;omega);clear hb hrd hlv HC;have HC:Hid _:=HY.out r 1 (o+1) ps w1 HR1.out (by decide) (by decide) (by simp;omega);go_wp2_with fail
 refine Calls.mono HC.out ?_;rintro e w2 ⟨hb,hr⟩;have HB2:Hid (But r r w w2):=HB1.out.trans hb;have HS2:Hid (w.heap.size+1<=w2.heap.size):=lq0 HS1.out hb.size;have HG2_0:Hid (Bx (w.heap.size) [.int .i64 0,.int .i64 0,.string ⟨#[]⟩,.slice none 0 0] 31 w2):=HG1_0.out.but hb (by have:=HS1.out;have:=hlt;omega);have HV2:Hid (Lv r W.heap.size w2):=HV0.out.but hb;rcases A6 (Cs m 1 (o+1) ps) with⟨er,hN⟩ | ⟨x,p1,hN⟩
 . rw [hN] at hr;obtain⟨rfl,hop⟩:=hr;have HE:Hid (Ax (m+1) o ps = .error er):=by unfold Hid;rw [Ax];simp only [E0.out,hN,↓reduceIte]
   have HO:Hid (Opn r w2 (o+1)):=hop;clear hb hop hN HC;go_wp2_with fail
   refine leaves_cons (f:=91) (args:= #[.pointer (some ⟨W.heap.size,0,none⟩)]) (by simp) (by simp [go_sem]) ?_;refine (Ff r W.heap.size o _ w2 HO.out lo HV2.out).mono ?_;rintro e u' w99 ⟨rfl,rfl,h1,h2⟩;refine⟨HB2.out.trans h2,?_⟩;rw [HE.out];exact⟨rfl,h1⟩
 have E2:Hid (Cs m 1 (o+1) ps = .ok (x,p1)):=hN;rw [hN] at hr;obtain⟨v,rfl,hrd,hk⟩:=hr;have HR2:Hid (Rdr r w2 (o+1) p1):=hrd;clear hrd hN HC;obtain⟨hl1,cs1,rfl,hx1⟩:=hk;obtain⟨k1,n1,s1,a1,len1,cap1,rfl⟩:=hx1.shape;have L2:Hid (p1.length<ps.length):=hl1;have X1:Hid (ExP (fun b=>w.heap.size+1<=b) w2 (ps.length - p1.length) [.int .i64 k1,.int .i64 n1,.string s1,.slice a1 len1 cap1] x):=hx1.same (Ap.refl _ _) (by have:=HS1.out;omega) lr0;clear hb hl1 hx1;obtain⟨W2,hW⟩:∃W',W'=w2.alloc (.cells #[.int .i64 k1,.int .i64 n1,.string s1,.slice a1 len1 cap1] 31):=⟨_,rfl⟩;have HA:Hid (Below w2.heap.size w2 W2):=by rw [hW];exact br0.alloc lr0 _
 have HGn2:Hid (Bx w2.heap.size [.int .i64 k1,.int .i64 n1,.string s1,.slice a1 len1 cap1] 31 W2):=by rw [hW];exact Bx.new w2 _ _
 have HBb2:Hid (But r r w W2):=HB2.out.more HA.out;have HSb2:Hid (w.heap.size+1<=W2.heap.size):=lq0 HS2.out HA.out.size;have HRb2:Hid (Rdr r W2 (o+1) p1):=HR2.out.below HA.out;have HWW:Hid (W2=_):=hW;have HGb2_0:Hid (Bx (w.heap.size) [.int .i64 0,.int .i64 0,.string ⟨#[]⟩,.slice none 0 0] 31 W2):=HG2_0.out.below HA.out;have HTb2_0:Hid (ExP (fun b=>w.heap.size+1<=b) W2 (ps.length - p1.length) [.int .i64 k1,.int .i64 n1,.string s1,.slice a1 len1 cap1] x):=X1.out.same (Ap.below HA.out) lr0 lr0;have HVb2:Hid (Lv r W.heap.size W2):=HV2.out.but (But.of_below HA.out);clear hW HA;have HC:Hid _:=C8 r (o+1) [63] p1 W2 HRb2.out;go_wp2_with fail
 rw [<-HWW.out];clear HWW;refine Calls.mono HC.out ?_;rintro e w3 ⟨rfl,hrd,hb⟩;have HB3:Hid (But r r w w3):=HBb2.out.trans hb;have HS3:Hid (w.heap.size+1<=w3.heap.size):=lq0 HSb2.out hb.size;have HG3_0:Hid (Bx (w.heap.size) [.int .i64 0,.int .i64 0,.string ⟨#[]⟩,.slice none 0 0] 31 w3):=HGb2_0.out.but hb (by have:=HSb2.out;have:=hlt;omega);have HG3_1:Hid (Bx (w2.heap.size) [.int .i64 k1,.int .i64 n1,.string s1,.slice a1 len1 cap1] 31 w3):=HGn2.out.but hb (by have:=HSb2.out;have:=hlt;have:=HS2.out;omega);have HT3_0:Hid (ExP (fun b=>w.heap.size+1<=b) w3 (ps.length - p1.length) [.int .i64 k1,.int .i64 n1,.string s1,.slice a1 len1 cap1] x):=HTb2_0.out.same (Ap.but hb (by omega)) lr0 lr0;have HV3:Hid (Lv r W.heap.size w3):=HVb2.out.but hb;cases hS:Aj [63] p1 with
 | false =>
  have ES:Hid (Aj [63] p1=false):=hS;have HR3:Hid (Rdr r w3 (o+1) p1):=show Rdr r w3 (o+1) p1 by rw [hS] at hrd;simpa using hrd
  clear hS hrd hb HC;obtain⟨q0,q1,q2,q3,-⟩:=HG3_1.out.four;obtain⟨g0,g1,g2,g3,z0,z1,z2,z3⟩:=HG3_0.out.four;have HE:Hid (Ax (m+1) o ps = .ok (x,p1)):=by unfold Hid;rw [Ax];simp only [E0.out,E2.out,ES.out,Bool.false_eq_true,↓reduceIte]
  have HX:Hid (ExP (fun b=>w.heap.size+1<=b) w3 (ps.length - p1.length) [.int .i64 k1,.int .i64 n1,.string s1,.slice a1 len1 cap1] (x)):=HT3_0.out;have HL:Hid (p1.length<ps.length/\ps.length - p1.length<=ps.length - p1.length):=by unfold Hid;have:=L2.out;omega
  go_wp2_with fail
  refine leaves_cons (f:=91) (args:= #[.pointer (some ⟨W.heap.size,0,none⟩)]) (by simp) (by simp [go_sem]) ?_;have HRU:Hid (Rdr r (set4 w3 w.heap.size (.int .i64 k1) (.int .i64 n1) (.string s1) (.slice a1 len1 cap1)) (o+1) p1):=HR3.out.low (Below.set4 w3 hlt _ _ _ _);refine (Iz r W.heap.size o p1 _ _ HRU.out lo (HV3.out.set4 (by have:=HS0.out;omega) _ _ _ _)).mono ?_;rintro e u' w99 ⟨rfl,rfl,rfl⟩;have hne:¬r=w.heap.size:=by omega
  refine⟨.agg #[.int .i64 k1,.int .i64 n1,.string s1,.slice a1 len1 cap1],by simp [results,results42,go_sem,g0,g1,g2,g3],?_⟩;exact Ce.left (Lr HE.out HB3.out hlt HR3.out HL.out.1 HX.out HL.out.2) HE.out lo (by omega) hlt
 | true =>
  have ES:Hid (Aj [63] p1=true):=hS;have LS:Hid (p1.tail.length+1=p1.length):=Nz hS;have HR3:Hid (Rdr r w3 (o+1) p1.tail):=show Rdr r w3 (o+1) p1.tail by rw [hS] at hrd;simpa using hrd
  obtain⟨pt,hpt⟩:∃pt,pt=p1.tail:=⟨_,rfl⟩;have HPT:Hid (p1.tail=pt):=hpt.symm;rw [<-hpt] at HR3 LS;clear hS hrd hb HC hpt;have HC:Hid _:=HX.out r (o+1) pt w3 HR3.out (by have:=L2.out;have:=LS.out;omega);go_wp2_with fail
  refine Calls.mono HC.out ?_;rintro e w4 ⟨hb,hr⟩;have HB4:Hid (But r r w w4):=HB3.out.trans hb;have HS4:Hid (w.heap.size+1<=w4.heap.size):=lq0 HS3.out hb.size;have HG4_0:Hid (Bx (w.heap.size) [.int .i64 0,.int .i64 0,.string ⟨#[]⟩,.slice none 0 0] 31 w4):=HG3_0.out.but hb (by have:=HS3.out;have:=hlt;omega);have HG4_1:Hid (Bx (w2.heap.size) [.int .i64 k1,.int .i64 n1,.string s1,.slice a1 len1 cap1] 31 w4):=HG3_1.out.but hb (by have:=HS3.out;have:=hlt;have:=HS2.out;omega);have HT4_0:Hid (ExP (fun b=>w.heap.size+1<=b) w4 (ps.length - p1.length) [.int .i64 k1,.int .i64 n1,.string s1,.slice a1 len1 cap1] x):=HT3_0.out.same (Ap.but hb (by omega)) lr0 lr0;have HV4:Hid (Lv r W.heap.size w4):=HV3.out.but hb;rcases A6 (Ax m (o+1) pt) with⟨er,hN⟩ | ⟨y,p2,hN⟩
  . rw [hN] at hr;obtain⟨rfl,hop⟩:=hr;have HE:Hid (Ax (m+1) o ps = .error er):=by unfold Hid;rw [Ax];simp only [E0.out,E2.out,ES.out,HPT.out,hN,↓reduceIte]
    have HO:Hid (Opn r w4 (o+1)):=hop;clear hb hop hN HC;go_wp2_with fail
    refine leaves_cons (f:=91) (args:= #[.pointer (some ⟨W.heap.size,0,none⟩)]) (by simp) (by simp [go_sem]) ?_;refine (Ff r W.heap.size o _ w4 HO.out lo HV4.out).mono ?_;rintro e u' w99 ⟨rfl,rfl,h1,h2⟩;refine⟨HB4.out.trans h2,?_⟩;rw [HE.out];exact⟨rfl,h1⟩
  have E4:Hid (Ax m (o+1) pt = .ok (y,p2)):=hN;rw [hN] at hr;obtain⟨v,rfl,hrd,hk⟩:=hr;have HR4:Hid (Rdr r w4 (o+1) p2):=hrd;clear hrd hN HC;obtain⟨hl2,cs2,rfl,hx2⟩:=hk;obtain⟨k2,n2,s2,a2,len2,cap2,rfl⟩:=hx2.shape;have L4:Hid (p2.length<pt.length):=hl2;have X2:Hid (ExP (fun b=>w.heap.size+1<=b) w4 (pt.length - p2.length) [.int .i64 k2,.int .i64 n2,.string s2,.slice a2 len2 cap2] y):=hx2.same (Ap.refl _ _) (by have:=HS3.out;omega) lr0;clear hb hl2 hx2;obtain⟨W4,hW⟩:∃W',W'=w4.alloc (.cells #[.int .i64 k2,.int .i64 n2,.string s2,.slice a2 len2 cap2] 31):=⟨_,rfl⟩;have HA:Hid (Below w4.heap.size w4 W4):=by rw [hW];exact br0.alloc lr0 _
  have HGn4:Hid (Bx w4.heap.size [.int .i64 k2,.int .i64 n2,.string s2,.slice a2 len2 cap2] 31 W4):=by rw [hW];exact Bx.new w4 _ _
  have HBb4:Hid (But r r w W4):=HB4.out.more HA.out;have HSb4:Hid (w.heap.size+1<=W4.heap.size):=lq0 HS4.out HA.out.size;have HRb4:Hid (Rdr r W4 (o+1) p2):=HR4.out.below HA.out;have HWW:Hid (W4=_):=hW;have HGb4_0:Hid (Bx (w.heap.size) [.int .i64 0,.int .i64 0,.string ⟨#[]⟩,.slice none 0 0] 31 W4):=HG4_0.out.below HA.out;have HGb4_1:Hid (Bx (w2.heap.size) [.int .i64 k1,.int .i64 n1,.string s1,.slice a1 len1 cap1] 31 W4):=HG4_1.out.below HA.out;have HTb4_0:Hid (ExP (fun b=>w.heap.size+1<=b) W4 (ps.length - p1.length) [.int .i64 k1,.int .i64 n1,.string s1,.slice a1 len1 cap1] x):=HT4_0.out.same (Ap.below HA.out) lr0 lr0;have HTb4_1:Hid (ExP (fun b=>w.heap.size+1<=b) W4 (pt.length - p2.length) [.int .i64 k2,.int .i64 n2,.string s2,.slice a2 len2 cap2] y):=X2.out.same (Ap.below HA.out) lr0 lr0;have HVb4:Hid (Lv r W.heap.size W4):=HV4.out.but (But.of_below HA.out);clear hW HA
  have HC:Hid _:=Du r (o+1) [58] p2 W4 HRb4.out;go_wp2_with fail
  rw [<-HWW.out];clear HWW;refine Calls.mono HC.out ?_;rintro e w5 ⟨hb,hr⟩;have HB5:Hid (But r r w w5):=HBb4.out.trans hb;have HS5:Hid (w.heap.size+1<=w5.heap.size):=lq0 HSb4.out hb.size;have HG5_0:Hid (Bx (w.heap.size) [.int .i64 0,.int .i64 0,.string ⟨#[]⟩,.slice none 0 0] 31 w5):=HGb4_0.out.but hb (by have:=HSb4.out;have:=hlt;omega);have HG5_1:Hid (Bx (w2.heap.size) [.int .i64 k1,.int .i64 n1,.string s1,.slice a1 len1 cap1] 31 w5):=HGb4_1.out.but hb (by have:=HSb4.out;have:=hlt;have:=HS2.out;omega);have HG5_2:Hid (Bx (w4.heap.size) [.int .i64 k2,.int .i64 n2,.string s2,.slice a2 len2 cap2] 31 w5):=HGn4.out.but hb (by have:=HSb4.out;have:=hlt;have:=HS4.out;omega);have HT5_0:Hid (ExP (fun b=>w.heap.size+1<=b) w5 (ps.length - p1.length) [.int .i64 k1,.int .i64 n1,.string s1,.slice a1 len1 cap1] x):=HTb4_0.out.same (Ap.but hb (by omega)) lr0 lr0
  have HT5_1:Hid (ExP (fun b=>w.heap.size+1<=b) w5 (pt.length - p2.length) [.int .i64 k2,.int .i64 n2,.string s2,.slice a2 len2 cap2] y):=HTb4_1.out.same (Ap.but hb (by omega)) lr0 lr0;have HV5:Hid (Lv r W.heap.size w5):=HVb4.out.but hb;rcases A6 (A8 [58] p2) with⟨er,hN⟩ | ⟨up3,p3,hN⟩
  . rw [hN] at hr;obtain⟨rfl,hop⟩:=hr;have HE:Hid (Ax (m+1) o ps = .error er):=by unfold Hid;rw [Ax];simp only [E0.out,E2.out,ES.out,HPT.out,E4.out,hN,↓reduceIte]
    have HO:Hid (Opn r w5 (o+1)):=hop;clear hb hop hN HC;go_wp2_with fail
    refine leaves_cons (f:=91) (args:= #[.pointer (some ⟨W.heap.size,0,none⟩)]) (by simp) (by simp [go_sem]) ?_;refine (Ff r W.heap.size o _ w5 HO.out lo HV5.out).mono ?_;rintro e u' w99 ⟨rfl,rfl,h1,h2⟩;refine⟨HB5.out.trans h2,?_⟩;rw [HE.out];exact⟨rfl,h1⟩
  have E5:Hid (A8 [58] p2 = .ok (up3,p3)):=hN;rw [hN] at hr;obtain⟨v,rfl,hrd,hk⟩:=hr;have HR5:Hid (Rdr r w5 (o+1) p3):=hrd;clear hrd hN HC;have L5:Hid (p3.length+1=p2.length):=Br E5.out;obtain rfl:=hk;clear hb;obtain⟨g0,g1,g2,g3,z0,z1,z2,z3⟩:=HG5_0.out.four;obtain⟨u0,u1,u2,u3,-⟩:=HG5_1.out.four;obtain⟨t0,t1,t2,t3,-⟩:=HG5_2.out.four;have HC:Hid _:=HX.out r (o+1) p3 w5.drew (HR5.out.below (Ac w5)) (by have:=L2.out;have:=LS.out;have:=L4.out;have:=L5.out;omega);go_wp2_with fail
  refine Aac [{ target:= .fn (.func 91) #[.pointer (some ⟨W.heap.size,0,none⟩)],args:= #[] }] ?_
  go_region_with (
   refine Calls.mono HC.out ?_;rintro e w6 ⟨hb,hr⟩;have HB6:Hid (But r r w w6):=(HB5.out.more (Ac w5)).trans hb;have HS6:Hid (w.heap.size+1<=w6.heap.size):=lq0 HS5.out hb.size;have HV6:Hid (Lv r W.heap.size w6):=(HV5.out.but (But.of_below (Ac w5))).but hb;have HG6:Hid (Bx w.heap.size [.int .i64 0,.int .i64 0,.string ⟨#[]⟩,.slice none 0 0] 31 w6):=(HG5_0.out.below (Ac w5)).but hb hlt;have HG7:Hid (Bx (w2.heap.size) [.int .i64 k1,.int .i64 n1,.string s1,.slice a1 len1 cap1] 31 w6):=(HG5_1.out.below (Ac w5)).but hb (by have:=HS2.out;omega);have HG8:Hid (Bx (w4.heap.size) [.int .i64 k2,.int .i64 n2,.string s2,.slice a2 len2 cap2] 31 w6):=(HG5_2.out.below (Ac w5)).but hb (by have:=HS4.out;omega)
   have HT6:Hid (ExP (fun b=>w.heap.size+1<=b) w6 (ps.length - p1.length) [.int .i64 k1,.int .i64 n1,.string s1,.slice a1 len1 cap1] x):=(HT5_0.out.same (Ap.below (Ac w5)) lr0 lr0).same (Ap.but hb (by omega)) lr0 lr0;have HT7:Hid (ExP (fun b=>w.heap.size+1<=b) w6 (pt.length - p2.length) [.int .i64 k2,.int .i64 n2,.string s2,.slice a2 len2 cap2] y):=(HT5_1.out.same (Ap.below (Ac w5)) lr0 lr0).same (Ap.but hb (by omega)) lr0 lr0;rcases A6 (Ax m (o+1) p3) with⟨er,hN⟩ | ⟨z,p4,hN⟩
   . rw [hN] at hr;obtain⟨rfl,hop⟩:=hr;have HE:Hid (Ax (m+1) o ps = .error er):=by unfold Hid;rw [Ax];simp only [E0.out,E2.out,ES.out,HPT.out,E4.out,E5.out,hN,↓reduceIte]
     have HO:Hid (Opn r w6 (o+1)):=hop;clear hb hop hN HC;refine⟨rfl,fun tmps=>?_⟩;show Leaves _ _ _ _ _ _ _;refine leaves_cons (f:=91) (args:= #[.pointer (some ⟨W.heap.size,0,none⟩)]) (by simp) (by simp [go_sem]) ?_;refine (Ff r W.heap.size o _ w6 HO.out lo HV6.out).mono ?_;rintro e u' w99 ⟨rfl,rfl,h1,h2⟩;refine⟨HB6.out.trans h2,?_⟩;rw [HE.out];exact⟨rfl,h1⟩
   have HE:Hid (Ax (m+1) o ps = .ok (A3 10 0 [] [x,y,z],p4)):=by unfold Hid;rw [Ax];simp only [E0.out,E2.out,ES.out,HPT.out,E4.out,E5.out,hN,↓reduceIte]
   rw [hN] at hr;obtain⟨v,rfl,hrd,hl3,cs3,rfl,hx3⟩:=hr;obtain⟨k3,n3,s3,a3,len3,cap3,rfl⟩:=hx3.shape;have HT8:Hid (ExP (fun b=>w.heap.size+1<=b) w6 (p3.length - p4.length) [.int .i64 k3,.int .i64 n3,.string s3,.slice a3 len3 cap3] z):=hx3.same (Ap.refl _ _) HS5.out lr0;have HR6:Hid (Rdr r w6 (o+1) p4):=hrd;have HL6:Hid (p4.length<p3.length):=hl3;obtain⟨j0,j1,j2,j3,y0,y1,y2,y3⟩:=HG6.out.four;obtain⟨v0,v1,v2,v3,-⟩:=HG7.out.four;obtain⟨r0,r1,r2,r3,-⟩:=HG8.out.four;have hw9:w.heap.size<w6.heap.size:=HS6.out;have hv9:¬w.heap.size=w6.heap.size:=by omega
   have hw8:w2.heap.size<w6.heap.size:=HG7.out.lt;have hv8:¬w2.heap.size=w6.heap.size:=by omega
   have hw7:w4.heap.size<w6.heap.size:=HG8.out.lt;have hv7:¬w4.heap.size=w6.heap.size:=by omega
   have HA9:Hid (Below w6.heap.size w6 (w6.alloc (.cells #[.int .i64 k1,.int .i64 n1,.string s1,.slice a1 len1 cap1,.int .i64 k2,.int .i64 n2,.string s2,.slice a2 len2 cap2,.int .i64 k3,.int .i64 n3,.string s3,.slice a3 len3 cap3] 31))):=br0.alloc lr0 _
   have HX9:Hid (ExP (fun b=>w.heap.size+1<=b) (w6.alloc (.cells #[.int .i64 k1,.int .i64 n1,.string s1,.slice a1 len1 cap1,.int .i64 k2,.int .i64 n2,.string s2,.slice a2 len2 cap2,.int .i64 k3,.int .i64 n3,.string s3,.slice a3 len3 cap3] 31)) (((ps.length - p1.length)+(pt.length - p2.length)+(p3.length - p4.length))+1) [.int .i64 10,.int .i64 0,.string ⟨#[]⟩,.slice (some ⟨w6.heap.size,0,none⟩) 3 3] (A3 10 0 [] [x,y,z])):=ExP.node (s:= []) (by decide) (by decide) (by simp) (SlP.three (Bx.new w6 _ _) HS6.out (HT6.out.same (Ap.below HA9.out) lr0 (by omega)) (HT7.out.same (Ap.below HA9.out) lr0 (by omega)) (HT8.out.same (Ap.below HA9.out) lr0 (by omega)));have HLf:Hid (p4.length<ps.length/\((ps.length - p1.length)+(pt.length - p2.length)+(p3.length - p4.length))+1<=ps.length - p4.length):=by have:=HL6.out;have:=L2.out;have:=LS.out;have:=L4.out;have:=L5.out;unfold Hid;omega
   clear hb hrd hl3 hx3 hN HC HA9)
  all_goals rw [Wo]
  all_goals go_wp2_with fail
  all_goals refine leaves_cons (f:=91) (args:= #[.pointer (some ⟨W.heap.size,0,none⟩)]) (by simp) (by simp [go_sem]) ?_
  all_goals have HRU:Hid (Rdr r ((set4 w6 w.heap.size (.int .i64 10) (.int .i64 0) (.string ⟨#[]⟩) (.slice (some ⟨w6.heap.size,0,none⟩) 3 3)).alloc (.cells #[.int .i64 k1,.int .i64 n1,.string s1,.slice a1 len1 cap1,.int .i64 k2,.int .i64 n2,.string s2,.slice a2 len2 cap2,.int .i64 k3,.int .i64 n3,.string s3,.slice a3 len3 cap3] 31)) (o+1) p4):=(HR6.out.low (Below.set4 w6 hlt _ _ _ _)).alloc _
  all_goals have HVU:Hid (Lv r W.heap.size ((set4 w6 w.heap.size (.int .i64 10) (.int .i64 0) (.string ⟨#[]⟩) (.slice (some ⟨w6.heap.size,0,none⟩) 3 3)).alloc (.cells #[.int .i64 k1,.int .i64 n1,.string s1,.slice a1 len1 cap1,.int .i64 k2,.int .i64 n2,.string s2,.slice a2 len2 cap2,.int .i64 k3,.int .i64 n3,.string s3,.slice a3 len3 cap3] 31))):=(HV6.out.set4 (by have:=HS0.out;omega) _ _ _ _).but ((But.refl _ _ _).alloc _)
  all_goals refine (Iz r W.heap.size o p4 _ _ HRU.out lo HVU.out).mono ?_
  all_goals (rintro e u' w99 ⟨rfl,rfl,rfl⟩)
  all_goals have hne:¬r=w.heap.size:=by omega
  all_goals refine⟨.agg #[.int .i64 10,.int .i64 0,.string ⟨#[]⟩,.slice (some ⟨w6.heap.size,0,none⟩) 3 3],by simp [results,results42,go_sem,j0,j1,j2,j3,hw9],?_⟩
  all_goals exact Ce.left (Rq HE.out HB6.out hlt hw9 HR6.out HLf.out.1 HX9.out HLf.out.2) HE.out lo (by omega) hlt
end Go.Proofs.YtppcohadoilpgaaGreatDoor
