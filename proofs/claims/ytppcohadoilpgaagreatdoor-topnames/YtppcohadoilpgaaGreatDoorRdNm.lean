/-
  Contracts of the reader's assigned. / Contract of the reader's key.
-/
import Derived.Test.YtppcohadoilpgaaGreatDoorRdMem
namespace Go.Proofs.YtppcohadoilpgaaGreatDoor
open Go.ChangeShapes Go.WideShapes Go.ChangeAt Go.RowKit Go.Joins Go.Maps Go.Proofs.Tryz
set_option maxHeartbeats 4000000
set_option linter.unusedVariables false
theorem G1 {m:Nat} (hX:Ei m) (r:Nat) (o:Int) (ps:List Pc) (w:World) (h:Rdr r w o ps) (hm:20 * ps.length+1<=m) :
 Calls prog 119 #[.pointer (some ⟨r,0,none⟩)] w (Ce r o w (Hh m o ps) (KE w ps.length)):=by
 have HX:Hid (Ei m):=hX;clear hX;have hlt:=h.lt;obtain⟨W,hW⟩:∃W,W=w.alloc (.cells #[.int .i64 0,.int .i64 0,.string ⟨#[]⟩,.slice none 0 0] 31):=⟨_,rfl⟩;have HA0:Hid (Below w.heap.size w W):=by rw [hW];exact br0.alloc lr0 _
 have HG0:Hid (Bx w.heap.size [.int .i64 0,.int .i64 0,.string ⟨#[]⟩,.slice none 0 0] 31 W):=by rw [hW];exact Bx.new w _ _
 have HS0:Hid (w.heap.size+1<=W.heap.size):=by rw [hW];simp [Hid]
 have HB0:Hid (But r r w W):=But.of_below HA0.out;have HR0:Hid (Rdr r W o ps):=h.below HA0.out;have HWW:Hid (W=_):=hW;clear hW h;go_enter func119,ntmps119
 have HC:Hid _:=Du r o [61] ps W HR0.out;go_wp2_with fail
 rw [<-HWW.out];clear HWW;refine Calls.mono HC.out ?_;rintro e w1 ⟨hb,hr⟩;have HB1:Hid (But r r w w1):=HB0.out.trans hb;have HS1:Hid (w.heap.size+1<=w1.heap.size):=lq0 HS0.out hb.size;have HG1_0:Hid (Bx (w.heap.size) [.int .i64 0,.int .i64 0,.string ⟨#[]⟩,.slice none 0 0] 31 w1):=HG0.out.but hb (by have:=HS0.out;have:=hlt;omega);rcases A6 (A8 [61] ps) with⟨er,hN⟩ | ⟨up1,p1,hN⟩
 . rw [hN] at hr;obtain⟨rfl,hop⟩:=hr;have HE:Hid (Hh m o ps = .error er):=by unfold Hid;rw [Hh];simp only [hN]
   have HO:Hid (Opn r w1 o):=hop;clear hb hop hN HC;go_wp2_with fail
   refine⟨rfl,HB1.out,?_⟩;rw [HE.out];exact⟨rfl,HO.out⟩
 have E1:Hid (A8 [61] ps = .ok (up1,p1)):=hN;rw [hN] at hr;obtain⟨v,rfl,hrd,hk⟩:=hr;have HR1:Hid (Rdr r w1 o p1):=hrd;clear hrd hN HC;have L1:Hid (p1.length+1=ps.length):=Br E1.out;obtain rfl:=hk;clear hb;have HC:Hid _:=HX.out r o p1 w1 HR1.out (by have:=L1.out;omega);go_wp2_with fail
 refine Calls.mono HC.out ?_;rintro e w2 ⟨hb,hr⟩;have HB2:Hid (But r r w w2):=HB1.out.trans hb;have HS2:Hid (w.heap.size+1<=w2.heap.size):=lq0 HS1.out hb.size;have HG2_0:Hid (Bx (w.heap.size) [.int .i64 0,.int .i64 0,.string ⟨#[]⟩,.slice none 0 0] 31 w2):=HG1_0.out.but hb (by have:=HS1.out;have:=hlt;omega);rcases A6 (Ax m o p1) with⟨er,hN⟩ | ⟨x,p2,hN⟩
 . rw [hN] at hr;obtain⟨rfl,hop⟩:=hr;have HE:Hid (Hh m o ps = .error er):=by unfold Hid;rw [Hh];simp only [E1.out,hN]
   have HO:Hid (Opn r w2 o):=hop;clear hb hop hN HC;go_wp2_with fail
   refine⟨rfl,HB2.out,?_⟩;rw [HE.out];exact⟨rfl,HO.out⟩
 have E2:Hid (Ax m o p1 = .ok (x,p2)):=hN;rw [hN] at hr;obtain⟨v,rfl,hrd,hk⟩:=hr;have HR2:Hid (Rdr r w2 o p2):=hrd;clear hrd hN HC;obtain⟨hl1,cs1,rfl,hx1⟩:=hk;obtain⟨k1,n1,s1,a1,len1,cap1,rfl⟩:=hx1.shape;have L2:Hid (p2.length<p1.length):=hl1;have X1:Hid (ExP (fun b=>w.heap.size+1<=b) w2 (p1.length - p2.length) [.int .i64 k1,.int .i64 n1,.string s1,.slice a1 len1 cap1] x):=hx1.same (Ap.refl _ _) (by have:=HS1.out;omega) lr0;clear hb hl1 hx1;obtain⟨g0,g1,g2,g3,z0,z1,z2,z3⟩:=HG2_0.out.four;have HE:Hid (Hh m o ps = .ok (x,p2)):=by unfold Hid;rw [Hh];simp only [E1.out,E2.out]
 have HX:Hid (ExP (fun b=>w.heap.size+1<=b) w2 (p1.length - p2.length) [.int .i64 k1,.int .i64 n1,.string s1,.slice a1 len1 cap1] (x)):=X1.out;have HL:Hid (p2.length<ps.length/\p1.length - p2.length<=ps.length - p2.length):=by unfold Hid;have:=L1.out;have:=L2.out;omega
 go_wp2_with fail
 refine bodyPost_ret (v:= .agg #[.int .i64 k1,.int .i64 n1,.string s1,.slice a1 len1 cap1]) (by simp [results,results119,go_sem,g0,g1,g2,g3]) rfl ?_;exact Lr HE.out HB2.out hlt HR2.out HL.out.1 HX.out HL.out.2
theorem Ac4 {m:Nat} (hK:Aah m) (hL:Kn m):U1 (m+1):=by
 intro r o s ps w h hs hm;have HK:Hid (Aah m):=hK;have HLL:Hid (Kn m):=hL;have HSS:Hid (s.length<=6000):=hs;clear hK hL hs;obtain⟨S,hS⟩:∃S,S=bs s:=⟨_,rfl⟩;have HSB:Hid (S=bs s):=hS;have HST:Hid (S.toList=s):=by unfold Hid;rw [hS,B5]
 rw [<-hS];clear hS;have HH:Hid (Rdr r w o ps):=h
 by_cases hq:s = [78,82]\/s = [78,70]
 . have HE:Hid (B7 (m+1) o s ps = .ok (A3 12 0 s [],ps)):=by unfold Hid;rw [B7,if_pos hq]
   have HX:Hid (∀W,ExP (fun b=>w.heap.size<=b) W 1 [.int .i64 12,.int .i64 0,.string S,.slice none 0 0] (A3 12 0 s [])):=fun W=>by rw [HSB.out];exact ExP.leaf (by decide) (by decide) HSS.out
   clear h;rcases hq with hq | hq
   . have b0:(S.toList == [78,82])=true:=by rw [HST.out,hq];rfl
     clear hq;go_enter func121,ntmps121
     go_wp2_with fail
     refine bodyPost_ret (v:= .agg #[.int .i64 12,.int .i64 0,.string S,.slice none 0 0]) (by simp [results,results121,go_sem]) rfl ?_;exact Vj HE.out HH.out (by omega) HX.out
   . have b0:(S.toList == [78,82])=false:=by rw [HST.out,hq];rfl
     have b1:(S.toList == [78,70])=true:=by rw [HST.out,hq];rfl
     clear hq;go_enter func121,ntmps121
     go_wp2_with fail
     refine bodyPost_ret (v:= .agg #[.int .i64 12,.int .i64 0,.string S,.slice none 0 0]) (by simp [results,results121,go_sem]) rfl ?_;exact Vj HE.out HH.out (by omega) HX.out
 have b0:(S.toList == [78,82])=false:=by rw [HST.out];simpa using fun e=>hq (.inl e)
 have b1:(S.toList == [78,70])=false:=by rw [HST.out];simpa using fun e=>hq (.inr e)
 have E01:Hid ((s = [78,82]\/s = [78,70])=False):=eq_false hq;have HAS:Hid (∀W,Rdr r W o ps->Calls prog 100 #[.string S] W fun e w'=>e = .returned (.int .i64 (J4 s))/\Below W.heap.size W w'):=fun W hW=>by
  have:=Ip S W hW.tz.funcs.2;rw [Kp,HSB.out,Aao] at this;rw [HSB.out];exact this.mono fun e w' ⟨h1,h2⟩=>⟨h1,by first | exact h2 | (rw [h2];exact Below.refl _ _)⟩
 clear hq HH;have hlt:=h.lt;obtain⟨W,hW⟩:∃W,W=w.alloc (.cells #[.int .i64 0,.int .i64 0,.string ⟨#[]⟩,.slice none 0 0] 31):=⟨_,rfl⟩;have HA0:Hid (Below w.heap.size w W):=by rw [hW];exact br0.alloc lr0 _
 have HG0:Hid (Bx w.heap.size [.int .i64 0,.int .i64 0,.string ⟨#[]⟩,.slice none 0 0] 31 W):=by rw [hW];exact Bx.new w _ _
 have HS0:Hid (w.heap.size+1<=W.heap.size):=by rw [hW];simp [Hid]
 have HB0:Hid (But r r w W):=But.of_below HA0.out;have HR0:Hid (Rdr r W o ps):=h.below HA0.out;have HWW:Hid (W=_):=hW;clear hW h;obtain⟨N,hN0⟩:∃N,N=J4 s:=⟨_,rfl⟩;have HN0:Hid (N=J4 s):=hN0;rw [<-hN0] at HAS;clear hN0;have HC:Hid _:=HAS.out W HR0.out
 by_cases hN1:0<N
 . have E02:Hid ((0<J4 s)=True):=by unfold Hid;rw [<-HN0.out];exact eq_true hN1
   go_enter func121,ntmps121
   go_wp2_with fail
   rw [<-HWW.out];clear HWW;refine Calls.mono HC.out ?_;rintro e w1 ⟨rfl,hbl⟩;have hb:But r r W w1:=But.of_below hbl;have HR1:Hid (Rdr r w1 o ps):=HR0.out.below hbl;have HB1:Hid (But r r w w1):=HB0.out.trans hb;have HS1:Hid (w.heap.size+1<=w1.heap.size):=lq0 HS0.out hb.size;have HG1_0:Hid (Bx (w.heap.size) [.int .i64 0,.int .i64 0,.string ⟨#[]⟩,.slice none 0 0] 31 w1):=HG0.out.but hb (by have:=HS0.out;have:=hlt;omega);clear hb hbl HC HAS;have HC:Hid _:=Du r o [40] ps w1 HR1.out;go_wp2_with fail
   refine Calls.mono HC.out ?_;rintro e w2 ⟨hb,hr⟩;have HB2:Hid (But r r w w2):=HB1.out.trans hb;have HS2:Hid (w.heap.size+1<=w2.heap.size):=lq0 HS1.out hb.size;have HG2_0:Hid (Bx (w.heap.size) [.int .i64 0,.int .i64 0,.string ⟨#[]⟩,.slice none 0 0] 31 w2):=HG1_0.out.but hb (by have:=HS1.out;have:=hlt;omega);rcases A6 (A8 [40] ps) with⟨er,hN⟩ | ⟨up1,p1,hN⟩
   . rw [hN] at hr;obtain⟨rfl,hop⟩:=hr;have HE:Hid (B7 (m+1) o s ps = .error er):=by unfold Hid;rw [B7];simp only [E01.out,E02.out,hN,↓reduceIte]
     have HO:Hid (Opn r w2 o):=hop;clear hb hop hN HC;go_wp2_with fail
     refine⟨rfl,HB2.out,?_⟩;rw [HE.out];exact⟨rfl,HO.out⟩
   have E2:Hid (A8 [40] ps = .ok (up1,p1)):=hN;rw [hN] at hr;obtain⟨v,rfl,hrd,hk⟩:=hr;have HR2:Hid (Rdr r w2 o p1):=hrd;clear hrd hN HC;have L2:Hid (p1.length+1=ps.length):=Br E2.out;obtain rfl:=hk;clear hb;have HC:Hid _:=HLL.out r o p1 w2 HR2.out (by have:=L2.out;omega);go_wp2_with fail
   refine Calls.mono HC.out ?_;rintro e w3 ⟨hb,hr⟩;have HB3:Hid (But r r w w3):=HB2.out.trans hb;have HS3:Hid (w.heap.size+1<=w3.heap.size):=lq0 HS2.out hb.size;have HG3_0:Hid (Bx (w.heap.size) [.int .i64 0,.int .i64 0,.string ⟨#[]⟩,.slice none 0 0] 31 w3):=HG2_0.out.but hb (by have:=HS2.out;have:=hlt;omega);rcases A6 (Bo m o p1) with⟨er,hN⟩ | ⟨l,p2,hN⟩
   . rw [hN] at hr;obtain⟨rfl,hop⟩:=hr;have HE:Hid (B7 (m+1) o s ps = .error er):=by unfold Hid;rw [B7];simp only [E01.out,E02.out,E2.out,hN,↓reduceIte]
     have HO:Hid (Opn r w3 o):=hop;clear hb hop hN HC;go_wp2_with fail
     refine⟨rfl,HB3.out,?_⟩;rw [HE.out];exact⟨rfl,HO.out⟩
   have E3:Hid (Bo m o p1 = .ok (l,p2)):=hN;rw [hN] at hr;obtain⟨v,rfl,hrd,hk⟩:=hr;have HR3:Hid (Rdr r w3 o p2):=hrd;clear hrd hN HC;obtain⟨hl3,hl0,hsl⟩:=hk;have L3:Hid (p2.length<p1.length):=hl3;have HSL:Hid (SlP (fun b=>w.heap.size+1<=b) w3 4 v l.length (fun i c=>∃x,l[i]? = some x/\ExP (fun b=>w.heap.size+1<=b) w3 (p1.length - p2.length) c x)):=hsl.mono (fun b h=>lq0 HS2.out h) fun i c ⟨x,h1,h2⟩=>⟨x,h1,h2.same (Ap.refl _ _) HS2.out lr0⟩;obtain⟨av,capv,rfl,-,-⟩:=hsl;clear hb hl3 hl0;have HC:Hid _:=Du r o [41] p2 w3 HR3.out;go_wp2_with fail
   refine Calls.mono HC.out ?_;rintro e w4 ⟨hb,hr⟩;have HB4:Hid (But r r w w4):=HB3.out.trans hb;have HS4:Hid (w.heap.size+1<=w4.heap.size):=lq0 HS3.out hb.size;have HG4_0:Hid (Bx (w.heap.size) [.int .i64 0,.int .i64 0,.string ⟨#[]⟩,.slice none 0 0] 31 w4):=HG3_0.out.but hb (by have:=HS3.out;have:=hlt;omega);rcases A6 (A8 [41] p2) with⟨er,hN⟩ | ⟨u3,p3,hN⟩
   . rw [hN] at hr;obtain⟨rfl,hop⟩:=hr;have HE:Hid (B7 (m+1) o s ps = .error er):=by unfold Hid;rw [B7];simp only [E01.out,E02.out,E2.out,E3.out,hN,↓reduceIte]
     have HO:Hid (Opn r w4 o):=hop;clear hb hop hN HC;go_wp2_with fail
     refine⟨rfl,HB4.out,?_⟩;rw [HE.out];exact⟨rfl,HO.out⟩
   have E4:Hid (A8 [41] p2 = .ok (u3,p3)):=hN;rw [hN] at hr;obtain⟨v,rfl,hrd,hk⟩:=hr;have HR4:Hid (Rdr r w4 o p3):=hrd;clear hrd hN HC;have L4:Hid (p3.length+1=p2.length):=Br E4.out;obtain rfl:=hk;have HSL4:Hid (SlP (fun b=>w.heap.size+1<=b) w4 4 (.slice av l.length capv) l.length (fun i c=>∃x,l[i]? = some x/\ExP (fun b=>w.heap.size+1<=b) w4 (p1.length - p2.length) c x)):=HSL.out.stays (by decide) (Ap.but (lo:=w.heap.size+1) hb (by omega)).2 fun i c ⟨x,h1,h2⟩=>⟨x,h1,h2.same (Ap.but hb (by omega)) lr0 lr0⟩;clear hb HSL;obtain⟨g0,g1,g2,g3,z0,z1,z2,z3⟩:=HG4_0.out.four;have HE:Hid (B7 (m+1) o s ps = .ok (A3 11 0 s l,p3)):=by unfold Hid;rw [B7];simp only [E01.out,E02.out,E2.out,E3.out,E4.out,↓reduceIte]
   have HX:Hid (ExP (fun b=>w.heap.size+1<=b) w4 (p1.length - p2.length+1) [.int .i64 11,.int .i64 0,.string S,.slice av l.length capv] (A3 11 0 s l)):=by rw [HSB.out];exact ExP.node (by decide) (by decide) HSS.out HSL4.out
   have HL:Hid (p3.length<(ps.length+1)/\p1.length - p2.length+1<=(ps.length+1) - p3.length):=by unfold Hid;have:=L2.out;have:=L3.out;have:=L4.out;omega
   go_wp2_with fail
   refine bodyPost_ret (v:= .agg #[.int .i64 11,.int .i64 0,.string S,.slice av l.length capv]) (by simp [results,results121,go_sem,g0,g1,g2,g3]) rfl ?_;exact Lr HE.out HB4.out hlt HR4.out HL.out.1 HX.out HL.out.2
 have E02:Hid ((0<J4 s)=False):=by unfold Hid;rw [<-HN0.out];exact eq_false hN1
 go_enter func121,ntmps121
 go_wp2_with fail
 rw [<-HWW.out];clear HWW;refine Calls.mono HC.out ?_;rintro e w1 ⟨rfl,hbl⟩;have hb:But r r W w1:=But.of_below hbl;have HR1:Hid (Rdr r w1 o ps):=HR0.out.below hbl;have HB1:Hid (But r r w w1):=HB0.out.trans hb;have HS1:Hid (w.heap.size+1<=w1.heap.size):=lq0 HS0.out hb.size;have HG1_0:Hid (Bx (w.heap.size) [.int .i64 0,.int .i64 0,.string ⟨#[]⟩,.slice none 0 0] 31 w1):=HG0.out.but hb (by have:=HS0.out;have:=hlt;omega);clear hb hbl HC HAS;have HC:Hid _:=Jo S w1 (by rw [HSB.out];exact Iq HSS.out) HR1.out.tz.words.2;rw [HSB.out,Rp,<-HSB.out] at HC;go_wp2_with fail
 refine Calls.mono HC.out ?_;rintro e w2 ⟨rfl,he⟩;subst he;clear HC;cases hn:Dt s with
 | false =>
  have HE:Hid (B7 (m+1) o s ps = .error 4):=by unfold Hid;rw [B7];simp only [E01.out,E02.out,hn,↓reduceIte]
  clear hn;go_wp2_with fail
  refine (Al 4 _).mono ?_;rintro e w3 ⟨rfl,rfl⟩;go_wp2_with fail
  refine⟨rfl,HB1.out,?_⟩;rw [HE.out];exact⟨rfl,HR1.out.opn⟩
 | true =>
  have E03:Hid (Dt s=true):=hn;clear hn;go_wp2_with fail
  refine (Af 4 _).mono ?_;rintro e w2 ⟨rfl,he⟩;subst he;have HC:Hid _:=P5 r o [91] ps w2 HR1.out;go_wp2_with fail
  refine Calls.mono HC.out ?_;rintro e w3 ⟨rfl,he⟩;subst he;clear HC;cases hS:Aj [91] ps with
  | false =>
   have E04:Hid (Aj [91] ps=false):=hS;clear hS;obtain⟨g0,g1,g2,g3,z0,z1,z2,z3⟩:=HG1_0.out.four;have HE:Hid (B7 (m+1) o s ps = .ok (A3 3 0 s [],ps)):=by unfold Hid;rw [B7];simp only [E01.out,E02.out,E03.out,Bool.true_eq_false,E04.out,Bool.false_eq_true,↓reduceIte]
   have HX:Hid (ExP (fun b=>w.heap.size+1<=b) w3 (1) [.int .i64 3,.int .i64 0,.string S,.slice none 0 0] (A3 3 0 s [])):=by rw [HSB.out];exact ExP.leaf (by decide) (by decide) HSS.out
   have HL:Hid (ps.length<(ps.length+1)/\1<=(ps.length+1) - ps.length):=by unfold Hid;  omega
   go_wp2_with fail
   refine bodyPost_ret (v:= .agg #[.int .i64 3,.int .i64 0,.string S,.slice none 0 0]) (by simp [results,results121,go_sem,g0,g1,g2,g3]) rfl ?_;exact Lr HE.out HB1.out hlt HR1.out HL.out.1 HX.out HL.out.2
  | true =>
   have E04:Hid (Aj [91] ps=true):=hS;clear hS;have HC:Hid _:=HK.out r o ps w3 HR1.out (by omega);go_wp2_with fail
   refine Calls.mono HC.out ?_;rintro e w4 ⟨hb,hr⟩;have HB4:Hid (But r r w w4):=HB1.out.trans hb;have HS4:Hid (w.heap.size+1<=w4.heap.size):=lq0 HS1.out hb.size;have HG4_0:Hid (Bx (w.heap.size) [.int .i64 0,.int .i64 0,.string ⟨#[]⟩,.slice none 0 0] 31 w4):=HG1_0.out.but hb (by have:=HS1.out;have:=hlt;omega);rcases A6 (Fo m o ps) with⟨er,hN⟩ | ⟨x,p1,hN⟩
   . rw [hN] at hr;obtain⟨rfl,hop⟩:=hr;have HE:Hid (B7 (m+1) o s ps = .error er):=by unfold Hid;rw [B7];simp only [E01.out,E02.out,E03.out,Bool.true_eq_false,E04.out,hN,↓reduceIte]
     have HO:Hid (Opn r w4 o):=hop;clear hb hop hN HC;go_wp2_with fail
     refine⟨rfl,HB4.out,?_⟩;rw [HE.out];exact⟨rfl,HO.out⟩
   have E4:Hid (Fo m o ps = .ok (x,p1)):=hN;rw [hN] at hr;obtain⟨v,rfl,hrd,hk⟩:=hr;have HR4:Hid (Rdr r w4 o p1):=hrd;clear hrd hN HC;obtain⟨hl1,cs1,rfl,hx1⟩:=hk;obtain⟨k1,n1,s1,a1,len1,cap1,rfl⟩:=hx1.shape;have L4:Hid (p1.length<ps.length):=hl1;have X1:Hid (ExP (fun b=>w.heap.size+1<=b) w4 (ps.length - p1.length) [.int .i64 k1,.int .i64 n1,.string s1,.slice a1 len1 cap1] x):=hx1.same (Ap.refl _ _) (by have:=HS1.out;omega) lr0;clear hb hl1 hx1;obtain⟨g0,g1,g2,g3,z0,z1,z2,z3⟩:=HG4_0.out.four;have HE:Hid (B7 (m+1) o s ps = .ok (A3 5 0 s [x],p1)):=by unfold Hid;rw [B7];simp only [E01.out,E02.out,E03.out,Bool.true_eq_false,E04.out,E4.out,↓reduceIte]
   have HA9:Hid (Below w4.heap.size w4 (w4.alloc (.cells #[.int .i64 k1,.int .i64 n1,.string s1,.slice a1 len1 cap1] 31))):=br0.alloc lr0 _;have HG9:Hid (Bx w4.heap.size [.int .i64 k1,.int .i64 n1,.string s1,.slice a1 len1 cap1] 31 (w4.alloc (.cells #[.int .i64 k1,.int .i64 n1,.string s1,.slice a1 len1 cap1] 31))):=Bx.new w4 _ _;have HT9_0:Hid (ExP (fun b=>w.heap.size+1<=b) (w4.alloc (.cells #[.int .i64 k1,.int .i64 n1,.string s1,.slice a1 len1 cap1] 31)) (ps.length - p1.length) [.int .i64 k1,.int .i64 n1,.string s1,.slice a1 len1 cap1] x):=X1.out.same (Ap.below HA9.out) lr0 lr0
   have HX:Hid (ExP (fun b=>w.heap.size+1<=b) (w4.alloc (.cells #[.int .i64 k1,.int .i64 n1,.string s1,.slice a1 len1 cap1] 31)) (ps.length - p1.length+1) [.int .i64 5,.int .i64 0,.string S,.slice (some ⟨w4.heap.size,0,none⟩) 1 1] (A3 5 0 s [x])):=by rw [HSB.out];exact ExP.node (by decide) (by decide) HSS.out (SlP.one HG9.out HS4.out HT9_0.out)
   have HL:Hid (p1.length<(ps.length+1)/\ps.length - p1.length+1<=(ps.length+1) - p1.length):=by unfold Hid;have:=L4.out;omega
   have HW9:Hid (w.heap.size<w4.heap.size):=HS4.out;have hw9:w.heap.size<w4.heap.size:=HW9.out;have hv9:¬w.heap.size=w4.heap.size:=by omega
   clear HA9 HG9 HT9_0;go_wp2_with fail
   refine bodyPost_ret (v:= .agg #[.int .i64 5,.int .i64 0,.string S,.slice (some ⟨w4.heap.size,0,none⟩) 1 1]) (by simp [results,results121,go_sem,g0,g1,g2,g3,HW9.out]) rfl ?_;exact Rq HE.out HB4.out hlt HW9.out HR4.out HL.out.1 HX.out HL.out.2
theorem Aew {m:Nat} (hX:Ei m):Aah (m+1):=by
 intro r o ps w h hm;have HX:Hid (Ei m):=hX;have hlt:=h.lt;have hne:¬r=w.heap.size:=by omega
 obtain⟨W,hW⟩:∃W,W=w.alloc (.cells #[.int .i64 0,.int .i64 0,.string ⟨#[]⟩,.slice none 0 0] 31):=⟨_,rfl⟩;have HA:Hid (Below w.heap.size w W):=by rw [hW];exact br0.alloc lr0 _
 have HG:Hid (Bx w.heap.size [.int .i64 0,.int .i64 0,.string ⟨#[]⟩,.slice none 0 0] 31 W):=by rw [hW];exact Bx.new w _ _
 have HSZ:Hid (W.heap.size=w.heap.size+1):=by rw [hW];simp [Hid]
 have HWW:Hid (W=_):=hW;have HN:Hid _:=Du r o [91] ps W (h.below HA.out);clear hX hW h;go_enter func117,ntmps117
 go_wp2_with fail
 rw [<-HWW.out];clear HWW;refine Calls.mono HN.out ?_;rintro e w1 ⟨hb1,hr⟩;cases hN:A8 [91] ps with
 | error er =>
  rw [hN] at hr;have HE:Hid (Fo (m+1) o ps = .error er):=by unfold Hid;rw [Fo];simp only [hN]
  obtain⟨rfl,hop⟩:=hr;have HB:Hid (But r r w w1/\Opn r w1 o):=⟨hb1.below' HA.out,hop⟩;clear hb1 hop hN HN;go_wp2_with fail
  refine⟨rfl,HB.out.1,?_⟩;rw [HE.out];exact⟨rfl,HB.out.2⟩
 | ok q =>
  obtain⟨u,p1⟩:=q;have hl1:=Br hN;rw [hN] at hr;have E1:Hid (A8 [91] ps = .ok (u,p1)):=hN;obtain⟨v,rfl,h1,rfl⟩:=hr;have HB1:Hid (But r r W w1):=hb1;have HP:Hid _:=HX.out r o p1 w1 h1 (by omega);clear hb1 hN HN h1;go_wp2_with fail
  refine Calls.mono HP.out ?_;rintro e w2 ⟨hb2,hr⟩;cases hN:Ax m o p1 with
  | error er =>
   rw [hN] at hr;have HE:Hid (Fo (m+1) o ps = .error er):=by unfold Hid;rw [Fo];simp only [E1.out,hN]
   obtain⟨rfl,hop⟩:=hr;have HB:Hid (But r r w w2/\Opn r w2 o):=⟨(HB1.out.trans hb2).below' HA.out,hop⟩;clear hb2 hop hN HP;go_wp2_with fail
   refine⟨rfl,HB.out.1,?_⟩;rw [HE.out];exact⟨rfl,HB.out.2⟩
  | ok q =>
   obtain⟨x,p2⟩:=q;rw [hN] at hr;obtain⟨v,rfl,h2,hl2,cs,rfl,hx⟩:=hr;obtain⟨k1,n1,s1,a1,len1,cap1,rfl⟩:=hx.shape;have HX1:Hid (ExP (fun b=>w1.heap.size<=b) w2 (p1.length - p2.length) [.int .i64 k1,.int .i64 n1,.string s1,.slice a1 len1 cap1] x):=hx;have HB2:Hid (But r r W w2):=HB1.out.trans hb2;have HS1:Hid (w1.heap.size<=w2.heap.size/\W.heap.size<=w1.heap.size/\p2.length<p1.length/\p1.length+1=ps.length):=⟨hb2.size,HB1.out.size,hl2,hl1⟩;obtain⟨W2,hW2⟩:∃W2,W2=w2.alloc (.cells #[.int .i64 k1,.int .i64 n1,.string s1,.slice a1 len1 cap1] 31):=⟨_,rfl⟩;have HA2:Hid (Below w2.heap.size w2 W2):=by rw [hW2];exact br0.alloc lr0 _
   have HG2:Hid (Bx w2.heap.size [.int .i64 k1,.int .i64 n1,.string s1,.slice a1 len1 cap1] 31 W2):=by rw [hW2];exact Bx.new w2 _ _
   have HWW:Hid (W2=_):=hW2;have HQ:Hid _:=Du r o [93] p2 W2 (h2.below HA2.out);clear hb2 hx h2 hW2 HP hl1 hl2;go_wp2_with fail
   rw [<-HWW.out];clear HWW;refine Calls.mono HQ.out ?_;rintro e w3 ⟨hb3,hr⟩;cases hN2:A8 [93] p2 with
   | error er =>
    rw [hN2] at hr;have HE:Hid (Fo (m+1) o ps = .error er):=by unfold Hid;rw [Fo];simp only [E1.out,hN,hN2]
    obtain⟨rfl,hop⟩:=hr;have HB:Hid (But r r w w3/\Opn r w3 o):=⟨((HB2.out.more HA2.out).trans hb3).below' HA.out,hop⟩;clear hb3 hop hN hN2 HQ;go_wp2_with fail
    refine⟨rfl,HB.out.1,?_⟩;rw [HE.out];exact⟨rfl,HB.out.2⟩
   | ok q =>
    obtain⟨u,p3⟩:=q;have hl3:=Br hN2;rw [hN2] at hr;have HE:Hid (Fo (m+1) o ps = .ok (x,p3)):=by unfold Hid;rw [Fo];simp only [E1.out,hN,hN2]
    obtain⟨v,rfl,h3,rfl⟩:=hr;have HB3:Hid (But r r W w3):=(HB2.out.more HA2.out).trans hb3;have HG3:Hid (Bx w2.heap.size [.int .i64 k1,.int .i64 n1,.string s1,.slice a1 len1 cap1] 31 w3):=HG2.out.but hb3 (by have:=HS1.out;have:=HSZ.out;omega);have HG0:Hid (Bx w.heap.size [.int .i64 0,.int .i64 0,.string ⟨#[]⟩,.slice none 0 0] 31 w3):=HG.out.but HB3.out hlt;obtain⟨q0,q1,q2,q3,-⟩:=HG3.out.four;obtain⟨g0,g1,g2,g3,z0,z1,z2,z3⟩:=HG0.out.four;clear hN hN2 HQ;have HX3:Hid (ExP (fun b=>w.heap.size+1<=b) w3 (p1.length - p2.length) [.int .i64 k1,.int .i64 n1,.string s1,.slice a1 len1 cap1] x):=HX1.out.same ((Ap.below HA2.out).trans (Ap.but hb3 (by have:=HS1.out;have:=HSZ.out;omega))) (by have:=HS1.out;have:=HSZ.out;omega) lr0;have HR3:Hid (Rdr r w3 o p3):=h3;have HL3:Hid (p3.length<ps.length/\p1.length - p2.length<=ps.length - p3.length):=by have:=HS1.out;unfold Hid;omega
    clear hb3 h3 hl3;go_wp2_with fail
    refine bodyPost_ret (v:= .agg #[.int .i64 k1,.int .i64 n1,.string s1,.slice a1 len1 cap1]) (by simp [results,results117,go_sem,g0,g1,g2,g3]) rfl ?_;exact Lr HE.out (HB3.out.below' HA.out) hlt HR3.out HL3.out.1 HX3.out HL3.out.2
end Go.Proofs.YtppcohadoilpgaaGreatDoor
