/-
  Contracts of the reader's branch, each and stmt.
-/
import Derived.Test.YtppcohadoilpgaaGreatDoorRdSi
namespace Go.Proofs.YtppcohadoilpgaaGreatDoor
open Go.ChangeShapes Go.WideShapes Go.ChangeAt Go.RowKit Go.Joins Go.Maps Go.Proofs.Tryz
set_option maxHeartbeats 4000000
set_option linter.unusedVariables false
def Cv (m:Nat) (o:Int) (ps:List Pc):Rd Sm:=match Cn m o ps with
 | .error e=> .error e
 | .ok (x,p1)=>match A5 m o p1 with
  | .error e=> .error e
  | .ok (b,p2)=>if Aj [101,108,115,101] p2 then
   match A5 m o p2.tail with
   | .error e=> .error e
   | .ok (c,p3)=> .ok (Bk 5 [] [] [x] b c,p3)
   else .ok (Bk 5 [] [] [x] b [],p2)
def D2 (m:Nat) (o:Int) (ps:List Pc):Rd Sm:=match A8 [40] ps with
 | .error e=> .error e
 | .ok (_,p1)=>match nmR p1 with
  | .error e=> .error e
  | .ok (s,p2)=>match A8 [105,110] p2 with
   | .error e=> .error e
   | .ok (_,p3)=>match nmR p3 with
    | .error e=> .error e
    | .ok (t,p4)=>match A8 [41] p4 with
     | .error e=> .error e
     | .ok (_,p5)=>match A5 m o p5 with
      | .error e=> .error e
      | .ok (b,p6)=> .ok (Bk 7 s t [] b [],p6)
theorem Zx {m:Nat} {o:Int} {ps:List Pc} (h:Aj [105,102] ps=true):Bn (m+1) o ps=Cv m o ps.tail:=by
 rw [Bn,if_pos h];rfl
theorem Wz {m:Nat} {o:Int} {ps:List Pc} (h1:Aj [105,102] ps=false) (h2:Aj [119,104,105,108,101] ps=false) (h3:Aj [102,111,114] ps=true):Bn (m+1) o ps=D2 m o ps.tail:=by
 rw [Bn,if_neg (by simp [h1]),if_neg (by simp [h2]),if_pos h3];rfl
theorem Bx.put6_1 {g:Nat} {a b c d e f:Value} {T:TypeId} {w:World} (h:Bx g [a,b,c,d,e,f] T w) (v:Value):Bx g [a,v,c,d,e,f] T (w.setCell ⟨g,1,none⟩ v):=by
 have h':w.heap[g]? = some (.cells #[a,b,c,d,e,f] T (0,0)):=h;simp [Bx,World.setCell,Array.getElem?_modify,h']
theorem Bx.put6_2 {g:Nat} {a b c d e f:Value} {T:TypeId} {w:World} (h:Bx g [a,b,c,d,e,f] T w) (v:Value):Bx g [a,b,v,d,e,f] T (w.setCell ⟨g,2,none⟩ v):=by
 have h':w.heap[g]? = some (.cells #[a,b,c,d,e,f] T (0,0)):=h;simp [Bx,World.setCell,Array.getElem?_modify,h']
theorem Ap.setHi {lo g:Nat} {a w:World} (h:Ap lo a w) (hg:a.heap.size<=g) (o:Nat) (v:Value):Ap lo a (w.setCell ⟨g,o,none⟩ v) :=
 ⟨by simp [World.setCell,h.1],fun b h1 h2=>(Below.heap_setCell _ _ _ _ (by simp;omega)).trans (h.2 b h1 h2)⟩
theorem Xr {m:Nat} (hBL:Es m) (r:Nat) (o:Int) (ps:List Pc) (w:World) (h:Rdr r w o ps) (hm:20 * ps.length+1<=m) :
 Calls prog 92 #[.pointer (some ⟨r,0,none⟩)] w (Ce r o w (Cv m o ps) (KS w ps.length)):=by
 have HBL:Hid (Es m):=hBL;clear hBL;have hlt:=h.lt;have lo:=h.lo;have hsh:=h.short;obtain⟨W,hW⟩:∃W,W=w.alloc (.cells #[.int .i64 0,.string ⟨#[]⟩,.string ⟨#[]⟩,.slice none 0 0,.slice none 0 0,.slice none 0 0] 54):=⟨_,rfl⟩;have HA0:Hid (Below w.heap.size w W):=by rw [hW];exact br0.alloc lr0 _
 have HG0:Hid (Bx (w.heap.size) [.int .i64 0,.string ⟨#[]⟩,.string ⟨#[]⟩,.slice none 0 0,.slice none 0 0,.slice none 0 0] 54 W):=by rw [hW];exact Bx.new w _ _
 have HS0:Hid (w.heap.size+1<=W.heap.size):=by rw [hW];simp [Hid]
 have HB0:Hid (But r r w W):=But.of_below HA0.out;have HR0:Hid (Rdr r W o ps):=h.below HA0.out;have HWW:Hid (W=_):=hW;clear hW h;go_enter func92,ntmps92
 have HC:Hid _:=pk (R0:=Cv m o ps) (K0:=KS w ps.length) (Lu m r o ps W HR0.out (by  omega)) HB0.out (fun er hN=>by rw [Cv];simp only [hN]);go_wp2_with fail
 rw [<-HWW.out];clear HWW;refine Calls.mono HC.out ?_;rintro e w1 (⟨er,rfl,F⟩ | ⟨v,x,p1,rfl,F⟩)
 . go_wp2_with fail
   exact⟨rfl,F.out⟩
 obtain⟨hN,hb,hrd,hk⟩:=F.out;have E1:Hid (Cn m o ps = .ok (x,p1)):=hN;have HB1:Hid (But r r w w1):=HB0.out.trans hb;have HS1:Hid (w.heap.size+1<=w1.heap.size):=lq0 HS0.out hb.size;have HP1_0:Hid (Bx (w.heap.size) [.int .i64 0,.string ⟨#[]⟩,.string ⟨#[]⟩,.slice none 0 0,.slice none 0 0,.slice none 0 0] 54 w1):=HG0.out.but hb hlt;have HR1:Hid (Rdr r w1 o p1):=hrd;obtain⟨hl,hx⟩:=hk
 replace hx:LEx _ _ _ _ _:=hx
 obtain⟨a1,len1,cap1,rfl⟩:=hx.shape;have L1:Hid (p1.length<ps.length):=hl;have XR1:Hid (LEx _ w1 _ _ _):=hx;have X1:Hid (LEx (w.heap.size+1) w1 (ps.length - p1.length) (.slice a1 len1 cap1) [x]):=hx.same (Ap.refl _ _) (by have:=HS0.out;omega) lr0;clear hl hx;clear hN hb hrd F HC;have HC:Hid _:=pk (R0:=Cv m o ps) (K0:=KS w ps.length) (HBL.out r o p1 w1 HR1.out (by have:=L1.out;omega)) HB1.out (fun er hN=>by rw [Cv];simp only [E1.out,hN]);go_wp2_with fail
 refine Calls.mono HC.out ?_;rintro e w2 (⟨er,rfl,F⟩ | ⟨v,b,p2,rfl,F⟩)
 . go_wp2_with fail
   exact⟨rfl,F.out⟩
 obtain⟨hN,hb,hrd,hk⟩:=F.out;have E2:Hid (A5 m o p1 = .ok (b,p2)):=hN;have HB2:Hid (But r r w w2):=HB1.out.trans hb;have HS2:Hid (w.heap.size+1<=w2.heap.size):=lq0 HS1.out hb.size;have HP2_0:Hid (Bx (w.heap.size) [.int .i64 0,.string ⟨#[]⟩,.string ⟨#[]⟩,.slice none 0 0,.slice none 0 0,.slice none 0 0] 54 w2):=HP1_0.out.but hb hlt;have HP2_1:Hid (LEx (w.heap.size+1) w2 (ps.length - p1.length) (.slice a1 len1 cap1) [x]):=X1.out.same (Ap.but hb (by omega)) lr0 lr0;have HR2:Hid (Rdr r w2 o p2):=hrd;obtain⟨hl,hx⟩:=hk
 replace hx:LSm _ _ _ _ _:=hx
 obtain⟨a2,len2,cap2,rfl⟩:=hx.shape;have L2:Hid (p2.length<p1.length):=hl;have XR2:Hid (LSm _ w2 _ _ _):=hx;have X2:Hid (LSm (w.heap.size+1) w2 (p1.length - p2.length) (.slice a2 len2 cap2) b):=hx.same (Ap.refl _ _) (by have:=HS1.out;omega) lr0;clear hl hx;clear hN hb hrd F HC;have SM0:Hid (Ap (w.heap.size+1) w2 w2):=Ap.refl _ _;obtain⟨W2,hW⟩:∃W',W'=w2.alloc (.cells #[.int .i64 5,.string ⟨#[]⟩,.string ⟨#[]⟩,.slice a1 len1 cap1,.slice a2 len2 cap2,.slice none 0 0] 54):=⟨_,rfl⟩;have HA:Hid (Below w2.heap.size w2 W2):=by rw [hW];exact br0.alloc lr0 _
 have HGn2:Hid (Bx (w2.heap.size) [.int .i64 5,.string ⟨#[]⟩,.string ⟨#[]⟩,.slice a1 len1 cap1,.slice a2 len2 cap2,.slice none 0 0] 54 W2):=by rw [hW];exact Bx.new w2 _ _
 have HBb2:Hid (But r r w W2):=HB2.out.more HA.out;have HSb2:Hid (w.heap.size+1<=W2.heap.size):=lq0 HS2.out HA.out.size;have HRb2:Hid (Rdr r W2 o p2):=HR2.out.below HA.out;have HWW:Hid (W2=_):=hW;have HQ2_0:Hid (Bx (w.heap.size) [.int .i64 0,.string ⟨#[]⟩,.string ⟨#[]⟩,.slice none 0 0,.slice none 0 0,.slice none 0 0] 54 W2):=HP2_0.out.below HA.out;have HQ2_1:Hid (LEx (w.heap.size+1) W2 (ps.length - p1.length) (.slice a1 len1 cap1) [x]):=HP2_1.out.same (Ap.below HA.out) lr0 lr0;have HQ2_2:Hid (LSm (w.heap.size+1) W2 (p1.length - p2.length) (.slice a2 len2 cap2) b):=X2.out.same (Ap.below HA.out) lr0 lr0;have HQ2_3:Hid (Ap (w.heap.size+1) w2 W2):=SM0.out.trans (Ap.below HA.out);clear hW HA;have HC:Hid _:=C8 r o [101,108,115,101] p2 W2 HRb2.out;cases hS:Aj [101,108,115,101] p2 with
 | true =>
  rw [hS] at HC;have ES3:Hid (Aj [101,108,115,101] p2=true):=hS;have L3:Hid (p2.tail.length+1=p2.length):=Bs hS;clear hS;go_wp2_with fail
  rw [<-HWW.out];clear HWW;refine Calls.mono HC.out ?_;rintro e w3 ⟨rfl,hrd0,hb⟩;have hrd:Rdr r w3 o p2.tail:=by simpa using hrd0
  obtain⟨pt3,hpt⟩:∃pt,p2.tail=pt:=⟨_,rfl⟩;have HPT3:Hid (p2.tail=pt3):=hpt;rw [hpt] at hrd L3;have HB3:Hid (But r r w w3):=HBb2.out.trans hb;have HS3:Hid (w.heap.size+1<=w3.heap.size):=lq0 HSb2.out hb.size;have HP3_0:Hid (Bx (w.heap.size) [.int .i64 0,.string ⟨#[]⟩,.string ⟨#[]⟩,.slice none 0 0,.slice none 0 0,.slice none 0 0] 54 w3):=HQ2_0.out.but hb hlt;have HP3_1:Hid (LEx (w.heap.size+1) w3 (ps.length - p1.length) (.slice a1 len1 cap1) [x]):=HQ2_1.out.same (Ap.but hb (by omega)) lr0 lr0;have HP3_2:Hid (LSm (w.heap.size+1) w3 (p1.length - p2.length) (.slice a2 len2 cap2) b):=HQ2_2.out.same (Ap.but hb (by omega)) lr0 lr0;have HP3_3:Hid (Ap (w.heap.size+1) w2 w3):=HQ2_3.out.trans (Ap.but hb (by omega));have HP3_4:Hid (Bx (w2.heap.size) [.int .i64 5,.string ⟨#[]⟩,.string ⟨#[]⟩,.slice a1 len1 cap1,.slice a2 len2 cap2,.slice none 0 0] 54 w3):=HGn2.out.but hb (by have:=HS2.out;omega)
  have HR3:Hid (Rdr r w3 o pt3):=hrd;clear hpt hrd0;clear hb hrd HC;have HGL:Hid (w2.heap.size<w3.heap.size):=HP3_4.out.lt;have HC:Hid _:=pk (R0:=Cv m o ps) (K0:=KS w ps.length) (HBL.out r o pt3 w3 HR3.out (by have:=L1.out;have:=L2.out;have:=L3.out;omega)) HB3.out (fun er hN=>by rw [Cv];simp only [E1.out,E2.out,ES3.out,HPT3.out,hN,↓reduceIte]);go_wp2_with fail
  refine Calls.mono HC.out ?_;rintro e w4 (⟨er,rfl,F⟩ | ⟨v,c,p3,rfl,F⟩)
  . go_wp2_with fail
    exact⟨rfl,F.out⟩
  obtain⟨hN,hb,hrd,hk⟩:=F.out;have E4:Hid (A5 m o pt3 = .ok (c,p3)):=hN;have HB4:Hid (But r r w w4):=HB3.out.trans hb;have HS4:Hid (w.heap.size+1<=w4.heap.size):=lq0 HS3.out hb.size;have HP4_0:Hid (Bx (w.heap.size) [.int .i64 0,.string ⟨#[]⟩,.string ⟨#[]⟩,.slice none 0 0,.slice none 0 0,.slice none 0 0] 54 w4):=HP3_0.out.but hb hlt;have HP4_1:Hid (LEx (w.heap.size+1) w4 (ps.length - p1.length) (.slice a1 len1 cap1) [x]):=HP3_1.out.same (Ap.but hb (by omega)) lr0 lr0;have HP4_2:Hid (LSm (w.heap.size+1) w4 (p1.length - p2.length) (.slice a2 len2 cap2) b):=HP3_2.out.same (Ap.but hb (by omega)) lr0 lr0;have HP4_3:Hid (Ap (w.heap.size+1) w2 w4):=HP3_3.out.trans (Ap.but hb (by omega));have HP4_4:Hid (Bx (w2.heap.size) [.int .i64 5,.string ⟨#[]⟩,.string ⟨#[]⟩,.slice a1 len1 cap1,.slice a2 len2 cap2,.slice none 0 0] 54 w4):=HP3_4.out.but hb (by have:=HS2.out;omega)
  have HR4:Hid (Rdr r w4 o p3):=hrd;obtain⟨hl,hx⟩:=hk
  replace hx:LSm _ _ _ _ _:=hx
  obtain⟨a4,len4,cap4,rfl⟩:=hx.shape;have L4:Hid (p3.length<pt3.length):=hl;have XR4:Hid (LSm _ w4 _ _ _):=hx;have X4:Hid (LSm (w.heap.size+1) w4 (pt3.length - p3.length) (.slice a4 len4 cap4) c):=hx.same (Ap.refl _ _) (by have:=HS3.out;omega) lr0;clear hl hx;clear hN hb hrd F HC;obtain⟨e0,e1,e2,e3,e4,e5,y0,y1,y2,y3,y4,y5⟩:=HP4_4.out.six;obtain⟨g0,g1,g2,g3,g4,g5,z0,z1,z2,z3,z4,z5⟩:=HP4_0.out.six;have HE:Hid (Cv m o ps = .ok (Bk 5 [] [] [x] b c,p3)):=by unfold Hid;rw [Cv];simp only [E1.out,E2.out,ES3.out,HPT3.out,E4.out,↓reduceIte]
  have SMV:Ap (w.heap.size+1) w2 (w4.setCell ⟨w2.heap.size,5,none⟩ (.slice a4 len4 cap4)):=HP4_3.out.setHi lr0 5 _;have HX:Hid (SmP (fun b=>w.heap.size+1<=b) (w4.setCell ⟨w2.heap.size,5,none⟩ (.slice a4 len4 cap4)) ((ps.length - p3.length - 1)+1) [.int .i64 5,.string ⟨#[]⟩,.string ⟨#[]⟩,.slice a1 len1 cap1,.slice a2 len2 cap2,.slice a4 len4 cap4] (Bk 5 [] [] [x] b c)):=SmP.node (s:= []) (t:= []) (by decide) (by decide) (by decide) (HP2_1.out.same SMV lr0 (by have:=L1.out;have:=L2.out;have:=L3.out;have:=L4.out;omega)) (X2.out.same SMV lr0 (by have:=L1.out;have:=L2.out;have:=L3.out;have:=L4.out;omega)) (XR4.out.same ((Ap.refl _ _).set HGL.out 5 _) (by have:=HS3.out;omega) (by have:=L1.out;have:=L2.out;have:=L3.out;have:=L4.out;omega))
  have HL:Hid (p3.length<ps.length/\(ps.length - p3.length - 1)+1<=ps.length - p3.length):=by unfold Hid;have:=L1.out;have:=L2.out;have:=L3.out;have:=L4.out;omega
  have hgl:=HS2.out;have hne:¬w2.heap.size=w.heap.size:=by omega
  have hne2:¬w.heap.size=w2.heap.size:=by omega
  have HWV:Hid (Cb (w2.heap.size) w4 (w4.setCell ⟨w2.heap.size,5,none⟩ (.slice a4 len4 cap4))):=(Cb.refl _ _).set _ _;have HBV:Hid (But r r w (w4.setCell ⟨w2.heap.size,5,none⟩ (.slice a4 len4 cap4))):=HWV.out.but HB4.out (by omega);have HRV:Hid (Rdr r (w4.setCell ⟨w2.heap.size,5,none⟩ (.slice a4 len4 cap4)) o p3):=HR4.out.low (HWV.out.below (by omega));clear SMV;go_wp2_with fail
  refine bodyPost_ret (v:= .agg #[.int .i64 5,.string ⟨#[]⟩,.string ⟨#[]⟩,.slice a1 len1 cap1,.slice a2 len2 cap2,.slice a4 len4 cap4]) (by simp [results,results92,go_sem,g0,g1,g2,g3,g4,g5]) rfl ?_;exact Ki HE.out HBV.out hlt HRV.out HL.out.1 HX.out HL.out.2
 | false =>
  rw [hS] at HC;have ES3:Hid (Aj [101,108,115,101] p2=false):=hS;clear hS;go_wp2_with fail
  rw [<-HWW.out];clear HWW;refine Calls.mono HC.out ?_;rintro e w3 ⟨rfl,hrd0,hb⟩;have hrd:Rdr r w3 o p2:=by simpa using hrd0
  clear hrd0;have HB3:Hid (But r r w w3):=HBb2.out.trans hb;have HS3:Hid (w.heap.size+1<=w3.heap.size):=lq0 HSb2.out hb.size;have HP3_0:Hid (Bx (w.heap.size) [.int .i64 0,.string ⟨#[]⟩,.string ⟨#[]⟩,.slice none 0 0,.slice none 0 0,.slice none 0 0] 54 w3):=HQ2_0.out.but hb hlt;have HP3_1:Hid (LEx (w.heap.size+1) w3 (ps.length - p1.length) (.slice a1 len1 cap1) [x]):=HQ2_1.out.same (Ap.but hb (by omega)) lr0 lr0;have HP3_2:Hid (LSm (w.heap.size+1) w3 (p1.length - p2.length) (.slice a2 len2 cap2) b):=HQ2_2.out.same (Ap.but hb (by omega)) lr0 lr0;have HP3_3:Hid (Ap (w.heap.size+1) w2 w3):=HQ2_3.out.trans (Ap.but hb (by omega));have HP3_4:Hid (Bx (w2.heap.size) [.int .i64 5,.string ⟨#[]⟩,.string ⟨#[]⟩,.slice a1 len1 cap1,.slice a2 len2 cap2,.slice none 0 0] 54 w3):=HGn2.out.but hb (by have:=HS2.out;omega);have HR3:Hid (Rdr r w3 o p2):=hrd;clear hb hrd HC
  obtain⟨e0,e1,e2,e3,e4,e5,y0,y1,y2,y3,y4,y5⟩:=HP3_4.out.six;obtain⟨g0,g1,g2,g3,g4,g5,z0,z1,z2,z3,z4,z5⟩:=HP3_0.out.six;have HE:Hid (Cv m o ps = .ok (Bk 5 [] [] [x] b [],p2)):=by unfold Hid;rw [Cv];simp only [E1.out,E2.out,ES3.out,Bool.false_eq_true,↓reduceIte]
  have HX:Hid (SmP (fun b=>w.heap.size+1<=b) w3 ((ps.length - p2.length - 1)+1) [.int .i64 5,.string ⟨#[]⟩,.string ⟨#[]⟩,.slice a1 len1 cap1,.slice a2 len2 cap2,.slice none 0 0] (Bk 5 [] [] [x] b [])):=SmP.node (s:= []) (t:= []) (by decide) (by decide) (by decide) (HP2_1.out.same HP3_3.out lr0 (by have:=L1.out;have:=L2.out;omega)) (X2.out.same HP3_3.out lr0 (by have:=L1.out;have:=L2.out;omega)) (LSm.nil _ _ _);have HL:Hid (p2.length<ps.length/\(ps.length - p2.length - 1)+1<=ps.length - p2.length):=by unfold Hid;have:=L1.out;have:=L2.out;omega
  go_wp2_with fail
  refine bodyPost_ret (v:= .agg #[.int .i64 5,.string ⟨#[]⟩,.string ⟨#[]⟩,.slice a1 len1 cap1,.slice a2 len2 cap2,.slice none 0 0]) (by simp [results,results92,go_sem,g0,g1,g2,g3,g4,g5]) rfl ?_;exact Ki HE.out HB3.out hlt HR3.out HL.out.1 HX.out HL.out.2
theorem Aec {m:Nat} (hBL:Es m) (r:Nat) (o:Int) (ps:List Pc) (w:World) (h:Rdr r w o ps) (hm:20 * ps.length+1<=m) :
 Calls prog 94 #[.pointer (some ⟨r,0,none⟩)] w (Ce r o w (D2 m o ps) (KS w ps.length)):=by
 have HBL:Hid (Es m):=hBL;clear hBL;have hlt:=h.lt;have lo:=h.lo;have hsh:=h.short;obtain⟨W,hW⟩:∃W,W=w.alloc (.cells #[.int .i64 0,.string ⟨#[]⟩,.string ⟨#[]⟩,.slice none 0 0,.slice none 0 0,.slice none 0 0] 54):=⟨_,rfl⟩;have HA0:Hid (Below w.heap.size w W):=by rw [hW];exact br0.alloc lr0 _
 have HG0:Hid (Bx (w.heap.size) [.int .i64 0,.string ⟨#[]⟩,.string ⟨#[]⟩,.slice none 0 0,.slice none 0 0,.slice none 0 0] 54 W):=by rw [hW];exact Bx.new w _ _
 have HS0:Hid (w.heap.size+1<=W.heap.size):=by rw [hW];simp [Hid]
 have HB0:Hid (But r r w W):=But.of_below HA0.out;have HR0:Hid (Rdr r W o ps):=h.below HA0.out;have HWW:Hid (W=_):=hW;clear hW h;obtain⟨WB,hWB⟩:∃W',W'=W.alloc (.cells #[.int .i64 7,.string ⟨#[]⟩,.string ⟨#[]⟩,.slice none 0 0,.slice none 0 0,.slice none 0 0] 54):=⟨_,rfl⟩;have HA:Hid (Below W.heap.size W WB):=by rw [hWB];exact br0.alloc lr0 _
 have HGn0:Hid (Bx (W.heap.size) [.int .i64 7,.string ⟨#[]⟩,.string ⟨#[]⟩,.slice none 0 0,.slice none 0 0,.slice none 0 0] 54 WB):=by rw [hWB];exact Bx.new W _ _
 have HBb0:Hid (But r r w WB):=HB0.out.more HA.out;have HSb0:Hid (w.heap.size+1<=WB.heap.size):=lq0 HS0.out HA.out.size;have HRb0:Hid (Rdr r WB o ps):=HR0.out.below HA.out;have HQ0_0:Hid (Bx (w.heap.size) [.int .i64 0,.string ⟨#[]⟩,.string ⟨#[]⟩,.slice none 0 0,.slice none 0 0,.slice none 0 0] 54 WB):=HG0.out.below HA.out;have HWZ:Hid (W.heap.size=w.heap.size+1):=by rw [HWW.out];simp [Hid]
 have HWW2:Hid (WB=_):=hWB;clear hWB HA;go_enter func94,ntmps94
 have HC:Hid _:=pk (R0:=D2 m o ps) (K0:=KS w ps.length) (Du r o [40] ps WB HRb0.out) HBb0.out (fun er hN=>by rw [D2];simp only [hN]);go_wp2_with fail
 rw [<-HWW.out,<-HWZ.out,<-HWW2.out];clear HWW HWW2;refine Calls.mono HC.out ?_;rintro e w1 (⟨er,rfl,F⟩ | ⟨v,up1,p1,rfl,F⟩)
 . go_wp2_with fail
   exact⟨rfl,F.out⟩
 obtain⟨hN,hb,hrd,hk⟩:=F.out;have E1:Hid (A8 [40] ps = .ok (up1,p1)):=hN;have HB1:Hid (But r r w w1):=HBb0.out.trans hb;have HS1:Hid (w.heap.size+1<=w1.heap.size):=lq0 HSb0.out hb.size;have HP1_0:Hid (Bx (w.heap.size) [.int .i64 0,.string ⟨#[]⟩,.string ⟨#[]⟩,.slice none 0 0,.slice none 0 0,.slice none 0 0] 54 w1):=HQ0_0.out.but hb hlt;have HP1_1:Hid (Bx (W.heap.size) [.int .i64 7,.string ⟨#[]⟩,.string ⟨#[]⟩,.slice none 0 0,.slice none 0 0,.slice none 0 0] 54 w1):=HGn0.out.but hb (by have:=HS0.out;omega);have HR1:Hid (Rdr r w1 o p1):=hrd;have L1:Hid (p1.length+1=ps.length):=Br hN;obtain rfl:v = .tuple #[]:=hk;clear hN hb hrd F HC;have HC:Hid _:=pk (R0:=D2 m o ps) (K0:=KS w ps.length) (Ti r o p1 w1 HR1.out) HB1.out (fun er hN=>by rw [D2];simp only [E1.out,hN]);go_wp2_with fail
 refine Calls.mono HC.out ?_;rintro e w2 (⟨er,rfl,F⟩ | ⟨v,s,p2,rfl,F⟩)
 . go_wp2_with fail
   exact⟨rfl,F.out⟩
 obtain⟨hN,hb,hrd,hk⟩:=F.out;have E2:Hid (nmR p1 = .ok (s,p2)):=hN;have HB2:Hid (But r r w w2):=HB1.out.trans hb;have HS2:Hid (w.heap.size+1<=w2.heap.size):=lq0 HS1.out hb.size;have HP2_0:Hid (Bx (w.heap.size) [.int .i64 0,.string ⟨#[]⟩,.string ⟨#[]⟩,.slice none 0 0,.slice none 0 0,.slice none 0 0] 54 w2):=HP1_0.out.but hb hlt;have HP2_1:Hid (Bx (W.heap.size) [.int .i64 7,.string ⟨#[]⟩,.string ⟨#[]⟩,.slice none 0 0,.slice none 0 0,.slice none 0 0] 54 w2):=HP1_1.out.but hb (by have:=HS0.out;omega);have HR2:Hid (Rdr r w2 o p2):=hrd;have L2:Hid (p2.length+1=p1.length/\Dt s=true):=Gm hN;obtain rfl:v = .string (bs s):=hk;clear hN hb hrd F HC;obtain⟨q20,q21,q22,q23,q24,q25,y20,y21,y22,y23,y24,y25⟩:=HP2_1.out.six;obtain⟨V2,hW⟩:∃W',W'=w2.setCell ⟨W.heap.size,1,none⟩ (.string (bs s)):=⟨_,rfl⟩;have HA:Hid (Cb (W.heap.size) w2 V2):=by rw [hW];exact (Cb.refl _ _).set _ _
 have hgl:=HS0.out;have HBv2:Hid (But r r w V2):=HA.out.but HB2.out (by omega);have HSv2:Hid (w.heap.size+1<=V2.heap.size):=by unfold Hid;rw [HA.out.size];exact HS2.out
 have HRv2:Hid (Rdr r V2 o p2):=HR2.out.low (HA.out.below (by omega));have HV2_0:Hid (Bx (w.heap.size) [.int .i64 0,.string ⟨#[]⟩,.string ⟨#[]⟩,.slice none 0 0,.slice none 0 0,.slice none 0 0] 54 V2):=(HA.out.block _ (by omega)).trans HP2_0.out;have HGv2:Hid (Bx (W.heap.size) [.int .i64 7,.string (bs s),.string ⟨#[]⟩,.slice none 0 0,.slice none 0 0,.slice none 0 0] 54 V2):=by rw [hW];exact Bx.put6_1 HP2_1.out _
 have HWW:Hid (V2=_):=hW;clear hW HA hgl;have HC:Hid _:=pk (R0:=D2 m o ps) (K0:=KS w ps.length) (Du r o [105,110] p2 V2 HRv2.out) HBv2.out (fun er hN=>by rw [D2];simp only [E1.out,E2.out,hN]);go_wp2_with fail
 rw [<-HWW.out];clear HWW;refine Calls.mono HC.out ?_;rintro e w3 (⟨er,rfl,F⟩ | ⟨v,up3,p3,rfl,F⟩)
 . go_wp2_with fail
   exact⟨rfl,F.out⟩
 obtain⟨hN,hb,hrd,hk⟩:=F.out;have E3:Hid (A8 [105,110] p2 = .ok (up3,p3)):=hN;have HB3:Hid (But r r w w3):=HBv2.out.trans hb;have HS3:Hid (w.heap.size+1<=w3.heap.size):=lq0 HSv2.out hb.size;have HP3_0:Hid (Bx (w.heap.size) [.int .i64 0,.string ⟨#[]⟩,.string ⟨#[]⟩,.slice none 0 0,.slice none 0 0,.slice none 0 0] 54 w3):=HV2_0.out.but hb hlt;have HP3_1:Hid (Bx (W.heap.size) [.int .i64 7,.string (bs s),.string ⟨#[]⟩,.slice none 0 0,.slice none 0 0,.slice none 0 0] 54 w3):=HGv2.out.but hb (by have:=HS0.out;omega);have HR3:Hid (Rdr r w3 o p3):=hrd;have L3:Hid (p3.length+1=p2.length):=Br hN;obtain rfl:v = .tuple #[]:=hk;clear hN hb hrd F HC;have HC:Hid _:=pk (R0:=D2 m o ps) (K0:=KS w ps.length) (Ti r o p3 w3 HR3.out) HB3.out (fun er hN=>by rw [D2];simp only [E1.out,E2.out,E3.out,hN]);go_wp2_with fail
 refine Calls.mono HC.out ?_;rintro e w4 (⟨er,rfl,F⟩ | ⟨v,t,p4,rfl,F⟩)
 . go_wp2_with fail
   exact⟨rfl,F.out⟩
 obtain⟨hN,hb,hrd,hk⟩:=F.out;have E4:Hid (nmR p3 = .ok (t,p4)):=hN;have HB4:Hid (But r r w w4):=HB3.out.trans hb;have HS4:Hid (w.heap.size+1<=w4.heap.size):=lq0 HS3.out hb.size;have HP4_0:Hid (Bx (w.heap.size) [.int .i64 0,.string ⟨#[]⟩,.string ⟨#[]⟩,.slice none 0 0,.slice none 0 0,.slice none 0 0] 54 w4):=HP3_0.out.but hb hlt;have HP4_1:Hid (Bx (W.heap.size) [.int .i64 7,.string (bs s),.string ⟨#[]⟩,.slice none 0 0,.slice none 0 0,.slice none 0 0] 54 w4):=HP3_1.out.but hb (by have:=HS0.out;omega);have HR4:Hid (Rdr r w4 o p4):=hrd;have L4:Hid (p4.length+1=p3.length/\Dt t=true):=Gm hN;obtain rfl:v = .string (bs t):=hk;clear hN hb hrd F HC;obtain⟨q40,q41,q42,q43,q44,q45,y40,y41,y42,y43,y44,y45⟩:=HP4_1.out.six;obtain⟨V4,hW⟩:∃W',W'=w4.setCell ⟨W.heap.size,2,none⟩ (.string (bs t)):=⟨_,rfl⟩;have HA:Hid (Cb (W.heap.size) w4 V4):=by rw [hW];exact (Cb.refl _ _).set _ _
 have hgl:=HS0.out;have HBv4:Hid (But r r w V4):=HA.out.but HB4.out (by omega);have HSv4:Hid (w.heap.size+1<=V4.heap.size):=by unfold Hid;rw [HA.out.size];exact HS4.out
 have HRv4:Hid (Rdr r V4 o p4):=HR4.out.low (HA.out.below (by omega));have HV4_0:Hid (Bx (w.heap.size) [.int .i64 0,.string ⟨#[]⟩,.string ⟨#[]⟩,.slice none 0 0,.slice none 0 0,.slice none 0 0] 54 V4):=(HA.out.block _ (by omega)).trans HP4_0.out;have HGv4:Hid (Bx (W.heap.size) [.int .i64 7,.string (bs s),.string (bs t),.slice none 0 0,.slice none 0 0,.slice none 0 0] 54 V4):=by rw [hW];exact Bx.put6_2 HP4_1.out _
 have HWW:Hid (V4=_):=hW;clear hW HA hgl;have HC:Hid _:=pk (R0:=D2 m o ps) (K0:=KS w ps.length) (Du r o [41] p4 V4 HRv4.out) HBv4.out (fun er hN=>by rw [D2];simp only [E1.out,E2.out,E3.out,E4.out,hN]);go_wp2_with fail
 rw [<-HWW.out];clear HWW;refine Calls.mono HC.out ?_;rintro e w5 (⟨er,rfl,F⟩ | ⟨v,up5,p5,rfl,F⟩)
 . go_wp2_with fail
   exact⟨rfl,F.out⟩
 obtain⟨hN,hb,hrd,hk⟩:=F.out;have E5:Hid (A8 [41] p4 = .ok (up5,p5)):=hN;have HB5:Hid (But r r w w5):=HBv4.out.trans hb;have HS5:Hid (w.heap.size+1<=w5.heap.size):=lq0 HSv4.out hb.size;have HP5_0:Hid (Bx (w.heap.size) [.int .i64 0,.string ⟨#[]⟩,.string ⟨#[]⟩,.slice none 0 0,.slice none 0 0,.slice none 0 0] 54 w5):=HV4_0.out.but hb hlt;have HP5_1:Hid (Bx (W.heap.size) [.int .i64 7,.string (bs s),.string (bs t),.slice none 0 0,.slice none 0 0,.slice none 0 0] 54 w5):=HGv4.out.but hb (by have:=HS0.out;omega);have HR5:Hid (Rdr r w5 o p5):=hrd;have L5:Hid (p5.length+1=p4.length):=Br hN;obtain rfl:v = .tuple #[]:=hk;clear hN hb hrd F HC;have HGL:Hid (W.heap.size<w5.heap.size):=HP5_1.out.lt
 have HC:Hid _:=pk (R0:=D2 m o ps) (K0:=KS w ps.length) (HBL.out r o p5 w5 HR5.out (by have:=L1.out;have:=L2.out;have:=L3.out;have:=L4.out;have:=L5.out;omega)) HB5.out (fun er hN=>by rw [D2];simp only [E1.out,E2.out,E3.out,E4.out,E5.out,hN]);go_wp2_with fail
 refine Calls.mono HC.out ?_;rintro e w6 (⟨er,rfl,F⟩ | ⟨v,b,p6,rfl,F⟩)
 . go_wp2_with fail
   exact⟨rfl,F.out⟩
 obtain⟨hN,hb,hrd,hk⟩:=F.out;have E6:Hid (A5 m o p5 = .ok (b,p6)):=hN;have HB6:Hid (But r r w w6):=HB5.out.trans hb;have HS6:Hid (w.heap.size+1<=w6.heap.size):=lq0 HS5.out hb.size;have HP6_0:Hid (Bx (w.heap.size) [.int .i64 0,.string ⟨#[]⟩,.string ⟨#[]⟩,.slice none 0 0,.slice none 0 0,.slice none 0 0] 54 w6):=HP5_0.out.but hb hlt;have HP6_1:Hid (Bx (W.heap.size) [.int .i64 7,.string (bs s),.string (bs t),.slice none 0 0,.slice none 0 0,.slice none 0 0] 54 w6):=HP5_1.out.but hb (by have:=HS0.out;omega);have HR6:Hid (Rdr r w6 o p6):=hrd;obtain⟨hl,hx⟩:=hk
 replace hx:LSm _ _ _ _ _:=hx
 obtain⟨a6,len6,cap6,rfl⟩:=hx.shape;have L6:Hid (p6.length<p5.length):=hl;have XR6:Hid (LSm _ w6 _ _ _):=hx;have X6:Hid (LSm (w.heap.size+1) w6 (p5.length - p6.length) (.slice a6 len6 cap6) b):=hx.same (Ap.refl _ _) (by have:=HS5.out;omega) lr0;clear hl hx;clear hN hb hrd F HC;obtain⟨e0,e1,e2,e3,e4,e5,y0,y1,y2,y3,y4,y5⟩:=HP6_1.out.six;obtain⟨g0,g1,g2,g3,g4,g5,z0,z1,z2,z3,z4,z5⟩:=HP6_0.out.six;have HE:Hid (D2 m o ps = .ok (Bk 7 s t [] b [],p6)):=by unfold Hid;rw [D2];simp only [E1.out,E2.out,E3.out,E4.out,E5.out,E6.out]
 have HX:Hid (SmP (fun b=>w.heap.size+1<=b) (w6.setCell ⟨W.heap.size,4,none⟩ (.slice a6 len6 cap6)) ((p5.length - p6.length)+1) [.int .i64 7,.string (bs s),.string (bs t),.slice none 0 0,.slice a6 len6 cap6,.slice none 0 0] (Bk 7 s t [] b [])):=SmP.node (s:=s) (t:=t) (by decide) (Dg L2.out.2) (Dg L4.out.2) (LEx.nil _ _ _) (XR6.out.same ((Ap.refl _ _).set HGL.out 4 _) (by have:=HS5.out;omega) (by omega)) (LSm.nil _ _ _);have HL:Hid (p6.length<ps.length/\(p5.length - p6.length)+1<=ps.length - p6.length):=by unfold Hid;have:=L1.out;have:=L2.out;have:=L3.out;have:=L4.out;have:=L5.out;have:=L6.out;omega
 have hgl:=HS0.out;have hne:¬W.heap.size=w.heap.size:=by omega
 have hne2:¬w.heap.size=W.heap.size:=by omega
 have HWV:Hid (Cb (W.heap.size) w6 (w6.setCell ⟨W.heap.size,4,none⟩ (.slice a6 len6 cap6))):=(Cb.refl _ _).set _ _;have HBV:Hid (But r r w (w6.setCell ⟨W.heap.size,4,none⟩ (.slice a6 len6 cap6))):=HWV.out.but HB6.out (by omega);have HRV:Hid (Rdr r (w6.setCell ⟨W.heap.size,4,none⟩ (.slice a6 len6 cap6)) o p6):=HR6.out.low (HWV.out.below (by omega));go_wp2_with fail
 refine bodyPost_ret (v:= .agg #[.int .i64 7,.string (bs s),.string (bs t),.slice none 0 0,.slice a6 len6 cap6,.slice none 0 0]) (by simp [results,results94,go_sem,g0,g1,g2,g3,g4,g5]) rfl ?_;exact Ki HE.out HBV.out hlt HRV.out HL.out.1 HX.out HL.out.2
theorem Zk {m:Nat} (hBL:Es m):Ol (m+1):=by
 intro r o ps w h hm;have HBL:Hid (Es m):=hBL;clear hBL;have hlt:=h.lt;have lo:=h.lo;have hsh:=h.short;obtain⟨W,hW⟩:∃W,W=w.alloc (.cells #[.int .i64 0,.string ⟨#[]⟩,.string ⟨#[]⟩,.slice none 0 0,.slice none 0 0,.slice none 0 0] 54):=⟨_,rfl⟩;have HA0:Hid (Below w.heap.size w W):=by rw [hW];exact br0.alloc lr0 _
 have HG0:Hid (Bx (w.heap.size) [.int .i64 0,.string ⟨#[]⟩,.string ⟨#[]⟩,.slice none 0 0,.slice none 0 0,.slice none 0 0] 54 W):=by rw [hW];exact Bx.new w _ _
 have HS0:Hid (w.heap.size+1<=W.heap.size):=by rw [hW];simp [Hid]
 have HB0:Hid (But r r w W):=But.of_below HA0.out;have HR0:Hid (Rdr r W o ps):=h.below HA0.out;have HWW:Hid (W=_):=hW;clear hW h;go_enter func67,ntmps67
 have HC:Hid _:=C8 r o [105,102] ps W HR0.out;cases hS:Aj [105,102] ps with
 | true =>
  rw [hS] at HC;have ES1:Hid (Aj [105,102] ps=true):=hS;have L1:Hid (ps.tail.length+1=ps.length):=Bs hS;clear hS;go_wp2_with fail
  rw [<-HWW.out];clear HWW;refine Calls.mono HC.out ?_;rintro e w1 ⟨rfl,hrd0,hb⟩;have hrd:Rdr r w1 o ps.tail:=by simpa using hrd0
  obtain⟨pt1,hpt⟩:∃pt,ps.tail=pt:=⟨_,rfl⟩;have HPT1:Hid (ps.tail=pt1):=hpt;rw [hpt] at hrd L1;have HB1:Hid (But r r w w1):=HB0.out.trans hb;have HS1:Hid (w.heap.size+1<=w1.heap.size):=lq0 HS0.out hb.size;have HP1_0:Hid (Bx (w.heap.size) [.int .i64 0,.string ⟨#[]⟩,.string ⟨#[]⟩,.slice none 0 0,.slice none 0 0,.slice none 0 0] 54 w1):=HG0.out.but hb hlt;have HR1:Hid (Rdr r w1 o pt1):=hrd;clear hpt hrd0;clear hb hrd HC;have HE0:Hid (Bn (m+1) o ps=Cv m o pt1):=by unfold Hid;rw [<-HPT1.out];exact Zx ES1.out
  have HC:Hid _:=pk (R0:=Bn (m+1) o ps) (K0:=KS w ps.length) (Xr HBL.out r o pt1 w1 HR1.out (by have:=L1.out;omega)) HB1.out (fun er hN=>by rw [HE0.out];simp only [hN]);go_wp2_with fail
  refine Calls.mono HC.out ?_;rintro e w2 (⟨er,rfl,F⟩ | ⟨v,x,p1,rfl,F⟩)
  . go_wp2_with fail
    exact⟨rfl,F.out⟩
  obtain⟨hN,hb,hrd,hk⟩:=F.out;have E2:Hid (Cv m o pt1 = .ok (x,p1)):=hN;have HB2:Hid (But r r w w2):=HB1.out.trans hb;have HS2:Hid (w.heap.size+1<=w2.heap.size):=lq0 HS1.out hb.size;have HP2_0:Hid (Bx (w.heap.size) [.int .i64 0,.string ⟨#[]⟩,.string ⟨#[]⟩,.slice none 0 0,.slice none 0 0,.slice none 0 0] 54 w2):=HP1_0.out.but hb hlt;have HR2:Hid (Rdr r w2 o p1):=hrd;obtain⟨hl,cs,rfl,hx⟩:=hk;obtain⟨k2,s2,t2,a2,len2,cap2,b2,lem2,caq2,c2,leo2,car2,rfl⟩:=hx.shape;have L2:Hid (p1.length<pt1.length):=hl;have X2:Hid (SmP (fun b=>w.heap.size+1<=b) w2 (pt1.length - p1.length) [.int .i64 k2,.string s2,.string t2,.slice a2 len2 cap2,.slice b2 lem2 caq2,.slice c2 leo2 car2] x):=hx.same (Ap.refl _ _) (by have:=HS1.out;omega) lr0;clear hl hx;clear hN hb hrd F HC;obtain⟨g0,g1,g2,g3,g4,g5,z0,z1,z2,z3,z4,z5⟩:=HP2_0.out.six
  have HE:Hid (Bn (m+1) o ps = .ok (x,p1)):=by unfold Hid;rw [HE0.out];simp only [E2.out]
  have HX:Hid (SmP (fun b=>w.heap.size+1<=b) w2 (pt1.length - p1.length) [.int .i64 k2,.string s2,.string t2,.slice a2 len2 cap2,.slice b2 lem2 caq2,.slice c2 leo2 car2] (x)):=X2.out;have HL:Hid (p1.length<ps.length/\pt1.length - p1.length<=ps.length - p1.length):=by unfold Hid;have:=L1.out;have:=L2.out;omega
  go_wp2_with fail
  refine bodyPost_ret (v:= .agg #[.int .i64 k2,.string s2,.string t2,.slice a2 len2 cap2,.slice b2 lem2 caq2,.slice c2 leo2 car2]) (by simp [results,results67,go_sem,g0,g1,g2,g3,g4,g5]) rfl ?_;exact Ki HE.out HB2.out hlt HR2.out HL.out.1 HX.out HL.out.2
 | false =>
  rw [hS] at HC;have ES1:Hid (Aj [105,102] ps=false):=hS;clear hS;go_wp2_with fail
  rw [<-HWW.out];clear HWW;refine Calls.mono HC.out ?_;rintro e w1 ⟨rfl,hrd0,hb⟩;have hrd:Rdr r w1 o ps:=by simpa using hrd0
  clear hrd0;have HB1:Hid (But r r w w1):=HB0.out.trans hb;have HS1:Hid (w.heap.size+1<=w1.heap.size):=lq0 HS0.out hb.size;have HP1_0:Hid (Bx (w.heap.size) [.int .i64 0,.string ⟨#[]⟩,.string ⟨#[]⟩,.slice none 0 0,.slice none 0 0,.slice none 0 0] 54 w1):=HG0.out.but hb hlt;have HR1:Hid (Rdr r w1 o ps):=hrd;clear hb hrd HC;have HC:Hid _:=C8 r o [119,104,105,108,101] ps w1 HR1.out;cases hS:Aj [119,104,105,108,101] ps with
  | true =>
   rw [hS] at HC;have ES2:Hid (Aj [119,104,105,108,101] ps=true):=hS;have L2:Hid (ps.tail.length+1=ps.length):=Bs hS;clear hS;go_wp2_with fail
   refine Calls.mono HC.out ?_;rintro e w2 ⟨rfl,hrd0,hb⟩;have hrd:Rdr r w2 o ps.tail:=by simpa using hrd0
   obtain⟨pt2,hpt⟩:∃pt,ps.tail=pt:=⟨_,rfl⟩;have HPT2:Hid (ps.tail=pt2):=hpt;rw [hpt] at hrd L2;have HB2:Hid (But r r w w2):=HB1.out.trans hb;have HS2:Hid (w.heap.size+1<=w2.heap.size):=lq0 HS1.out hb.size;have HP2_0:Hid (Bx (w.heap.size) [.int .i64 0,.string ⟨#[]⟩,.string ⟨#[]⟩,.slice none 0 0,.slice none 0 0,.slice none 0 0] 54 w2):=HP1_0.out.but hb hlt;have HR2:Hid (Rdr r w2 o pt2):=hrd;clear hpt hrd0;clear hb hrd HC;have HC:Hid _:=pk (R0:=Bn (m+1) o ps) (K0:=KS w ps.length) (Lu m r o pt2 w2 HR2.out (by have:=L2.out;omega)) HB2.out (fun er hN=>by rw [Bn];simp only [ES1.out,ES2.out,HPT2.out,hN,Bool.false_eq_true,↓reduceIte]);go_wp2_with fail
   refine Calls.mono HC.out ?_;rintro e w3 (⟨er,rfl,F⟩ | ⟨v,x,p1,rfl,F⟩)
   . go_wp2_with fail
     exact⟨rfl,F.out⟩
   obtain⟨hN,hb,hrd,hk⟩:=F.out;have E3:Hid (Cn m o pt2 = .ok (x,p1)):=hN;have HB3:Hid (But r r w w3):=HB2.out.trans hb;have HS3:Hid (w.heap.size+1<=w3.heap.size):=lq0 HS2.out hb.size;have HP3_0:Hid (Bx (w.heap.size) [.int .i64 0,.string ⟨#[]⟩,.string ⟨#[]⟩,.slice none 0 0,.slice none 0 0,.slice none 0 0] 54 w3):=HP2_0.out.but hb hlt;have HR3:Hid (Rdr r w3 o p1):=hrd;obtain⟨hl,hx⟩:=hk
   replace hx:LEx _ _ _ _ _:=hx
   obtain⟨a3,len3,cap3,rfl⟩:=hx.shape;have L3:Hid (p1.length<pt2.length):=hl;have XR3:Hid (LEx _ w3 _ _ _):=hx;have X3:Hid (LEx (w.heap.size+1) w3 (pt2.length - p1.length) (.slice a3 len3 cap3) [x]):=hx.same (Ap.refl _ _) (by have:=HS2.out;omega) lr0;clear hl hx;clear hN hb hrd F HC;have HC:Hid _:=pk (R0:=Bn (m+1) o ps) (K0:=KS w ps.length) (HBL.out r o p1 w3 HR3.out (by have:=L2.out;have:=L3.out;omega)) HB3.out (fun er hN=>by rw [Bn];simp only [ES1.out,ES2.out,HPT2.out,E3.out,hN,Bool.false_eq_true,↓reduceIte]);go_wp2_with fail
   refine Calls.mono HC.out ?_;rintro e w4 (⟨er,rfl,F⟩ | ⟨v,b,p2,rfl,F⟩)
   . go_wp2_with fail
     exact⟨rfl,F.out⟩
   obtain⟨hN,hb,hrd,hk⟩:=F.out;have E4:Hid (A5 m o p1 = .ok (b,p2)):=hN;have HB4:Hid (But r r w w4):=HB3.out.trans hb;have HS4:Hid (w.heap.size+1<=w4.heap.size):=lq0 HS3.out hb.size;have HP4_0:Hid (Bx (w.heap.size) [.int .i64 0,.string ⟨#[]⟩,.string ⟨#[]⟩,.slice none 0 0,.slice none 0 0,.slice none 0 0] 54 w4):=HP3_0.out.but hb hlt;have HP4_1:Hid (LEx (w.heap.size+1) w4 (pt2.length - p1.length) (.slice a3 len3 cap3) [x]):=X3.out.same (Ap.but hb (by omega)) lr0 lr0;have HR4:Hid (Rdr r w4 o p2):=hrd;obtain⟨hl,hx⟩:=hk
   replace hx:LSm _ _ _ _ _:=hx
   obtain⟨a4,len4,cap4,rfl⟩:=hx.shape;have L4:Hid (p2.length<p1.length):=hl;have XR4:Hid (LSm _ w4 _ _ _):=hx;have X4:Hid (LSm (w.heap.size+1) w4 (p1.length - p2.length) (.slice a4 len4 cap4) b):=hx.same (Ap.refl _ _) (by have:=HS3.out;omega) lr0;clear hl hx;clear hN hb hrd F HC;obtain⟨g0,g1,g2,g3,g4,g5,z0,z1,z2,z3,z4,z5⟩:=HP4_0.out.six;have HE:Hid (Bn (m+1) o ps = .ok (Bk 6 [] [] [x] b [],p2)):=by unfold Hid;rw [Bn];simp only [ES1.out,ES2.out,HPT2.out,E3.out,E4.out,Bool.false_eq_true,↓reduceIte]
   have HX:Hid (SmP (fun b=>w.heap.size+1<=b) w4 ((pt2.length - p1.length)+(p1.length - p2.length)+1) [.int .i64 6,.string ⟨#[]⟩,.string ⟨#[]⟩,.slice a3 len3 cap3,.slice a4 len4 cap4,.slice none 0 0] (Bk 6 [] [] [x] b [])):=SmP.node (s:= []) (t:= []) (by decide) (by decide) (by decide) (HP4_1.out.same (Ap.refl _ _) lr0 (by omega)) (X4.out.same (Ap.refl _ _) lr0 (by omega)) (LSm.nil _ _ _);have HL:Hid (p2.length<ps.length/\(pt2.length - p1.length)+(p1.length - p2.length)+1<=ps.length - p2.length):=by unfold Hid;have:=L2.out;have:=L3.out;have:=L4.out;omega
   go_wp2_with fail
   refine bodyPost_ret (v:= .agg #[.int .i64 6,.string ⟨#[]⟩,.string ⟨#[]⟩,.slice a3 len3 cap3,.slice a4 len4 cap4,.slice none 0 0]) (by simp [results,results67,go_sem,g0,g1,g2,g3,g4,g5]) rfl ?_;exact Ki HE.out HB4.out hlt HR4.out HL.out.1 HX.out HL.out.2
  | false =>
   rw [hS] at HC;have ES2:Hid (Aj [119,104,105,108,101] ps=false):=hS;clear hS;go_wp2_with fail
   refine Calls.mono HC.out ?_;rintro e w2 ⟨rfl,hrd0,hb⟩;have hrd:Rdr r w2 o ps:=by simpa using hrd0
   clear hrd0;have HB2:Hid (But r r w w2):=HB1.out.trans hb;have HS2:Hid (w.heap.size+1<=w2.heap.size):=lq0 HS1.out hb.size;have HP2_0:Hid (Bx (w.heap.size) [.int .i64 0,.string ⟨#[]⟩,.string ⟨#[]⟩,.slice none 0 0,.slice none 0 0,.slice none 0 0] 54 w2):=HP1_0.out.but hb hlt;have HR2:Hid (Rdr r w2 o ps):=hrd;clear hb hrd HC;have HC:Hid _:=C8 r o [102,111,114] ps w2 HR2.out;cases hS:Aj [102,111,114] ps with
   | true =>
    rw [hS] at HC;have ES3:Hid (Aj [102,111,114] ps=true):=hS;have L3:Hid (ps.tail.length+1=ps.length):=Bs hS;clear hS;go_wp2_with fail
    refine Calls.mono HC.out ?_;rintro e w3 ⟨rfl,hrd0,hb⟩;have hrd:Rdr r w3 o ps.tail:=by simpa using hrd0
    obtain⟨pt3,hpt⟩:∃pt,ps.tail=pt:=⟨_,rfl⟩;have HPT3:Hid (ps.tail=pt3):=hpt;rw [hpt] at hrd L3;have HB3:Hid (But r r w w3):=HB2.out.trans hb;have HS3:Hid (w.heap.size+1<=w3.heap.size):=lq0 HS2.out hb.size;have HP3_0:Hid (Bx (w.heap.size) [.int .i64 0,.string ⟨#[]⟩,.string ⟨#[]⟩,.slice none 0 0,.slice none 0 0,.slice none 0 0] 54 w3):=HP2_0.out.but hb hlt;have HR3:Hid (Rdr r w3 o pt3):=hrd;clear hpt hrd0;clear hb hrd HC;have HE0:Hid (Bn (m+1) o ps=D2 m o pt3):=by unfold Hid;rw [<-HPT3.out];exact Wz ES1.out ES2.out ES3.out
    have HC:Hid _:=pk (R0:=Bn (m+1) o ps) (K0:=KS w ps.length) (Aec HBL.out r o pt3 w3 HR3.out (by have:=L3.out;omega)) HB3.out (fun er hN=>by rw [HE0.out];simp only [hN]);go_wp2_with fail
    refine Calls.mono HC.out ?_;rintro e w4 (⟨er,rfl,F⟩ | ⟨v,x,p1,rfl,F⟩)
    . go_wp2_with fail
      exact⟨rfl,F.out⟩
    obtain⟨hN,hb,hrd,hk⟩:=F.out;have E4:Hid (D2 m o pt3 = .ok (x,p1)):=hN;have HB4:Hid (But r r w w4):=HB3.out.trans hb;have HS4:Hid (w.heap.size+1<=w4.heap.size):=lq0 HS3.out hb.size;have HP4_0:Hid (Bx (w.heap.size) [.int .i64 0,.string ⟨#[]⟩,.string ⟨#[]⟩,.slice none 0 0,.slice none 0 0,.slice none 0 0] 54 w4):=HP3_0.out.but hb hlt;have HR4:Hid (Rdr r w4 o p1):=hrd;obtain⟨hl,cs,rfl,hx⟩:=hk;obtain⟨k4,s4,t4,a4,len4,cap4,b4,lem4,caq4,c4,leo4,car4,rfl⟩:=hx.shape;have L4:Hid (p1.length<pt3.length):=hl;have X4:Hid (SmP (fun b=>w.heap.size+1<=b) w4 (pt3.length - p1.length) [.int .i64 k4,.string s4,.string t4,.slice a4 len4 cap4,.slice b4 lem4 caq4,.slice c4 leo4 car4] x):=hx.same (Ap.refl _ _) (by have:=HS3.out;omega) lr0;clear hl hx;clear hN hb hrd F HC;obtain⟨g0,g1,g2,g3,g4,g5,z0,z1,z2,z3,z4,z5⟩:=HP4_0.out.six
    have HE:Hid (Bn (m+1) o ps = .ok (x,p1)):=by unfold Hid;rw [HE0.out];simp only [E4.out]
    have HX:Hid (SmP (fun b=>w.heap.size+1<=b) w4 (pt3.length - p1.length) [.int .i64 k4,.string s4,.string t4,.slice a4 len4 cap4,.slice b4 lem4 caq4,.slice c4 leo4 car4] (x)):=X4.out;have HL:Hid (p1.length<ps.length/\pt3.length - p1.length<=ps.length - p1.length):=by unfold Hid;have:=L3.out;have:=L4.out;omega
    go_wp2_with fail
    refine bodyPost_ret (v:= .agg #[.int .i64 k4,.string s4,.string t4,.slice a4 len4 cap4,.slice b4 lem4 caq4,.slice c4 leo4 car4]) (by simp [results,results67,go_sem,g0,g1,g2,g3,g4,g5]) rfl ?_;exact Ki HE.out HB4.out hlt HR4.out HL.out.1 HX.out HL.out.2
   | false =>
    rw [hS] at HC;have ES3:Hid (Aj [102,111,114] ps=false):=hS;clear hS;go_wp2_with fail
    refine Calls.mono HC.out ?_;rintro e w3 ⟨rfl,hrd0,hb⟩;have hrd:Rdr r w3 o ps:=by simpa using hrd0
    clear hrd0;have HB3:Hid (But r r w w3):=HB2.out.trans hb;have HS3:Hid (w.heap.size+1<=w3.heap.size):=lq0 HS2.out hb.size;have HP3_0:Hid (Bx (w.heap.size) [.int .i64 0,.string ⟨#[]⟩,.string ⟨#[]⟩,.slice none 0 0,.slice none 0 0,.slice none 0 0] 54 w3):=HP2_0.out.but hb hlt;have HR3:Hid (Rdr r w3 o ps):=hrd;clear hb hrd HC;have HC:Hid _:=pk (R0:=Bn (m+1) o ps) (K0:=KS w ps.length) (Zv m r o ps w3 HR3.out (by  omega)) HB3.out (fun er hN=>by rw [Bn];simp only [ES1.out,ES2.out,ES3.out,hN,Bool.false_eq_true,↓reduceIte]);go_wp2_with fail
    refine Calls.mono HC.out ?_;rintro e w4 (⟨er,rfl,F⟩ | ⟨v,x,p1,rfl,F⟩)
    . go_wp2_with fail
      exact⟨rfl,F.out⟩
    obtain⟨hN,hb,hrd,hk⟩:=F.out;have E4:Hid (Bl m o ps = .ok (x,p1)):=hN;have HB4:Hid (But r r w w4):=HB3.out.trans hb;have HS4:Hid (w.heap.size+1<=w4.heap.size):=lq0 HS3.out hb.size;have HP4_0:Hid (Bx (w.heap.size) [.int .i64 0,.string ⟨#[]⟩,.string ⟨#[]⟩,.slice none 0 0,.slice none 0 0,.slice none 0 0] 54 w4):=HP3_0.out.but hb hlt;have HR4:Hid (Rdr r w4 o p1):=hrd;obtain⟨hl,cs,rfl,hx⟩:=hk;obtain⟨k4,s4,t4,a4,len4,cap4,b4,lem4,caq4,c4,leo4,car4,rfl⟩:=hx.shape;have L4:Hid (p1.length<ps.length):=hl;have X4:Hid (SmP (fun b=>w.heap.size+1<=b) w4 (ps.length - p1.length) [.int .i64 k4,.string s4,.string t4,.slice a4 len4 cap4,.slice b4 lem4 caq4,.slice c4 leo4 car4] x):=hx.same (Ap.refl _ _) (by have:=HS3.out;omega) lr0;clear hl hx;clear hN hb hrd F HC
    obtain⟨W4,hW⟩:∃W',W'=w4.alloc (.cells #[.int .i64 k4,.string s4,.string t4,.slice a4 len4 cap4,.slice b4 lem4 caq4,.slice c4 leo4 car4] 54):=⟨_,rfl⟩;have HA:Hid (Below w4.heap.size w4 W4):=by rw [hW];exact br0.alloc lr0 _
    have HGn4:Hid (Bx (w4.heap.size) [.int .i64 k4,.string s4,.string t4,.slice a4 len4 cap4,.slice b4 lem4 caq4,.slice c4 leo4 car4] 54 W4):=by rw [hW];exact Bx.new w4 _ _
    have HBb4:Hid (But r r w W4):=HB4.out.more HA.out;have HSb4:Hid (w.heap.size+1<=W4.heap.size):=lq0 HS4.out HA.out.size;have HRb4:Hid (Rdr r W4 o p1):=HR4.out.below HA.out;have HWW:Hid (W4=_):=hW;have HQ4_0:Hid (Bx (w.heap.size) [.int .i64 0,.string ⟨#[]⟩,.string ⟨#[]⟩,.slice none 0 0,.slice none 0 0,.slice none 0 0] 54 W4):=HP4_0.out.below HA.out;have HQ4_1:Hid (SmP (fun b=>w.heap.size+1<=b) W4 (ps.length - p1.length) [.int .i64 k4,.string s4,.string t4,.slice a4 len4 cap4,.slice b4 lem4 caq4,.slice c4 leo4 car4] x):=X4.out.same (Ap.below HA.out) lr0 lr0;clear hW HA;have HC:Hid _:=pk (R0:=Bn (m+1) o ps) (K0:=KS w ps.length) (Du r o [59] p1 W4 HRb4.out) HBb4.out (fun er hN=>by rw [Bn];simp only [ES1.out,ES2.out,ES3.out,E4.out,hN,Bool.false_eq_true,↓reduceIte]);go_wp2_with fail
    rw [<-HWW.out];clear HWW;refine Calls.mono HC.out ?_;rintro e w5 (⟨er,rfl,F⟩ | ⟨v,up2,p2,rfl,F⟩)
    . go_wp2_with fail
      exact⟨rfl,F.out⟩
    obtain⟨hN,hb,hrd,hk⟩:=F.out;have E5:Hid (A8 [59] p1 = .ok (up2,p2)):=hN;have HB5:Hid (But r r w w5):=HBb4.out.trans hb;have HS5:Hid (w.heap.size+1<=w5.heap.size):=lq0 HSb4.out hb.size;have HP5_0:Hid (Bx (w.heap.size) [.int .i64 0,.string ⟨#[]⟩,.string ⟨#[]⟩,.slice none 0 0,.slice none 0 0,.slice none 0 0] 54 w5):=HQ4_0.out.but hb hlt;have HP5_1:Hid (SmP (fun b=>w.heap.size+1<=b) w5 (ps.length - p1.length) [.int .i64 k4,.string s4,.string t4,.slice a4 len4 cap4,.slice b4 lem4 caq4,.slice c4 leo4 car4] x):=HQ4_1.out.same (Ap.but hb (by omega)) lr0 lr0;have HP5_2:Hid (Bx (w4.heap.size) [.int .i64 k4,.string s4,.string t4,.slice a4 len4 cap4,.slice b4 lem4 caq4,.slice c4 leo4 car4] 54 w5):=HGn4.out.but hb (by have:=HS4.out;omega);have HR5:Hid (Rdr r w5 o p2):=hrd;have L5:Hid (p2.length+1=p1.length):=Br hN;obtain rfl:v = .tuple #[]:=hk;clear hN hb hrd F HC
    obtain⟨e0,e1,e2,e3,e4,e5,-⟩:=HP5_2.out.six;obtain⟨g0,g1,g2,g3,g4,g5,z0,z1,z2,z3,z4,z5⟩:=HP5_0.out.six;have HE:Hid (Bn (m+1) o ps = .ok (x,p2)):=by unfold Hid;rw [Bn];simp only [ES1.out,ES2.out,ES3.out,E4.out,E5.out,Bool.false_eq_true,↓reduceIte]
    have HX:Hid (SmP (fun b=>w.heap.size+1<=b) w5 (ps.length - p1.length) [.int .i64 k4,.string s4,.string t4,.slice a4 len4 cap4,.slice b4 lem4 caq4,.slice c4 leo4 car4] (x)):=HP5_1.out;have HL:Hid (p2.length<ps.length/\ps.length - p1.length<=ps.length - p2.length):=by unfold Hid;have:=L4.out;have:=L5.out;omega
    go_wp2_with fail
    refine bodyPost_ret (v:= .agg #[.int .i64 k4,.string s4,.string t4,.slice a4 len4 cap4,.slice b4 lem4 caq4,.slice c4 leo4 car4]) (by simp [results,results67,go_sem,g0,g1,g2,g3,g4,g5]) rfl ?_;exact Ki HE.out HB5.out hlt HR5.out HL.out.1 HX.out HL.out.2
end Go.Proofs.YtppcohadoilpgaaGreatDoor
