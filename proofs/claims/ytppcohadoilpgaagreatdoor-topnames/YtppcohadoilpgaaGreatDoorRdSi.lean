/-
  Contract of the reader's simple.
-/
import Derived.Test.YtppcohadoilpgaaGreatDoorRdS0
import Derived.Deep.RegionWith
import Derived.OwnWalk
namespace Go.Proofs.YtppcohadoilpgaaGreatDoor
open Go.ChangeShapes Go.WideShapes Go.ChangeAt Go.RowKit Go.Joins Go.Maps Go.Proofs.Tryz
set_option maxHeartbeats 8000000
set_option linter.unusedVariables false
theorem Zv (m:Nat) (r:Nat) (o:Int) (ps:List Pc) (w:World) (h:Rdr r w o ps) (hm:20 * ps.length+1<=m) :
 Calls prog 95 #[.pointer (some ⟨r,0,none⟩)] w (Ce r o w (Bl m o ps) (KS w ps.length)):=by
 have hlt:=h.lt;have lo:=h.lo;have hsh:=h.short;obtain⟨W,hW⟩:∃W,W=w.alloc (.cells #[.int .i64 0,.string ⟨#[]⟩,.string ⟨#[]⟩,.slice none 0 0,.slice none 0 0,.slice none 0 0] 54):=⟨_,rfl⟩;have HA0:Hid (Below w.heap.size w W):=by rw [hW];exact br0.alloc lr0 _
 have HG0:Hid (Bx (w.heap.size) [.int .i64 0,.string ⟨#[]⟩,.string ⟨#[]⟩,.slice none 0 0,.slice none 0 0,.slice none 0 0] 54 W):=by rw [hW];exact Bx.new w _ _
 have HS0:Hid (w.heap.size+1<=W.heap.size):=by rw [hW];simp [Hid]
 have HB0:Hid (But r r w W):=But.of_below HA0.out;have HR0:Hid (Rdr r W o ps):=h.below HA0.out;have HWW:Hid (W=_):=hW;clear hW h;go_enter func95,ntmps95
 have HC:Hid _:=C8 r o [112,114,105,110,116] ps W HR0.out;cases hS:Aj [112,114,105,110,116] ps with
 | true =>
  rw [hS] at HC;have ES1:Hid (Aj [112,114,105,110,116] ps=true):=hS;have L1:Hid (ps.tail.length+1=ps.length):=Bs hS;clear hS;go_wp2_with fail
  rw [<-HWW.out];clear HWW;refine Calls.mono HC.out ?_;rintro e w1 ⟨rfl,hrd0,hb⟩;have hrd:Rdr r w1 o ps.tail:=by simpa using hrd0
  obtain⟨pt1,hpt⟩:∃pt,ps.tail=pt:=⟨_,rfl⟩;have HPT1:Hid (ps.tail=pt1):=hpt;rw [hpt] at hrd L1;have HB1:Hid (But r r w w1):=HB0.out.trans hb;have HS1:Hid (w.heap.size+1<=w1.heap.size):=lq0 HS0.out hb.size;have HP1_0:Hid (Bx (w.heap.size) [.int .i64 0,.string ⟨#[]⟩,.string ⟨#[]⟩,.slice none 0 0,.slice none 0 0,.slice none 0 0] 54 w1):=HG0.out.but hb hlt;have HR1:Hid (Rdr r w1 o pt1):=hrd;clear hpt hrd0;clear hb hrd HC;have HC:Hid _:=pk (R0:=Bl m o ps) (K0:=KS w ps.length) ((Im m).wholes r o pt1 w1 HR1.out (by have:=L1.out;omega)) HB1.out (fun er hN=>by rw [Bl];simp only [ES1.out,HPT1.out,hN,↓reduceIte]);go_wp2_with fail
  refine Calls.mono HC.out ?_;rintro e w2 (⟨er,rfl,F⟩ | ⟨v,l,p1,rfl,F⟩)
  . go_wp2_with fail
    exact⟨rfl,F.out⟩
  obtain⟨hN,hb,hrd,hk⟩:=F.out;have E2:Hid (Bo m o pt1 = .ok (l,p1)):=hN;have HB2:Hid (But r r w w2):=HB1.out.trans hb;have HS2:Hid (w.heap.size+1<=w2.heap.size):=lq0 HS1.out hb.size;have HP2_0:Hid (Bx (w.heap.size) [.int .i64 0,.string ⟨#[]⟩,.string ⟨#[]⟩,.slice none 0 0,.slice none 0 0,.slice none 0 0] 54 w2):=HP1_0.out.but hb hlt;have HR2:Hid (Rdr r w2 o p1):=hrd;obtain⟨hl,-,hx⟩:=hk
  replace hx:LEx _ _ _ _ _:=hx
  obtain⟨a2,len2,cap2,rfl⟩:=hx.shape;have L2:Hid (p1.length<pt1.length):=hl;have XR2:Hid (LEx _ w2 _ _ _):=hx;have X2:Hid (LEx (w.heap.size+1) w2 (pt1.length - p1.length) (.slice a2 len2 cap2) l):=hx.same (Ap.refl _ _) (by have:=HS1.out;omega) lr0;clear hl hx;clear hN hb hrd F HC;obtain⟨g0,g1,g2,g3,g4,g5,z0,z1,z2,z3,z4,z5⟩:=HP2_0.out.six;have HE:Hid (Bl m o ps = .ok (Bk 4 [] [] l [] [],p1)):=by unfold Hid;rw [Bl];simp only [ES1.out,HPT1.out,E2.out,↓reduceIte]
  have HX:Hid (SmP (fun b=>w.heap.size+1<=b) w2 ((pt1.length - p1.length)+1) [.int .i64 4,.string ⟨#[]⟩,.string ⟨#[]⟩,.slice a2 len2 cap2,.slice none 0 0,.slice none 0 0] (Bk 4 [] [] l [] [])):=SmP.node (s:= []) (t:= []) (by decide) (by decide) (by decide) (X2.out) (LSm.nil _ _ _) (LSm.nil _ _ _);have HL:Hid (p1.length<ps.length/\(pt1.length - p1.length)+1<=ps.length - p1.length):=by unfold Hid;have:=L1.out;have:=L2.out;omega
  go_wp2_with fail
  refine bodyPost_ret (v:= .agg #[.int .i64 4,.string ⟨#[]⟩,.string ⟨#[]⟩,.slice a2 len2 cap2,.slice none 0 0,.slice none 0 0]) (by simp [results,results95,go_sem,g0,g1,g2,g3,g4,g5]) rfl ?_;exact Ki HE.out HB2.out hlt HR2.out HL.out.1 HX.out HL.out.2
 | false =>
  rw [hS] at HC;have ES1:Hid (Aj [112,114,105,110,116] ps=false):=hS;clear hS;go_wp2_with fail
  rw [<-HWW.out];clear HWW;refine Calls.mono HC.out ?_;rintro e w1 ⟨rfl,hrd0,hb⟩;have hrd:Rdr r w1 o ps:=by simpa using hrd0
  clear hrd0;have HB1:Hid (But r r w w1):=HB0.out.trans hb;have HS1:Hid (w.heap.size+1<=w1.heap.size):=lq0 HS0.out hb.size;have HP1_0:Hid (Bx (w.heap.size) [.int .i64 0,.string ⟨#[]⟩,.string ⟨#[]⟩,.slice none 0 0,.slice none 0 0,.slice none 0 0] 54 w1):=HG0.out.but hb hlt;have HR1:Hid (Rdr r w1 o ps):=hrd;clear hb hrd HC;have HC:Hid _:=C8 r o [110,101,120,116] ps w1 HR1.out;cases hS:Aj [110,101,120,116] ps with
  | true =>
   rw [hS] at HC;have ES2:Hid (Aj [110,101,120,116] ps=true):=hS;have L2:Hid (ps.tail.length+1=ps.length):=Bs hS;clear hS;go_wp2_with fail
   refine Calls.mono HC.out ?_;rintro e w2 ⟨rfl,hrd0,hb⟩;have hrd:Rdr r w2 o ps.tail:=by simpa using hrd0
   obtain⟨pt2,hpt⟩:∃pt,ps.tail=pt:=⟨_,rfl⟩;have HPT2:Hid (ps.tail=pt2):=hpt;rw [hpt] at hrd L2;have HB2:Hid (But r r w w2):=HB1.out.trans hb;have HS2:Hid (w.heap.size+1<=w2.heap.size):=lq0 HS1.out hb.size;have HP2_0:Hid (Bx (w.heap.size) [.int .i64 0,.string ⟨#[]⟩,.string ⟨#[]⟩,.slice none 0 0,.slice none 0 0,.slice none 0 0] 54 w2):=HP1_0.out.but hb hlt;have HR2:Hid (Rdr r w2 o pt2):=hrd;clear hpt hrd0;clear hb hrd HC;obtain⟨g0,g1,g2,g3,g4,g5,z0,z1,z2,z3,z4,z5⟩:=HP2_0.out.six;have HE:Hid (Bl m o ps = .ok (Bk 8 [] [] [] [] [],pt2)):=by unfold Hid;rw [Bl];simp only [ES1.out,ES2.out,HPT2.out,Bool.false_eq_true,↓reduceIte]
   have HX:Hid (SmP (fun b=>w.heap.size+1<=b) w2 (0+1) [.int .i64 8,.string ⟨#[]⟩,.string ⟨#[]⟩,.slice none 0 0,.slice none 0 0,.slice none 0 0] (Bk 8 [] [] [] [] [])):=SmP.node (s:= []) (t:= []) (by decide) (by decide) (by decide) (LEx.nil _ _ _) (LSm.nil _ _ _) (LSm.nil _ _ _);have HL:Hid (pt2.length<ps.length/\0+1<=ps.length - pt2.length):=by unfold Hid;have:=L2.out;omega
   go_wp2_with fail
   refine bodyPost_ret (v:= .agg #[.int .i64 8,.string ⟨#[]⟩,.string ⟨#[]⟩,.slice none 0 0,.slice none 0 0,.slice none 0 0]) (by simp [results,results95,go_sem,g0,g1,g2,g3,g4,g5]) rfl ?_;exact Ki HE.out HB2.out hlt HR2.out HL.out.1 HX.out HL.out.2
  | false =>
   rw [hS] at HC;have ES2:Hid (Aj [110,101,120,116] ps=false):=hS;clear hS;go_wp2_with fail
   refine Calls.mono HC.out ?_;rintro e w2 ⟨rfl,hrd0,hb⟩;have hrd:Rdr r w2 o ps:=by simpa using hrd0
   clear hrd0;have HB2:Hid (But r r w w2):=HB1.out.trans hb;have HS2:Hid (w.heap.size+1<=w2.heap.size):=lq0 HS1.out hb.size;have HP2_0:Hid (Bx (w.heap.size) [.int .i64 0,.string ⟨#[]⟩,.string ⟨#[]⟩,.slice none 0 0,.slice none 0 0,.slice none 0 0] 54 w2):=HP1_0.out.but hb hlt;have HR2:Hid (Rdr r w2 o ps):=hrd;clear hb hrd HC;have HC:Hid _:=C8 r o [100,101,108,101,116,101] ps w2 HR2.out;cases hS:Aj [100,101,108,101,116,101] ps with
   | true =>
    rw [hS] at HC;have ES3:Hid (Aj [100,101,108,101,116,101] ps=true):=hS;have L3:Hid (ps.tail.length+1=ps.length):=Bs hS;clear hS;go_wp2_with fail
    refine Calls.mono HC.out ?_;rintro e w3 ⟨rfl,hrd0,hb⟩;have hrd:Rdr r w3 o ps.tail:=by simpa using hrd0
    obtain⟨pt3,hpt⟩:∃pt,ps.tail=pt:=⟨_,rfl⟩;have HPT3:Hid (ps.tail=pt3):=hpt;rw [hpt] at hrd L3;have HB3:Hid (But r r w w3):=HB2.out.trans hb;have HS3:Hid (w.heap.size+1<=w3.heap.size):=lq0 HS2.out hb.size;have HP3_0:Hid (Bx (w.heap.size) [.int .i64 0,.string ⟨#[]⟩,.string ⟨#[]⟩,.slice none 0 0,.slice none 0 0,.slice none 0 0] 54 w3):=HP2_0.out.but hb hlt;have HR3:Hid (Rdr r w3 o pt3):=hrd;clear hpt hrd0;clear hb hrd HC;have HC:Hid _:=pk (R0:=Bl m o ps) (K0:=KS w ps.length) (Ti r o pt3 w3 HR3.out) HB3.out (fun er hN=>by rw [Bl];simp only [ES1.out,ES2.out,ES3.out,HPT3.out,hN,Bool.false_eq_true,↓reduceIte]);go_wp2_with fail
    refine Calls.mono HC.out ?_;rintro e w4 (⟨er,rfl,F⟩ | ⟨v,s,p1,rfl,F⟩)
    . go_wp2_with fail
      exact⟨rfl,F.out⟩
    obtain⟨hN,hb,hrd,hk⟩:=F.out;have E4:Hid (nmR pt3 = .ok (s,p1)):=hN;have HB4:Hid (But r r w w4):=HB3.out.trans hb;have HS4:Hid (w.heap.size+1<=w4.heap.size):=lq0 HS3.out hb.size;have HP4_0:Hid (Bx (w.heap.size) [.int .i64 0,.string ⟨#[]⟩,.string ⟨#[]⟩,.slice none 0 0,.slice none 0 0,.slice none 0 0] 54 w4):=HP3_0.out.but hb hlt;have HR4:Hid (Rdr r w4 o p1):=hrd;have L4:Hid (p1.length+1=pt3.length/\Dt s=true):=Gm hN;obtain rfl:v = .string (bs s):=hk;clear hN hb hrd F HC;have HC:Hid _:=pk (R0:=Bl m o ps) (K0:=KS w ps.length) ((Im m).key r o p1 w4 HR4.out (by have:=L3.out;have:=L4.out;omega)) HB4.out (fun er hN=>by rw [Bl];simp only [ES1.out,ES2.out,ES3.out,HPT3.out,E4.out,hN,Bool.false_eq_true,↓reduceIte]);go_wp2_with fail
    refine Calls.mono HC.out ?_;rintro e w5 (⟨er,rfl,F⟩ | ⟨v,x,p2,rfl,F⟩)
    . go_wp2_with fail
      exact⟨rfl,F.out⟩
    obtain⟨hN,hb,hrd,hk⟩:=F.out;have E5:Hid (Fo m o p1 = .ok (x,p2)):=hN;have HB5:Hid (But r r w w5):=HB4.out.trans hb;have HS5:Hid (w.heap.size+1<=w5.heap.size):=lq0 HS4.out hb.size;have HP5_0:Hid (Bx (w.heap.size) [.int .i64 0,.string ⟨#[]⟩,.string ⟨#[]⟩,.slice none 0 0,.slice none 0 0,.slice none 0 0] 54 w5):=HP4_0.out.but hb hlt;have HR5:Hid (Rdr r w5 o p2):=hrd;obtain⟨hl,cs,rfl,hx⟩:=hk;obtain⟨k5,n5,s5,a5,len5,cap5,rfl⟩:=hx.shape;have L5:Hid (p2.length<p1.length):=hl;have X5:Hid (ExP (fun b=>w.heap.size+1<=b) w5 (p1.length - p2.length) [.int .i64 k5,.int .i64 n5,.string s5,.slice a5 len5 cap5] x):=hx.same (Ap.refl _ _) (by have:=HS4.out;omega) lr0;clear hl hx;clear hN hb hrd F HC;obtain⟨g0,g1,g2,g3,g4,g5,z0,z1,z2,z3,z4,z5⟩:=HP5_0.out.six
    have HE:Hid (Bl m o ps = .ok (Bk 9 s [] [x] [] [],p2)):=by unfold Hid;rw [Bl];simp only [ES1.out,ES2.out,ES3.out,HPT3.out,E4.out,E5.out,Bool.false_eq_true,↓reduceIte]
    have HX:Hid (SmP (fun b=>w.heap.size+1<=b) (w5.alloc (.cells #[.int .i64 k5,.int .i64 n5,.string s5,.slice a5 len5 cap5] 31)) ((p1.length - p2.length)+1) [.int .i64 9,.string (bs s),.string ⟨#[]⟩,.slice (some ⟨w5.heap.size,0,none⟩) 1 1,.slice none 0 0,.slice none 0 0] (Bk 9 s [] [x] [] [])):=SmP.node (s:=s) (t:= []) (by decide) (Dg L4.out.2) (by decide) (LEx.one (Bx.new w5 _ _) HS5.out (X5.out.same (Ap.below (br0.alloc lr0 _)) lr0 lr0)) (LSm.nil _ _ _) (LSm.nil _ _ _);have HL:Hid (p2.length<ps.length/\(p1.length - p2.length)+1<=ps.length - p2.length):=by unfold Hid;have:=L3.out;have:=L4.out;have:=L5.out;omega
    have hw9:w.heap.size<w5.heap.size:=HS5.out;have hv9:¬w.heap.size=w5.heap.size:=by omega
    go_wp2_with fail
    refine bodyPost_ret (v:= .agg #[.int .i64 9,.string (bs s),.string ⟨#[]⟩,.slice (some ⟨w5.heap.size,0,none⟩) 1 1,.slice none 0 0,.slice none 0 0]) (by simp [results,results95,go_sem,g0,g1,g2,g3,g4,g5,hw9]) rfl ?_;exact Vm HE.out HB5.out hlt hw9 HR5.out HL.out.1 HX.out HL.out.2
   | false =>
    rw [hS] at HC;have ES3:Hid (Aj [100,101,108,101,116,101] ps=false):=hS;clear hS;go_wp2_with fail
    refine Calls.mono HC.out ?_;rintro e w3 ⟨rfl,hrd0,hb⟩;have hrd:Rdr r w3 o ps:=by simpa using hrd0
    clear hrd0;have HB3:Hid (But r r w w3):=HB2.out.trans hb;have HS3:Hid (w.heap.size+1<=w3.heap.size):=lq0 HS2.out hb.size;have HP3_0:Hid (Bx (w.heap.size) [.int .i64 0,.string ⟨#[]⟩,.string ⟨#[]⟩,.slice none 0 0,.slice none 0 0,.slice none 0 0] 54 w3):=HP2_0.out.but hb hlt;have HR3:Hid (Rdr r w3 o ps):=hrd;clear hb hrd HC;have HC:Hid _:=C8 r o [108,111,97,100] ps w3 HR3.out;cases hS:Aj [108,111,97,100] ps with
    | true =>
     rw [hS] at HC;have ES4:Hid (Aj [108,111,97,100] ps=true):=hS;have L4:Hid (ps.tail.length+1=ps.length):=Bs hS;clear hS;go_wp2_with fail
     refine Calls.mono HC.out ?_;rintro e w4 ⟨rfl,hrd0,hb⟩;have hrd:Rdr r w4 o ps.tail:=by simpa using hrd0
     obtain⟨pt4,hpt⟩:∃pt,ps.tail=pt:=⟨_,rfl⟩;have HPT4:Hid (ps.tail=pt4):=hpt;rw [hpt] at hrd L4;have HB4:Hid (But r r w w4):=HB3.out.trans hb;have HS4:Hid (w.heap.size+1<=w4.heap.size):=lq0 HS3.out hb.size;have HP4_0:Hid (Bx (w.heap.size) [.int .i64 0,.string ⟨#[]⟩,.string ⟨#[]⟩,.slice none 0 0,.slice none 0 0,.slice none 0 0] 54 w4):=HP3_0.out.but hb hlt;have HR4:Hid (Rdr r w4 o pt4):=hrd;clear hpt hrd0;clear hb hrd HC;cases pt4 with
     | nil =>
      have HC:Hid _:=Th r o w4 HR4.out;have HE:Hid (Bl m o ps = .error 5):=by unfold Hid;rw [Bl];simp only [ES1.out,ES2.out,ES3.out,ES4.out,HPT4.out,Bool.false_eq_true,↓reduceIte]
      go_wp2_with fail
      refine Calls.mono HC.out ?_;rintro e w9 ⟨rfl,hb,hop⟩;have HO:Hid (But r r w w9/\Opn r w9 o):=⟨HB4.out.trans hb,hop⟩;clear hb hop HC;go_wp2_with fail
      refine⟨rfl,HO.out.1,?_⟩;rw [HE.out];exact⟨rfl,HO.out.2⟩
     | cons q p1 =>
      have HC:Hid _:=Lp r o q p1 w4 HR4.out;have HFT:Hid (q.s.length<=6000):=(HR4.out.fit q (List.mem_cons_self ..)).1;go_wp2_with fail
      refine Calls.mono HC.out ?_;rintro e w5 ⟨rfl,hrd,hb⟩;have HB5:Hid (But r r w w5):=HB4.out.trans hb;have HS5:Hid (w.heap.size+1<=w5.heap.size):=lq0 HS4.out hb.size;have HP5_0:Hid (Bx (w.heap.size) [.int .i64 0,.string ⟨#[]⟩,.string ⟨#[]⟩,.slice none 0 0,.slice none 0 0,.slice none 0 0] 54 w5):=HP4_0.out.but hb hlt;have HR5:Hid (Rdr r w5 o p1):=hrd;have L5:Hid (p1.length+2=ps.length):=by have:=L4.out;simp only [List.length_cons] at this;unfold Hid;omega
      clear hb hrd HC;obtain⟨K,hK⟩:∃K,K=q.k:=⟨_,rfl⟩;obtain⟨S,hS⟩:∃S,S=bs q.s:=⟨_,rfl⟩;have HK:Hid (K=q.k):=hK;have HSB:Hid (S=bs q.s):=hS;rw [<-hK,<-hS];clear hK hS;obtain⟨W5,hW⟩:∃W',W'=w5.alloc (.cells #[.int .i64 K,.string S,.int .i64 q.n] 91):=⟨_,rfl⟩;have HA:Hid (Below w5.heap.size w5 W5):=by rw [hW];exact br0.alloc lr0 _
      have HGn5:Hid (Bx (w5.heap.size) [.int .i64 K,.string S,.int .i64 q.n] 91 W5):=by rw [hW];exact Bx.new w5 _ _
      have HBb5:Hid (But r r w W5):=HB5.out.more HA.out;have HSb5:Hid (w.heap.size+1<=W5.heap.size):=lq0 HS5.out HA.out.size;have HRb5:Hid (Rdr r W5 o p1):=HR5.out.below HA.out;have HWW:Hid (W5=_):=hW;have HQ5_0:Hid (Bx (w.heap.size) [.int .i64 0,.string ⟨#[]⟩,.string ⟨#[]⟩,.slice none 0 0,.slice none 0 0,.slice none 0 0] 54 W5):=HP5_0.out.below HA.out;clear hW HA;have q0:=HGn5.out.cell 0;have q1:=HGn5.out.cell 1;simp only [List.getElem?_cons_zero,List.getElem?_cons_succ] at q0 q1
      by_cases hk3:K=3
      . have bk:(K != 3)=false:=by simp [hk3]
        have EK:Hid ((q.k ≠ 3)=False):=by unfold Hid;rw [<-HK.out];simp [hk3]
        clear hk3;go_wp2_with fail
        rw [<-HWW.out];clear HWW;refine (Af 4 _).mono ?_;rintro e w8 ⟨rfl,hw8⟩;rw [hw8];clear hw8 w8;have HC:Hid _:=pk (R0:=Bl m o ps) (K0:=KS w ps.length) (Ti r o p1 W5.drew (HRb5.out.below (Ac _))) (HBb5.out.more (Ac _)) (fun er hN=>by rw [Bl];simp only [ES1.out,ES2.out,ES3.out,ES4.out,HPT4.out,EK.out,hN,Bool.false_eq_true,↓reduceIte]);go_wp2_with fail
        go_region_with (
         refine Calls.mono HC.out ?_;rintro e w6 (⟨er,rfl,F⟩ | ⟨v,s,p2,rfl,F⟩)
         . go_wp2_with fail
           exact⟨rfl,F.out⟩
         obtain⟨hN,hb,hrd,hk⟩:=F.out;have E6:Hid (nmR p1 = .ok (s,p2)):=hN;have HB6:Hid (But r r w w6):=(HBb5.out.more (Ac _)).trans hb;have HS6:Hid (w.heap.size+1<=w6.heap.size):=lq0 HSb5.out hb.size;have HP6_0:Hid (Bx (w.heap.size) [.int .i64 0,.string ⟨#[]⟩,.string ⟨#[]⟩,.slice none 0 0,.slice none 0 0,.slice none 0 0] 54 w6):=(HQ5_0.out.below (Ac _)).but hb hlt;have HP6_1:Hid (Bx (w5.heap.size) [.int .i64 K,.string S,.int .i64 q.n] 91 w6):=(HGn5.out.below (Ac _)).but hb (by have:=HS5.out;omega);have HR6:Hid (Rdr r w6 o p2):=hrd;have L6:Hid (p2.length+1=p1.length/\Dt s=true):=Gm hN;obtain rfl:v = .string (bs s):=hk;clear hN hb hrd F HC;have r1:=HP6_1.out.cell 1;simp only [List.getElem?_cons_zero,List.getElem?_cons_succ] at r1;obtain⟨g0,g1,g2,g3,g4,g5,z0,z1,z2,z3,z4,z5⟩:=HP6_0.out.six
         have HE:Hid (Bl m o ps = .ok (Bk 10 s q.s [] [] [],p2)):=by unfold Hid;rw [Bl];simp only [ES1.out,ES2.out,ES3.out,ES4.out,HPT4.out,EK.out,E6.out,Bool.false_eq_true,↓reduceIte]
         have HX:Hid (SmP (fun b=>w.heap.size+1<=b) w6 (0+1) [.int .i64 10,.string (bs s),.string S,.slice none 0 0,.slice none 0 0,.slice none 0 0] (Bk 10 s q.s [] [] [])):=by rw [HSB.out];exact SmP.node (s:=s) (t:=q.s) (by decide) (Dg L6.out.2) (HFT.out) (LEx.nil _ _ _) (LSm.nil _ _ _) (LSm.nil _ _ _)
         have HL:Hid (p2.length<ps.length/\0+1<=ps.length - p2.length):=by unfold Hid;have:=L5.out;have:=L6.out;omega)
        all_goals go_wp2_with fail
        all_goals refine bodyPost_ret (v:= .agg #[.int .i64 10,.string (bs s),.string S,.slice none 0 0,.slice none 0 0,.slice none 0 0]) (by simp [results,results95,go_sem,g0,g1,g2,g3,g4,g5]) rfl ?_
        all_goals exact Ki HE.out HB6.out hlt HR6.out HL.out.1 HX.out HL.out.2
      . have bk:(K != 3)=true:=by simp [hk3]
        have EK:Hid ((q.k ≠ 3)=True):=by unfold Hid;rw [<-HK.out];simp [hk3]
        clear hk3;have HE:Hid (Bl m o ps = .error 4):=by unfold Hid;rw [Bl];simp only [ES1.out,ES2.out,ES3.out,ES4.out,HPT4.out,EK.out,Bool.false_eq_true,↓reduceIte]
        have HO:Hid (But r r w W5/\Opn r W5 o):=⟨HBb5.out,HRb5.out.opn⟩;go_wp2_with fail
        rw [<-HWW.out];clear HWW;refine (Al 4 _).mono ?_;rintro e w8 ⟨rfl,hw8⟩;rw [hw8];clear hw8 w8;go_wp2_with fail
        refine⟨rfl,HO.out.1,?_⟩;rw [HE.out];exact⟨rfl,HO.out.2⟩
    | false =>
     rw [hS] at HC;have ES4:Hid (Aj [108,111,97,100] ps=false):=hS;clear hS;go_wp2_with fail
     refine Calls.mono HC.out ?_;rintro e w4 ⟨rfl,hrd0,hb⟩;have hrd:Rdr r w4 o ps:=by simpa using hrd0
     clear hrd0;have HB4:Hid (But r r w w4):=HB3.out.trans hb;have HS4:Hid (w.heap.size+1<=w4.heap.size):=lq0 HS3.out hb.size;have HP4_0:Hid (Bx (w.heap.size) [.int .i64 0,.string ⟨#[]⟩,.string ⟨#[]⟩,.slice none 0 0,.slice none 0 0,.slice none 0 0] 54 w4):=HP3_0.out.but hb hlt;have HR4:Hid (Rdr r w4 o ps):=hrd;clear hb hrd HC;have HC:Hid _:=C8 r o [36] ps w4 HR4.out;cases hS:Aj [36] ps with
     | true =>
      rw [hS] at HC;have ES5:Hid (Aj [36] ps=true):=hS;have L5:Hid (ps.tail.length+1=ps.length):=Bs hS;clear hS;go_wp2_with fail
      refine Calls.mono HC.out ?_;rintro e w5 ⟨rfl,hrd0,hb⟩;have hrd:Rdr r w5 o ps.tail:=by simpa using hrd0
      obtain⟨pt5,hpt⟩:∃pt,ps.tail=pt:=⟨_,rfl⟩;have HPT5:Hid (ps.tail=pt5):=hpt;rw [hpt] at hrd L5;have HB5:Hid (But r r w w5):=HB4.out.trans hb;have HS5:Hid (w.heap.size+1<=w5.heap.size):=lq0 HS4.out hb.size;have HP5_0:Hid (Bx (w.heap.size) [.int .i64 0,.string ⟨#[]⟩,.string ⟨#[]⟩,.slice none 0 0,.slice none 0 0,.slice none 0 0] 54 w5):=HP4_0.out.but hb hlt;have HR5:Hid (Rdr r w5 o pt5):=hrd;clear hpt hrd0;clear hb hrd HC;have HC:Hid _:=pk (R0:=Bl m o ps) (K0:=KS w ps.length) ((Im m).sgn r o pt5 w5 HR5.out (by have:=L5.out;omega)) HB5.out (fun er hN=>by rw [Bl];simp only [ES1.out,ES2.out,ES3.out,ES4.out,ES5.out,HPT5.out,hN,Bool.false_eq_true,↓reduceIte]);go_wp2_with fail
      refine Calls.mono HC.out ?_;rintro e w6 (⟨er,rfl,F⟩ | ⟨v,x,p1,rfl,F⟩)
      . go_wp2_with fail
        exact⟨rfl,F.out⟩
      obtain⟨hN,hb,hrd,hk⟩:=F.out;have E6:Hid (Ht m o pt5 = .ok (x,p1)):=hN;have HB6:Hid (But r r w w6):=HB5.out.trans hb;have HS6:Hid (w.heap.size+1<=w6.heap.size):=lq0 HS5.out hb.size;have HP6_0:Hid (Bx (w.heap.size) [.int .i64 0,.string ⟨#[]⟩,.string ⟨#[]⟩,.slice none 0 0,.slice none 0 0,.slice none 0 0] 54 w6):=HP5_0.out.but hb hlt;have HR6:Hid (Rdr r w6 o p1):=hrd;obtain⟨hl,cs,rfl,hx⟩:=hk;obtain⟨k6,n6,s6,a6,len6,cap6,rfl⟩:=hx.shape;have L6:Hid (p1.length<pt5.length):=hl;have X6:Hid (ExP (fun b=>w.heap.size+1<=b) w6 (pt5.length - p1.length) [.int .i64 k6,.int .i64 n6,.string s6,.slice a6 len6 cap6] x):=hx.same (Ap.refl _ _) (by have:=HS5.out;omega) lr0;clear hl hx;clear hN hb hrd F HC;obtain⟨W6,hW⟩:∃W',W'=w6.alloc (.cells #[.int .i64 k6,.int .i64 n6,.string s6,.slice a6 len6 cap6] 31):=⟨_,rfl⟩;have HA:Hid (Below w6.heap.size w6 W6):=by rw [hW];exact br0.alloc lr0 _
      have HGn6:Hid (Bx (w6.heap.size) [.int .i64 k6,.int .i64 n6,.string s6,.slice a6 len6 cap6] 31 W6):=by rw [hW];exact Bx.new w6 _ _
      have HBb6:Hid (But r r w W6):=HB6.out.more HA.out;have HSb6:Hid (w.heap.size+1<=W6.heap.size):=lq0 HS6.out HA.out.size;have HRb6:Hid (Rdr r W6 o p1):=HR6.out.below HA.out;have HWW:Hid (W6=_):=hW;have HQ6_0:Hid (Bx (w.heap.size) [.int .i64 0,.string ⟨#[]⟩,.string ⟨#[]⟩,.slice none 0 0,.slice none 0 0,.slice none 0 0] 54 W6):=HP6_0.out.below HA.out;have HQ6_1:Hid (ExP (fun b=>w.heap.size+1<=b) W6 (pt5.length - p1.length) [.int .i64 k6,.int .i64 n6,.string s6,.slice a6 len6 cap6] x):=X6.out.same (Ap.below HA.out) lr0 lr0;clear hW HA;obtain⟨d10,d11,d12,d13,-⟩:=HGn6.out.four;have HC:Hid _:=pk (R0:=Bl m o ps) (K0:=KS w ps.length) (G1 (Im m).whole r o p1 W6.drew (HRb6.out.below (Ac _)) (by have:=L5.out;have:=L6.out;omega)) (HBb6.out.more (Ac _)) (fun er hN=>by rw [Bl];simp only [ES1.out,ES2.out,ES3.out,ES4.out,ES5.out,HPT5.out,E6.out,hN,Bool.false_eq_true,↓reduceIte]);go_wp2_with fail
      rw [<-HWW.out];clear HWW
      go_region_with (
       refine Calls.mono HC.out ?_;rintro e w7 (⟨er,rfl,F⟩ | ⟨v,y,p2,rfl,F⟩)
       . go_wp2_with fail
         exact⟨rfl,F.out⟩
       obtain⟨hN,hb,hrd,hk⟩:=F.out;have E7:Hid (Hh m o p1 = .ok (y,p2)):=hN;have HB7:Hid (But r r w w7):=(HBb6.out.more (Ac _)).trans hb;have HS7:Hid (w.heap.size+1<=w7.heap.size):=lq0 HSb6.out hb.size;have HP7_0:Hid (Bx (w.heap.size) [.int .i64 0,.string ⟨#[]⟩,.string ⟨#[]⟩,.slice none 0 0,.slice none 0 0,.slice none 0 0] 54 w7):=(HQ6_0.out.below (Ac _)).but hb hlt;have HP7_1:Hid (ExP (fun b=>w.heap.size+1<=b) w7 (pt5.length - p1.length) [.int .i64 k6,.int .i64 n6,.string s6,.slice a6 len6 cap6] x):=(HQ6_1.out.same (Ap.below (Ac _)) lr0 lr0).same (Ap.but hb (by omega)) lr0 lr0;have HP7_2:Hid (Bx (w6.heap.size) [.int .i64 k6,.int .i64 n6,.string s6,.slice a6 len6 cap6] 31 w7):=(HGn6.out.below (Ac _)).but hb (by have:=HS6.out;omega);have HR7:Hid (Rdr r w7 o p2):=hrd;obtain⟨hl,cs,rfl,hx⟩:=hk;obtain⟨k7,n7,s7,a7,len7,cap7,rfl⟩:=hx.shape;have L7:Hid (p2.length<p1.length):=hl
       have X7:Hid (ExP (fun b=>w.heap.size+1<=b) w7 (p1.length - p2.length) [.int .i64 k7,.int .i64 n7,.string s7,.slice a7 len7 cap7] y):=hx.same (Ap.refl _ _) (by have:=HSb6.out;have h3:W6.drew.heap.size=W6.heap.size:=rfl;omega) lr0;clear hl hx;clear hN hb hrd F HC;obtain⟨e0,e1,e2,e3,-⟩:=HP7_2.out.four;have hw8:w6.heap.size<w7.heap.size:=HP7_2.out.lt;have hv8:¬w6.heap.size=w7.heap.size:=by omega
       obtain⟨g0,g1,g2,g3,g4,g5,z0,z1,z2,z3,z4,z5⟩:=HP7_0.out.six;have HE:Hid (Bl m o ps = .ok (Bk 3 [] [] [x,y] [] [],p2)):=by unfold Hid;rw [Bl];simp only [ES1.out,ES2.out,ES3.out,ES4.out,ES5.out,HPT5.out,E6.out,E7.out,Bool.false_eq_true,↓reduceIte]
       have HX:Hid (SmP (fun b=>w.heap.size+1<=b) (w7.alloc (.cells #[.int .i64 k6,.int .i64 n6,.string s6,.slice a6 len6 cap6,.int .i64 k7,.int .i64 n7,.string s7,.slice a7 len7 cap7] 31)) ((pt5.length - p1.length)+(p1.length - p2.length)+1) [.int .i64 3,.string ⟨#[]⟩,.string ⟨#[]⟩,.slice (some ⟨w7.heap.size,0,none⟩) 2 2,.slice none 0 0,.slice none 0 0] (Bk 3 [] [] [x,y] [] [])):=SmP.node (s:= []) (t:= []) (by decide) (by decide) (by decide) (LEx.two (Bx.new w7 _ _) HS7.out (HP7_1.out.same (Ap.below (br0.alloc lr0 _)) lr0 (by omega)) (X7.out.same (Ap.below (br0.alloc lr0 _)) lr0 (by omega))) (LSm.nil _ _ _) (LSm.nil _ _ _);have HL:Hid (p2.length<ps.length/\(pt5.length - p1.length)+(p1.length - p2.length)+1<=ps.length - p2.length):=by unfold Hid;have:=L5.out;have:=L6.out;have:=L7.out;omega
       have hw9:w.heap.size<w7.heap.size:=HS7.out;have hv9:¬w.heap.size=w7.heap.size:=by omega)
      all_goals go_wp2_with fail
      all_goals refine bodyPost_ret (v:= .agg #[.int .i64 3,.string ⟨#[]⟩,.string ⟨#[]⟩,.slice (some ⟨w7.heap.size,0,none⟩) 2 2,.slice none 0 0,.slice none 0 0]) (by simp [results,results95,go_sem,g0,g1,g2,g3,g4,g5,hw9]) rfl ?_
      all_goals exact Vm HE.out HB7.out hlt hw9 HR7.out HL.out.1 HX.out HL.out.2
     | false =>
      rw [hS] at HC;have ES5:Hid (Aj [36] ps=false):=hS;clear hS;go_wp2_with fail
      refine Calls.mono HC.out ?_;rintro e w5 ⟨rfl,hrd0,hb⟩;have hrd:Rdr r w5 o ps:=by simpa using hrd0
      clear hrd0;have HB5:Hid (But r r w w5):=HB4.out.trans hb;have HS5:Hid (w.heap.size+1<=w5.heap.size):=lq0 HS4.out hb.size;have HP5_0:Hid (Bx (w.heap.size) [.int .i64 0,.string ⟨#[]⟩,.string ⟨#[]⟩,.slice none 0 0,.slice none 0 0,.slice none 0 0] 54 w5):=HP4_0.out.but hb hlt;have HR5:Hid (Rdr r w5 o ps):=hrd;clear hb hrd HC;have HC:Hid _:=pk (R0:=Bl m o ps) (K0:=KS w ps.length) (Ov m r o ps w5 HR5.out (by  omega)) HB5.out (fun er hN=>by rw [Bl];simp only [ES1.out,ES2.out,ES3.out,ES4.out,ES5.out,hN,Bool.false_eq_true,↓reduceIte]);go_wp2_with fail
      refine Calls.mono HC.out ?_;rintro e w6 (⟨er,rfl,F⟩ | ⟨v,x,p1,rfl,F⟩)
      . go_wp2_with fail
        exact⟨rfl,F.out⟩
      obtain⟨hN,hb,hrd,hk⟩:=F.out;have E6:Hid (Gp m o ps = .ok (x,p1)):=hN;have HB6:Hid (But r r w w6):=HB5.out.trans hb;have HS6:Hid (w.heap.size+1<=w6.heap.size):=lq0 HS5.out hb.size;have HP6_0:Hid (Bx (w.heap.size) [.int .i64 0,.string ⟨#[]⟩,.string ⟨#[]⟩,.slice none 0 0,.slice none 0 0,.slice none 0 0] 54 w6):=HP5_0.out.but hb hlt;have HR6:Hid (Rdr r w6 o p1):=hrd;obtain⟨hl,cs,rfl,hx⟩:=hk;obtain⟨k6,s6,t6,a6,len6,cap6,b6,lem6,caq6,c6,leo6,car6,rfl⟩:=hx.shape;have L6:Hid (p1.length<ps.length):=hl;have X6:Hid (SmP (fun b=>w.heap.size+1<=b) w6 (ps.length - p1.length) [.int .i64 k6,.string s6,.string t6,.slice a6 len6 cap6,.slice b6 lem6 caq6,.slice c6 leo6 car6] x):=hx.same (Ap.refl _ _) (by have:=HS5.out;omega) lr0;clear hl hx;clear hN hb hrd F HC;obtain⟨g0,g1,g2,g3,g4,g5,z0,z1,z2,z3,z4,z5⟩:=HP6_0.out.six
      have HE:Hid (Bl m o ps = .ok (x,p1)):=by unfold Hid;rw [Bl];simp only [ES1.out,ES2.out,ES3.out,ES4.out,ES5.out,E6.out,Bool.false_eq_true,↓reduceIte]
      have HX:Hid (SmP (fun b=>w.heap.size+1<=b) w6 (ps.length - p1.length) [.int .i64 k6,.string s6,.string t6,.slice a6 len6 cap6,.slice b6 lem6 caq6,.slice c6 leo6 car6] (x)):=X6.out;have HL:Hid (p1.length<ps.length/\ps.length - p1.length<=ps.length - p1.length):=by unfold Hid;have:=L6.out;omega
      go_wp2_with fail
      refine bodyPost_ret (v:= .agg #[.int .i64 k6,.string s6,.string t6,.slice a6 len6 cap6,.slice b6 lem6 caq6,.slice c6 leo6 car6]) (by simp [results,results95,go_sem,g0,g1,g2,g3,g4,g5]) rfl ?_;exact Ki HE.out HB6.out hlt HR6.out HL.out.1 HX.out HL.out.2
end Go.Proofs.YtppcohadoilpgaaGreatDoor
