/-
  Other names in memory: statements (the law's own block).
-/
import Derived.Test.YtppcohadoilpgaaGreatDoorRnMem
namespace Go.Proofs.YtppcohadoilpgaaGreatDoor
open Go.ChangeShapes Go.WideShapes Go.ChangeAt Go.RowKit Go.Joins Go.Maps Go.Proofs.Tryz
set_option maxHeartbeats 8000000
set_option linter.unusedVariables false
set_option linter.unusedSimpArgs false
set_option maxRecDepth 100000
def Ac9 (m:Nat) (l:List Sm) (w:World) (e:Ending) (w':World):Prop :=
 Below w.heap.size w w'/\∃a cap,e = .returned (.slice a l.length cap)/\SlP (fun b=>w.heap.size<=b) w' 6 (.slice a l.length cap) l.length (fun i c=>∃x,(l.map (rnS m))[i]? = some x/\SmP (fun b=>w.heap.size<=b) w' m c x)
def RnB (m:Nat):Prop:=∀(v:Value) (l:List Sm) (w0 w:World),Sl w0 w0.heap.size 6 v l.length (fun i c=>∃x,l[i]? = some x/\SmA w0.heap.size w0 m c x)->Below w0.heap.size w0 w->(∀x ∈ l,ltS m x)->l.length<=4000 ->
 Calls prog 7 #[v] w (Ac9 m l w)
def BlX (w wr:World) (v:Value) (l:List Sm) (m i:Nat):Prop:=∃css,GrL R8 m w.heap.size 54 6 wr v ((l.take i).map (rnS m)) css/\Below w.heap.size w wr
theorem Bx.sixO {g:Nat} {a b c d e f:Value} {T:TypeId} {w:World} (h:Bx g [a,b,c,d,e,f] T w):w.cell? ⟨g,0,none⟩=some a/\w.cell? ⟨g,1,none⟩=some b/\w.cell? ⟨g,2,none⟩=some c/\w.cell? ⟨g,3,none⟩=some d/\w.cell? ⟨g,4,none⟩=some e/\w.cell? ⟨g,5,none⟩=some f/\(∀o,w.frozen? ⟨g,o,none⟩=false) :=
 ⟨h.cell 0,h.cell 1,h.cell 2,h.cell 3,h.cell 4,h.cell 5,h.thaw⟩
def Adt (m bx:Nat) (wr Z V:World) (bd el:List Sm) (c0 c1 c2 c3 vb vl:Value):Prop :=
 Below wr.heap.size wr V/\(∀b,b ≠ bx->b<Z.heap.size->V.heap[b]? = Z.heap[b]?)/\bx<V.heap.size/\Bx bx [c0,c1,c2,c3,vb,vl] 54 V /\
 SlP (fun b=>wr.heap.size+1<=b) V 6 vb bd.length (fun i c=>∃x,(bd.map (rnS m))[i]? = some x/\SmP (fun b=>wr.heap.size+1<=b) V m c x) /\
 SlP (fun b=>wr.heap.size+1<=b) V 6 vl el.length (fun i c=>∃x,(el.map (rnS m))[i]? = some x/\SmP (fun b=>wr.heap.size+1<=b) V m c x)
theorem Aig {m bx:Nat} {wr Z w6 w7:World} {bd el:List Sm} {c0 c1 c2 c3 vb0 vl0 vb vl:Value} (hbx:bx=wr.heap.size) (hZ:Below wr.heap.size wr Z) (hlt:bx<Z.heap.size) (hB:Bx bx [c0,c1,c2,c3,vb0,vl0] 54 Z) (h6:Below Z.heap.size Z w6) (h7:Below w6.heap.size w6 w7)
 (hb:SlP (fun b=>Z.heap.size<=b) w6 6 vb bd.length (fun i c=>∃x,(bd.map (rnS m))[i]? = some x/\SmP (fun b=>Z.heap.size<=b) w6 m c x))
 (hl:SlP (fun b=>w6.heap.size<=b) w7 6 vl el.length (fun i c=>∃x,(el.map (rnS m))[i]? = some x/\SmP (fun b=>w6.heap.size<=b) w7 m c x)) :
 Adt m bx wr Z ((w7.setCell ⟨bx,4,none⟩ vb).setCell ⟨bx,5,none⟩ vl) bd el c0 c1 c2 c3 vb vl:=by
 subst hbx;have h67:=Aa h6 h7;have e0:∀b,b ≠ wr.heap.size->((w7.setCell ⟨wr.heap.size,4,none⟩ vb).setCell ⟨wr.heap.size,5,none⟩ vl).heap[b]? = w7.heap[b]? := fun b hb=>by rw [Ae hb,Ae hb]
 have es:((w7.setCell ⟨wr.heap.size,4,none⟩ vb).setCell ⟨wr.heap.size,5,none⟩ vl).heap.size=w7.heap.size:=by simp [World.setCell]
 have s6:=h6.size;have s7:=h7.size;refine⟨((hZ.trans (h67.mono hZ.size)).setCell (p:=⟨wr.heap.size,4,none⟩) lr0 _).setCell (p:=⟨wr.heap.size,5,none⟩) lr0 _,fun b hb hlt=>(e0 b hb).trans (h67.block b hlt),by rw [es];omega,((hB.below h67).set 4 vb).set 5 vl,?_,?_⟩
 . refine (hb.stays (by decide) (fun b hb hlt=>(e0 b (by omega)).trans (h7.block b hlt)) fun i c ⟨x,hx,he⟩=>⟨x,hx,SmP.stays (fun b hb=>(by omega:wr.heap.size+1<=b)) (fun b hb hlt=>(e0 b (by omega)).trans (h7.block b hlt)) he⟩).mono (fun b hb=>by omega) fun _ _ h=>h
 . refine (hl.stays (by decide) (fun b hb hlt=>e0 b (by omega)) fun i c ⟨x,hx,he⟩=>⟨x,hx,SmP.stays (fun b hb=>(by omega:wr.heap.size+1<=b)) (fun b hb hlt=>e0 b (by omega)) he⟩).mono (fun b hb=>by omega) fun _ _ h=>h
theorem Xn {w wr V w5:World} {a:Option Addr} {cap i m:Nat} {l:List Sm} {x:Sm} {v':Value} {c:List Value} {ob:Obj} (hi:l[i]? = some x) (css:List (List Value)) (hg:GrL R8 m w.heap.size 54 6 wr (.slice a i cap) ((l.take i).map (rnS m)) css) (hw:Below w.heap.size w wr) (hV:Below wr.heap.size wr V)
 (hc:c.length=6) (hx:SmP (fun b=>wr.heap.size<=b) V m c (rnS m x)) (hown:w5.ownsRow w.heap.size 54 6 v' (i+1) (css.flatten ++ c)) (hgr:(V.alloc ob).grownBy w5 (Value.slice a i cap).ownBlock) (hat:v'.ownBlock=(Value.slice a i cap).ownBlock\/v'.ownBlock=some (V.alloc ob).heap.size) :
 ∃a2 cap2,v' = .slice a2 (i+1) cap2/\Hid (BlX w w5 v' l m (i+1)):=by
 have hil:i<l.length:=(List.getElem?_eq_some_iff.1 hi).1;have hlen:((l.take i).map (rnS m)).length=i:=by rw [List.length_map,List.length_take];omega
 have hal:Below V.heap.size V (V.alloc ob):=br0.alloc lr0 _;have hgV:=hg.below I6 lr0 hV;have hown2:w5.ownsRow w.heap.size 54 6 v' (((l.take i).map (rnS m)).length+1) (css.flatten ++ c):=by rw [hlen];exact hown
 have hlt:∀k,(Value.slice a i cap).ownBlock=some k->w.heap.size<=k/\k<wr.heap.size:=fun k hk=>hg.row.lt k hk;have hp:=hgV.push I6 hal hc (SmP.stays (fun b hb=>⟨lq0 hw.size hb,fun e=>by have:=(hlt b e.symm).2;have:wr.heap.size<=b:=hb;omega⟩) (fun _ _ _=>rfl) hx) hown2 hgr hat;have hsh:∃a2 cap2,v' = .slice a2 (i+1) cap2:=by
  rcases hown.2 with⟨_,h0⟩ | ⟨g,cp,cur,rfl,_⟩
  . omega
  . exact⟨_,_,rfl⟩
 obtain⟨a2,cap2,rfl⟩:=hsh;have et:(l.take (i+1)).map (rnS m)=(l.take i).map (rnS m) ++ [rnS m x]:=by
  rw [List.take_add_one,hi];simp
 refine⟨a2,cap2,rfl,css ++ [c],by rw [et];exact hp,?_⟩;have h1:Below w.heap.size w V:=hw.trans (hV.mono hw.size);refine⟨hgr.os.trans (hal.os.trans h1.os),hgr.tape.trans (hal.tape.trans h1.tape),hgr.output.trans (hal.output.trans h1.output),lq0 h1.size (lq0 hal.size hgr.size),fun k hk=>?_⟩;have hkV:k<V.heap.size:=lle hk h1.size;exact (hgr.block k (lle hkV hal.size) (fun e=>by have:=(hlt k e.symm).1;omega)).trans ((hal.block k hkV).trans (h1.block k hk))
theorem Ahn {m:Nat} (hX:RnC m) (hB:RnB m):RnB (m+1):=by
 intro v l w0 w hv hw0 hlt hlen;obtain⟨a,cap,rfl,hmax,hsl⟩:=hv;have HSL:Hid (0<l.length->∃b off,a=some ⟨b,off,none⟩/\b<w0.heap.size/\∀i,i<l.length->∃cs:List Value,cs.length=6/\(∀j,j<6->w0.cell? ⟨b,off+i * 6+j,none⟩=cs[j]?)/\∃x,l[i]? = some x/\SmA w0.heap.size w0 (m+1) cs x):=hsl;have HX:Hid (RnC m):=hX;have HY:Hid (RnB m):=hB;have HLS:Hid (∀x ∈ l,ltS (m+1) x):=hlt;have HL:Hid (l.length<=4000):=hlen;have HW0:Hid (Below w0.heap.size w0 w):=hw0;obtain⟨i0,hi,hz0,hz1,hz2⟩:=info_parts Yn;have HI:Hid (prog.info? 54=some i0/\i0.zero=some (.agg #[.int .i64 0,.string ⟨#[]⟩,.string ⟨#[]⟩,.slice none 0 0,.slice none 0 0,.slice none 0 0])/\i0.size=6/\i0.bytes=112):=⟨hi,hz0,hz1,hz2⟩;obtain⟨N,hN⟩:∃N,N=l.length:=⟨_,rfl⟩;have HN:=hid hN;rw [<-hN];clear hsl hX hB hlt hlen hw0 hi hz0 hz1 hz2 hmax hN;go_enter func7,ntmps7
 go_wp2_with fail
 go_loopw [3,9] (fun v3 v9 wr=>∃(i:Nat) (a1:Option Addr) (cap1:Nat),i<=N/\v3 = .slice a1 i cap1/\v9 = .int .i64 i/\Hid (BlX w wr v3 l (m+1) i)) (fun _ v9 _=>N - (intOf v9).toNat)
 case atStart=>exact⟨0,none,0,Nat.zero_le _,rfl,rfl,[],by simpa using GrL.nil _ _ _ _ _ _,Below.refl _ _⟩
 case round =>
  obtain⟨wo,hwo⟩:∃wo,wo=wr:=⟨_,rfl⟩;subst hwo;obtain⟨i,a1,cap1,hiN,rfl,rfl,HV⟩:=hrel
  by_cases hlt:i<N
  . have i1:(i:Int)<(N:Int):=by omega
    have i2:(0:Int)<=(i:Int):=by omega
    obtain⟨b,off,rfl,hbw,hii⟩:=HSL.out (by have:=HN.out;omega);obtain⟨cs,-,hcell,x,hx,hsm⟩:=hii i (by have:=HN.out;omega);have hls:=HLS.out x (List.mem_of_getElem? hx);obtain⟨k,s,t,es,bd,el⟩:=x;obtain⟨v1,v2,v3,rfl,wk,ws,wt,h1,h2,h3⟩:=hsm;have HE1:Hid (Sl w0 w0.heap.size 4 v1 es.length (fun i c=>∃x,es[i]? = some x/\ExA w0.heap.size w0 m c x)):=h1;have HE2:Hid (Sl w0 w0.heap.size 6 v2 bd.length (fun i c=>∃x,bd[i]? = some x/\SmA w0.heap.size w0 m c x)):=h2;have HE3:Hid (Sl w0 w0.heap.size 6 v3 el.length (fun i c=>∃x,el[i]? = some x/\SmA w0.heap.size w0 m c x)):=h3;obtain⟨ea,ecap,rfl,hem,-⟩:=h1;obtain⟨ba,bcap,rfl,-,-⟩:=h2;obtain⟨la,lcap,rfl,-,-⟩:=h3;obtain⟨css,hgr,hbr⟩:=HV.out;have hb0r:Below w0.heap.size w0 wo:=HW0.out.trans (hbr.mono HW0.out.size);have HBR:Hid (Below w.heap.size w wo/\Below w0.heap.size w0 wo):=⟨hbr,hb0r⟩
    have HGR:Hid (GrL R8 (m+1) w.heap.size 54 6 wo (.slice a1 i cap1) ((l.take i).map (rnS (m+1))) css):=hgr;have HXI:Hid (l[i]? = some (.mk k s t es bd el)):=hx;have HLX:Hid (es.length<=4000/\(∀x ∈ es,ltE m x)/\bd.length<=4000/\(∀x ∈ bd,ltS m x)/\el.length<=4000/\∀x ∈ el,ltS m x):=hls;have HWF:Hid ((Lit.int .i64 k).wf=true/\s.size<=maxLen/\t.size<=maxLen):=⟨wk,ws,wt⟩;have q0:wo.cell? ⟨b,off+i * 6,none⟩=some (.int .i64 k):=(hb0r.cell (p:=⟨b,off+i * 6,none⟩) hbw).trans (hcell 0 (by omega));have q1:wo.cell? ⟨b,off+i * 6+1,none⟩=some (.string s):=(hb0r.cell (p:=⟨b,off+i * 6+1,none⟩) hbw).trans (hcell 1 (by omega));have q2:wo.cell? ⟨b,off+i * 6+2,none⟩=some (.string t):=(hb0r.cell (p:=⟨b,off+i * 6+2,none⟩) hbw).trans (hcell 2 (by omega));have q3:wo.cell? ⟨b,off+i * 6+3,none⟩=some (.slice ea es.length ecap):=(hb0r.cell (p:=⟨b,off+i * 6+3,none⟩) hbw).trans (hcell 3 (by omega))
    have q4:wo.cell? ⟨b,off+i * 6+4,none⟩=some (.slice ba bd.length bcap):=(hb0r.cell (p:=⟨b,off+i * 6+4,none⟩) hbw).trans (hcell 4 (by omega));have q5:wo.cell? ⟨b,off+i * 6+5,none⟩=some (.slice la el.length lcap):=(hb0r.cell (p:=⟨b,off+i * 6+5,none⟩) hbw).trans (hcell 5 (by omega));obtain⟨W1,hW1⟩:∃W1,W1=wo.alloc (.cells #[.int .i64 k,.string s,.string t,.slice ea es.length ecap,.slice ba bd.length bcap,.slice la el.length lcap] 54):=⟨_,rfl⟩;have HB1:Hid (Below wo.heap.size wo W1/\W1.heap.size=wo.heap.size+1/\Bx wo.heap.size [.int .i64 k,.string s,.string t,.slice ea es.length ecap,.slice ba bd.length bcap,.slice la el.length lcap] 54 W1):=by
     refine⟨by rw [hW1];exact br0.alloc lr0 _,by rw [hW1];simp,by rw [hW1];exact Bx.new wo _ _⟩
    have HWW:=hid hW1;clear hii hcell hx hls hgr hbr hb0r hW1 HV HSL wk ws wt;obtain⟨s2,hs2⟩:∃s2,s2=(if s.size=0 then s else rho s):=⟨_,rfl⟩;obtain⟨t2,ht2⟩:∃t2,t2=(if k=7 then rho t else t):=⟨_,rfl⟩;obtain⟨M,hM⟩:∃M,M=es.length:=⟨_,rfl⟩;obtain⟨MB,hMB⟩:∃M,M=bd.length:=⟨_,rfl⟩;obtain⟨ML,hML⟩:∃M,M=el.length:=⟨_,rfl⟩;rw [<-hM,<-hMB,<-hML] at HB1 HWW;rw [<-hM] at q3;rw [<-hMB] at q4;rw [<-hML] at q5;have HS2:=hid hs2;have HT2:=hid ht2;have HS3:=hid hs2;have HT3:=hid ht2;have HM:=hid hM;have HMB:=hid hMB;have HML:=hid hML;clear hs2 ht2 hM hMB hML
    go_upto_region 5 with fail
    rw [<-HWW.out];clear HWW q0 q1 q2 q3 q4 q5 i1 i2;obtain⟨c0,c1,c2,c3,c4,c5,zz⟩:=HB1.out.2.2.sixO;have z1:=zz 1;clear zz
    go_upto_if 15 with fail
    obtain⟨E,hE⟩:∃E:Bool,E = !s.toList.isEmpty:=⟨_,rfl⟩;rw [<-hE];have HE:=hid hE;clear hE
    go_cut [] (fun wx=>Hid (Below wo.heap.size wo wx/\wx.heap.size=wo.heap.size+1/\Bx wo.heap.size [.int .i64 k,.string s2,.string t,.slice ea M ecap,.slice ba MB bcap,.slice la ML lcap] 54 wx))
    case first =>
     cases hEE:E with
     | true =>
      have he:Hid (s2=rho s):=HS2.out.trans (if_neg fun h0=>by
       rw [HE.out,H0 (by omega)] at hEE;cases hEE)
      have HC:=hid (Pn s W1);clear hEE;go_wp2_with fail
      refine Calls.mono HC.out ?_;rintro e w1 ⟨rfl,rfl⟩;clear HC;go_wp2_with fail
      go_meet
      rw [he.out];exact⟨HB1.out.1.setCell (p:=⟨wo.heap.size,1,none⟩) lr0 _,by simpa [World.setCell] using HB1.out.2.1,HB1.out.2.2.set 1 _⟩
     | false =>
      have he:Hid (s2=s):=HS2.out.trans (if_pos (by
       rcases Nat.eq_zero_or_pos s.size with h0 | h0
       . exact h0
       . rw [HE.out,Hz h0] at hEE;cases hEE))
      clear hEE;go_wp2_with fail
      go_meet
      rw [he.out];exact HB1.out
    obtain⟨X1,hX1⟩:∃X,X=wc:=⟨_,rfl⟩;rw [<-hX1] at hcut ⊢;have HB2:=hid hcut.out;clear hX1 wc hcut c0 c1 c2 c3 c4 c5 z1 HB1 HS2;obtain⟨c0,c1,c2,c3,c4,c5,zz⟩:=HB2.out.2.2.sixO;have z2:=zz 2;clear zz
    go_upto_if 22 with fail
    obtain⟨E7,hE⟩:∃E:Bool,E=(k == 7):=⟨_,rfl⟩;rw [<-hE];have HE7:=hid hE;clear hE
    go_cut [] (fun wx=>Hid (Below wo.heap.size wo wx/\wx.heap.size=wo.heap.size+1/\Bx wo.heap.size [.int .i64 k,.string s2,.string t2,.slice ea M ecap,.slice ba MB bcap,.slice la ML lcap] 54 wx))
    case first =>
     cases hEE:E7 with
     | true =>
      have he:Hid (t2=rho t):=HT2.out.trans (if_pos (by rw [HE7.out] at hEE;simpa using hEE));have HC:=hid (Pn t X1);clear hEE;go_wp2_with fail
      refine Calls.mono HC.out ?_;rintro e w1 ⟨rfl,rfl⟩;clear HC;go_wp2_with fail
      go_meet
      rw [he.out];exact⟨HB2.out.1.setCell (p:=⟨wo.heap.size,2,none⟩) lr0 _,by simpa [World.setCell] using HB2.out.2.1,HB2.out.2.2.set 2 _⟩
     | false =>
      have he:Hid (t2=t):=HT2.out.trans (if_neg (by rw [HE7.out] at hEE;simpa using hEE));clear hEE;go_wp2_with fail
      go_meet
      rw [he.out];exact HB2.out
    obtain⟨X,hX⟩:∃X,X=wc:=⟨_,rfl⟩;rw [<-hX] at hcut ⊢;have HBX:=hid hcut.out;clear hX wc hcut c0 c1 c2 c3 c4 c5 z2 HB2 HT2;obtain⟨c0,c1,c2,c3,c4,c5,zz⟩:=HBX.out.2.2.sixO;have z3:=zz 3;clear zz;have HC:Hid (Calls prog 15 #[.slice ea M ecap] X fun e w'=>∃a' cap',e = .returned (.slice a' M cap')/\Below X.heap.size X w'/\LpX w0 w' w' a' m es 0/\(∀g,a'=some ⟨g,0,none⟩->X.heap.size<=g)):=by
     unfold Hid;rw [HM.out];exact Adc HE1.out (HBR.out.2.trans (HBX.out.1.mono HBR.out.2.size)) HLX.out.1
    have hxs:X.heap.size=wo.heap.size+1:=HBX.out.2.1;go_wp2_with fail
    refine Calls.mono HC.out ?_;rintro e w3 ⟨a',cap',rfl,hb3,hlp,hg'⟩;obtain⟨Y,hY⟩:∃Y,Y=w3.setCell ⟨wo.heap.size,3,none⟩ (.slice a' M cap'):=⟨_,rfl⟩;have hg2:∀g,a'=some ⟨g,0,none⟩->wo.heap.size+1<=g:=fun g h=>by have:=hg' g h;omega
    have HLY:Hid (LpX w0 Y Y a' m es 0/\Bx wo.heap.size [.int .i64 k,.string s2,.string t2,.slice a' M cap',.slice ba MB bcap,.slice la ML lcap] 54 Y/\(∀g,a'=some ⟨g,0,none⟩->wo.heap.size+1<=g)/\wo.heap.size+1<=Y.heap.size/\Below wo.heap.size wo Y):=by
     unfold Hid;rw [hY];exact⟨hlp.box HBR.out.2.size (fun g h=>by have:=hg2 g h;omega) _ _,(HBX.out.2.2.below hb3).set 3 _,hg2,by have:=hb3.size;simp [World.setCell];omega,(HBX.out.1.trans (hb3.mono HBX.out.1.size)).setCell (p:=⟨wo.heap.size,3,none⟩) lr0 _⟩
    obtain⟨hc3,hz3⟩:=Ar hb3;have hlt0:wo.heap.size<X.heap.size:=by omega
    have d3:w3.cell? ⟨wo.heap.size,3,none⟩=some (.slice ea M ecap):=(hc3 _ _ hlt0).trans c3;have y3:w3.frozen? ⟨wo.heap.size,3,none⟩=false:=(hz3 _ _ hlt0).trans z3;have HYY:=hid hY;clear hY hlp hg' hg2 hb3 hc3 hz3 c0 c1 c2 c3 c4 c5 z3 HBX HC hxs hlt0 HE1;go_wp2_with fail
    rw [<-HYY.out];clear HYY d3 y3;clear HE HE7
    go_loopw [34] (fun v wr=>∃j:Nat,j<=M/\v = .int .i64 j/\Hid (LpX w0 Y wr a' m es j)) (fun v _=>M - (intOf v).toNat)
    case atStart=>exact⟨0,Nat.zero_le _,rfl,HLY.out.1⟩
    case round =>
     obtain⟨j,hjM,rfl,HW⟩:=hrel;have hkp:wr.heap[wo.heap.size]? = Y.heap[wo.heap.size]? := HW.out.keep (by have:=HLY.out.2.2.2.1;omega) fun g h=>by have:=HLY.out.2.2.1 g h;omega
     have HB:Hid (Bx wo.heap.size [.int .i64 k,.string s2,.string t2,.slice a' M cap',.slice ba MB bcap,.slice la ML lcap] 54 wr):=hkp.trans HLY.out.2.1;obtain⟨c0,c1,c2,c3,c4,c5,zz⟩:=HB.out.sixO;have z4:=zz 4;have z5:=zz 5;clear zz
     by_cases hjt:j<M
     . have i1:(j:Int)<(M:Int):=by omega
       have i2:(0:Int)<=(j:Int):=by omega
       have i4: -9223372036854775808<=(j:Int)+1:=by omega
       have i5:(j:Int)+1<=9223372036854775807:=by have:=HLX.out.1;have:=HM.out;omega
       obtain⟨x,hx⟩:∃x,es[j]? = some x:=⟨_,gee (by have:=HM.out;omega)⟩;obtain⟨g,rfl,hgY,hgw,hrow⟩:∃g,a'=some ⟨g,0,none⟩/\g<Y.heap.size/\w0.heap.size<=g/\M0 w0 Y wr g m es j:=by
        rcases HW.out.2 with h | h
        . rw [h.2] at hx;simp at hx
        . exact h
       obtain⟨p,q,s1,a1,len1,cap1,r0,r1,r2,r3,r4⟩:=hrow.row j x hx;rw [if_neg (Nat.lt_irrefl j)] at r4;have t0:=hrow.thaw (j * 4);have t1:=hrow.thaw (j * 4+1);have t2:=hrow.thaw (j * 4+2);have t3:=hrow.thaw (j * 4+3);have hbw:wo.heap.size<wr.heap.size:=HB.out.lt;have hgr:g<wr.heap.size:=World.block_lt_of_cell? wr ⟨g,j * 4,none⟩ r0;have HCA:Hid (∀V,Below wr.heap.size wr V->Calls prog 6 #[.agg #[.int .i64 p,.int .i64 q,.string s1,.slice a1 len1 cap1]] V (Uy m x V)):=fun V hV=>HX.out _ x w0 V r4 (HW.out.low.trans (hV.mono HW.out.low.size)) (HLX.out.2.1 x (List.mem_of_getElem? hx));have HRW:Hid (M0 w0 Y wr g m es j/\g<Y.heap.size/\es[j]? = some x/\Below w0.heap.size w0 Y/\w0.heap.size<=g):=⟨hrow,hgY,hx,HLY.out.1.1,hgw⟩;clear r4 hrow hx hgY hgw HW HLY hkp c0 c1 c2 c4 c5 z4 z5 HE2 HE3 HGR HBR HXI HLX HY HX HI HL HN hiN;go_wp2_with fail
       go_region_with (
        with_reducible refine Calls.mono (HCA.out _ (Ad _)) ?_
        rintro e w6 ⟨hb6,p2,q2,s6,a6,len6,cap6,rfl,he6⟩;obtain⟨hc6,hz6⟩:=Ar hb6;have HNX:Hid (M0 w0 Y (Vo w6 g (j * 4) (.int .i64 p2) (.int .i64 q2) (.string s6) (.slice a6 len6 cap6)) g m es (j+1)):=HRW.out.1.next HRW.out.2.1 HRW.out.2.2.1 ⟨hb6.os,hb6.tape,hb6.output,hb6.size,hb6.block⟩ he6;have d3:w6.cell? ⟨wo.heap.size,3,none⟩=some (.slice (some ⟨g,0,none⟩) M cap'):=(hc6 _ _ hbw).trans c3;have u0:w6.cell? ⟨g,j * 4,none⟩=some (.int .i64 p):=(hc6 _ _ hgr).trans r0;have u1:w6.cell? ⟨g,j * 4+1,none⟩=some (.int .i64 q):=(hc6 _ _ hgr).trans r1;have u2:w6.cell? ⟨g,j * 4+2,none⟩=some (.string s1):=(hc6 _ _ hgr).trans r2;have u3:w6.cell? ⟨g,j * 4+3,none⟩=some (.slice a1 len1 cap1):=(hc6 _ _ hgr).trans r3;have v0:w6.frozen? ⟨g,j * 4,none⟩=false:=(hz6 _ _ hgr).trans t0;have v1:w6.frozen? ⟨g,j * 4+1,none⟩=false:=(hz6 _ _ hgr).trans t1
        have v2:w6.frozen? ⟨g,j * 4+2,none⟩=false:=(hz6 _ _ hgr).trans t2;have v3:w6.frozen? ⟨g,j * 4+3,none⟩=false:=(hz6 _ _ hgr).trans t3;clear hb6 he6 hc6 hz6)
       all_goals go_wp2_with fail
       all_goals go_roundw
       all_goals first
        | (case rel=>exact⟨j+1,by omega,by simp,HRW.out.2.2.2.1,.inr ⟨g,rfl,HRW.out.2.1,HRW.out.2.2.2.2,HNX.out⟩⟩)
        | (case measure=>simp [intOf];omega)
     . have i1:¬(j:Int)<(M:Int):=by omega
       have hje:j=M:=by omega
       subst hje;have hbw:wo.heap.size<wr.heap.size:=HB.out.lt;have HZ:Hid (Below wo.heap.size wo wr/\Below w0.heap.size w0 wr):=by
        have h1:=HLY.out.2.2.2.2.trans (HW.out.low2 (B:=wo.heap.size) (by have:=HLY.out.2.2.2.1;omega) fun g h=>by have:=HLY.out.2.2.1 g h;omega);exact⟨h1,HBR.out.2.trans (h1.mono HBR.out.2.size)⟩
       have HC1:Hid (∀V,Below wr.heap.size wr V->Calls prog 7 #[.slice ba MB bcap] V fun e w'=>∃x y,e = .returned (.slice x MB y)/\Below V.heap.size V w'/\SlP (fun b=>V.heap.size<=b) w' 6 (.slice x MB y) bd.length (fun i c=>∃x,(bd.map (rnS m))[i]? = some x/\SmP (fun b=>V.heap.size<=b) w' m c x)):=fun V hV=>by
        rw [HMB.out];exact (HY.out _ bd w0 V HE2.out (HZ.out.2.trans (hV.mono HZ.out.2.size)) HLX.out.2.2.2.1 HLX.out.2.2.1).mono fun e w' ⟨h1,x,y,h2,h3⟩=>⟨x,y,h2,h1,h3⟩
       have HC2:Hid (∀V,Below wr.heap.size wr V->Calls prog 7 #[.slice la ML lcap] V fun e w'=>∃x y,e = .returned (.slice x ML y)/\Below V.heap.size V w'/\SlP (fun b=>V.heap.size<=b) w' 6 (.slice x ML y) el.length (fun i c=>∃x,(el.map (rnS m))[i]? = some x/\SmP (fun b=>V.heap.size<=b) w' m c x)):=fun V hV=>by
        rw [HML.out];exact (HY.out _ el w0 V HE3.out (HZ.out.2.trans (hV.mono HZ.out.2.size)) HLX.out.2.2.2.2.2 HLX.out.2.2.2.2.1).mono fun e w' ⟨h1,x,y,h2,h3⟩=>⟨x,y,h2,h1,h3⟩
       have HSX:=hid (HW.out.slp (B:=wo.heap.size+1) (cap:=cap') (W:=wr) HM.out (by have:=HLX.out.1;unfold maxLen;omega) HLY.out.2.2.2.1 HLY.out.2.2.1 (fun _ _ _=>rfl));clear hkp HW HLY HE2 HE3 c0 c1 c2 c3;go_wp2_with fail
       go_cut [] (fun wx=>∃ba' bcap' la' lcap',Hid (Adt m wo.heap.size wo wr wx bd el (.int .i64 k) (.string s2) (.string t2) (.slice a' j cap') (.slice ba' MB bcap') (.slice la' ML lcap')))
       case first =>
        go_region_with (first
         | (with_reducible refine Calls.mono (HC1.out _ (Ad _)) ?_
            rintro e w6 ⟨ba',bcap',rfl,hb6,hsl6⟩;have HB6:Hid (Below wr.heap.size wr w6):=Aa (Ad _) hb6;have HS6:Hid (SlP (fun b=>wr.heap.size<=b) w6 6 (.slice ba' MB bcap') bd.length (fun i c=>∃x,(bd.map (rnS m))[i]? = some x/\SmP (fun b=>wr.heap.size<=b) w6 m c x)):=hsl6;have e4:w6.cell? ⟨wo.heap.size,4,none⟩=some (.slice ba MB bcap):=(HB6.out.cell (p:=⟨wo.heap.size,4,none⟩) hbw).trans c4;have e5:w6.cell? ⟨wo.heap.size,5,none⟩=some (.slice la ML lcap):=(HB6.out.cell (p:=⟨wo.heap.size,5,none⟩) hbw).trans c5;clear hb6 hsl6)
         | (with_reducible refine Calls.mono (HC2.out _ HB6.out) ?_
            rintro e w7 ⟨la',lcap',rfl,hb7,hsl7⟩;have HTW:Hid (Adt m wo.heap.size wo wr ((w7.setCell ⟨wo.heap.size,4,none⟩ (.slice ba' MB bcap')).setCell ⟨wo.heap.size,5,none⟩ (.slice la' ML lcap')) bd el (.int .i64 k) (.string s2) (.string t2) (.slice a' j cap') (.slice ba' MB bcap') (.slice la' ML lcap')):=Aig rfl HZ.out.1 hbw HB.out HB6.out hb7 HS6.out hsl7;have hb67:Below wr.heap.size wr w7:=Aa HB6.out hb7;have f4:w7.cell? ⟨wo.heap.size,4,none⟩=some (.slice ba MB bcap):=(hb67.cell (p:=⟨wo.heap.size,4,none⟩) hbw).trans c4;have f5:w7.cell? ⟨wo.heap.size,5,none⟩=some (.slice la ML lcap):=(hb67.cell (p:=⟨wo.heap.size,5,none⟩) hbw).trans c5;have y4:w7.frozen? ⟨wo.heap.size,4,none⟩=false:=(hb67.frozen (p:=⟨wo.heap.size,4,none⟩) hbw).trans z4;have y5:w7.frozen? ⟨wo.heap.size,5,none⟩=false:=(hb67.frozen (p:=⟨wo.heap.size,5,none⟩) hbw).trans z5;clear hb7 hsl7 hb67))
        all_goals go_wp2_with fail
        all_goals go_meet
        all_goals exact⟨_,_,_,_,HTW⟩
       obtain⟨ba',bcap',la',lcap',HTW⟩:=hcut;obtain⟨V,hV⟩:∃V,V=wc:=⟨_,rfl⟩;rw [<-hV] at HTW ⊢;obtain⟨e0,e1,e2,e3,e4,e5,-⟩:=HTW.out.2.2.2.1.sixO;have HSM:Hid (SmP (fun b=>wo.heap.size<=b) V (m+1) [.int .i64 k,.string s2,.string t2,.slice a' j cap',.slice ba' MB bcap',.slice la' ML lcap'] (rnS (m+1) (.mk k s t es bd el))):=by
        unfold Hid rnS;rw [<-HS3.out,<-HT3.out];have hst:∀b,wo.heap.size+1<=b->b<wr.heap.size->V.heap[b]? = wr.heap[b]? := fun b h1 h2=>HTW.out.2.1 b (by omega) h2;refine⟨_,_,_,rfl,HWF.out.1,?_,?_,?_,?_,?_⟩
        . rw [HS3.out];split
          . exact HWF.out.2.1
          . exact Lz HWF.out.2.1
        . rw [HT3.out];split
          . exact Lz HWF.out.2.2
          . exact HWF.out.2.2
        . exact (HSX.out.stays (by decide) hst fun i c ⟨x,hx,he⟩=>⟨x,hx,ExP.stays (fun b hb=>(by omega:wo.heap.size<=b)) hst he⟩).mono (fun b hb=>by omega) fun _ _ h=>h
        . rw [List.length_map];exact HTW.out.2.2.2.2.1.mono (fun b hb=>by omega) fun i c ⟨x,hx,he⟩=>⟨x,hx,SmP.stays (fun b hb=>(by omega:wo.heap.size<=b)) (fun _ _ _=>rfl) he⟩
        . rw [List.length_map];exact HTW.out.2.2.2.2.2.mono (fun b hb=>by omega) fun i c ⟨x,hx,he⟩=>⟨x,hx,SmP.stays (fun b hb=>(by omega:wo.heap.size<=b)) (fun _ _ _=>rfl) he⟩
       have HRW:Hid (V.ownsRow w.heap.size 54 6 (.slice a1 i cap1) i css.flatten):=by
        have h:=(HGR.out.below I6 lr0 HTW.out.1).row;rw [List.length_map,List.length_take,Nat.min_eq_left (by have:=HN.out;omega)] at h;exact h
       have HCT:Hid (i<=4000):=by have:=HL.out;have:=HN.out;unfold Hid;omega
       have HSZ:Hid (w.heap.size<=V.heap.size):=lq0 HBR.out.1.size HTW.out.1.size;have i4: -9223372036854775808<=(i:Int)+1:=by omega
       have i5:(i:Int)+1<=9223372036854775807:=by have:=HCT.out;omega
       clear hV wc c4 c5 z4 z5 i1 HC1 HC2 HB hbw HZ HSX HX HY HLS HW0 HS3 HT3 HLX;go_wp2_with (at_builtin;refine wpList_append_own_at _ rfl _ _ 32 rfl w.heap.size 54 i0 (.agg #[.int .i64 0,.string ⟨#[]⟩,.string ⟨#[]⟩,.slice none 0 0,.slice none 0 0,.slice none 0 0]) 6 112 underlying32 HI.out.1 HI.out.2.1 HI.out.2.2.1 HI.out.2.2.2 rfl (by decide) (.slice a1 i cap1) i css.flatten rfl (HRW.out.alloc _) ⟨V.heap.size,0,none⟩ 1 1 [.int .i64 k,.string s2,.string t2,.slice a' j cap',.slice ba' MB bcap',.slice la' ML lcap'] rfl rfl (D6 _ _ _) (by intro u hu;simp at hu;rcases hu with rfl | rfl | rfl | rfl | rfl | rfl <;> rfl) (by have:=HCT.out;unfold maxLen;omega) (by have:=HCT.out;omega) (by simp;exact Nat.le_succ_of_le HSZ.out) ?_;intro v' w5 hown hgrow _ hloc;have HNX:=hid (Xn HXI.out css HGR.out HBR.out.1 HTW.out.1 rfl HSM.out hown hgrow hloc);clear hown hgrow hloc)
       go_roundw
       case rel =>
        obtain⟨a2,cap2,rfl,hbx⟩:=HNX.out;exact⟨i+1,a2,cap2,by omega,rfl,by simp,hbx⟩
       case measure=>simp [intOf];omega
  . have i1:¬(i:Int)<(N:Int):=by omega
    have hie:i=N:=by omega
    subst hie;have HF:Hid (Ac9 (m+1) l w (.returned (.slice a1 i cap1)) wo):=by
     obtain⟨css,hg,hb⟩:=HV.out;have h:=hg.slp I6 (by decide) (by have:=HL.out;rw [List.length_map,List.length_take];unfold maxLen;omega);rw [HN.out,List.take_length,List.length_map] at h;refine⟨hb,a1,cap1,by rw [HN.out],?_⟩;exact h
    clear HV HSL HX HY HLS HL HW0 HI;go_wp2_with fail
    go_ret
    exact HF.out
theorem Aff (a:Option Addr) (cap:Nat) (w:World):Calls prog 7 #[.slice a 0 cap] w fun e w'=>e = .returned (.slice none 0 0)/\w'=w:=by
 go_enter func7,ntmps7
 go_wp2_with fail
 go_loop [3,9] (fun v3 v9=>v3 = .slice none 0 0/\v9 = .int .i64 0) (fun _ _=>0)
 case atStart=>exact⟨rfl,rfl⟩
 case round =>
  obtain⟨rfl,rfl⟩:=hrel;go_wp2_with fail
  go_ret
  exact⟨rfl,rfl⟩
theorem Ahm:∀m,RnB m
 | 0=>fun v l w0 w hv hw hl hn=>by
  obtain⟨a,cap,rfl,hm,hs⟩:=hv;have h0:¬0<l.length:=fun h=>by
   obtain⟨b,off,-,-,hi⟩:=hs h;obtain⟨cs,-,-,x,-,hx⟩:=hi 0 h;exact hx
  have h1:l.length=0:=by omega
  rw [h1];refine (Aff a cap w).mono fun e w' ⟨he,hw'⟩=>?_;rw [hw'];refine⟨Below.refl _ _,none,0,by rw [he,h1],?_⟩;rw [h1];exact SlP.none _ _ _ _
 | m+1=>Ahn (Afm m) (Ahm m)
end Go.Proofs.YtppcohadoilpgaaGreatDoor
