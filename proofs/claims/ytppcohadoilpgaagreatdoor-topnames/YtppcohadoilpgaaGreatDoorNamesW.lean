/-
  TopNames: its walk.
-/
import Derived.Test.YtppcohadoilpgaaGreatDoorOutK
import Derived.Test.YtppcohadoilpgaaGreatDoorRnBlock
import Derived.Test.YtppcohadoilpgaaGreatDoorRnSpec
import Derived.Test.YtppcohadoilpgaaGreatDoorMFin
namespace Go.Proofs.YtppcohadoilpgaaGreatDoor
open Go.ChangeShapes Go.WideShapes Go.ChangeAt Go.RowKit Go.Joins Go.Maps Go.Proofs.Tryz
set_option maxHeartbeats 8000000
set_option linter.unusedVariables false
set_option linter.unusedSimpArgs false
set_option maxRecDepth 100000
theorem Yt (F:List Fl) (p:List Ru) (hp:∀r ∈ p,ShR r) (ls:List ByteArray) (k:Nat):Kh F (p.map (rnR 6000)) ls k=Kh F p ls k:=by
 have h:=Yi F 6000 hp ls k;unfold Kh;cases e:Be F 6000 p ls (Cj k) with
 | go s b=>rw [e] at h;obtain⟨s',e2,H⟩:=h;rw [e2];show (_,_,_)=(_,_,_);rw [H.out,H.left]
 | stop s er=>rw [e] at h;obtain⟨s',e2,H⟩:=h;rw [e2];show (_,_,_)=(_,_,_);rw [H.out,H.left]
theorem Tg:∀ {m:Nat} {x:Sm},okS m x->Jh m x->ltS m x
 | 0,_,h,_=>h.elim
 | m+1,.mk ..,h,hf=>⟨hf.1,fun x hx=>Tk (h.2.2.2.2.2.1 x hx),hf.2.2.2.1,fun x hx=>Tg (h.2.2.2.2.2.2.1 x hx) (hf.2.1 x hx),hf.2.2.2.2,fun x hx=>Tg (h.2.2.2.2.2.2.2 x hx) (hf.2.2.1 x hx)⟩
theorem Nx {α:Type} {f:α->St->Res}:∀ {l:List α} {st st1:St},Au f l st = .ok st1->∀x ∈ l,∃s s',f x s = .ok s'
 | [],_,_,_,x,hx=>by cases hx
 | y :: l,st,st1,h,x,hx=>by
  unfold Au at h;cases e:f y st with
  | error er=>simp only [e] at h;cases h
  | ok s2 =>
   simp only [e] at h;rcases List.mem_cons.1 hx with rfl | hx
   . exact⟨st,s2,e⟩
   . exact Nx h x hx
theorem Xv {m:Nat} {l:List Ru} (h:ckP m l=0):∀r ∈ l,r.has=true\/C5 r.pat=true:=by
 intro r hr;unfold ckP at h;split at h
 . cases h
 cases e:Au (ckR m) l ⟨fun _=>0,0⟩ with
 | error er=>simp only [e] at h;exact absurd (e.trans (by rw [h])) (Ho m l ⟨fun _=>0,0⟩)
 | ok s1 =>
  obtain⟨s,s',h1⟩:=Nx e r hr;cases hh:r.has with
  | true=>exact .inl rfl
  | false =>
   right
   unfold ckR at h1;split at h1
   . cases h1
   split at h1
   . cases h1
   split at h1
   . cases h1
   split at h1
   . cases h1
   rename_i h2;cases hz:C5 r.pat with
   | true=>rfl
   | false=>exact absurd ⟨hh,hz⟩ h2
def ltR (m:Nat) (r:Ru):Prop:=ltE m r.pat/\r.body.length<=4000/\∀x ∈ r.body,ltS m x
theorem Ae0 {w:World} {v:Value} {p:List Ru} (hp:Gy w v p) (hck:ckP 6000 p=0):(∀r ∈ p,ltR 6000 r)/\p.length<=20:=by
 obtain⟨h1,-,h3⟩:=U6 hp hck;refine⟨fun r hr=>⟨?_,(K4 hp hck r hr).2,fun x hx=>Tg ((h1 r hr).2.2.2 x hx) ((K4 hp hck r hr).1 x hx)⟩,h3⟩;have hz:r.has=true\/C5 r.pat=true:=by
  have:=Xv hck r hr;exact this
 rcases hz with h | h
 . exact Tk ((h1 r hr).2.2.1 h).2
 . exact Aaf h
structure NmI (U wr:World) (c:Nat) (qa:Option Addr) (qcap:Nat) (p:List Ru) (i:Nat) (css:List (List Value)):Prop where
 but:But c c U wr
 cell:wr.cell? ⟨c,0,none⟩=some (.slice qa i qcap)
 thaw:wr.frozen? ⟨c,0,none⟩=false
 row:GrL Zm 6000 U.heap.size 34 7 wr (.slice qa i qcap) ((p.take i).map (rnR 6000)) css
theorem Yu {U wr V w5:World} {c:Nat} {qa:Option Addr} {qcap i:Nat} {p:List Ru} {x:Ru} {v':Value} {cs:List Value} {ob:Obj} {css:List (List Value)} (h:NmI U wr c qa qcap p i css) (hc:c<U.heap.size) (hx:p[i]? = some x) (hV:Below wr.heap.size wr V)
 (hcl:cs.length=7) (hxr:RuP (fun b=>wr.heap.size<=b) V 6000 cs (rnR 6000 x)) (hown:w5.ownsRow U.heap.size 34 7 v' (i+1) (css.flatten ++ cs)) (hgr:(V.alloc ob).grownBy w5 (Value.slice qa i qcap).ownBlock) (hat:v'.ownBlock=(Value.slice qa i qcap).ownBlock\/v'.ownBlock=some (V.alloc ob).heap.size) :
 w5.cell? ⟨c,0,none⟩=some (.slice qa i qcap)/\w5.frozen? ⟨c,0,none⟩=false/\∃a2 n2 cap2,v' = .slice a2 n2 cap2/\Hid (∃css,NmI U (w5.setCell ⟨c,0,none⟩ (.slice a2 n2 cap2)) c a2 cap2 p (i+1) css):=by
 have hil:i<p.length:=(List.getElem?_eq_some_iff.1 hx).1;have hlen:((p.take i).map (rnR 6000)).length=i:=by rw [List.length_map,List.length_take];omega
 have hal:Below V.heap.size V (V.alloc ob):=br0.alloc lr0 _;have hU:=h.but.size;have hgV:=h.row.below He lr0 hV;have hown2:w5.ownsRow U.heap.size 34 7 v' (((p.take i).map (rnR 6000)).length+1) (css.flatten ++ cs):=by rw [hlen];exact hown
 have hlt:∀k,(Value.slice qa i qcap).ownBlock=some k->U.heap.size<=k/\k<wr.heap.size:=fun k hk=>h.row.row.lt k hk;have hp:=hgV.push He hal hcl (RuP.stays (fun b hb=>⟨lq0 hU hb,fun e=>by have:=(hlt b e.symm).2;have:wr.heap.size<=b:=hb;omega⟩) (fun _ _ _=>rfl) hxr) hown2 hgr hat;have hsh:∃a2 cap2,v' = .slice a2 (i+1) cap2:=by
  rcases hown.2 with⟨_,h0⟩ | ⟨g,cp,cur,rfl,_⟩
  . omega
  . exact⟨_,_,rfl⟩
 obtain⟨a2,cap2,rfl⟩:=hsh;have et:(p.take (i+1)).map (rnR 6000)=(p.take i).map (rnR 6000) ++ [rnR 6000 x]:=by rw [List.take_add_one,hx];simp
 have hlow:∀k,k<wr.heap.size->(Value.slice qa i qcap).ownBlock ≠ some k->w5.heap[k]? = wr.heap[k]? := fun k hk hne=>by
  have hkV:=lle hk hV.size;exact (hgr.block k (lle hkV hal.size) (fun e=>hne e.symm)).trans ((hal.block k hkV).trans (hV.block k hk))
 have hcw:c<wr.heap.size:=lle hc hU;have hcb:w5.heap[c]? = wr.heap[c]? := hlow c hcw fun e=>by have:=(hlt c e).1;omega
 have c5:w5.cell? ⟨c,0,none⟩=some (.slice qa i qcap):=(World.cell?_of_block (a:=⟨c,0,none⟩) hcb).trans h.cell;have z5:w5.frozen? ⟨c,0,none⟩=false:=(World.frozen?_of_block (a:=⟨c,0,none⟩) hcb).trans h.thaw;refine⟨c5,z5,a2,i+1,cap2,rfl,css ++ [cs],?_,World.cell?_setCell_same w5 ⟨c,0,none⟩ _ c5,by simpa using z5,?_⟩
 . refine But.set ⟨hgr.os.trans (hal.os.trans (hV.os.trans h.but.os)),hgr.tape.trans (hal.tape.trans (hV.tape.trans h.but.tape)),hgr.output.trans (hal.output.trans (hV.output.trans h.but.output)),lq0 hU (lq0 hV.size (lq0 hal.size hgr.size)),fun k hk h1 h2=>(hlow k (lle hk hU) fun e=>by have:=(hlt k e).1;omega).trans (h.but.block k hk h1 h2)⟩ 0 _
 . rw [et];exact hp.keep He lr0 fun b hb _=>Ae (by omega)
theorem Bx.sevenO {g:Nat} {a b c d e f k:Value} {T:TypeId} {w:World} (h:Bx g [a,b,c,d,e,f,k] T w):w.cell? ⟨g,0,none⟩=some a/\w.cell? ⟨g,1,none⟩=some b/\w.cell? ⟨g,2,none⟩=some c/\w.cell? ⟨g,3,none⟩=some d/\w.cell? ⟨g,4,none⟩=some e/\w.cell? ⟨g,5,none⟩=some f/\w.cell? ⟨g,6,none⟩=some k/\(∀o,w.frozen? ⟨g,o,none⟩=false) :=
 ⟨h.cell 0,h.cell 1,h.cell 2,h.cell 3,h.cell 4,h.cell 5,h.cell 6,h.thaw⟩
theorem Ab3 {wr W1 w4:World} {v0 v1 u2 u3 u4 u5 vb:Value} {p q:Int} {s:ByteArray} {a:Option Addr} {len cap:Nat} {x:Ex} (hb:Below wr.heap.size wr W1) (hs:W1.heap.size=wr.heap.size+1) (hx:Bx wr.heap.size [v0,v1,u2,u3,u4,u5,vb] 34 W1) (h4:Below W1.heap.size W1 w4)
 (he:ExP (fun b=>W1.heap.size<=b) w4 6000 [.int .i64 p,.int .i64 q,.string s,.slice a len cap] x) {W2:World} (hW:W2=(((w4.setCell ⟨wr.heap.size,2,none⟩ (.int .i64 p)).setCell ⟨wr.heap.size,3,none⟩ (.int .i64 q)).setCell ⟨wr.heap.size,4,none⟩ (.string s)).setCell ⟨wr.heap.size,5,none⟩ (.slice a len cap)) :
 Below wr.heap.size wr W2/\wr.heap.size<W2.heap.size/\Bx wr.heap.size [v0,v1,.int .i64 p,.int .i64 q,.string s,.slice a len cap,vb] 34 W2/\ExP (fun b=>wr.heap.size+1<=b) W2 6000 [.int .i64 p,.int .i64 q,.string s,.slice a len cap] x:=by
 have hl:=hb.trans (h4.mono hb.size);have h4s:=h4.size;subst hW;refine⟨(((hl.setCell (p:=⟨wr.heap.size,2,none⟩) lr0 _).setCell (p:=⟨wr.heap.size,3,none⟩) lr0 _).setCell (p:=⟨wr.heap.size,4,none⟩) lr0 _).setCell (p:=⟨wr.heap.size,5,none⟩) lr0 _,by simp [World.setCell];omega,((((hx.below h4).set 2 _).set 3 _).set 4 _).set 5 _,?_⟩;refine ExP.stays (fun b hb=>(by omega:wr.heap.size+1<=b)) (fun b hb _=>?_) he;have hne:b ≠ wr.heap.size:=by omega
 rw [Ae hne,Ae hne,Ae hne,Ae hne]
theorem Xq {wr W2 w6:World} {v1:Bool} {p q n:Int} {s:ByteArray} {a ab:Option Addr} {len cap M bcap:Nat} {x:Ru} {vb:Value} (hn:n=x.when) (hh:v1=x.has) (hw:(Lit.int .i64 x.when).wf=true) (hM:M=x.body.length) (hb:Below wr.heap.size wr W2) (hlt:wr.heap.size<W2.heap.size) (hx:Bx wr.heap.size [.int .i64 n,.bool v1,.int .i64 p,.int .i64 q,.string s,.slice a len cap,vb] 34 W2)
 (he:ExP (fun b=>wr.heap.size+1<=b) W2 6000 [.int .i64 p,.int .i64 q,.string s,.slice a len cap] (rnE 6000 x.pat)) (h6:Below W2.heap.size W2 w6)
 (hs:SlP (fun b=>W2.heap.size<=b) w6 6 (.slice ab M bcap) x.body.length (fun i c=>∃y,(x.body.map (rnS 6000))[i]? = some y/\SmP (fun b=>W2.heap.size<=b) w6 6000 c y)) {W3:World} (hW:W3=w6.setCell ⟨wr.heap.size,6,none⟩ (.slice ab M bcap)) :
 Below wr.heap.size wr W3/\Bx wr.heap.size [.int .i64 n,.bool v1,.int .i64 p,.int .i64 q,.string s,.slice a len cap,.slice ab M bcap] 34 W3/\RuP (fun b=>wr.heap.size<=b) W3 6000 [.int .i64 n,.bool v1,.int .i64 p,.int .i64 q,.string s,.slice a len cap,.slice ab M bcap] (rnR 6000 x):=by
 have hl:=hb.trans (h6.mono hb.size);have h6s:=h6.size;subst hW hn hh;have e0:∀b,b ≠ wr.heap.size->(w6.setCell ⟨wr.heap.size,6,none⟩ (.slice ab M bcap)).heap[b]? = w6.heap[b]? := fun b hb=>Ae hb;refine⟨hl.setCell (p:=⟨wr.heap.size,6,none⟩) lr0 _,(hx.below h6).set 6 _,_,_,_,_,_,rfl,hw,?_,?_⟩
 . exact ExP.stays (fun b hb=>(by omega:wr.heap.size<=b)) (fun b hb hlt=>(e0 b (by omega)).trans (h6.block b hlt)) he
 . show SlP _ _ 6 _ (x.body.map (rnS 6000)).length _;rw [List.length_map];exact (hs.stays (by decide) (fun b hb _=>e0 b (by omega)) fun i c ⟨y,hy,h⟩=>⟨y,hy,SmP.stays (fun b hb=>(by omega:wr.heap.size<=b)) (fun b hb _=>e0 b (by omega)) h⟩).mono (fun b hb=>by omega) fun _ _ h=>h
theorem NmI.prog {U wr:World} {c:Nat} {qa:Option Addr} {qcap N:Nat} {p:List Ru} {css:List (List Value)} (h:NmI U wr c qa qcap p N css) (hN:N=p.length) (hl:p.length<=20):Gy wr (.slice qa N qcap) (p.map (rnR 6000)):=by
 have h1:=h.row.slp He (by decide) (by rw [List.length_map,List.length_take];unfold maxLen;omega);rw [hN,List.take_length] at h1;have h2:SlP (fun b=>U.heap.size<=b/\b<wr.heap.size) wr 7 (.slice qa p.length qcap) (p.map (rnR 6000)).length (fun i cs=>∃x,(p.map (rnR 6000))[i]? = some x/\RuP (fun b=>U.heap.size<=b/\b<wr.heap.size) wr 6000 cs x):=h1.old (by decide) fun i cs ⟨x,hx,he⟩=>⟨x,hx,RuP.old he⟩;have h3:SlP (· < wr.heap.size) wr 7 (.slice qa p.length qcap) (p.map (rnR 6000)).length (fun i cs=>∃x,(p.map (rnR 6000))[i]? = some x/\RuP (· < wr.heap.size) wr 6000 cs x):=h2.mono (fun b hb=>hb.2) fun i cs ⟨x,hx,he⟩=>⟨x,hx,RuP.stays (fun b hb=>hb.2) (fun _ _ _=>rfl) he⟩;rw [hN];exact SlP.low h3 fun i cs ⟨x,hx,he⟩=>⟨x,hx,he.low⟩
theorem walk (l:List Rw) (v:Value) (lf:List Rw) (vf:Value) (ln:List Rw) (vn:Value) (w:World) (hK:Kr w) (hv:RwA w w.heap.size v l) (hvf:RwA w w.heap.size vf lf) (hvn:RwA w w.heap.size vn ln) :
 Calls prog 3 #[v,vf,vn] w fun e w'=>e = .returned (.bool true)/\Below w.heap.size w w':=by
 have HK:Hid (Kr w):=hK;have HT:=hid (Acz w hK);have HV:Hid (RwA w w.heap.size v l):=hv;have HVF:Hid (RwA w w.heap.size vf lf):=hvf;have HVN:Hid (RwA w w.heap.size vn ln):=hvn;obtain⟨a0,cap0,rfl,-,-,-⟩:=hv;obtain⟨a1,cap1,rfl,-,-,-⟩:=hvf;obtain⟨a2,cap2,rfl,-,-,-⟩:=hvn;obtain⟨i0,hi,hz0,hz1,hz2⟩:=info_parts Ym;have HI:Hid (prog.info? 34=some i0/\i0.zero=some (.agg #[.int .i64 0,.bool false,.int .i64 0,.int .i64 0,.string ⟨#[]⟩,.slice none 0 0,.slice none 0 0])/\i0.size=7/\i0.bytes=96):=⟨hi,hz0,hz1,hz2⟩;clear hK hi hz0 hz1 hz2;go_enter func3,ntmps3
 go_wp2_with fail
 refine Calls.mono HT.out ?_;rintro e w0 ⟨rfl,hb0⟩;have HB0:Hid (Below w.heap.size w w0):=hb0;have HRD:=hid (Xb (Q:=fun p=>∀r ∈ p,ShR r) (fun s p hG hR=>Afj hR hG.zz) Eg l _ w0 (HV.out.stays hb0) (HK.out.stays hb0));clear HT hb0 HV;go_wp2_with fail
 refine Calls.mono HRD.out ?_;rintro e w1 ⟨hb1,h⟩;rcases h with⟨p,a,cap,⟨hck,hsh⟩,rfl,hp⟩ | rfl
 case inr =>
  have HB:Hid (Below w.heap.size w w1):=Aa HB0.out hb1;clear hb1 HK HVF HVN HRD HB0 HI;go_wp2_with fail
  go_ret
  exact⟨rfl,HB.out.alloc HB.out.size _⟩
 have HLT:Hid ((∀r ∈ p,ltR 6000 r)/\p.length<=20):=Ae0 hp hck;obtain⟨N,hN⟩:∃N,N=p.length:=⟨_,rfl⟩;have HN:=hid hN;obtain⟨b,hb⟩:∃b,b=w1.heap.size:=⟨_,rfl⟩;obtain⟨c,hc⟩:∃c,c=b+1:=⟨_,rfl⟩;obtain⟨U,hU⟩:∃U,U=(w1.alloc (.cells #[.slice a N cap] 26)).alloc (.cells #[.slice none 0 0] 26):=⟨_,rfl⟩;have c0:U.cell? ⟨b,0,none⟩=some (.slice a N cap):=by rw [hU,hb];simp [go_sem]
 have d0:U.cell? ⟨c,0,none⟩=some (.slice none 0 0):=by rw [hU,hc,hb];simp [go_sem]
 have z0:U.frozen? ⟨c,0,none⟩=false:=by rw [hU,hc,hb];simp [go_sem]
 have hb2:Below w1.heap.size w1 U:=by rw [hU];exact Aa (br0.alloc lr0 _) (br0.alloc lr0 _)
 have hus:U.heap.size=w1.heap.size+1+1:=by rw [hU];simp
 have HBU:Hid (Below w.heap.size w U/\b<U.heap.size/\c<U.heap.size/\b ≠ c/\Below w1.heap.size w1 U/\w1.heap.size<=c/\w.heap.size<=w1.heap.size):=⟨Aa (Aa HB0.out hb1) hb2,by omega,by omega,by omega,hb2,by omega,(Aa HB0.out hb1).size⟩;have HP1:Hid (Gy w1 (.slice a p.length cap) p/\ckP 6000 p=0/\∀r ∈ p,ShR r):=⟨hp,hck,hsh⟩;have HNI:Hid (∃css,NmI U U c none 0 p 0 css):=⟨[],But.refl _ _ _,d0,z0,by simpa using GrL.nil _ _ _ _ _ _⟩;have HUU:=hid hU;have HBQ:=hid hb;have HCQ:=hid hc;rw [<-hN];clear hb1 hp hck hN hU hb hb2 HB0 HRD hc hus hsh d0 z0;go_wp2_with fail
 rw [<-HUU.out,<-HBQ.out,<-HCQ.out]
 go_loopw [29] (fun v wr=>∃i:Nat,i<=N/\v = .int .i64 i/\Hid (∃qa qcap css,NmI U wr c qa qcap p i css)) (fun v _=>N - (intOf v).toNat)
 case atStart=>exact⟨0,Nat.zero_le _,rfl,none,0,HNI.out⟩
 case round =>
  obtain⟨i,hiN,rfl,HV0⟩:=hrel;obtain⟨qa,qcap,css,hni⟩:=HV0.out;have HNI2:=hid hni;have hbc:wr.cell? ⟨b,0,none⟩=some (.slice a N cap):=(hni.but.cell HBU.out.2.1 HBU.out.2.2.2.1 HBU.out.2.2.2.1 0).trans c0;have hcc:=hni.cell;have hcz:=hni.thaw;have hlow1:Below w1.heap.size w1 wr:=HBU.out.2.2.2.2.1.trans (hni.but.below HBU.out.2.2.2.2.1.size HBU.out.2.2.2.2.2.1 HBU.out.2.2.2.2.2.1);have HL1:=hid hlow1;clear HNI HV0 hni HUU HBQ HCQ
  by_cases hlt:i<N
  . have i1:(i:Int)<(N:Int):=by omega
    have i2:(0:Int)<=(i:Int):=by omega
    have i4: -9223372036854775808<=(i:Int)+1:=by omega
    have i5:(i:Int)+1<=9223372036854775807:=by have:=HLT.out.2;have:=HN.out;omega
    obtain⟨ap,capp,e1,hmax,hs⟩:=HP1.out.1;cases e1;obtain⟨bb,off,rfl,hbb,hii⟩:=hs (by have:=HN.out;omega);obtain⟨cs,-,hcell,x,hx,hru⟩:=hii i (by have:=HN.out;omega);obtain⟨x0,x1,x2,x3,vb,rfl,wwn,hpat,hbody⟩:=hru;obtain⟨pk,pn,ps,pa,plen,pcap,hpc⟩:=hpat.shape;cases hpc;have HPT:Hid (ExA w1.heap.size w1 6000 [.int .i64 pk,.int .i64 pn,.string ps,.slice pa plen pcap] x.pat):=hpat;have HBD:Hid (Sl w1 w1.heap.size 6 vb x.body.length (fun i c=>∃y,x.body[i]? = some y/\SmA w1.heap.size w1 6000 c y)):=hbody;obtain⟨va,vcap,rfl,-,-⟩:=hbody;have HXI:Hid (p[i]? = some x/\ltR 6000 x/\(Lit.int .i64 x.when).wf=true):=⟨hx,HLT.out.1 x (List.mem_of_getElem? hx),wwn⟩;obtain⟨XW,hXW⟩:∃n:Int,n=x.when:=⟨_,rfl⟩;obtain⟨XH,hXH⟩:∃n:Bool,n=x.has:=⟨_,rfl⟩;obtain⟨M,hM⟩:∃n,n=x.body.length:=⟨_,rfl⟩;rw [<-hXW,<-hXH,<-hM] at hcell;have HM:=hid hM;have HXH:=hid (And.intro hXW hXH)
    have q0:wr.cell? ⟨bb,off+i * 7,none⟩=some (.int .i64 XW):=(hlow1.cell (p:=⟨bb,off+i * 7,none⟩) hbb).trans (hcell 0 (by omega));have q1:wr.cell? ⟨bb,off+i * 7+1,none⟩=some (.bool XH):=(hlow1.cell (p:=⟨bb,off+i * 7+1,none⟩) hbb).trans (hcell 1 (by omega));have q2:wr.cell? ⟨bb,off+i * 7+2,none⟩=some (.int .i64 pk):=(hlow1.cell (p:=⟨bb,off+i * 7+2,none⟩) hbb).trans (hcell 2 (by omega));have q3:wr.cell? ⟨bb,off+i * 7+3,none⟩=some (.int .i64 pn):=(hlow1.cell (p:=⟨bb,off+i * 7+3,none⟩) hbb).trans (hcell 3 (by omega));have q4:wr.cell? ⟨bb,off+i * 7+4,none⟩=some (.string ps):=(hlow1.cell (p:=⟨bb,off+i * 7+4,none⟩) hbb).trans (hcell 4 (by omega));have q5:wr.cell? ⟨bb,off+i * 7+5,none⟩=some (.slice pa plen pcap):=(hlow1.cell (p:=⟨bb,off+i * 7+5,none⟩) hbb).trans (hcell 5 (by omega))
    have q6:wr.cell? ⟨bb,off+i * 7+6,none⟩=some (.slice va M vcap):=(hlow1.cell (p:=⟨bb,off+i * 7+6,none⟩) hbb).trans (hcell 6 (by omega));obtain⟨W1,hW1⟩:∃W1,W1=wr.alloc (.cells #[.int .i64 XW,.bool XH,.int .i64 pk,.int .i64 pn,.string ps,.slice pa plen pcap,.slice va M vcap] 34):=⟨_,rfl⟩;have HB1:Hid (Below wr.heap.size wr W1/\W1.heap.size=wr.heap.size+1/\Bx wr.heap.size [.int .i64 XW,.bool XH,.int .i64 pk,.int .i64 pn,.string ps,.slice pa plen pcap,.slice va M vcap] 34 W1) :=
     ⟨by rw [hW1];exact br0.alloc lr0 _,by rw [hW1];simp,by rw [hW1];exact Bx.new wr _ _⟩
    have HWW:=hid hW1;have HC1:=hid (Afm 6000 _ x.pat w1 W1 HPT.out (hlow1.trans (HB1.out.1.mono hlow1.size)) HXI.out.2.1.1);have HCC:Hid (c<U.heap.size/\c<wr.heap.size):=⟨HBU.out.2.2.1,World.block_lt_of_cell? wr ⟨c,0,none⟩ hcc⟩;clear hcell hs hii hmax hx hpat wwn hXW hXH hM hlow1 hW1 hbb hbc HK HVF HVN
    go_upto_region 10 with fail
    rw [<-HWW.out];clear HWW q0 q1 q2 q3 q4 q5 q6 i1 i2;obtain⟨c0,c1,c2,c3,c4,c5,c6,zz⟩:=HB1.out.2.2.sevenO;have z2:=zz 2;have z3:=zz 3;have z4:=zz 4;have z5:=zz 5;clear zz;go_wp2_with fail
    refine Calls.mono HC1.out ?_;rintro e w4 ⟨hb4,p4,q4,s4,a4,len4,cap4,rfl,he4⟩;obtain⟨W2,hW2⟩:∃W2,W2=(((w4.setCell ⟨wr.heap.size,2,none⟩ (.int .i64 p4)).setCell ⟨wr.heap.size,3,none⟩ (.int .i64 q4)).setCell ⟨wr.heap.size,4,none⟩ (.string s4)).setCell ⟨wr.heap.size,5,none⟩ (.slice a4 len4 cap4):=⟨_,rfl⟩;have HB2:=hid (Ab3 HB1.out.1 HB1.out.2.1 HB1.out.2.2 hb4 he4 hW2);have hlt4:wr.heap.size<W1.heap.size:=by have:=HB1.out.2.1;omega
    obtain⟨hc4,hz4⟩:=Ar hb4;have d2:=(hc4 _ 2 hlt4).trans c2;have d3:=(hc4 _ 3 hlt4).trans c3;have d4:=(hc4 _ 4 hlt4).trans c4;have d5:=(hc4 _ 5 hlt4).trans c5;have y2:=(hz4 _ 2 hlt4).trans z2;have y3:=(hz4 _ 3 hlt4).trans z3;have y4:=(hz4 _ 4 hlt4).trans z4;have y5:=(hz4 _ 5 hlt4).trans z5;have HWW2:=hid hW2;clear hW2 hb4 he4 hc4 hz4 c0 c1 c2 c3 c4 c5 c6 z2 z3 z4 z5 HC1 hlt4
    go_upto_region 11 with fail
    rw [<-HWW2.out];clear HWW2 d2 d3 d4 d5 y2 y3 y4 y5 HB1;have HC2:Hid (Calls prog 7 #[.slice va M vcap] W2 fun e w'=>∃x' y,e = .returned (.slice x' M y)/\Below W2.heap.size W2 w'/\SlP (fun b=>W2.heap.size<=b) w' 6 (.slice x' M y) x.body.length (fun i c=>∃y,(x.body.map (rnS 6000))[i]? = some y/\SmP (fun b=>W2.heap.size<=b) w' 6000 c y)):=by
     unfold Hid;rw [HM.out];exact (Ahm 6000 _ x.body w1 W2 HBD.out (HL1.out.trans (HB2.out.1.mono HL1.out.size)) HXI.out.2.1.2.2 HXI.out.2.1.2.1).mono fun e w' ⟨h1,x',y,h2,h3⟩=>⟨x',y,h2,h1,h3⟩
    obtain⟨-,-,-,-,-,-,c6,zz⟩:=HB2.out.2.2.1.sevenO;have z6:=zz 6;clear zz;go_wp2_with fail
    refine Calls.mono HC2.out ?_;rintro e w6 ⟨x6,y6,rfl,hb6,hs6⟩;obtain⟨W3,hW3⟩:∃W3,W3=w6.setCell ⟨wr.heap.size,6,none⟩ (.slice x6 M y6):=⟨_,rfl⟩;have HB3:=hid (Xq HXH.out.1 HXH.out.2 HXI.out.2.2 HM.out HB2.out.1 HB2.out.2.1 HB2.out.2.2.1 HB2.out.2.2.2 hb6 hs6 hW3);obtain⟨hc6,hz6⟩:=Ar hb6;have d6:=(hc6 _ 6 HB2.out.2.1).trans c6;have y6':=(hz6 _ 6 HB2.out.2.1).trans z6;have HWW3:=hid hW3;clear hW3 hb6 hs6 hc6 hz6 c6 z6 HC2
    go_upto_region 12 with fail
    rw [<-HWW3.out];clear HWW3 d6 y6' HB2;obtain⟨c0,c1,c2,c3,c4,c5,c6,-⟩:=HB3.out.2.1.sevenO;have k0:W3.cell? ⟨c,0,none⟩=some (.slice qa i qcap):=(HB3.out.1.cell (p:=⟨c,0,none⟩) HCC.out.2).trans hcc;have HRW:Hid (W3.ownsRow U.heap.size 34 7 (.slice qa i qcap) i css.flatten):=by
     have h:=(HNI2.out.row.below He lr0 HB3.out.1).row;rw [List.length_map,List.length_take,Nat.min_eq_left (by have:=HN.out;omega)] at h;exact h
    have HCT:Hid (i<=20):=by have:=HLT.out.2;have:=HN.out;unfold Hid;omega
    have HSZ:Hid (U.heap.size<=W3.heap.size):=lq0 HNI2.out.but.size HB3.out.1.size;clear hcc hcz
    go_wp2_with (at_builtin;refine wpList_append_own_at _ rfl _ _ 24 rfl U.heap.size 34 i0 (.agg #[.int .i64 0,.bool false,.int .i64 0,.int .i64 0,.string ⟨#[]⟩,.slice none 0 0,.slice none 0 0]) 7 96 underlying24 HI.out.1 HI.out.2.1 HI.out.2.2.1 HI.out.2.2.2 rfl (by decide) (.slice qa i qcap) i css.flatten rfl (HRW.out.alloc _) ⟨W3.heap.size,0,none⟩ 1 1 [.int .i64 XW,.bool XH,.int .i64 p4,.int .i64 q4,.string s4,.slice a4 len4 cap4,.slice x6 M y6] rfl rfl (D6 _ _ _) (by intro u hu;simp at hu;rcases hu with rfl | rfl | rfl | rfl | rfl | rfl | rfl <;> rfl) (by have:=HCT.out;unfold maxLen;omega) (by have:=HCT.out;omega) (by simp;exact Nat.le_succ_of_le HSZ.out) ?_;intro v' w9 hown hgrow _ hloc;obtain⟨g5,h5,a9,n9,cap9,rfl,hn9⟩:=Yu HNI2.out HCC.out.1 HXI.out.1 HB3.out.1 rfl HB3.out.2.2 hown hgrow hloc;have HNX:=hid hn9;clear hown hgrow hloc hn9)
    go_roundw
    case rel=>exact⟨i+1,by omega,by simp,a9,cap9,HNX.out⟩
    case measure=>simp [intOf];omega
  . have i1:¬(i:Int)<(N:Int):=by omega
    have hie:i=N:=by omega
    subst hie;obtain⟨X,hX⟩:∃X,X=wr:=⟨_,rfl⟩;have HPN:Hid (Gy wr (.slice qa i qcap) (p.map (rnR 6000))/\ckP 6000 (p.map (rnR 6000))=0):=⟨HNI2.out.prog HN.out HLT.out.2,Agv HP1.out.2.2 HP1.out.2.1⟩;have HPO:Hid (Gy wr (.slice a i cap) p/\ckP 6000 p=0/\Below w1.heap.size w1 wr/\∀r ∈ p,ShR r):=⟨by
     have h:=HP1.out.1.stays HL1.out;rw [<-HN.out] at h;exact h,HP1.out.2.1,HL1.out,HP1.out.2.2⟩
    have HBX:Hid (b<X.heap.size/\c<X.heap.size/\Below w.heap.size w X):=by
     have hs:=HNI2.out.but.size;rw [hX];exact⟨lle HBU.out.2.1 hs,lle HBU.out.2.2.1 hs,HBU.out.1.trans (HNI2.out.but.below HBU.out.1.size (lq0 HBU.out.2.2.2.2.2.2 HBU.out.2.2.2.2.2.1) (lq0 HBU.out.2.2.2.2.2.2 HBU.out.2.2.2.2.2.1))⟩
    rw [<-hX] at hbc hcc HPN HPO ⊢;have HKX:Hid (Kr X):=HK.out.stays HBX.out.2.2;have HVF2:Hid (RwA X X.heap.size (.slice a1 lf.length cap1) lf):=HVF.out.stays HBX.out.2.2;have HVN2:Hid (RwA X X.heap.size (.slice a2 ln.length cap2) ln):=HVN.out.stays HBX.out.2.2;clear hX HNI2 HP1 HL1 hcz HBU HK HVF HVN HLT HN HI;obtain⟨F,hF⟩:∃F,F=Pf lf:=⟨_,rfl⟩;obtain⟨ls,hls⟩:∃ls,ls=Gl ln:=⟨_,rfl⟩;have HW:Hid (B3 F ls=0):=by
     unfold Hid;rw [hF,hls];exact Pg lf (by have:=Ia ln;omega) fun x hx=>(Jl x hx).2
    have hrA:=fun w' fv lv (hb:Below X.heap.size X w') (h1:Oj w' fv F) (h2:Gg w' lv ls)=>Adk (k:=5000) (z:=5000) rfl (HPO.out.1.stays hb) (HKX.out.stays hb) h1 h2 HPO.out.2.1 HW.out (by decide);have hrB:=fun w' fv lv (hb:Below X.heap.size X w') (h1:Oj w' fv F) (h2:Gg w' lv ls)=>Adk (k:=5000) (z:=5000) rfl (HPN.out.1.stays hb) (HKX.out.stays hb) h1 h2 HPN.out.2 HW.out (by decide);simp only [Yt F p HPO.out.2.2.2 ls 5000] at hrB;obtain⟨EA,hEA⟩:∃E,E=(Kh F p ls 5000).1:=⟨_,rfl⟩;obtain⟨OA,hOA⟩:∃O,O=(Kh F p ls 5000).2.1:=⟨_,rfl⟩;obtain⟨UA,hUA⟩:∃U:Int,U=(5000:Int) - ((Kh F p ls 5000).2.2:Int):=⟨_,rfl⟩;obtain⟨LA,hLA⟩:∃n,n=OA.length:=⟨_,rfl⟩;simp only [<-hEA,<-hUA,<-hOA,<-hLA] at hrA hrB;have HOL:=hid hLA
    have HFI:Hid (∀w',Below X.heap.size X w'->Calls prog 9 #[.slice a1 lf.length cap1] w' fun e w''=>∃x cp,e = .returned (.slice x 1 cp)/\Below w'.heap.size w' w''/\Oj w'' (.slice x 1 cp) F):=fun w' hb=>by
     rw [hF];exact Abe lf _ w' (HVF2.out.stays hb)
    have HLI:Hid (∀w',Below X.heap.size X w'->Calls prog 10 #[.slice a2 ln.length cap2] w' fun e w''=>∃x n cp,e = .returned (.slice x n cp)/\Below w'.heap.size w' w''/\Gg w'' (.slice x n cp) ls):=fun w' hb=>by
     rw [hls];exact Abm ln _ w' (HVN2.out.stays hb)
    have HRA:=hid hrA;have HRB:=hid hrB;have c1:X.cell? ⟨b,0,none⟩=some (.slice a i cap):=hbc;have k1:X.cell? ⟨c,0,none⟩=some (.slice qa i qcap):=hcc;have d1:X.drew.cell? ⟨b,0,none⟩=some (.slice a i cap):=hbc;clear hF hls hrA hrB hEA hOA hUA hLA HPO HPN HKX HVF2 HVN2 HW hbc hcc;go_wp2_with fail
    go_cut [12,13] (fun v12 v13 wx=>∃g x cp,v12 = .pointer (some ⟨g,0,none⟩)/\v13 = .int .i64 0/\LA<=cp/\Hid (Qg X wx g x LA cp EA UA OA))
    case first =>
     have n1:¬b=X.heap.size:=by have:=HBX.out.1;omega
     have n1':¬X.heap.size=b:=by omega
     go_region_held3 (fun w'=>w'.cell? ⟨b,0,none⟩=some (.slice a i cap)) (go_keep) (first
      | (with_reducible refine Calls.mono (HFI.out _ (by go_grown)) ?_
         rintro e w6 ⟨x6,cp6,rfl,hb6,hf6⟩;have HB6:Hid (Below X.heap.size X w6):=Aa (by go_grown) hb6;have HF6:=hid hf6;have hs6:=hb6.size;have r6:w6.cell? ⟨b,0,none⟩=some (.slice a i cap):=(HB6.out.cell (p:=⟨b,0,none⟩) HBX.out.1).trans c1;obtain⟨hc6,hz6⟩:=Ar hb6;have m6:¬b=w6.heap.size:=by have:=HBX.out.1;have:=HB6.out.size;omega
         have m6':¬w6.heap.size=b:=by omega
         clear hf6)
      | (with_reducible refine Calls.mono (HLI.out _ (Aa HB6.out (by go_grown))) ?_
         rintro e w7 ⟨x7,l7,cp7,rfl,hb7,ht7⟩;have HB67:Hid (Below w6.heap.size w6 w7):=Aa (by go_grown) hb7;have HB7:Hid (Below X.heap.size X w7):=Aa HB6.out HB67.out;have HF7:=hid (HF6.out.stays HB67.out);have HT7:=hid ht7;have g2:X.heap.size<_->X.heap.size<w7.heap.size:=fun h=>lle (lle h hs6) HB67.out.size;have g1:X.heap.size<_->X.heap.size<w6.heap.size:=fun h=>lle h hs6;have g3:w6.heap.size<_->w6.heap.size<w7.heap.size:=fun h=>lle h hb7.size;have r7:w7.cell? ⟨b,0,none⟩=some (.slice a i cap):=(HB7.out.cell (p:=⟨b,0,none⟩) HBX.out.1).trans c1;obtain⟨hc7,hz7⟩:=Ar hb7;have m7:¬b=w7.heap.size:=by have:=HBX.out.1;have:=HB7.out.size;omega
         have m7':¬w7.heap.size=b:=by omega
         clear ht7)
      | (with_reducible refine Calls.mono (HRA.out _ _ _ (Aa HB7.out (by go_grown)) (HF7.out.stays (by go_grown)) (HT7.out.stays (by go_grown))) ?_
         rintro e w8 ⟨x8,cp8,rfl,hb8,hk8,hcp8⟩;have HB8:Hid (Below X.heap.size X w8):=Aa (Aa HB7.out (by go_grown)) hb8;have HK8:=hid hk8;have r8:w8.cell? ⟨b,0,none⟩=some (.slice a i cap):=(HB8.out.cell (p:=⟨b,0,none⟩) HBX.out.1).trans c1;obtain⟨hc8,hz8⟩:=Ar hb8;have m8:¬b=w8.heap.size:=by have:=HBX.out.1;have:=HB8.out.size;omega
         have m8':¬w8.heap.size=b:=by omega
         clear hk8))
     all_goals go_wp2_with fail
     all_goals go_meet
     . exact⟨_,_,_,rfl,rfl,hcp8,Vn HB8.out HK8.out⟩
     . exact⟨_,_,_,rfl,rfl,hcp8,Hl HB8.out hb8 HK8.out HB7.out.size (by simp [go_sem]) (by simp [go_sem]) (by simp [go_sem])⟩
     . exact⟨_,_,_,rfl,rfl,hcp8,Hl HB8.out hb8 HK8.out HB6.out.size ((hc7 w6.heap.size 0 (by simp)).trans (by simp [go_sem])) ((hc7 w6.heap.size 1 (by simp)).trans (by simp [go_sem])) ((hc7 w6.heap.size 2 (by simp)).trans (by simp [go_sem]))⟩
     . have l6:X.heap.size<w6.heap.size:=g1 (by simp);exact⟨_,_,_,rfl,rfl,hcp8,Hl HB8.out hb8 HK8.out lr0 ((hc7 X.heap.size 0 l6).trans ((hc6 X.heap.size 0 (by simp)).trans (by simp [go_sem]))) ((hc7 X.heap.size 1 l6).trans ((hc6 X.heap.size 1 (by simp)).trans (by simp [go_sem]))) ((hc7 X.heap.size 2 l6).trans ((hc6 X.heap.size 2 (by simp)).trans (by simp [go_sem])))⟩
    obtain⟨ga,xa,cpa,rfl,rfl,hcpa,HXA⟩:=hcut;obtain⟨Z,hZ⟩:∃Z,Z=wc:=⟨_,rfl⟩;rw [<-hZ] at HXA ⊢;clear hZ wc d1 c1;have HCZ:Hid (c<Z.heap.size):=lle HBX.out.2.1 HXA.out.low.size;have HXZ:Hid (Below X.heap.size X Z):=HXA.out.low;have c2:Z.cell? ⟨c,0,none⟩=some (.slice qa i qcap):=(HXZ.out.cell (p:=⟨c,0,none⟩) HBX.out.2.1).trans k1;have d2:Z.drew.cell? ⟨c,0,none⟩=some (.slice qa i qcap):=c2;clear HRA k1;go_wp2_with fail
    go_cut [14,15] (fun v14 v15 wx=>∃g x cp,v14 = .pointer (some ⟨g,0,none⟩)/\v15 = .int .i64 0/\LA<=cp/\Hid (Qg Z wx g x LA cp EA UA OA))
    case first =>
     have n1:¬c=Z.heap.size:=by have:=HCZ.out;omega
     have n1':¬Z.heap.size=c:=by omega
     go_region_held3 (fun w'=>w'.cell? ⟨c,0,none⟩=some (.slice qa i qcap)) (go_keep) (first
      | (with_reducible refine Calls.mono (HFI.out _ (Aa HXZ.out (by go_grown))) ?_
         rintro e w6 ⟨x6,cp6,rfl,hb6,hf6⟩;have HB6:Hid (Below Z.heap.size Z w6):=Aa (by go_grown) hb6;have HF6:=hid hf6;have hs6:=hb6.size;have r6:w6.cell? ⟨c,0,none⟩=some (.slice qa i qcap):=(HB6.out.cell (p:=⟨c,0,none⟩) HCZ.out).trans c2;obtain⟨hc6,hz6⟩:=Ar hb6;have m6:¬c=w6.heap.size:=by have:=HCZ.out;have:=HB6.out.size;omega
         have m6':¬w6.heap.size=c:=by omega
         clear hf6)
      | (with_reducible refine Calls.mono (HLI.out _ (Aa HXZ.out (Aa HB6.out (by go_grown)))) ?_
         rintro e w7 ⟨x7,l7,cp7,rfl,hb7,ht7⟩;have HB67:Hid (Below w6.heap.size w6 w7):=Aa (by go_grown) hb7;have HB7:Hid (Below Z.heap.size Z w7):=Aa HB6.out HB67.out;have HF7:=hid (HF6.out.stays HB67.out);have HT7:=hid ht7;have g2:Z.heap.size<_->Z.heap.size<w7.heap.size:=fun h=>lle (lle h hs6) HB67.out.size;have g1:Z.heap.size<_->Z.heap.size<w6.heap.size:=fun h=>lle h hs6;have g3:w6.heap.size<_->w6.heap.size<w7.heap.size:=fun h=>lle h hb7.size;have r7:w7.cell? ⟨c,0,none⟩=some (.slice qa i qcap):=(HB7.out.cell (p:=⟨c,0,none⟩) HCZ.out).trans c2;obtain⟨hc7,hz7⟩:=Ar hb7;have m7:¬c=w7.heap.size:=by have:=HCZ.out;have:=HB7.out.size;omega
         have m7':¬w7.heap.size=c:=by omega
         clear ht7)
      | (with_reducible refine Calls.mono (HRB.out _ _ _ (Aa HXZ.out (Aa HB7.out (by go_grown))) (HF7.out.stays (by go_grown)) (HT7.out.stays (by go_grown))) ?_
         rintro e w8 ⟨x8,cp8,rfl,hb8,hk8,hcp8⟩;have HB8:Hid (Below Z.heap.size Z w8):=Aa (Aa HB7.out (by go_grown)) hb8;have HK8:=hid hk8;have r8:w8.cell? ⟨c,0,none⟩=some (.slice qa i qcap):=(HB8.out.cell (p:=⟨c,0,none⟩) HCZ.out).trans c2;obtain⟨hc8,hz8⟩:=Ar hb8;have m8:¬c=w8.heap.size:=by have:=HCZ.out;have:=HB8.out.size;omega
         have m8':¬w8.heap.size=c:=by omega
         clear hk8))
     all_goals go_wp2_with fail
     all_goals go_meet
     . exact⟨_,_,_,rfl,rfl,hcp8,Vn HB8.out HK8.out⟩
     . exact⟨_,_,_,rfl,rfl,hcp8,Hl HB8.out hb8 HK8.out HB7.out.size (by simp [go_sem]) (by simp [go_sem]) (by simp [go_sem])⟩
     . exact⟨_,_,_,rfl,rfl,hcp8,Hl HB8.out hb8 HK8.out HB6.out.size ((hc7 w6.heap.size 0 (by simp)).trans (by simp [go_sem])) ((hc7 w6.heap.size 1 (by simp)).trans (by simp [go_sem])) ((hc7 w6.heap.size 2 (by simp)).trans (by simp [go_sem]))⟩
     . have l6:Z.heap.size<w6.heap.size:=g1 (by simp);exact⟨_,_,_,rfl,rfl,hcp8,Hl HB8.out hb8 HK8.out lr0 ((hc7 Z.heap.size 0 l6).trans ((hc6 Z.heap.size 0 (by simp)).trans (by simp [go_sem]))) ((hc7 Z.heap.size 1 l6).trans ((hc6 Z.heap.size 1 (by simp)).trans (by simp [go_sem]))) ((hc7 Z.heap.size 2 l6).trans ((hc6 Z.heap.size 2 (by simp)).trans (by simp [go_sem])))⟩
    obtain⟨gb,xb,cpb,rfl,rfl,hcpb,HXB⟩:=hcut;obtain⟨Y,hY⟩:∃Y,Y=wc:=⟨_,rfl⟩;rw [<-hY] at HXB ⊢;clear hY wc d2 c2;have HYA:Hid (Qg X Y ga xa LA cpa EA UA OA):=HXA.out.stays HXB.out.low;have HBY:Hid (Below w.heap.size w Y):=HBX.out.2.2.trans (HYA.out.low.mono HBX.out.2.2.size);have qa0:=HYA.out.c0;have qa1:=HYA.out.c1;have qa2:=HYA.out.c2;have qb0:=HXB.out.c0;have qb1:=HXB.out.c1;have qb2:=HXB.out.c2;have HEQ:Hid (Calls prog 11 #[.slice xa LA cpa,.slice xb LA cpb] Y fun e w''=>e = .returned (.bool true)/\Below Y.heap.size Y w''):=by
     have h:=Aa6 Y.heap.size Y.heap.size _ _ _ _ Y HYA.out.txs HXB.out.txs lr0 lr0;rw [decide_eq_true rfl] at h;exact h
    have e1:(EA == EA)=true:=by simp
    have e2:(UA == UA)=true:=by simp
    clear HXA HXB HFI HLI HRB HBX HCZ HXZ hcpa hcpb HYA HOL;go_wp2_with fail
    refine Calls.mono HEQ.out ?_;rintro e w6 ⟨rfl,hb6⟩;have HB6:Hid (Below w.heap.size w w6):=Aa HBY.out hb6;clear hb6;go_wp2_with fail
    go_ret
    exact⟨rfl,HB6.out⟩
end Go.Proofs.YtppcohadoilpgaaGreatDoor
