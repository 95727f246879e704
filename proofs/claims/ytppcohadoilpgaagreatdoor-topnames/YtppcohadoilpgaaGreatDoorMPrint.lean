/-
  The machine's print. / The machine's write: a field is written, the line is made anew. / The machine's take: a line and its fields.
-/
import Derived.Test.YtppcohadoilpgaaGreatDoorMVals
import Derived.Test.YtppcohadoilpgaaGreatDoorMStep
import Derived.Test.YtppcohadoilpgaaGreatDoorMAsk9
namespace Go.Proofs.YtppcohadoilpgaaGreatDoor
open Go.ChangeShapes Go.WideShapes Go.ChangeAt Go.RowKit Go.Joins Go.Maps Go.Proofs.Tryz
set_option maxHeartbeats 4000000
set_option linter.unusedVariables false
set_option maxRecDepth 100000
theorem Pj:(prog.info? 9).map (fun i=>(i.zero,i.size,i.bytes))=some (some (.string ⟨#[]⟩),1,16):=by kernel_rfl
def N4 (v:Vl):Value:= .string v.str
theorem Mc.printed {c:Cx} {O:Own} {w w1 w3:World} {s:Ms} {j:Nat} {ol v:Value} {line:ByteArray} (h:Mc c O w s j) (hb:Below w.heap.size w w1) (hc:w.cell? ⟨c.r,8,none⟩=some ol) (hg:w1.grownBy w3 ol.ownBlock)
 (ho:w3.ownsRow 0 9 1 v (s.out.length+1) (s.out.map Value.string ++ [.string line])) (hloc:v.ownBlock=ol.ownBlock\/v.ownBlock=some w1.heap.size) (hl:line.size<=200) (hn:s.out.length<2000) :
 ∃O',Gr w O O'/\Bts O w (w3.setCell ⟨c.r,8,none⟩ v)/\Mc c O' (w3.setCell ⟨c.r,8,none⟩ v) { s with out:=s.out ++ [line] } j:=by
 obtain⟨bv,bl,fl,ol',m1,m2,m3,m4,m5⟩:=(h.below hb).mem;have hc1:=m1.c8;rw [hb.cell (p:=⟨c.r,8,none⟩) h.lt,hc] at hc1;cases hc1;have hole:∀b,ol.ownBlock=some b->O b=some .outs:=m5.2;have hM1:=h.below hb;have hcr:some c.r ≠ ol.ownBlock:=fun e=>by have h2:=hole c.r e.symm;rw [h.own] at h2;cases h2
 have top1:O w1.heap.size=none:=hM1.top _ lr0;refine⟨fun b=>if v.ownBlock=some b then some .outs else O b,?_,?_,?_⟩
 . intro b hb' h0;simp only;rw [if_neg]
   . exact h0
   . intro e;rcases hloc with h1 | h1
     . rw [h1] at e;rw [hole b e] at h0;cases h0
     . rw [h1] at e;cases e;have:=hb.size;omega
 . have b1:Bts O w w3:=(Bts.of_below (O:=O) hb).grown (fun b e=> .inl ⟨_,hole b e⟩) hg;exact b1.set h.own 8 v
 . have ke:∀k' z,O k'=some z->z ≠ Ro.outs->z ≠ Ro.mach->k'<w1.heap.size->(if v.ownBlock=some k' then some Ro.outs else O k')=some z/\(w3.setCell ⟨c.r,8,none⟩ v).heap[k']? = w1.heap[k']? := fun k' z e hz hz2 hlt=>by
    have hne:some k' ≠ ol.ownBlock:=fun e2=>by rw [hole k' e2.symm] at e;cases e;exact hz rfl
    refine⟨?_,(Ae (Id h.own e hz2)).trans (hg.block k' hlt hne)⟩;rw [if_neg]
    . exact e
    . intro e2;rcases hloc with h1 | h1
      . rw [h1] at e2;exact hne e2.symm
      . rw [h1] at e2;cases e2;omega
   have hvr:¬v.ownBlock=some c.r:=fun e=>by
    rcases hloc with h1 | h1
    . rw [h1] at e;exact hcr e.symm
    . rw [h1] at e;have h2:=hM1.lt;have h3:w1.heap.size=c.r:=by simpa using e
      omega
   have hm3:Ck c.r w3 bv bl c.rv c.fv fl ol c.fuel ((c.fuel:Int) - s.left) s.recs s.whole:=m1.stays (hg.block c.r hM1.lt hcr);refine⟨by rw [if_neg hvr];exact h.own,fun b hb'=>?_,fun b hb'=>?_,?_,⟨h.fit.vars,h.fit.lists,h.fit.few,h.fit.whole,h.fit.flds,h.fit.nf,h.fit.recs,by simp;omega,fun x hx=>?_⟩,h.left,⟨bv,bl,fl,v,hm3.setLines v,?_,?_,?_,?_⟩,h.room⟩
   . rw [if_neg]
     . exact h.low b hb'
     . intro e;rcases hloc with h1 | h1
       . rw [h1] at e;have h2:=hole b e;rw [h.low b hb'] at h2;cases h2
       . rw [h1] at e;cases e;have:=hM1.lo.size;omega
   . have hs:w3.heap.size<=b:=by simpa [World.setCell] using hb'
     rw [if_neg]
     . exact hM1.top b (lq0 hg.size hs)
     . intro e;have:=(ho.lt b e).2;omega
   . have hlow:Below c.B w1 w3:=⟨hg.os,hg.tape,hg.output,hg.size,fun k hk=>hg.block k (lle hk hM1.lo.size) fun e=>by have h2:=hole k e.symm;rw [h.low k hk] at h2;cases h2⟩;exact (hM1.lo.below hlow).set h.own h.low _ _
   . rcases List.mem_append.1 hx with hx | hx
     . exact h.fit.outs x hx
     . simp at hx;rw [hx];exact hl
   . exact m2.stays fun k' e l=>ke k' _ e (by simp) (by simp) l
   . exact m3.stays (fun k' e l=>ke k' _ e (by simp) (by simp) l) fun k' x e l=>ke k' _ e (by simp) (by simp) l
   . exact m4.stays fun k' e l=>ke k' _ e (by simp) (by simp) l
   . refine⟨?_,fun b e=>by simp only;rw [if_pos e]⟩;have:=A9 (w':=w3.setCell ⟨c.r,8,none⟩ v) ho fun b e=>Ae fun e2=>hvr (by rw [<-e2];exact e);simpa using this
def TxI (m:Nat) (s:Ms) (l:List Ex) (w wr:World) (v:Value) (i:Nat):Prop:=∃vs,Cw (Ai s m) (l.take i) = .ok vs/\wr.ownsRow w.heap.size 9 1 v vs.length (vs.map N4)/\Below w.heap.size w wr
theorem Le (l:List ByteArray) (h:∀x ∈ l,x.size<=200):(Co l).length<=201 * l.length:=by
 unfold Co
 induction l with
 | nil=>simp [Lib.join,List.intercalate]
 | cons a r ih =>
  have ha:=h a (by simp);have e:a.data.toList.length=a.size:=by simp
  have hr:=ih fun x hx=>h x (by simp [hx]);cases r with
  | nil=>simp [Lib.join,List.intercalate] at hr ⊢;omega
  | cons b r =>
   have e2:Lib.join ((a :: b :: r).map (·.data.toList)) [32]=a.data.toList ++ [32] ++ Lib.join ((b :: r).map (·.data.toList)) [32]:=by simp [Lib.join,List.intercalate]
   rw [e2];simp only [lap,List.length_cons,List.length_nil] at hr ⊢;omega
theorem Za (m:Nat) (c:Cx) (O:Own) (w:World) (s:Ms) (j:Nat) (l:List Ex) (v:Value) (hM:Mc c O w s j) (hv:Sl w c.B 4 v l.length (fun i c'=>∃x,l[i]? = some x/\ExA c.B w m c' x)) (hok:∀x ∈ l,okE m x) (hl:l.length<=4000) (hl0:0<l.length) :
 Calls prog 176 #[.pointer (some ⟨c.r,0,none⟩),v] w (Df c O w j (orM s (Cw (Ai s m) l) fun vs=>Dx s (vs.map Vl.str))):=by
 obtain⟨R,hR⟩:∃R,R=orM s (Cw (Ai s m) l) fun vs=>Dx s (vs.map Vl.str):=⟨_,rfl⟩;rw [<-hR];have HR0:Hid (R=_):=hR;obtain⟨a,cap,rfl,hmax,hsl⟩:=hv;have HSL:Hid (0<l.length->∃b off,a=some ⟨b,off,none⟩/\b<c.B/\∀i,i<l.length->∃cs:List Value,cs.length=4/\(∀j,j<4->w.cell? ⟨b,off+i * 4+j,none⟩=cs[j]?)/\∃x,l[i]? = some x/\ExA c.B w m cs x):=hsl;have HSB:Hid (c.B<=w.heap.size):=hM.lo.size;have HM:Hid (Mc c O w s j):=hM;have HOK:Hid (∀x ∈ l,okE m x):=hok;have HC:Hid (∀(W:World) (x:Ex) (cs:List Value),Below w.heap.size w W->x ∈ l->ExA c.B w m cs x->Calls prog 136 #[.pointer (some ⟨c.r,0,none⟩),.agg cs.toArray] W (Bb W (Ai s m x) fun v=> .string v.str)):=fun W x cs hW hx hc=>Hp (Hw m) c O W s j x cs (hM.below hW) (hc.below (hW.mono hM.lo.size)) (hok x hx);obtain⟨i0,hi,hz0,hz1,hz2⟩:=info_parts Pj;have HI:Hid (prog.info? 9=some i0/\i0.zero=some (.string ⟨#[]⟩)/\i0.size=1/\i0.bytes=16):=⟨hi,hz0,hz1,hz2⟩
 clear hsl hM hok hi hz0 hz1 hz2 hmax hR;go_enter func176,ntmps176
 go_wp2_with fail
 go_loopw [4,10] (fun v5 v10 wr=>∃(i:Nat) (a':Option Addr) (len' cap':Nat),i<=l.length/\v5 = .slice a' len' cap'/\v10 = .int .i64 i/\Hid (TxI m s l w wr v5 i)) (fun _ v10 _=>l.length - (intOf v10).toNat)
 case atStart=>exact⟨0,none,0,0,Nat.zero_le _,rfl,rfl,[],rfl,World.ownsRow_nil _ _ _ _,Below.refl _ _⟩
 case round =>
  obtain⟨i,a',len',cap',hil,rfl,rfl,HV⟩:=hrel
  by_cases hlt:i<l.length
  . have i1:(i:Int)<(l.length:Int):=by omega
    have i2:(0:Int)<=(i:Int):=by omega
    obtain⟨b,off,rfl,hbB,hii⟩:=HSL.out (by omega);obtain⟨k0,n0,s0,a0,len0,cap0,p0,p1,p2,p3,hx0,hm0⟩:=kid hii i (off+i * 4) rfl hlt;obtain⟨vs,hvs,hrow,hbr⟩:=HV.out;have hbw:b<w.heap.size:=lle hbB HSB.out;have HVS:Hid (Cw (Ai s m) (l.take i) = .ok vs/\wr.ownsRow w.heap.size 9 1 (.slice a' len' cap') vs.length (vs.map N4)):=⟨hvs,hrow⟩;have HBR:Hid (Below w.heap.size w wr):=hbr;have q0:wr.cell? ⟨b,off+i * 4,none⟩=some (.int .i64 k0):=(hbr.cell (p:=⟨b,off+i * 4,none⟩) hbw).trans p0;have q1:wr.cell? ⟨b,off+i * 4+1,none⟩=some (.int .i64 n0):=(hbr.cell (p:=⟨b,off+i * 4+1,none⟩) hbw).trans p1;have q2:wr.cell? ⟨b,off+i * 4+2,none⟩=some (.string s0):=(hbr.cell (p:=⟨b,off+i * 4+2,none⟩) hbw).trans p2;have q3:wr.cell? ⟨b,off+i * 4+3,none⟩=some (.slice a0 len0 cap0):=(hbr.cell (p:=⟨b,off+i * 4+3,none⟩) hbw).trans p3
    obtain⟨W1,hW1⟩:∃W1,W1=wr.alloc (.cells #[.int .i64 k0,.int .i64 n0,.string s0,.slice a0 len0 cap0] 31):=⟨_,rfl⟩;have HB1:Hid (Below wr.heap.size wr W1):=by rw [hW1];exact br0.alloc lr0 _
    have HWW:Hid (W1=_):=hW1;have HGD:Hid (l.getD i default=l[i]):=by unfold Hid;rw [List.getD_eq_getElem?_getD,gee hlt];rfl
    have HCA:=hid (HC.out W1 (l.getD i default) _ (Aa hbr HB1.out) hm0 hx0.out);clear p0 p1 p2 p3 hx0 hm0 hii hvs hrow hbr hW1 HV HC HSL;go_wp2_with fail
    rw [<-HWW.out];clear HWW q0 q1 q2 q3;refine Calls.mono HCA.out ?_;rintro e w2 ⟨hb2,hr⟩;have HB2:Hid (Below wr.heap.size wr w2):=Aa HB1.out hb2;have HBW2:Hid (Below w.heap.size w w2):=Aa HBR.out HB2.out;rcases Bf (Ai s m (l.getD i default)) with⟨er,hN⟩ | ⟨u,hN⟩
    . rw [hN] at hr;subst hr;have HE:Hid (R = .stop s er):=by unfold Hid;rw [HR0.out,Na hlt HVS.out.1 (by rw [<-HGD.out];exact hN)];rfl
      clear hN hb2 HCA;go_wp2_with fail
      exact⟨rfl,Ak.stop (Bts.of_below HBW2.out) HE.out (Gr.refl _ _) (HM.out.below HBW2.out).ou⟩
    rw [hN] at hr;have HN:Hid (Cw (Ai s m) (l.take (i+1)) = .ok (vs ++ [u])):=M9 hlt HVS.out.1 (by rw [<-HGD.out];exact hN);have HLN:Hid (vs.length=i):=by
     have:=Ik HVS.out.1;unfold Hid;rw [this];simp;omega
    have HRW:Hid (w2.ownsRow w.heap.size 9 1 (.slice a' len' cap') vs.length (vs.map N4)):=A9 HVS.out.2 (fun g hg=>HB2.out.block g (HVS.out.2.lt g hg).2);have HSZ:Hid (w.heap.size<=w2.heap.size):=HBW2.out.size;obtain⟨X,hX⟩:∃X,X=u.str:=⟨_,rfl⟩;have hr2:e = .returned (.string X):=by rw [hX];exact hr
    have HX:Hid (N4 u = .string X):=by rw [hX];rfl
    clear hr hN hb2 HCA hX;subst hr2
    go_wp2_with (first
     | (at_builtin;refine wpList_append_own_at _ rfl _ _ 37 rfl w.heap.size 9 i0 (.string ⟨#[]⟩) 1 16 underlying37 HI.out.1 HI.out.2.1 HI.out.2.2.1 HI.out.2.2.2 rfl (by decide) (.slice a' len' cap') vs.length (vs.map N4) rfl (HRW.out.alloc _) ⟨w2.heap.size,0,none⟩ 1 1 [.string X] rfl rfl (G3 _ _ _) (by intro u hu;simp at hu;rcases hu with rfl;rfl) (by have:=HLN.out;unfold maxLen;omega) (by have:=HLN.out;omega) (by simp;exact Nat.le_succ_of_le HSZ.out) ?_;intro v' w5 hown hgrow hnil hloc)
     | go_in)
    refine⟨?_,by simp [intOf];omega⟩;have hlt9:=fun k hk=>HRW.out.lt k hk;have hsh:∃a len cap,v' = .slice a len cap:=by
     rcases hown.2 with⟨rfl,_⟩ | ⟨g,cap,cur,rfl,_⟩
     . exact⟨_,_,_,rfl⟩
     . exact⟨_,_,_,rfl⟩
    obtain⟨a9,len9,cap9,rfl⟩:=hsh;have hal:Below w2.heap.size w2 (w2.alloc (.cells #[.string X] 9)):=br0.alloc lr0 _;refine⟨i+1,a9,len9,cap9,by omega,rfl,by simp,vs ++ [u],HN.out,?_,?_⟩
    . rw [lap,List.map_append];show w5.ownsRow _ _ _ _ _ (_ ++ [N4 u]);rw [HX.out];exact hown
    . exact HBW2.out.trans ⟨hgrow.os.trans hal.os,hgrow.tape.trans hal.tape,hgrow.output.trans hal.output,lq0 hal.size hgrow.size,fun k hk=>(hgrow.block k (lle (lle hk HSZ.out) hal.size) (fun e=>by have:=(hlt9 k e.symm).1;omega)).trans (hal.block k (lle hk HSZ.out))⟩
  . have i1:¬(i:Int)<(l.length:Int):=by omega
    obtain⟨vs,hvs,hrow,hbr⟩:=HV.out;rw [List.take_of_length_le (by omega)] at hvs;have hvl:=Ik hvs;have HOKV:Hid (∀u ∈ vs,u.ok):=fun u hu=>let ⟨x,hx,he⟩:=Il hvs u hu;B4 HM.out.fit (HOK.out x hx) he
    have HR1:Hid (R=Dx s (vs.map Vl.str)):=by unfold Hid;rw [HR0.out,hvs];rfl
    have HBR:Hid (Below w.heap.size w wr):=hbr;obtain⟨LB,hLB⟩:∃LB:ByteArray,LB = ⟨(Co (vs.map Vl.str)).toArray⟩:=⟨_,rfl⟩;have hsm:=Le (vs.map Vl.str) (fun x hx=>by
     obtain⟨u,hu,rfl⟩:=List.mem_map.1 hx;exact (HOKV.out u hu).len)
    rw [List.length_map] at hsm;have HLS:Hid (LB.size=(Co (vs.map Vl.str)).length):=by rw [hLB];simp [ByteArray.size,Hid]
    rcases hrow.2 with⟨_,h0⟩ | ⟨g,cap8,cur,he9,hg9,hg10,hg11,hg12,hg13,hg14⟩
    . omega
    cases he9;have HJ:Hid (Calls prog 192 #[.slice (some ⟨g,0,none⟩) l.length cap',.string ⟨#[32]⟩] wr fun e w'=>e = .returned (.string LB)/\Below wr.heap.size wr w'):=by
     have hc:=hrow.cells (g:=g) rfl;have h:=Tryz.strings_Join g 0 cap' (vs.map Vl.str) ⟨#[32]⟩ wr (fun jj x hx=>by
      have h1:=hc jj (.string x) (by
       rw [List.getElem?_map] at hx ⊢;cases h2:vs[jj]? with
       | none=>rw [h2] at hx;cases hx
       | some u=>rw [h2] at hx;simp only [Option.map_some,Option.some.injEq] at hx ⊢;rw [<-hx];rfl)
      rwa [Addr.add_lit] at h1) (hrow.lt g rfl).2 (by simp;omega) (by simp;omega) (by show (Co (vs.map Vl.str)).length<=_;omega)
     rw [List.length_map,hvl] at h;rw [hLB];exact h
    have HS9:Hid ((Co (vs.map Vl.str)).length<=100000000):=by unfold Hid;omega
    have HPR:Hid (Dx s (vs.map Vl.str)=if 200<LB.size\/s.out.length=2000 then .stop s 3 else .go { s with out:=s.out ++ [LB] } true):=by unfold Hid Dx;rw [HLS.out,hLB]
    have hz9:LB.size<=100000000:=by rw [HLS.out];exact HS9.out
    clear hvs hrow hbr HV HC HSL hg10 hg13 hg14 hLB hsm;go_wp2_with fail
    refine Calls.mono HJ.out ?_;rintro e w3 ⟨rfl,hb3⟩;have HB3:Hid (Below w.heap.size w w3):=Aa HBR.out hb3;have HM3:Hid (Mc c O w3 s j):=HM.out.below HB3.out;obtain⟨bv,bl,fl,ol,m1,m2,m3,m4,m5⟩:=HM3.out.mem;have c8:=m1.c8;have f8:=m1.thaw 8;have hrl:=HM3.out.lt;have hrn:¬c.r=w3.heap.size:=by omega
    have ho9:=HM3.out.fit.out;have HRO:Hid (Ef O .outs w3 ol s.out):=m5;obtain⟨oa,ocap,rfl,-⟩:=m5.at;clear hb3 m1 m2 m3 m4 m5 HJ
    by_cases hbig:200<LB.size
    . have HE:Hid (R = .stop s 3):=by unfold Hid;rw [HR1.out,HPR.out,if_pos (.inl hbig)]
      have hb2:(200:Int)<(LB.size:Int):=by omega
      go_wp2_with fail
      refine (C1 3 _).mono ?_;rintro e w4 ⟨rfl,hw4⟩;rw [hw4];clear hw4 w4;go_wp2_with fail
      exact⟨rfl,Ak.stop (Bts.of_below HB3.out) HE.out (Gr.refl _ _) HM3.out.ou⟩
    have hb2:¬(200:Int)<(LB.size:Int):=by omega
    by_cases hful:s.out.length=2000
    . have HE:Hid (R = .stop s 3):=by unfold Hid;rw [HR1.out,HPR.out,if_pos (.inr hful)]
      have hb4:((s.out.length:Int) == 2000)=true:=by simp [hful]
      go_wp2_with fail
      refine (C1 3 _).mono ?_;rintro e w4 ⟨rfl,hw4⟩;rw [hw4];clear hw4 w4;go_wp2_with fail
      exact⟨rfl,Ak.stop (Bts.of_below HB3.out) HE.out (Gr.refl _ _) HM3.out.ou⟩
    have HE:Hid (R = .go { s with out:=s.out ++ [LB] } true):=by unfold Hid;rw [HR1.out,HPR.out,if_neg (by omega)]
    have hb4:((s.out.length:Int) == 2000)=false:=by simp;omega
    go_wp2_with fail
    rw [decide_eq_false (show ¬(200:Int)<(LB.size:Int) by omega)];refine (Do 3 _).mono ?_;rintro e w4 ⟨rfl,hw4⟩;rw [hw4];clear hw4 w4
    go_wp2_with (first
     | (at_builtin;refine wpList_append_own_at _ rfl _ _ 37 rfl 0 9 i0 (.string ⟨#[]⟩) 1 16 underlying37 HI.out.1 HI.out.2.1 HI.out.2.2.1 HI.out.2.2.2 rfl (by decide) (.slice oa s.out.length ocap) s.out.length (s.out.map Value.string) rfl (HRO.out.1.alloc _) ⟨w3.heap.size,0,none⟩ 1 1 [.string LB] rfl rfl (G3 _ _ _) (by intro u hu;simp at hu;rcases hu with rfl;rfl) (by unfold maxLen;omega) (by omega) (Nat.zero_le _) ?_;intro v' w5 hown hgrow hnil hloc;obtain⟨va,vl,vc,rfl⟩:∃a len cap,v' = .slice a len cap:=(by rcases hown.2 with⟨rfl,_⟩ | ⟨g,cap,cur,rfl,_⟩ <;> exact⟨_,_,_,rfl⟩);have hcr:some c.r ≠ (Value.slice oa s.out.length ocap).ownBlock:=(fun e=>by have h2:=HRO.out.2 c.r e.symm;rw [HM3.out.own] at h2;cases h2);have hk:=hgrow.block c.r (by simp;omega) hcr;have hk2:=hk.trans (((Below.refl _ w3).alloc lr0 _).block c.r hrl);have d8:=(World.cell?_of_block (a:=⟨c.r,8,none⟩) hk2).trans c8;have g8:=(World.frozen?_of_block (a:=⟨c.r,8,none⟩) hk2).trans f8;have HPP:=hid (Mc.printed HM3.out (br0.alloc lr0 _) c8 hgrow hown hloc (by omega) (by omega));clear hown hgrow hnil hloc hk hk2 hcr)
     | go_in)
    go_end0
    obtain⟨O',hG,hbt,hMc⟩:=HPP.out;exact Ak.go (K:=fun _=> .tuple #[]) ((Bts.of_below (O:=O) HB3.out).trans hbt (Gr.refl _ _)) HE.out (hG.after HB3.out.size) hMc
theorem Mc.widened {c:Cx} {O:Own} {w w1 w3:World} {s:Ms} {j:Nat} {ol v:Value} {line:ByteArray} (h:Mc c O w s j) (hb:Below w.heap.size w w1) (hc:w.cell? ⟨c.r,6,none⟩=some ol) (hg:w1.grownBy w3 ol.ownBlock)
 (ho:w3.ownsRow 0 9 1 v (s.flds.length+1) (s.flds.map Value.string ++ [.string line])) (hloc:v.ownBlock=ol.ownBlock\/v.ownBlock=some w1.heap.size) (hl:line.size<=200) (hn:s.flds.length<200) :
 ∃O',Gr w O O'/\Bts O w (w3.setCell ⟨c.r,6,none⟩ v)/\Mc c O' (w3.setCell ⟨c.r,6,none⟩ v) { s with flds:=s.flds ++ [line] } j:=by
 obtain⟨bv,bl,ol',fl,m1,m2,m3,m4,m5⟩:=(h.below hb).mem;have hc1:=m1.c6;rw [hb.cell (p:=⟨c.r,6,none⟩) h.lt,hc] at hc1;cases hc1;have hole:∀b,ol.ownBlock=some b->O b=some .flds:=m4.2;have hM1:=h.below hb;have hcr:some c.r ≠ ol.ownBlock:=fun e=>by have h2:=hole c.r e.symm;rw [h.own] at h2;cases h2
 have top1:O w1.heap.size=none:=hM1.top _ lr0;refine⟨fun b=>if v.ownBlock=some b then some .flds else O b,?_,?_,?_⟩
 . intro b hb' h0;simp only;rw [if_neg]
   . exact h0
   . intro e;rcases hloc with h1 | h1
     . rw [h1] at e;rw [hole b e] at h0;cases h0
     . rw [h1] at e;cases e;have:=hb.size;omega
 . have b1:Bts O w w3:=(Bts.of_below (O:=O) hb).grown (fun b e=> .inl ⟨_,hole b e⟩) hg;exact b1.set h.own 6 v
 . have ke:∀k' z,O k'=some z->z ≠ Ro.flds->z ≠ Ro.mach->k'<w1.heap.size->(if v.ownBlock=some k' then some Ro.flds else O k')=some z/\(w3.setCell ⟨c.r,6,none⟩ v).heap[k']? = w1.heap[k']? := fun k' z e hz hz2 hlt=>by
    have hne:some k' ≠ ol.ownBlock:=fun e2=>by rw [hole k' e2.symm] at e;cases e;exact hz rfl
    refine⟨?_,(Ae (Id h.own e hz2)).trans (hg.block k' hlt hne)⟩;rw [if_neg]
    . exact e
    . intro e2;rcases hloc with h1 | h1
      . rw [h1] at e2;exact hne e2.symm
      . rw [h1] at e2;cases e2;omega
   have hvr:¬v.ownBlock=some c.r:=fun e=>by
    rcases hloc with h1 | h1
    . rw [h1] at e;exact hcr e.symm
    . rw [h1] at e;have h2:=hM1.lt;have h3:w1.heap.size=c.r:=by simpa using e
      omega
   have hm3:Ck c.r w3 bv bl c.rv c.fv ol fl c.fuel ((c.fuel:Int) - s.left) s.recs s.whole:=m1.stays (hg.block c.r hM1.lt hcr);refine⟨by rw [if_neg hvr];exact h.own,fun b hb'=>?_,fun b hb'=>?_,?_,⟨h.fit.vars,h.fit.lists,h.fit.few,h.fit.whole,fun x hx=>?_,by simp;omega,h.fit.recs,h.fit.out,h.fit.outs⟩,h.left,⟨bv,bl,v,fl,hm3.setFlds v,?_,?_,?_,?_⟩,h.room⟩
   . rw [if_neg]
     . exact h.low b hb'
     . intro e;rcases hloc with h1 | h1
       . rw [h1] at e;have h2:=hole b e;rw [h.low b hb'] at h2;cases h2
       . rw [h1] at e;cases e;have:=hM1.lo.size;omega
   . have hs:w3.heap.size<=b:=by simpa [World.setCell] using hb'
     rw [if_neg]
     . exact hM1.top b (lq0 hg.size hs)
     . intro e;have:=(ho.lt b e).2;omega
   . have hlow:Below c.B w1 w3:=⟨hg.os,hg.tape,hg.output,hg.size,fun k hk=>hg.block k (lle hk hM1.lo.size) fun e=>by have h2:=hole k e.symm;rw [h.low k hk] at h2;cases h2⟩;exact (hM1.lo.below hlow).set h.own h.low _ _
   . rcases List.mem_append.1 hx with hx | hx
     . exact h.fit.flds x hx
     . simp at hx;rw [hx];exact hl
   . exact m2.stays fun k' e l=>ke k' _ e (by simp) (by simp) l
   . exact m3.stays (fun k' e l=>ke k' _ e (by simp) (by simp) l) fun k' x e l=>ke k' _ e (by simp) (by simp) l
   . refine⟨?_,fun b e=>by simp only;rw [if_pos e]⟩;have:=A9 (w':=w3.setCell ⟨c.r,6,none⟩ v) ho fun b e=>Ae fun e2=>hvr (by rw [<-e2];exact e);simpa using this
   . exact m5.stays fun k' e l=>ke k' _ e (by simp) (by simp) l
theorem Mc.fieldSet {c:Cx} {O:Own} {w:World} {s:Ms} {j:Nat} {g len cap i:Nat} {x:ByteArray} (h:Mc c O w s j) (hc:w.cell? ⟨c.r,6,none⟩=some (.slice (some ⟨g,0,none⟩) len cap)) (hi:i<s.flds.length) (hx:x.size<=200) :
 O g=some .flds/\Mc c O (w.setCell ⟨g,i,none⟩ (.string x)) { s with flds:=s.flds.set i x } j:=by
 obtain⟨bv,bl,fl,ol,m1,m2,m3,m4,m5⟩:=h.mem;have hc1:=m1.c6;rw [hc] at hc1;cases hc1;have hg:O g=some .flds:=m4.2 g rfl;have ke:∀k' z,O k'=some z->z ≠ Ro.flds->k'<w.heap.size->O k'=some z/\(w.setCell ⟨g,i,none⟩ (.string x)).heap[k']? = w.heap[k']? := fun k' z e hz _=>⟨e,Ae fun e2=>by rw [e2,hg] at e;cases e;exact hz rfl⟩;refine⟨hg,h.own,h.low,fun b hb=>h.top b (by simpa [World.setCell] using hb),h.lo.below ⟨rfl,rfl,rfl,by simp [World.setCell],fun k hk=>Ae fun e=>by rw [<-e,h.low k hk] at hg;cases hg⟩,⟨h.fit.vars,h.fit.lists,h.fit.few,h.fit.whole,fun y hy=>?_,by simpa using h.fit.nf,h.fit.recs,h.fit.out,h.fit.outs⟩,h.left,⟨bv,bl,_,ol,m1.stays (ke _ _ h.own (by simp) m1.lt).2,?_,?_,?_,?_⟩,h.room⟩
 . rcases List.mem_or_eq_of_mem_set hy with hy | rfl
   . exact h.fit.flds y hy
   . exact hx
 . exact m2.stays fun k' e l=>ke k' _ e (by simp) l
 . exact m3.stays (fun k' e l=>ke k' _ e (by simp) l) fun k' x e l=>ke k' _ e (by simp) l
 . refine⟨?_,m4.2⟩;obtain⟨h1,h2⟩:=m4.1;refine⟨by simp,?_⟩;rcases h2 with⟨h3,_⟩ | ⟨g',cap',cur,h3,h4,h5,h6,h7,h8,h9⟩
   . cases h3
   . cases h3;refine .inr ⟨g,cap,cur.setIfInBounds i (.string x),by simp,h4,?_,by simpa using h6,h7,by simpa using h8,?_⟩
     . simp [World.setCell,Array.getElem?_modify,h5]
     . simp only [Nat.mul_one,List.length_set,Array.toList_setIfInBounds] at h9 ⊢;rw [List.take_set,h9,List.map_set]
 . exact m5.stays fun k' e l=>ke k' _ e (by simp) l
theorem Mc.wholeSet {c:Cx} {O:Own} {w:World} {s:Ms} {j:Nat} (h:Mc c O w s j) (x:ByteArray):(x.size<=200->Mc c O (w.setCell ⟨c.r,5,none⟩ (.string x)) { s with whole:=x } j)/\Ou c O (w.setCell ⟨c.r,5,none⟩ (.string x)) s.out s.left/\Bts O w (w.setCell ⟨c.r,5,none⟩ (.string x)):=by
 obtain⟨bv,bl,fl,ol,m1,m2,m3,m4,m5⟩:=h.mem;have ke:∀k z,O k=some z->z ≠ Ro.mach->k<w.heap.size->O k=some z/\(w.setCell ⟨c.r,5,none⟩ (.string x)).heap[k]? = w.heap[k]? := fun k z e hz _=>⟨e,Ae (Id h.own e hz)⟩;refine⟨fun hx=>⟨h.own,h.low,fun b hb=>h.top b (by simpa [World.setCell] using hb),h.lo.set h.own h.low _ _,⟨h.fit.vars,h.fit.lists,h.fit.few,hx,h.fit.flds,h.fit.nf,h.fit.recs,h.fit.out,h.fit.outs⟩,h.left,⟨bv,bl,fl,ol,m1.setWhole x,?_,?_,?_,?_⟩,h.room⟩,⟨h.own,h.low,h.left,bv,bl,fl,ol,_,_,m1.setWhole x,?_,h.fit.out,h.fit.outs⟩,(Bts.refl O w).set h.own 5 _⟩
 . exact m2.stays fun k e l=>ke k _ e (by simp) l
 . exact m3.stays (fun k e l=>ke k _ e (by simp) l) fun k x e l=>ke k _ e (by simp) l
 . exact m4.stays fun k e l=>ke k _ e (by simp) l
 . exact m5.stays fun k e l=>ke k _ e (by simp) l
 . exact m5.stays fun k e l=>ke k _ e (by simp) l
def WrI (c:Cx) (O:Own) (s:Ms) (j n:Nat) (w wr:World):Prop:=∃O' i,(i=0\/s.flds.length+i<=n)/\Gr w O O'/\Bts O w wr/\Mc c O' wr { s with flds:=s.flds ++ List.replicate i ⟨#[]⟩ } j
def nfL (r:Nat) (w:World):Nat:=match w.cell? ⟨r,6,none⟩ with
 | some (.slice _ len _)=>len
 | _=>0
theorem Ac6 (c:Cx) (O:Own) (w:World) (s:Ms) (j:Nat) (v:Vl) (t:ByteArray) (hM:Mc c O w s j) (hv:v.ok) (ht:t.size<=200) :
 Calls prog 175 #[.pointer (some ⟨c.r,0,none⟩),vlV v,.string t] w (Df c O w j (De s v t)):=by
 obtain⟨R,hR⟩:∃R,R=De s v t:=⟨_,rfl⟩;rw [<-hR];obtain⟨vt,vn,vs⟩:=v;have z1:vs.size<=200:=hv.may.1;have HM:Hid (Mc c O w s j):=hM;unfold vlV
 by_cases h: -1099511627776<=Av vt vn vs/\Av vt vn vs<=1099511627776
 . obtain⟨n,hn⟩:∃n,n=Av vt vn vs:=⟨_,rfl⟩;have HC:Hid (∀W:World,_):=fun W=>Fg vt vn vs W z1 h.1 h.2;rw [<-hn] at h HC
   have HR0:Hid (R=if n<1\/100<n then .stop s 4
    else if 200<(Co ((H8 s.flds n.toNat).set (n.toNat - 1) t)).length then .stop s 3
    else .go { s with flds:=(H8 s.flds n.toNat).set (n.toNat - 1) t,whole:=⟨(Co ((H8 s.flds n.toNat).set (n.toNat - 1) t)).toArray⟩ } true):=by
    rw [hR];unfold Hid De Vl.num;simp only;rw [<-hn,if_pos h]
   clear hn hM hv hR;obtain⟨n0,n1⟩:=h
   by_cases h1:n<1
   . have HE:Hid (R = .stop s 4):=by rw [HR0.out,if_pos (.inl h1)];rfl
     go_enter func175,ntmps175
     go_wp2_with fail
     refine Calls.mono (HC.out _) ?_;rintro e w1 ⟨rfl,hb1⟩;have HB1:Hid (Below w.heap.size w w1):=Aa (by go_grown) hb1;clear hb1 HC;go_wp2_with fail
     refine (C1 4 _).mono ?_;rintro e w2 ⟨rfl,hw2⟩;rw [hw2];clear hw2 w2;go_wp2_with fail
     exact⟨rfl,Ak.stop (Bts.of_below HB1.out) HE.out (Gr.refl _ _) (HM.out.below HB1.out).ou⟩
   by_cases h2:100<n
   . have HE:Hid (R = .stop s 4):=by rw [HR0.out,if_pos (.inr h2)];rfl
     go_enter func175,ntmps175
     go_wp2_with fail
     refine Calls.mono (HC.out _) ?_;rintro e w1 ⟨rfl,hb1⟩;have HB1:Hid (Below w.heap.size w w1):=Aa (by go_grown) hb1;clear hb1 HC;go_wp2_with fail
     refine (C1 4 _).mono ?_;rintro e w2 ⟨rfl,hw2⟩;rw [hw2];clear hw2 w2;go_wp2_with fail
     exact⟨rfl,Ak.stop (Bts.of_below HB1.out) HE.out (Gr.refl _ _) (HM.out.below HB1.out).ou⟩
   go_enter func175,ntmps175
   go_wp2_with fail
   refine Calls.mono (HC.out _) ?_;rintro e w1 ⟨rfl,hb1⟩;have HB1:Hid (Below w.heap.size w w1):=Aa (by go_grown) hb1;clear hb1 HC;go_wp2_with fail
   rw [decide_eq_false (show ¬n<1 by omega),decide_eq_false (show ¬100<n by omega)];refine (Do 4 _).mono ?_;rintro e w2 ⟨rfl,hw2⟩;rw [hw2];clear hw2 w2;go_wp2_with fail
   obtain⟨N,rfl⟩:∃N:Nat,n=(N:Int):=⟨n.toNat,by omega⟩;have HN:Hid (1<=N/\N<=100):=by unfold Hid;omega
   have HI0:Hid (WrI c O s j N w w1):=⟨O,0,.inl rfl,Gr.refl _ _,Bts.of_below HB1.out,by simpa using HM.out.below HB1.out⟩;obtain⟨i0,hi,hz0,hz1,hz2⟩:=info_parts Pj;have HI:Hid (prog.info? 9=some i0/\i0.zero=some (.string ⟨#[]⟩)/\i0.size=1/\i0.bytes=16):=⟨hi,hz0,hz1,hz2⟩;clear hi hz0 hz1 hz2 HB1 h1 h2
   go_loopw [30] (fun _ wr=>Hid (WrI c O s j N w wr)) (fun _ wr=>N - nfL c.r wr)
   case atStart=>exact HI0.out
   case round =>
    obtain⟨O',i,hii,hG,hbt,hMc⟩:=hrel.out;obtain⟨sr,hsr⟩:∃sr:Ms,sr = { s with flds:=s.flds ++ List.replicate i ⟨#[]⟩ }:=⟨_,rfl⟩;rw [<-hsr] at hMc;have hfl:sr.flds=s.flds ++ List.replicate i ⟨#[]⟩:=by rw [hsr]
    have HFN:Hid (sr.flds.length=s.flds.length+i):=by rw [hfl];simp [Hid]
    obtain⟨bv,bl,fl,ol,m1,m2,m3,m4,m5⟩:=hMc.mem;have c6:=m1.c6;have f6:=m1.thaw 6;have HRF:Hid (Ef O' .flds wr fl sr.flds):=m4;obtain⟨fa,fcap,rfl,hfa⟩:=m4.at;have hrl:=hMc.lt;have hrn:¬c.r=wr.heap.size:=by omega
    have HMr:Hid (Mc c O' wr sr j):=hMc;have HSR:Hid (sr = { s with flds:=s.flds ++ List.replicate i ⟨#[]⟩ }/\(i=0\/s.flds.length+i<=N)/\Gr w O O'/\Bts O w wr):=⟨hsr,hii,hG,hbt⟩;have HNF:Hid (nfL c.r wr=sr.flds.length):=by unfold Hid nfL;rw [c6]
    clear hrel HI0 m1 m2 m3 m4 m5 hMc hsr hii hG hbt hfl
    by_cases hlt:sr.flds.length<N
    . have i1:(sr.flds.length:Int)<(N:Int):=by omega
      have hn9:sr.flds.length<200:=by have:=HN.out;omega
      clear hfa
      go_wp2_with (first
       | (at_builtin;refine wpList_append_own_at _ rfl _ _ 37 rfl 0 9 i0 (.string ⟨#[]⟩) 1 16 underlying37 HI.out.1 HI.out.2.1 HI.out.2.2.1 HI.out.2.2.2 rfl (by decide) (.slice fa sr.flds.length fcap) sr.flds.length (sr.flds.map Value.string) rfl (HRF.out.1.alloc _) ⟨wr.heap.size,0,none⟩ 1 1 [.string ⟨#[]⟩] rfl rfl (G3 _ _ _) (by intro u hu;simp at hu;rcases hu with rfl;rfl) (by unfold maxLen;omega) (by omega) (Nat.zero_le _) ?_;intro v' w5 hown hgrow hnil hloc;obtain⟨va,vc,rfl⟩:∃a cap,v' = .slice a (sr.flds.length+1) cap:=(by rcases hown.2 with⟨_,h9⟩ | ⟨g,cap,cur,rfl,_⟩ <;> first | omega | exact⟨_,_,rfl⟩);have hcr:some c.r ≠ (Value.slice fa sr.flds.length fcap).ownBlock:=(fun e=>by have h2:=HRF.out.2 c.r e.symm;rw [HMr.out.own] at h2;cases h2);have hk:=hgrow.block c.r (by simp;omega) hcr;have hk2:=hk.trans (((Below.refl _ wr).alloc lr0 _).block c.r hrl);have d6:=(World.cell?_of_block (a:=⟨c.r,6,none⟩) hk2).trans c6;have g6:=(World.frozen?_of_block (a:=⟨c.r,6,none⟩) hk2).trans f6;have HPP:=hid (Mc.widened (line:=⟨#[]⟩) HMr.out (br0.alloc lr0 _) c6 hgrow hown hloc (by decide) hn9);have HD6:=hid d6;clear hown hgrow hnil hloc hk hk2 hcr)
       | go_in)
      refine⟨?_,?_⟩
      . obtain⟨O2,hG2,hb2,hM2⟩:=HPP.out;obtain⟨e1,e2,e3,e4⟩:=HSR.out;refine⟨O2,i+1,.inr (by have:=HFN.out;omega),e3.trans hG2 e4.size,e4.trans hb2 e3,?_⟩;have e5:({ s with flds:=s.flds ++ List.replicate (i+1) ⟨#[]⟩ }:Ms) = { sr with flds:=sr.flds ++ [⟨#[]⟩] }:=by rw [e1,List.replicate_succ',<-List.append_assoc]
        rw [e5];exact hM2
      . have e9:nfL c.r (w5.setCell ⟨c.r,6,none⟩ (.slice va (sr.flds.length+1) vc))=sr.flds.length+1:=by
         unfold nfL;rw [World.cell?_setCell_same _ _ _ HD6.out]
        rw [e9,HNF.out];omega
    . have i1:¬(sr.flds.length:Int)<(N:Int):=by omega
      have hN9:=HN.out;obtain⟨g,rfl,hgc⟩:=hfa (by omega);have hixl:N - 1<sr.flds.length:=by omega
      have hcx:=hgc (N - 1) _ (gee hixl);have hfz:wr.frozen? ⟨g,N - 1,none⟩=false:=by
       rcases HRF.out.1.2 with⟨h9,_⟩ | ⟨g',cap',cur,h9,_,h10,_⟩
       . cases h9
       . cases h9;exact Lib.frozen_of_heap h10 _
      obtain⟨hgO,hM3⟩:=HMr.out.fieldSet c6 hixl ht;obtain⟨w3,hw3⟩:∃w3,w3=wr.setCell ⟨g,N - 1,none⟩ (.string t):=⟨_,rfl⟩;rw [<-hw3] at hM3;obtain⟨s3,hs3⟩:∃s3:Ms,s3 = { sr with flds:=sr.flds.set (N - 1) t }:=⟨_,rfl⟩;rw [<-hs3] at hM3;have hgr:¬g=c.r:=fun e=>by have h2:=HMr.out.own;rw [<-e,hgO] at h2;cases h2
      have e6:w3.cell? ⟨c.r,6,none⟩=some (.slice (some ⟨g,0,none⟩) sr.flds.length fcap):=by rw [hw3,World.cell?_of_block (a:=⟨c.r,6,none⟩) (Ae (fun e=>hgr e.symm))];exact c6
      have HBT3:Hid (Bts O w w3):=by rw [hw3];exact HSR.out.2.2.2.trans ((Bts.refl O' wr).set hgO _ _) HSR.out.2.2.1
      have HM3:Hid (Mc c O' w3 s3 j):=hM3;have hs3f:s3.flds=(H8 s.flds N).set (N - 1) t:=by
       rw [hs3];show sr.flds.set _ _=_;have:sr.flds=H8 s.flds N:=by
        rw [HSR.out.1];show s.flds ++ _=s.flds ++ _;have h8:=HFN.out;have h9:=HSR.out.2.1;have:i=N - s.flds.length:=by omega
        rw [this]
       rw [this]
      have HS3:Hid (s3.flds=(H8 s.flds N).set (N - 1) t/\s3.out=s.out/\s3.left=s.left/\∀x,({ s3 with whole:=x }:Ms) = { s with flds:=(H8 s.flds N).set (N - 1) t,whole:=x }):=by
       refine⟨hs3f,by rw [hs3,HSR.out.1],by rw [hs3,HSR.out.1],fun x=>?_⟩;rw [<-hs3f,hs3,HSR.out.1]
      obtain⟨LB,hLB⟩:∃LB:ByteArray,LB = ⟨(Co s3.flds).toArray⟩:=⟨_,rfl⟩;have hs3l:s3.flds.length=sr.flds.length:=by rw [hs3];simp
      have HLS:Hid (LB.size=(Co s3.flds).length):=by rw [hLB];simp [ByteArray.size,Hid]
      have hsm:=Le s3.flds hM3.fit.flds;have hnf:=hM3.fit.nf;have HJ:Hid (Calls prog 192 #[.slice (some ⟨g,0,none⟩) sr.flds.length fcap,.string ⟨#[32]⟩] w3 fun e w'=>e = .returned (.string LB)/\Below w3.heap.size w3 w'):=by
       obtain⟨bv,bl,fl9,ol9,m1,m2,m3,m4,m5⟩:=hM3.mem;have h6:=m1.c6;rw [e6] at h6;cases h6;obtain⟨a9,cap9,h9,hc9⟩:=m4.at;simp only [Value.slice.injEq] at h9;obtain⟨h9a,-,h9c⟩:=h9;subst h9a h9c;obtain⟨g9,h10,hc10⟩:=hc9 (by omega);have hlt9:=(m4.1.lt g rfl).2;cases h10;have hcap:s3.flds.length<=fcap:=by
        rcases m4.1.2 with⟨h11,_⟩ | ⟨g',cap',cur,h11,_,_,h12,_⟩
        . cases h11
        . simp only [Value.slice.injEq] at h11;obtain⟨_,_,h13⟩:=h11;rw [h13];exact h12
       have h:=Tryz.strings_Join g 0 fcap s3.flds ⟨#[32]⟩ w3 (fun jj x hx=>by rw [Nat.zero_add];exact hc10 jj x hx) hlt9 (by omega) hcap (by show (Co s3.flds).length<=_;omega);rw [hs3l] at h;rw [hLB];exact h
      have HRE:Hid (R=if 200<LB.size then .stop s 3 else .go { s3 with whole:=LB } true):=by
       unfold Hid;have e:(N:Int).toNat=N:=by simp
       rw [HR0.out,if_neg (by omega),e,HLS.out,HS3.out.2.2.2,hLB,HS3.out.1]
      have hz9:LB.size<=100000000:=by rw [HLS.out];omega
      have HWW:Hid (w3=_):=hw3;clear hgc hM3 hs3 hs3f hLB hsm hnf hw3 hs3l;go_wp2_with fail
      rw [<-HWW.out];clear HWW;refine Calls.mono HJ.out ?_;rintro e w4 ⟨rfl,hb4⟩;have HM4:Hid (Mc c O' w4 s3 j):=HM3.out.below hb4;have HBT4:Hid (Bts O w w4):=HBT3.out.more hb4;obtain⟨bv,bl9,fl9,ol9,m1,-⟩:=HM4.out.mem;have c5:=m1.c5;have f5:=m1.thaw 5;obtain⟨hWs,hWo,hWb⟩:=HM4.out.wholeSet LB;have HW9:=hid (And.intro hWs (And.intro hWo hWb));clear hb4 m1 HJ hWs hWo hWb hcx hfz e6 c6 f6
      by_cases hbig:200<LB.size
      . have HE:Hid (R = .stop s 3):=by rw [HRE.out,if_pos hbig];rfl
        have hb2:(200:Int)<(LB.size:Int):=by omega
        go_wp2_with fail
        (try rw [decide_eq_true (show (200:Int)<(LB.size:Int) by omega)])
        refine (C1 3 _).mono ?_;rintro e w5 ⟨rfl,hw5⟩;rw [hw5];clear hw5 w5;go_wp2_with fail
        have hou:=HW9.out.2.1;rw [HS3.out.2.1,HS3.out.2.2.1] at hou;exact⟨rfl,Ak.stop (HBT4.out.trans HW9.out.2.2 HSR.out.2.2.1) HE.out HSR.out.2.2.1 hou⟩
      . have HE:Hid (R = .go { s3 with whole:=LB } true):=by rw [HRE.out,if_neg hbig];rfl
        have hb2:¬(200:Int)<(LB.size:Int):=by omega
        go_wp2_with fail
        (try rw [decide_eq_false (show ¬(200:Int)<(LB.size:Int) by omega)])
        refine (Do 3 _).mono ?_;rintro e w5 ⟨rfl,hw5⟩;rw [hw5];clear hw5 w5;go_wp2_with fail
        go_end0
        exact Ak.go (K:=fun _=> .tuple #[]) (HBT4.out.trans HW9.out.2.2 HSR.out.2.2.1) HE.out HSR.out.2.2.1 (HW9.out.1 (by omega))
 . have HE:Hid (R = .stop s 4):=by
    rw [hR];unfold Hid De Vl.num;simp only;rw [if_neg h]
   have HC:Hid (∀W:World,_):=fun W=>Gn vt vn vs W z1 (by omega);clear hM hv h hR;go_enter func175,ntmps175
   go_wp2_with fail
   refine Calls.mono (HC.out _) ?_;rintro e w1 ⟨rfl,hb1⟩;have HB1:Hid (Below w.heap.size w w1):=Aa (by go_grown) hb1;clear hb1 HC;go_wp2_with fail
   refine (C1 4 _).mono ?_;rintro e w2 ⟨rfl,hw2⟩;rw [hw2];clear hw2 w2;go_wp2_with fail
   exact⟨rfl,Ak.stop (Bts.of_below HB1.out) HE.out (Gr.refl _ _) (HM.out.below HB1.out).ou⟩
theorem Gb (p:Nat->Bool) (s:ByteArray):∀(f pos:Nat) (st:Option Nat) (acc:List (Nat × Nat)),(Lib.spansFromP p s f pos st acc).1.length+(if (Lib.spansFromP p s f pos st acc).2.isSome then 1 else 0)<=acc.length+(if st.isSome then 1 else 0)+f
 | 0,_,st,acc=>by unfold Lib.spansFromP;exact Nat.le_refl _
 | f+1,pos,st,acc=>by
  unfold Lib.spansFromP;split
  . split
    . cases st with
      | none=>have:=Gb p s f (pos+(Utf8.decode s pos).2) none acc;simp at this ⊢;omega
      | some a=>have:=Gb p s f (pos+(Utf8.decode s pos).2) none (acc ++ [(a,pos)]);simp at this ⊢;omega
    . cases st with
      | none=>have:=Gb p s f (pos+(Utf8.decode s pos).2) (some pos) acc;simp at this ⊢;omega
      | some a=>have:=Gb p s f (pos+(Utf8.decode s pos).2) (some a) acc;simp at this ⊢;omega
  . exact Nat.le_add_right _ _
theorem S5 (p:Nat->Bool) (s:ByteArray):(Lib.goFieldsP p s).length<=s.size:=by
 have h:=Gb p s s.size 0 none [];unfold Lib.goFieldsP Lib.spansOfP Lib.closeSpans;rw [List.length_map];cases hq:(Lib.spansFromP p s s.size 0 none []).2 with
 | none=>rw [hq] at h;simp at h ⊢;omega
 | some a=>rw [hq] at h;simp at h ⊢;omega
theorem Pe (p:Nat->Bool) (s:ByteArray):∀x ∈ Lib.goFieldsP p s,x.size<=s.size:=by
 intro x hx;obtain⟨q,-,rfl⟩:=List.mem_map.1 hx;rw [ByteArray.size_extract];omega
theorem Mc.taken {c:Cx} {O:Own} {w w1:World} {s:Ms} {j A n:Nat} {l:List ByteArray} (h:Mc c O w s j) (hb:Below w.heap.size w w1) (hA:w.heap.size<=A) (ho:w1.ownsRow w.heap.size 9 1 (.slice (some ⟨A,0,none⟩) n n) n (l.map Value.string)) (hn:n=l.length) (hl:∀x ∈ l,x.size<=200) (h200:l.length<=200) :
 Gr w O (fun b=>if b=A then some .flds else O b)/\Bts O w (w1.setCell ⟨c.r,6,none⟩ (.slice (some ⟨A,0,none⟩) n n))/\Mc c (fun b=>if b=A then some .flds else O b) (w1.setCell ⟨c.r,6,none⟩ (.slice (some ⟨A,0,none⟩) n n)) { s with flds:=l } j:=by
 have hM1:=h.below hb;obtain⟨bv,bl,fl,ol,m1,m2,m3,m4,m5⟩:=hM1.mem;have hA1:A<w1.heap.size:=(ho.lt A rfl).2;have hrA:¬c.r=A:=fun e=>by have:=h.lt;omega
 have hOA:O A=none:=h.top A hA;have ke:∀k z,O k=some z->z ≠ Ro.mach->k<w1.heap.size->(if k=A then some Ro.flds else O k)=some z/\(w1.setCell ⟨c.r,6,none⟩ (.slice (some ⟨A,0,none⟩) n n)).heap[k]? = w1.heap[k]? := fun k z e hz _=>by
  refine⟨?_,Ae (Id h.own e hz)⟩;rw [if_neg]
  . exact e
  . intro e2;rw [e2,hOA] at e;cases e
 refine⟨fun b hb' h0=>by show (if b=A then _ else _)=_;rw [if_neg (by omega)];exact h0,(Bts.of_below (O:=O) hb).set h.own 6 _,by show (if c.r=A then _ else _)=_;rw [if_neg hrA];exact h.own,fun b hb'=>?_,fun b hb'=>?_,hM1.lo.set h.own h.low _ _,⟨h.fit.vars,h.fit.lists,h.fit.few,h.fit.whole,hl,h200,h.fit.recs,h.fit.out,h.fit.outs⟩,h.left,⟨bv,bl,_,ol,m1.setFlds _,?_,?_,?_,?_⟩,h.room⟩
 . show (if b=A then _ else _)=_;rw [if_neg (by have:=h.lo.size;omega)];exact h.low b hb'
 . have hs:w1.heap.size<=b:=by simpa [World.setCell] using hb'
   show (if b=A then _ else _)=_;rw [if_neg (by omega)];exact hM1.top b hs
 . exact m2.stays fun k e l=>ke k _ e (by simp) l
 . exact m3.stays (fun k e l=>ke k _ e (by simp) l) fun k x e l=>ke k _ e (by simp) l
 . refine⟨?_,fun b e=>by cases e;simp⟩;subst hn;have:=A9 (w':=w1.setCell ⟨c.r,6,none⟩ (.slice (some ⟨A,0,none⟩) l.length l.length)) ho fun b e=>Ae fun e2=>hrA (by cases e;exact e2.symm);exact⟨by simp,this.2.imp id fun⟨g,cap,cur,a1,a2,a3⟩=>⟨g,cap,cur,a1,Nat.zero_le _,a3⟩⟩
 . exact m5.stays fun k e l=>ke k _ e (by simp) l
theorem Ahr (W:World) (x:Nat) (hx:x<=1114111):FnGives prog 55 #[] #[encR x] (.bool (M5 x)) W:=by
 show Calls prog 55 #[encR x] W fun e w'=>e = .returned (.bool (M5 x))/\∃q,w'=W.drewN q;unfold encR;go_enter func55,ntmps55
 go_wp2_with fail
 . go_ret
   rename_i h
   exact⟨Am (by unfold M5;have:x=32:=by omega
                rw [this];rfl),0,rfl⟩
 . go_ret
   rename_i h;exact⟨Am (by unfold M5;rw [Bool.eq_iff_iff];simp;omega),0,rfl⟩
theorem Af8 (c:Cx) (O:Own) (w:World) (s:Ms) (j:Nat) (x:ByteArray) (hM:Mc c O w s j) (hx:x.size<=200) :
 Calls prog 36 #[.pointer (some ⟨c.r,0,none⟩),.string x] w fun e w'=>e = .returned (.tuple #[])/\∃O',Gr w O O'/\Bts O w w'/\Mc c O' w' (Gv s x) j:=by
 obtain⟨W,hW⟩:∃W,W=w.setCell ⟨c.r,5,none⟩ (.string x):=⟨_,rfl⟩;obtain⟨h1,-,h2⟩:=hM.wholeSet x;rw [<-hW] at h1 h2;have HM:=hid (h1 hx);have HBT:=hid h2;have HWW:Hid (W=_):=hW;have c5:w.cell? ⟨c.r,5,none⟩=some (.string s.whole):=by obtain⟨_,_,_,_,m1,_⟩:=hM.mem;exact m1.c5
 have f5:w.frozen? ⟨c.r,5,none⟩=false:=by obtain⟨_,_,_,_,m1,_⟩:=hM.mem;exact m1.thaw 5
 have HFF:=hid (Tryz.strings_FieldsFunc_runes 55 #[] (enters_of func55 (by kernel_rfl) rfl) M5 x W (by omega) fun Z y hy hZ=>Ahr Z y hy);have HSM:Hid ((∀y ∈ Lib.goFieldsP M5 x,y.size<=200)/\(Lib.goFieldsP M5 x).length<=200):=⟨fun y hy=>lq0 (Pe _ _ y hy) hx,lq0 (S5 _ _) hx⟩;have HTK:Hid (Gv s x = { s with whole:=x,flds:=Lib.goFieldsP M5 x }):=rfl;obtain⟨L,hL⟩:∃L,L=Lib.goFieldsP M5 x:=⟨_,rfl⟩;rw [<-hL] at HFF HSM HTK;clear hW h1 h2 hM hL;go_enter func36,ntmps36
 go_wp2_with fail
 rw [<-HWW.out];clear HWW c5 f5;refine Calls.mono HFF.out ?_;rintro e w1 ⟨A,rfl,hA,hrow,hb1⟩;have HT:=hid (HM.out.taken hb1 hA hrow rfl HSM.out.1 HSM.out.2);have c6:∃v,w1.cell? ⟨c.r,6,none⟩=some v:=by obtain⟨_,_,_,_,m1,_⟩:=(HM.out.below hb1).mem;exact⟨_,m1.c6⟩
 have f6:w1.frozen? ⟨c.r,6,none⟩=false:=by obtain⟨_,_,_,_,m1,_⟩:=(HM.out.below hb1).mem;exact m1.thaw 6
 obtain⟨v6,c6⟩:=c6;clear hA hrow hb1 HFF;go_wp2_with fail
 go_end0
 rw [HTK.out];exact⟨rfl,_,fun b hb h0=>HT.out.1 b (lle hb HBT.out.size) h0,HBT.out.trans HT.out.2.1 (Gr.refl _ _),HT.out.2.2⟩
end Go.Proofs.YtppcohadoilpgaaGreatDoor
