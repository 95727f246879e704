/-
  The machine's Finish: its closure, which does all rules on all lines. / untilEnd: what endIf lets fall is caught, and told. / The machine's Finish: the whole program on all lines, and how that went. / A new machine: a program of which nothing is done yet. / A program in which nothing is wrong has not too many expressions in a statement. Of data alone.
-/
import Derived.Test.YtppcohadoilpgaaGreatDoorMStep
import Derived.Test.YtppcohadoilpgaaGreatDoorMSpec
import Derived.Test.YtppcohadoilpgaaGreatDoorMMem
import Derived.Defers
import Derived.Recover
import Derived.Deep.RegionHeld2
import Derived.Test.YtppcohadoilpgaaGreatDoorCkMem
namespace Go.Proofs.YtppcohadoilpgaaGreatDoor
open Go.ChangeShapes Go.WideShapes Go.ChangeAt Go.RowKit Go.Joins Go.Maps Go.Proofs.Tryz
set_option maxHeartbeats 4000000
set_option linter.unusedVariables false
set_option maxRecDepth 100000
theorem Mc.recSet {c:Cx} {O:Own} {w:World} {s:Ms} {j:Nat} (h:Mc c O w s j) (hx:s.recs+1<=200):Mc c O (w.setCell ⟨c.r,7,none⟩ (.int .i64 ((s.recs:Int)+1))) { s with recs:=s.recs+1 } j/\Bts O w (w.setCell ⟨c.r,7,none⟩ (.int .i64 ((s.recs:Int)+1))):=by
 obtain⟨bv,bl,fl,ol,m1,m2,m3,m4,m5⟩:=h.mem;have ke:∀k z,O k=some z->z ≠ Ro.mach->k<w.heap.size->O k=some z/\(w.setCell ⟨c.r,7,none⟩ (.int .i64 ((s.recs:Int)+1))).heap[k]? = w.heap[k]? := fun k z e hz _=>⟨e,Ae (Id h.own e hz)⟩;refine⟨⟨h.own,h.low,fun b hb=>h.top b (by simpa [World.setCell] using hb),h.lo.set h.own h.low _ _,⟨h.fit.vars,h.fit.lists,h.fit.few,h.fit.whole,h.fit.flds,h.fit.nf,hx,h.fit.out,h.fit.outs⟩,h.left,⟨bv,bl,fl,ol,?_,?_,?_,?_,?_⟩,h.room⟩,(Bts.refl O w).set h.own 7 _⟩
 . have e1:((s.recs+1:Nat):Int)=(s.recs:Int)+1:=by omega
   show Ck c.r _ bv bl c.rv c.fv fl ol c.fuel _ ((s.recs+1:Nat):Int) _;rw [e1];exact m1.setRecs _
 . exact m2.stays fun k e l=>ke k _ e (by simp) l
 . exact m3.stays (fun k e l=>ke k _ e (by simp) l) fun k x e l=>ke k _ e (by simp) l
 . exact m4.stays fun k e l=>ke k _ e (by simp) l
 . exact m5.stays fun k e l=>ke k _ e (by simp) l
def Oo (c:Cx):Prop:=∀(O:Own) (w:World) (s:Ms) (j:Nat) (when:Int),Mc c O w s j ->
 Calls prog 35 #[.pointer (some ⟨c.r,0,none⟩),.int .i64 when] w (Df c O w j (Ci c.F c.m c.R when s))
def U0 (c:Cx):Prop:=∀(O:Own) (w:World) (s:Ms) (j:Nat) (x:ByteArray),Mc c O w s j->x.size<=200 ->
 Calls prog 36 #[.pointer (some ⟨c.r,0,none⟩),.string x] w fun e w'=>e = .returned (.tuple #[])/\∃O',Gr w O O'/\Bts O w w'/\Mc c O' w' (Gv s x) j
def Lf (c:Cx) (s:Ms) (x:ByteArray):Om:=Ci c.F c.m c.R 1 (Gv { s with recs:=s.recs+1 } x)
def Aa5 (c:Cx) (s:Ms):Om:=Ci c.F c.m c.R 2 (Gv s ⟨#[]⟩)
def FnI (c:Cx) (O:Own) (w wr:World) (j:Nat) (R:Om) (ls:List ByteArray) (i:Nat):Prop:=∃O' s',Gr w O O'/\Bts O w wr/\Mc c O' wr s' j/\s'.recs=i/\R=(A0 (Lf c) (ls.drop i) s').then (Aa5 c)
theorem Hf {c:Cx} {O:Own} {w w':World} {j:Nat} {when:Int} {s:Ms} {e:Ending} (h:Df c O w j (Ci c.F c.m c.R when s) e w') :
 (∃s1 er,Ci c.F c.m c.R when s = .stop s1 er/\e = .panicked [Fb er]/\Hid (Bts O w w'/\∃O',Gr w O O'/\Ou c O' w' s1.out s1.left)) \/
 ∃s1 O',Ci c.F c.m c.R when s = .go s1 true/\e = .returned (.tuple #[])/\Hid (Bts O w w'/\Gr w O O'/\Mc c O' w' s1 j/\s1.recs=s.recs):=by
 obtain⟨h1,h2⟩:=h;cases hR:Ci c.F c.m c.R when s with
 | go s1 b =>
  rw [hR] at h2;obtain⟨h3,rfl⟩:=Uc hR;obtain⟨rfl,O',h4,h5⟩:=h2;exact .inr ⟨s1,O',rfl,rfl,h1,h4,h5,h3⟩
 | stop s1 er =>
  rw [hR] at h2;exact .inl ⟨s1,er,rfl,h2.1,h1,h2.2⟩
theorem Ag0 (c:Cx) (O:Own) (w:World) (s:Ms) (j bm bl:Nat) (ls:List ByteArray) (lv:Value) (hRu:Oo c) (hTa:U0 c) (hM:Mc c O w s j) (h0:s.recs=0) (hl:TxL w c.B lv ls) (h200:ls.length<=200) (hls:∀x ∈ ls,x.size<=200)
 (hom:O bm=none) (hol:O bl=none) (cm:w.cell? ⟨bm,0,none⟩=some (.pointer (some ⟨c.r,0,none⟩))) (cl:w.cell? ⟨bl,0,none⟩=some lv) :
 Calls prog 34 #[.pointer (some ⟨bm,0,none⟩),.pointer (some ⟨bl,0,none⟩)] w (Df c O w j (Be c.F c.m c.R ls s)):=by
 obtain⟨R,hR⟩:∃R,R=Be c.F c.m c.R ls s:=⟨_,rfl⟩;rw [<-hR];have HR:Hid (R=(Ci c.F c.m c.R 0 s).then fun s=>(A0 (Lf c) ls s).then (Aa5 c)):=hR;obtain⟨a,cap,rfl,hmax,hsl⟩:=hl;have HSL:Hid (0<ls.length->∃b off,a=some ⟨b,off,none⟩/\b<c.B/\∀i,i<ls.length->∃cs:List Value,cs.length=1/\(∀j,j<1->w.cell? ⟨b,off+i * 1+j,none⟩=cs[j]?)/\∃s,ls[i]? = some s/\TxA cs s):=hsl;have HLO:Hid ((∀b,b<c.B->O b=none)/\c.B<=w.heap.size):=⟨hM.low,hM.lo.size⟩;have HLS:Hid (∀x ∈ ls,x.size<=200):=hls;have hmL:bm<w.heap.size:=World.block_lt_of_cell? w ⟨bm,0,none⟩ cm;have hlL:bl<w.heap.size:=World.block_lt_of_cell? w ⟨bl,0,none⟩ cl;have HOM:Hid (O bm=none/\O bl=none/\bm<w.heap.size/\bl<w.heap.size):=⟨hom,hol,hmL,hlL⟩;have HRU:=hid hRu;have HTA:=hid hTa;have HC0:=hid (hRu O w s j 0 hM);have HM0:Hid (s.recs=0):=h0
 have HCM:Hid (w.cell? ⟨bm,0,none⟩=some (.pointer (some ⟨c.r,0,none⟩))/\w.cell? ⟨bl,0,none⟩=some (.slice a ls.length cap)):=⟨cm,cl⟩;clear hsl hM hR hRu hTa hls hom hol hmL hlL h0 hmax;go_enter func34,ntmps34
 go_wp2_with fail
 refine Calls.mono HC0.out ?_;intro e w1 hd;rcases Hf hd with⟨s1,er,h9,rfl,HN⟩ | ⟨s1,O1,h9,rfl,HN⟩
 . have HE:Hid (R = .stop s1 er):=by unfold Hid;rw [HR.out,h9];rfl
   clear hd h9 cm cl HC0;go_wp2_with fail
   obtain⟨O9,hG9,hou⟩:=HN.out.2;exact⟨rfl,Ak.stop HN.out.1 HE.out hG9 hou⟩
 have HI1:Hid (FnI c O w w1 j R ls 0):=⟨O1,s1,HN.out.2.1,HN.out.1,HN.out.2.2.1,by rw [HN.out.2.2.2];exact HM0.out,by rw [HR.out,h9];rfl⟩;have cl1:w1.cell? ⟨bl,0,none⟩=some (.slice a ls.length cap):=(HN.out.1.cell HOM.out.2.2.2 HOM.out.2.1 0).trans HCM.out.2;clear hd h9 cm cl HC0 HN HR HM0;go_wp2_with fail
 clear cl1
 go_loopw [8] (fun v8 wr=>∃i:Nat,i<=ls.length/\v8 = .int .i64 i/\Hid (FnI c O w wr j R ls i)) (fun v8 _=>ls.length - (intOf v8).toNat)
 case atStart=>exact⟨0,Nat.zero_le _,rfl,HI1.out⟩
 case round =>
  obtain⟨i,hil,rfl,HV⟩:=hrel;obtain⟨O2,s2,hG,hbt,hM2,hrec,hR⟩:=HV.out;have HD:=hid (And.intro hG (And.intro hbt hM2));have cm2:wr.cell? ⟨bm,0,none⟩=some (.pointer (some ⟨c.r,0,none⟩)):=(hbt.cell HOM.out.2.2.1 HOM.out.1 0).trans HCM.out.1;have hom2:O2 bm=none:=hG bm HOM.out.2.2.1 HOM.out.1;have hne:¬bm=c.r:=fun e=>by have:=hM2.own;rw [<-e,hom2] at this;cases this
  clear HV HI1
  by_cases hlt:i<ls.length
  . have i1:(i:Int)<(ls.length:Int):=by omega
    have i2:(0:Int)<=(i:Int):=by omega
    have i3: -9223372036854775808<=(i:Int)+1:=by omega
    have i4:(i:Int)+1<=9223372036854775807:=by omega
    obtain⟨b,off,rfl,hbB,hii⟩:=HSL.out (by omega);obtain⟨cs,hcl,hcell,x,hx,rfl,hxs⟩:=hii i hlt;have hlow:Below c.B w wr:=hbt.below HLO.out.2 HLO.out.1;have q0:wr.cell? ⟨b,off+i,none⟩=some (.string x):=(hlow.cell (p:=⟨b,off+i,none⟩) hbB).trans (by simpa using hcell 0 (by omega));rw [gee hlt] at hx;cases hx;obtain⟨X,hX⟩:∃X,X=ls[i]:=⟨_,rfl⟩;rw [<-hX] at q0;have hX2:X.size<=200:=by rw [hX];exact HLS.out _ (List.getElem_mem hlt)
    have HDR:Hid (ls.drop i=X :: ls.drop (i+1)):=by
     unfold Hid;rw [List.drop_eq_getElem_cons hlt,hX]
    obtain⟨z,hz⟩:∃z:Int,z=(s2.recs:Int):=⟨_,rfl⟩;have c7:wr.cell? ⟨c.r,7,none⟩=some (.int .i64 z):=by obtain⟨_,_,_,_,m1,_⟩:=hM2.mem;rw [hz];exact m1.c7
    have f7:wr.frozen? ⟨c.r,7,none⟩=false:=by obtain⟨_,_,_,_,m1,_⟩:=hM2.mem;exact m1.thaw 7
    have i5: -9223372036854775808<=z+1:=by omega
    have i6:z+1<=9223372036854775807:=by omega
    obtain⟨hMs,hBs⟩:=hM2.recSet (by omega);rw [<-hz] at hMs hBs;obtain⟨W1,hW1⟩:∃W1,W1=wr.setCell ⟨c.r,7,none⟩ (.int .i64 (z+1)):=⟨_,rfl⟩;rw [<-hW1] at hMs hBs;have cm3:(wr.setCell ⟨c.r,7,none⟩ (.int .i64 (z+1))).cell? ⟨bm,0,none⟩=some (.pointer (some ⟨c.r,0,none⟩)):=by
     rw [<-hW1];exact (hBs.cell (World.block_lt_of_cell? wr ⟨bm,0,none⟩ cm2) hom2 0).trans cm2
    have HWW:Hid (W1=_):=hW1;have HMS:=hid (And.intro hMs hBs);have HTK:=hid (HTA.out O2 W1 _ j X hMs hX2);have HRR:Hid (R=(A0 (Lf c) (ls.drop i) s2).then (Aa5 c)/\s2.recs=i):=⟨hR,hrec⟩;clear hW1 hMs hBs hlow hX hxs hcell hcl hii HSL hG hbt hM2 hrec hR hom2 hz;go_wp2_with fail
    rw [<-HWW.out];clear HWW cm3 c7 f7 q0;refine Calls.mono HTK.out ?_;rintro e w3 ⟨rfl,O3,hG3,hB3,hM3⟩;have HD3:Hid (Gr w O O3/\Bts O w w3/\Mc c O3 w3 (Gv { s2 with recs:=s2.recs+1 } X) j):=⟨HD.out.1.trans (fun b hb h0=>hG3 b (lle hb HMS.out.2.size) h0) HD.out.2.1.size,HD.out.2.1.trans (HMS.out.2.trans hB3 (Gr.refl _ _)) HD.out.1,hM3⟩;have cm4:w3.cell? ⟨bm,0,none⟩=some (.pointer (some ⟨c.r,0,none⟩)):=(HD3.out.2.1.cell HOM.out.2.2.1 HOM.out.1 0).trans HCM.out.1;have HC1:=hid (HRU.out O3 w3 _ j 1 hM3);clear hG3 hB3 hM3 HTK HMS HD cm2;go_wp2_with fail
    refine Calls.mono HC1.out ?_;intro e w4 hd;rcases Hf hd with⟨s4,er,h9,rfl,HN⟩ | ⟨s4,O4,h9,rfl,HN⟩
    . have HE:Hid (R = .stop s4 er):=by unfold Hid;rw [HRR.out.1,HDR.out];show ((Lf c s2 X).then _).then _=_;unfold Lf;rw [h9];rfl
      have HBB:Hid (Bts O w w4):=HD3.out.2.1.trans HN.out.1 HD3.out.1;clear hd h9 HC1 cm4;go_wp2_with fail
      obtain⟨O9,hG9,hou⟩:=HN.out.2;exact⟨rfl,Ak.stop HBB.out HE.out (HD3.out.1.trans hG9 HD3.out.2.1.size) hou⟩
    have HNX:Hid (FnI c O w w4 j R ls (i+1)):=⟨O4,s4,HD3.out.1.trans HN.out.2.1 HD3.out.2.1.size,HD3.out.2.1.trans HN.out.1 HD3.out.1,HN.out.2.2.1,by rw [HN.out.2.2.2,<-HRR.out.2];rfl,by rw [HRR.out.1,HDR.out];show ((Lf c s2 X).then _).then _=_;unfold Lf;rw [h9];rfl⟩;clear hd h9 HC1 cm4 HN HD3 HRR HDR;go_wp2_with fail
    go_roundw
    case rel=>exact⟨i+1,by omega,by go_num,HNX.out⟩
    case measure=>simp [intOf];omega
  . have i1:¬(i:Int)<(ls.length:Int):=by omega
    have HRR:Hid (R=Aa5 c s2):=by unfold Hid;rw [hR,List.drop_eq_nil_of_le (by omega)];rfl
    have HTK:=hid (HTA.out O2 wr _ j ⟨#[]⟩ hM2 (by decide));clear hG hbt hM2 hrec hR hom2 HSL;go_wp2_with fail
    refine Calls.mono HTK.out ?_;rintro e w3 ⟨rfl,O3,hG3,hB3,hM3⟩;have HD3:Hid (Gr w O O3/\Bts O w w3):=⟨HD.out.1.trans hG3 HD.out.2.1.size,HD.out.2.1.trans hB3 HD.out.1⟩;have cm4:w3.cell? ⟨bm,0,none⟩=some (.pointer (some ⟨c.r,0,none⟩)):=(HD3.out.2.cell HOM.out.2.2.1 HOM.out.1 0).trans HCM.out.1;have HC1:=hid (HRU.out O3 w3 _ j 2 hM3);clear hG3 hB3 hM3 HTK HD cm2;go_wp2_with fail
    refine Calls.mono HC1.out ?_;intro e w4 hd;rcases Hf hd with⟨s4,er,h9,rfl,HN⟩ | ⟨s4,O4,h9,rfl,HN⟩
    . have HE:Hid (R = .stop s4 er):=by unfold Hid;rw [HRR.out];exact h9
      have HBB:Hid (Bts O w w4):=HD3.out.2.trans HN.out.1 HD3.out.1;clear hd h9 HC1 cm4;go_wp2_with fail
      obtain⟨O9,hG9,hou⟩:=HN.out.2;exact⟨rfl,Ak.stop HBB.out HE.out (HD3.out.1.trans hG9 HD3.out.2.size) hou⟩
    have HE:Hid (R = .go s4 true):=by unfold Hid;rw [HRR.out];exact h9
    clear hd h9 HC1 cm4;go_wp2_with fail
    go_end0
    exact Ak.go (K:=fun _=> .tuple #[]) (HD3.out.2.trans HN.out.1 HD3.out.1) HE.out (HD3.out.1.trans HN.out.2.1 HD3.out.2.size) HN.out.2.2.1
theorem Qy (e:Int) (w:World):(Instr.typeAssert (.iface 107 (.int .i64 e)) 20 107 true).run prog w = .ok (.tuple #[.int .i64 e,.bool true]) w:=by kernel_rfl
theorem Qx (w:World):(Instr.typeAssert .nilIface 20 107 true).run prog w = .ok (.tuple #[.int .i64 0,.bool false]) w:=by kernel_rfl
theorem Kl (p:Addr) (x e:Int) (older:List PanicEntry) (w:World) (hc:w.cell? p=some (.int .i64 x)) (hz:w.frozen? p=false) :
 CallsD prog 52 #[.pointer (some p)] (.panicking (Fb e :: older)) w fun r u' w' =>
  r = .returned (.tuple #[])/\u' = .panicking ({ v:= .iface 107 (.int .i64 e),recovered:=true } :: older)/\w'=w.setCell p (.int .i64 e):=by
 unfold Fb;refine callsD_of_wpS func52 rfl fun c₀ cs hu=>?_
 apply wpS_seq
 apply wpS_region
 simp [wpOpsS,go_sem,recoverD,hu,ntmps52,Qy,Exit.thenS]
 apply wpS_seq
 apply wpS_region
 simp [wpOpsS,go_sem,Exit.thenS];refine wpS_cond (t:=true) (by simp [Act.eval,Array.replicate]) ?_;simp only [if_true]
 apply wpS_region
 simp [wpOpsS,go_sem,hc,hz,bodyPostS,results,results52]
theorem Un (p:Addr) (w:World) :
 CallsD prog 52 #[.pointer (some p)] .returning w fun r u' w'=>r = .returned (.tuple #[])/\u' = .returning/\w'=w:=by
 refine callsD_of_wpS func52 rfl fun c₀ cs hu=>?_
 apply wpS_seq
 apply wpS_region
 simp [wpOpsS,go_sem,recoverD,hu,ntmps52,Qx,Exit.thenS]
 apply wpS_seq
 apply wpS_region
 simp [wpOpsS,go_sem,Exit.thenS];refine wpS_cond (t:=false) (by simp [Act.eval,Array.replicate]) ?_;simp only [Bool.false_eq_true,if_false];refine wpS_of_wp (wp_skip ?_);cases c₀
 simp_all [bodyPostS,results,results52]
theorem Ac2 (f:FuncId) (caps:Array Value) (w:World) (Q:Int->World->Prop) (he:∀(args:Array Value) (w:World),(callFunc f args).run prog w = .ok (.enter f args) w)
 (hf:Calls prog f caps (w.alloc (.cells #[.int .i64 0] 3)) fun e w'=>w'.heap[w.heap.size]? = (w.alloc (.cells #[.int .i64 0] 3)).heap[w.heap.size]? /\ ((e = .returned (.tuple #[])/\Q 0 w')\/∃er,e = .panicked [Fb er]/\Q er w')) :
 Calls prog 33 #[.func (.func f) #[] caps] w fun e w'=>∃er w1,e = .returned (.int .i64 er)/\w'=w1.setCell ⟨w.heap.size,0,none⟩ (.int .i64 er)/\Q er w1:=by
 have hmf:∀(fn:Fn) (first cap:Array Value) (w:World),(Instr.makeFunc fn first cap).run prog w = .ok (.func fn first cap) w:=fun _ _ _ _=>rfl;obtain⟨W,hW⟩:∃W,W=w.alloc (.cells #[.int .i64 0] 3):=⟨_,rfl⟩;rw [<-hW] at hf;have HW:Hid (W=_):=hW;have hc:W.cell? ⟨w.heap.size,0,none⟩=some (.int .i64 0):=by rw [hW];simp [go_sem]
 have hz:W.frozen? ⟨w.heap.size,0,none⟩=false:=by rw [hW];simp [go_sem]
 have HF:=hid hf;clear hW hf
 go_enter_defers func33,ntmps33
 go_wp2_with fail
 rw [<-HW.out];clear HW;refine Calls.mono HF.out ?_;rintro e w1 ⟨hb,hr⟩;have c1:w1.cell? ⟨w.heap.size,0,none⟩=some (.int .i64 0):=(World.cell?_of_block (a:=⟨w.heap.size,0,none⟩) hb).trans hc;have z1:w1.frozen? ⟨w.heap.size,0,none⟩=false:=(World.frozen?_of_block (a:=⟨w.heap.size,0,none⟩) hb).trans hz;clear hb hc hz HF;rcases hr with⟨rfl,hQ⟩ | ⟨er,rfl,hQ⟩
 . have HQ:=hid hQ;clear hQ;go_wp2_with fail
   refine leaves_cons (f:=52) (args:= #[.pointer (some ⟨w.heap.size,0,none⟩)]) (by simp) (by simp [go_sem]) ?_;refine (Un ⟨w.heap.size,0,none⟩ _).mono ?_;rintro e u' w'' ⟨rfl,rfl,rfl⟩;simp [Leaves,settle,results,results33,go_sem,c1];exact⟨w1,rfl,HQ.out⟩
 . have HQ:=hid hQ;clear hQ;go_wp2_with fail
   refine leaves_cons (f:=52) (args:= #[.pointer (some ⟨w.heap.size,0,none⟩)]) (by simp) (by simp [go_sem]) ?_;refine (Kl ⟨w.heap.size,0,none⟩ 0 er [] w1 c1 z1).mono ?_;rintro e u' w'' ⟨rfl,rfl,rfl⟩;simp [Leaves,settle,results,results33,go_sem,c1];exact⟨w1,rfl,HQ.out⟩
def B0:Om->Int × List ByteArray × Nat
 | .go s _=>(0,s.out,s.left)
 | .stop s e=>(e,s.out,s.left)
theorem Ou.free {c:Cx} {O:Own} {w:World} {out:List ByteArray} {left b o:Nat} {v:Value} (h:Ou c O w out left) (hb:O b=none):Ou c O (w.setCell ⟨b,o,none⟩ v) out left:=by
 obtain⟨h0,h1,h2,bv,bl,fl,ol,recs,whole,h3,h4,h5⟩:=h;have ke:∀k x,O k=some x->(w.setCell ⟨b,o,none⟩ v).heap[k]? = w.heap[k]? := fun k x e=>Ae fun e2=>by rw [e2,hb] at e;cases e
 exact⟨h0,h1,h2,bv,bl,fl,ol,recs,whole,h3.stays (ke _ _ h0),h4.stays fun k e l=>⟨e,ke _ _ e⟩,h5⟩
theorem Bts.over {O:Own} {a w:World} {b:Nat} (h:Bts O a w) (hb:a.heap.size<=b) (o:Nat) (v:Value):Bts O a (w.setCell ⟨b,o,none⟩ v) :=
 ⟨h.os,h.tape,h.output,(by simp [World.setCell,h.size]),fun k hk h0=>(Ae (by omega)).trans (h.block k hk h0)⟩
def UnO (c:Cx) (O:Own) (w:World) (R:Om) (w':World):Prop:=Bts O w w'/\∃O',Gr w O O'/\Ou c O' w' (B0 R).2.1 (B0 R).2.2
theorem Xc (c:Cx) (O:Own) (W:World) (s:Ms) (j bm bl:Nat) (ls:List ByteArray) (lv:Value) (hRu:Oo c) (hTa:U0 c) (hM:Mc c O W s j) (h0:s.recs=0) (hl:TxL W c.B lv ls) (h200:ls.length<=200) (hls:∀x ∈ ls,x.size<=200)
 (hom:O bm=none) (hol:O bl=none) (cm:W.cell? ⟨bm,0,none⟩=some (.pointer (some ⟨c.r,0,none⟩))) (cl:W.cell? ⟨bl,0,none⟩=some lv) :
 Calls prog 33 #[.func (.func 34) #[] #[.pointer (some ⟨bm,0,none⟩),.pointer (some ⟨bl,0,none⟩)]] W fun e w'=>e = .returned (.int .i64 (B0 (Be c.F c.m c.R ls s)).1)/\UnO c O W (Be c.F c.m c.R ls s) w':=by
 obtain⟨R,hR⟩:∃R,R=Be c.F c.m c.R ls s:=⟨_,rfl⟩;have hal:Below W.heap.size W (W.alloc (.cells #[.int .i64 0] 3)):=br0.alloc lr0 _;have hM2:=hM.below hal;have hB:c.B<=W.heap.size:=hM.lo.size;have hbx:W.heap.size<(W.alloc (.cells #[.int .i64 0] 3)).heap.size:=by simp
 have hfc:=Ag0 c O (W.alloc (.cells #[.int .i64 0] 3)) s j bm bl ls lv hRu hTa hM2 h0 (hl.below (hal.mono hB)) h200 hls hom hol ((hal.cell (p:=⟨bm,0,none⟩) (World.block_lt_of_cell? W ⟨bm,0,none⟩ cm)).trans cm) ((hal.cell (p:=⟨bl,0,none⟩) (World.block_lt_of_cell? W ⟨bl,0,none⟩ cl)).trans cl);rw [<-hR] at hfc ⊢;refine (Ac2 34 _ W (fun er w1=>er=(B0 R).1/\Bts O (W.alloc (.cells #[.int .i64 0] 3)) w1/\∃O',Gr (W.alloc (.cells #[.int .i64 0] 3)) O O'/\Ou c O' w1 (B0 R).2.1 (B0 R).2.2) (enters_of func34 (by kernel_rfl) rfl) (hfc.mono fun e w1 hd=>?_)).mono fun e w' hd=>?_
 . refine⟨hd.1.block _ hbx (hM.top _ lr0),?_⟩;obtain⟨h1,h2⟩:=hd;cases R with
   | go s1 b =>
    obtain⟨rfl,O',h3,h4⟩:=h2;exact .inl ⟨rfl,rfl,h1,O',h3,h4.ou⟩
   | stop s1 er =>
    obtain⟨rfl,O',h3,h4⟩:=h2;exact .inr ⟨er,rfl,rfl,h1,O',h3,h4⟩
 . obtain⟨er,w1,rfl,rfl,rfl,h1,O',h2,h3⟩:=hd;have hO:O' W.heap.size=none:=h2 _ hbx (hM.top _ lr0);refine⟨rfl,⟨h1.os.trans hal.os,h1.tape.trans hal.tape,h1.output.trans hal.output,?_,fun k hk h0=>?_⟩,O',fun b hb h0=>h2 b (Nat.lt_trans hb hbx) h0,h3.free hO⟩
   . have:=h1.size;simp [World.setCell] at this ⊢;omega
   . exact (Ae (by omega)).trans ((h1.block k (Nat.lt_trans hk hbx) h0).trans (hal.block k hk))
def Adp (c:Cx) (O:Own) (w:World) (R:Om) (e:Ending) (w':World):Prop:=∃ol,e = .returned (.agg #[ol,.int .i64 (B0 R).1,.int .i64 ((c.fuel:Int) - (B0 R).2.2)])/\Bts O w w'/\∃O',Gr w O O'/\Ef O' .outs w' ol (B0 R).2.1/\(∀b,b<c.B->O' b=none)/\(B0 R).2.1.length<=2000/\∀x ∈ (B0 R).2.1,x.size<=200
theorem Nw {w:World} {b t z n:Nat} {v:Value} {xs:List Value} (h:w.ownsRow b t z v n xs):∃a len cap,v = .slice a len cap:=by
 rcases h.2 with⟨rfl,-⟩ | ⟨g,cap,cur,rfl,-⟩
 . exact⟨_,_,_,rfl⟩
 . exact⟨_,_,_,rfl⟩
theorem Yh (c:Cx) (O:Own) (w:World) (s:Ms) (j:Nat) (ls:List ByteArray) (lv:Value) (hRu:Oo c) (hTa:U0 c) (hM:Mc c O w s j) (h0:s.recs=0) (hl:TxL w c.B lv ls) (h200:ls.length<=200) (hls:∀x ∈ ls,x.size<=200) :
 Calls prog 19 #[.pointer (some ⟨c.r,0,none⟩),lv] w (Adp c O w (Be c.F c.m c.R ls s)):=by
 have hl2:=hl;obtain⟨a,cap,rfl,-,-⟩:=hl2;obtain⟨W,hW⟩:∃W,W=((w.alloc (.cells #[.pointer (some ⟨c.r,0,none⟩)] 57)).alloc (.cells #[.slice a ls.length cap] 37)).alloc (.cells #[.slice none 0 0,.int .i64 0,.int .i64 0] 39):=⟨_,rfl⟩;have HA:Hid (Below w.heap.size w W):=by rw [hW];exact ((br0.alloc lr0 _).alloc (by simp) _).alloc (by simp;omega) _
 have hbl:w.heap.size+2<W.heap.size:=by rw [hW];simp
 have hcm:W.cell? ⟨w.heap.size,0,none⟩=some (.pointer (some ⟨c.r,0,none⟩)):=by rw [hW];simp [go_sem]
 have hcl:W.cell? ⟨w.heap.size+1,0,none⟩=some (.slice a ls.length cap):=by rw [hW];simp [go_sem]
 have hbd:Below W.heap.size W W.drew:=Ad W;have hMW:=(hM.below HA.out).below hbd;have hne1:¬w.heap.size=c.r:=by have:=hM.lt;omega
 have hne2:¬c.r=w.heap.size:=by have:=hM.lt;omega
 have hom:O w.heap.size=none:=hM.top _ lr0;have hol:O (w.heap.size+1)=none:=hM.top _ (by omega);obtain⟨R,hR⟩:∃R,R=Be c.F c.m c.R ls s:=⟨_,rfl⟩;have hun:=Xc c O W.drew s j w.heap.size (w.heap.size+1) ls (.slice a ls.length cap) hRu hTa hMW h0 ((hl.below (HA.out.mono hM.lo.size)).below (hbd.mono (lq0 hM.lo.size HA.out.size))) h200 hls hom hol hcm hcl;rw [<-hR] at hun ⊢;have hmf:∀(fn:Fn) (first cap:Array Value) (w:World),(Instr.makeFunc fn first cap).run prog w = .ok (.func fn first cap) w:=fun _ _ _ _=>rfl;obtain⟨E,hE⟩:∃E,E=(B0 R).1:=⟨_,rfl⟩;rw [<-hE] at hun;have HLT:Hid (c.r<w.heap.size):=hM.lt;have HLT2:Hid (O c.r=some .mach):=hM.own;have HLO:Hid (w.heap.size+2<W.drew.heap.size/\O (w.heap.size+2)=none):=⟨hbl,hM.top _ (by omega)⟩;have HOM:Hid (O w.heap.size=none/\w.heap.size<W.heap.size):=⟨hom,by omega⟩
 have HUN:Hid (Calls prog 33 #[.func (.func 34) #[] #[.pointer (some ⟨w.heap.size,0,none⟩),.pointer (some ⟨w.heap.size+1,0,none⟩)]] W.drew fun e w1=>e = .returned (.int .i64 E)/\w1.cell? ⟨w.heap.size,0,none⟩=some (.pointer (some ⟨c.r,0,none⟩))/\w1.cell? ⟨c.r,9,none⟩=some (.int .i64 0)/\w1.frozen? ⟨c.r,9,none⟩=false/\Hid (UnO c O W.drew R w1)):=by
  refine hun.mono fun e w1 hd=>?_;obtain⟨rfl,hb1,O1,hg1,hou⟩:=hd;have hou2:=hou;obtain⟨ho1,-,-,bv,bl,fl,ol,recs,whole,hcs,-⟩:=hou2;exact⟨rfl,(hb1.cell (b:=w.heap.size) HOM.out.2 HOM.out.1 0).trans hcm,hcs.c9,hcs.thaw 9,hb1,O1,hg1,hou⟩
 have HWW:Hid (W=_):=hW;have HCM:Hid (W.cell? ⟨w.heap.size,0,none⟩=some (.pointer (some ⟨c.r,0,none⟩))):=hcm;have hcmd:W.drew.cell? ⟨w.heap.size,0,none⟩=some (.pointer (some ⟨c.r,0,none⟩)):=hcm;have HEE:Hid (E=(B0 R).1):=hE;clear hR hun hE hW hM hMW hom hol hl h0 h200 hls hRu hTa hbl hcl hbd;go_enter func19,ntmps19
 go_wp2_with fail
 rw [<-HWW.out]
 go_region_held2 (fun w'=>w'.cell? ⟨w.heap.size,0,none⟩=some (.pointer (some ⟨c.r,0,none⟩))) (go_keep) (first
  | (with_reducible refine Calls.mono HUN.out ?_
     rintro e w1 ⟨rfl,cm1,c9,f9,HU⟩))
 obtain⟨hb1,O1,hg1,hou⟩:=HU.out;obtain⟨ho1,hlo1,hle,bv,bl,fl,ol,recs,whole,hcs,hrow,h2000,h200s⟩:=hou;obtain⟨oa,olen,ocap,rfl⟩:=Nw hrow.1;obtain⟨U,hU⟩:∃U:Int,U=(c.fuel:Int) - ((B0 R).2.2:Int):=⟨_,rfl⟩;rw [<-hU] at hcs;obtain⟨b,hb⟩:∃b,b=w.heap.size+2:=⟨_,rfl⟩;obtain⟨W2,hW2⟩:∃W2,W2=w1.setCell ⟨c.r,9,none⟩ (.int .i64 E):=⟨_,rfl⟩;have hrl:c.r<w.heap.size:=HLT.out;have d0:W2.cell? ⟨w.heap.size,0,none⟩=some (.pointer (some ⟨c.r,0,none⟩)):=by rw [hW2];assumption
 have d8:W2.cell? ⟨c.r,8,none⟩=some (.slice oa olen ocap):=by rw [hW2];exact (Ab (by decide)).trans hcs.c8
 have d9:W2.cell? ⟨c.r,9,none⟩=some (.int .i64 E):=by rw [hW2];simp [go_sem,c9]
 have d10:W2.cell? ⟨c.r,10,none⟩=some (.int .i64 U):=by rw [hW2];exact (Ab (by decide)).trans hcs.c10
 have hOb:O b=none:=by rw [hb];exact HLO.out.2
 have hbW:b<W.drew.heap.size:=by rw [hb];exact HLO.out.1
 have hkeep:W2.heap[b]? = W.heap[b]? := by rw [hW2];exact (Ae (by omega)).trans (hb1.block b hbW hOb)
 have e0:W2.cell? ⟨b,0,none⟩=some (.slice none 0 0):=(World.cell?_of_block (a:=⟨b,0,none⟩) hkeep).trans (by rw [HWW.out,hb];simp [go_sem]);have e1:W2.cell? ⟨b,1,none⟩=some (.int .i64 0):=(World.cell?_of_block (a:=⟨b,1,none⟩) hkeep).trans (by rw [HWW.out,hb];simp [go_sem]);have e2:W2.cell? ⟨b,2,none⟩=some (.int .i64 0):=(World.cell?_of_block (a:=⟨b,2,none⟩) hkeep).trans (by rw [HWW.out,hb];simp [go_sem]);have gz:∀o,W2.frozen? ⟨b,o,none⟩=false:=fun o=>(World.frozen?_of_block (a:=⟨b,o,none⟩) hkeep).trans (by rw [HWW.out,hb];simp [go_sem]);have g0:=gz 0;have g1:=gz 1;have g2:=gz 2;have HB2:Hid (Bts O w W2):=by
  rw [hW2];exact (((Bts.of_below (O:=O) (HA.out.trans (Ad W |>.mono HA.out.size))).trans hb1 (Gr.refl _ _))).set HLT2.out 9 _
 have HEND:Hid (∃O',Gr w O O'/\Ef O' .outs W2 (.slice oa olen ocap) (B0 R).2.1/\(∀b,b<c.B->O' b=none)/\(B0 R).2.1.length<=2000/\(∀x ∈ (B0 R).2.1,x.size<=200)/\O' b=none):=by
  refine⟨O1,fun k hk h0=>hg1 k (lle hk (Nat.le_of_lt (by rw [hb] at hbW;omega))) h0,?_,hlo1,h2000,h200s,hg1 b hbW hOb⟩;rw [hW2];exact hrow.stays fun k e l=>⟨e,Ae (Id ho1 e (by simp))⟩
 have HUE:Hid (U=_):=hU;have hnb:¬b=w.heap.size:=by omega
 have HBB:Hid (b=w.heap.size+2):=hb;have HBS:Hid (w.heap.size<=b):=by unfold Hid;omega
 rw [<-hW2,show w.heap.size+1+1=b from hb.symm];clear hW2 hb1 hg1 hle hcs hrow h2000 h200s hU hkeep hOb hbW gz HU cm1 c9 f9 hcmd hcm HUN HCM HWW HA HOM hb ho1 hlo1 HLO HLT HLT2;go_wp2_with fail
 simp [bodyPost,results,results19,go_sem,e0,e1,e2];obtain⟨O',f1,f2,f3,f4,f5,f6⟩:=HEND.out;refine⟨_,by rw [<-HUE.out,<-HEE.out],((HB2.out.over HBS.out _ _).over HBS.out _ _).over HBS.out _ _,O',f1,?_,f3,f4,f5⟩;exact f2.stays fun k e l=>⟨e,by
  have hk:k ≠ b:=fun e2=>by rw [e2,f6] at e;cases e
  exact (Ae hk).trans ((Ae hk).trans (Ae hk))⟩
def Ae2 (n fuel:Int) (b1 b2:Nat) (rv fv:Value):Array Value:= #[.map (some b1),.map (some b2),rv,fv,.int .i64 fuel,.string ⟨#[]⟩,.slice none 0 0,.int .i64 n,.slice none 0 0,.int .i64 0,.int .i64 0]
def Pp (w:World) (fuel:Int) (rv fv:Value):World:=((w.alloc (.map #[] 0)).alloc (.map #[] 0)).alloc (.cells (Ae2 0 fuel w.heap.size (w.heap.size+1) rv fv) 86)
def Po (b:Nat):Own:=fun k=>if k=b then some .vars else if k=b+1 then some .lists else if k=b+2 then some .mach else none
theorem Wi (w:World) (fuel:Int) (rv fv:Value):(Pp w fuel rv fv).heap.size=w.heap.size+3:=by simp [Pp]
theorem Ln (w:World) (fuel:Int) (rv fv:Value):Below w.heap.size w (Pp w fuel rv fv):=((br0.alloc lr0 _).alloc (by simp) _).alloc (by simp;omega) _
theorem Ahc (c:Cx) (w:World) (j:Nat) (hL:Lo c w) (hr:c.r=w.heap.size+2) (hB:c.B<=w.heap.size) (hj:j+c.fuel<=400000):Mc c (Po w.heap.size) (Pp w (c.fuel:Int) c.rv c.fv) (Cj c.fuel) j:=by
 have s1:(w.alloc (.map #[] 0)).heap.size=w.heap.size+1:=by simp
 have s2:((w.alloc (.map #[] 0)).alloc (.map #[] 0)).heap.size=w.heap.size+2:=by simp
 have hv1:=(World.ownsMap_made (H:=Value) w prog 9 Gh);have hv2:=(World.ownsMap_made (H:=Value) (w.alloc (.map #[] 0)) prog 9 Gh);rw [s1] at hv2;have hro:=Ao.new ((w.alloc (.map #[] 0)).alloc (.map #[] 0)) (Ae2 0 (c.fuel:Int) w.heap.size (w.heap.size+1) c.rv c.fv) 86;rw [s2] at hro;have hf:∀o,(Pp w (c.fuel:Int) c.rv c.fv).frozen? ⟨w.heap.size+2,o,none⟩=false:=fun o=>by
  rw [<-s2];unfold Pp;simp [go_sem]
 have hbelow:=Ln w (c.fuel:Int) c.rv c.fv;refine⟨?_,?_,?_,hL.below (hbelow.mono hB),⟨?_,?_,?_,?_,?_,?_,?_,?_,?_⟩,Nat.le_refl _,⟨w.heap.size,w.heap.size+1,.slice none 0 0,.slice none 0 0,?_,⟨?_,0,_,Nat.zero_le _,(hv1.alloc _).alloc _,fun x=>rfl⟩,⟨?_,0,_,Nat.zero_le _,hv2.alloc _,fun x=> .inl ⟨rfl,rfl⟩⟩,⟨⟨rfl,.inl ⟨rfl,rfl⟩⟩,fun b e=>by cases e⟩,⟨⟨rfl,.inl ⟨rfl,rfl⟩⟩,fun b e=>by cases e⟩⟩,hj⟩
 . rw [hr];unfold Po;rw [if_neg (by omega),if_neg (by omega),if_pos rfl]
 . intro b hb;unfold Po;rw [if_neg (by omega),if_neg (by omega),if_neg (by omega)]
 . intro b hb;rw [Wi] at hb;unfold Po;rw [if_neg (by omega),if_neg (by omega),if_neg (by omega)]
 . intro nm;show vf false 0 ⟨#[]⟩=0;decide
 . intro nm p hp;cases hp
 . intro nm;exact Nat.zero_le _
 . exact Nat.zero_le _
 . intro x hx;cases hx
 . exact Nat.zero_le _
 . exact Nat.zero_le _
 . exact Nat.zero_le _
 . intro x hx;cases hx
 . rw [hr];have hz:((c.fuel:Int) - ((Cj c.fuel).left:Int))=0:=by show (c.fuel:Int) - (c.fuel:Int)=0;omega
   rw [hz];exact⟨hro.cell 0,hro.cell 1,hro.cell 2,hro.cell 3,hro.cell 4,hro.cell 5,hro.cell 6,hro.cell 7,hro.cell 8,hro.cell 9,hro.cell 10,hf⟩
 . unfold Po;rw [if_pos rfl]
 . unfold Po;rw [if_neg (by omega),if_pos rfl]
theorem Ahd (w:World) (fuel:Int) (a1:Option Addr) (l1 c1:Nat) (a2:Option Addr) (l2 c2:Nat) :
 Calls prog 18 #[.agg #[.slice a1 l1 c1],.slice a2 l2 c2,.int .i64 fuel] w fun e w'=>e = .returned (.pointer (some ⟨w.heap.size+3,0,none⟩))/\w'=Pp (w.alloc (.cells #[.slice a1 l1 c1] 26)) fuel (.slice a1 l1 c1) (.slice a2 l2 c2):=by
 have hmm:=@run_makeMap prog;go_enter func18,ntmps18
 go_wp2_with fail
 go_ret
 exact⟨by simp,by simp [Pp,Ae2]⟩
end Go.Proofs.YtppcohadoilpgaaGreatDoor
namespace Go.Proofs.YtppcohadoilpgaaGreatDoor
open Go.ChangeShapes Go.WideShapes Go.ChangeAt Go.RowKit Go.Joins Go.Proofs.Tryz
set_option linter.unusedVariables false
theorem I3 {α:Type} {f:α->St->Res} {P:α->Prop} {l:List α} {st st':St}
 (hf:∀x ∈ l,∀s s':St,0<=s.nodes->s.nodes<=4000->f x s = .ok s'->P x/\s.nodes+1<=s'.nodes/\s'.nodes<=4000)
 (h0:0<=st.nodes) (h1:st.nodes<=4000) (h:Au f l st = .ok st') :
 (∀x ∈ l,P x)/\st.nodes+l.length<=st'.nodes/\st'.nodes<=4000:=by
 induction l generalizing st with
 | nil=>simp only [Au] at h;cases h;simp;omega
 | cons x l ih =>
  simp only [Au] at h;cases hx:f x st with
  | error e=>rw [hx] at h;cases h
  | ok s2 =>
   rw [hx] at h;obtain⟨a1,a2,a3⟩:=hf x (List.mem_cons_self ..) _ _ h0 h1 hx;obtain⟨b1,b2,b3⟩:=ih (fun y hy=>hf y (List.mem_cons_of_mem _ hy)) (by omega) a3 h;refine⟨?_,?_,b3⟩
   . intro y hy;rcases List.mem_cons.1 hy with rfl | hy
     . exact a1
     . exact b1 y hy
   . simp only [List.length_cons];omega
def Jh:Nat->Sm->Prop
 | 0,_=>False
 | m+1,.mk _ _ _ es b e=>es.length<=4000/\(∀x ∈ b,Jh m x)/\(∀x ∈ e,Jh m x)/\b.length<=4000/\e.length<=4000
theorem Jh.few:∀ {m:Nat} {x:Sm},Jh m x->C6 m x
 | 0,_,h=>h.elim
 | _+1,.mk ..,⟨h1,h2,h3,_,_⟩=>⟨h1,fun x hx=>(h2 x hx).few,fun x hx=>(h3 x hx).few⟩
theorem Aay {when:Int}:∀ {m:Nat} {B:Nat} {w:World} {cs:List Value} {x:Sm} {d:Int} {st st':St},SmA B w m cs x->0<=st.nodes->st.nodes<=4000->ckS when m x d st = .ok st'->Jh m x:=by
 intro m
 induction m with
 | zero=>intro B w cs x d st st' h;exact h.elim
 | succ m ih =>
  intro B w cs x d st st' hx h0 h1 h;cases x with
  | mk k s t es b e =>
   obtain⟨v1,v2,v3,_,_,_,_,hs1,hs2,hs3⟩:=hx;simp only [ckS] at h;cases hp:B6 d st with
   | error e=>rw [hp] at h;cases h
   | ok st1 =>
    rw [hp] at h;obtain⟨p1,p2⟩:=Jt hp;simp only at h;split at h
    . cases h
    . split at h
      . cases h
      . cases ht:As when k s t st1 with
        | error e=>rw [ht] at h;cases h
        | ok st2 =>
         rw [ht] at h;obtain⟨t1,t2,t3⟩:=Mh ht;simp only at h;split at h
         . cases h
         . cases hr1:Au (fun x=>ckE m x (d+1)) es st2 with
           | error e=>rw [hr1] at h;cases h
           | ok st3 =>
            rw [hr1] at h;simp only at h;cases hr2:Au (fun x=>ckS when m x (d+1)) b st3 with
            | error e=>rw [hr2] at h;cases h
            | ok st4 =>
             rw [hr2] at h;simp only at h;obtain⟨-,r2,r3⟩:=I3 (P:=fun _=>True) (fun x hx s s' hs hs2 hf=>by
              obtain⟨c,hc⟩:=El hs1 hx;obtain⟨-,a2,a3,-⟩:=Kq hc hs2 hf;exact⟨trivial,a2,a3⟩) (by omega) (by omega) hr1
             obtain⟨q1,q2,q3⟩:=I3 (P:=Jh m) (fun x hx s s' hs hs' hf=>by
              obtain⟨c,hc⟩:=El hs2 hx;obtain⟨-,a2,a3,-⟩:=Iu hc hs' hf;exact⟨ih hc hs hs' hf,a2,a3⟩) (by omega) (by omega) hr2
             obtain⟨u1,u2,u3⟩:=I3 (P:=Jh m) (fun x hx s s' hs hs' hf=>by
              obtain⟨c,hc⟩:=El hs3 hx;obtain⟨-,a2,a3,-⟩:=Iu hc hs' hf;exact⟨ih hc hs hs' hf,a2,a3⟩) (by omega) (by omega) h
             exact⟨by omega,q1,u1,by omega,by omega⟩
theorem Aax {m B:Nat} {w:World} {cs:List Value} {r:Ru} {st st':St} (hr:RuA B w m cs r) (h0:0<=st.nodes) (h1:st.nodes<=4000) (h:ckR m r st = .ok st'):(∀x ∈ r.body,Jh m x)/\r.body.length<=4000:=by
 obtain⟨c0,c1,c2,c3,v,_,_,hpat,hb⟩:=hr;have hbody:∀s s':St,0<=s.nodes->s.nodes<=4000->Au (fun x=>ckS r.when m x 1) r.body s = .ok s'->(∀x ∈ r.body,Jh m x)/\r.body.length<=4000:=fun s s' g0 g1 g=>(fun h=>⟨h.1,by omega⟩) (I3 (P:=Jh m) (fun x hx s s' hs hs' hf=>by
  obtain⟨c,hc⟩:=El hb hx;obtain⟨-,a2,a3,-⟩:=Iu hc hs' hf;exact⟨Aay hc hs hs' hf,a2,a3⟩) g0 g1 g)
 unfold ckR at h;split at h
 . cases h
 . split at h
   . cases h
   . by_cases hhas:r.has=true
     . rw [hhas] at h;simp only [if_true] at h;cases hE:ckE m r.pat 1 st with
       | error e=>rw [hE] at h;cases h
       | ok st1 =>
        rw [hE] at h;simp at h;obtain⟨-,a2,a3,-⟩:=Kq hpat h1 hE;exact hbody _ _ (by omega) a3 h
     . have hhas2:r.has=false:=by simpa using hhas
       rw [hhas2] at h;simp at h
       by_cases hz:C5 r.pat=false
       . rw [if_pos hz] at h;cases h
       . rw [if_neg hz] at h;exact hbody _ _ h0 h1 h
theorem Xw {m B:Nat} {w:World} {l:List Ru} {st st':St} (hl:∀r ∈ l,∃cs,RuA B w m cs r) (h0:0<=st.nodes) (h1:st.nodes<=4000) (h:Au (ckR m) l st = .ok st'):∀r ∈ l,(∀x ∈ r.body,Jh m x)/\r.body.length<=4000:=by
 induction l generalizing st with
 | nil=>intro r hr;cases hr
 | cons r l ih =>
  simp only [Au] at h;cases hx:ckR m r st with
  | error e=>rw [hx] at h;cases h
  | ok s2 =>
   rw [hx] at h;obtain⟨cs,hcs⟩:=hl r (List.mem_cons_self ..);obtain⟨-,a2,a3,-⟩:=U7 hcs h1 hx;have hn:=ih (fun y hy=>hl y (List.mem_cons_of_mem _ hy)) (by omega) a3 h;intro y hy;rcases List.mem_cons.1 hy with rfl | hy
   . exact Aax hcs h0 h1 hx
   . exact hn y hy
theorem K4 {m B:Nat} {w:World} {v:Value} {l:List Ru} (hv:Sl w B 7 v l.length (fun i c=>∃x,l[i]? = some x/\RuA B w m c x)) (h:ckP m l=0):∀r ∈ l,(∀x ∈ r.body,Jh m x)/\r.body.length<=4000:=by
 unfold ckP at h;split at h
 . omega
 . cases hr:Au (ckR m) l ⟨fun _=>0,0⟩ with
   | error e =>
    rw [hr] at h;simp only at h;exact absurd (h ▸ hr) (Ho m l _)
   | ok st'=>exact Xw (fun r hr=>El hv hr) (by simp) (by simp) hr
theorem Aaw {m B:Nat} {w:World} {v:Value} {l:List Ru} (hv:Sl w B 7 v l.length (fun i c=>∃x,l[i]? = some x/\RuA B w m c x)) (h:ckP m l=0):∀r ∈ l,∀x ∈ r.body,C6 m x:=fun r hr x hx=>((K4 hv h r hr).1 x hx).few
end Go.Proofs.YtppcohadoilpgaaGreatDoor
