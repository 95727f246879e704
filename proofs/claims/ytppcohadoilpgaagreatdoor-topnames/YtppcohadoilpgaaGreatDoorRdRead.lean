/-
  Contract of syntax.Read (P2.6): it answers what the function readR says, in new memory. / What the statements of package tillagekeep share: the tables that the row lists; picked.
-/
import Derived.Test.YtppcohadoilpgaaGreatDoorRdBl
import Derived.Test.YtppcohadoilpgaaGreatDoorCut
import Derived.Test.YtppcohadoilpgaaGreatDoorCheckC
import Derived.Test.YtppcohadoilpgaaGreatDoorRdMem
import Derived.Deep.RegionWith
import Derived.Test.YtppcohadoilpgaaGreatDoorTie
import Derived.Lay
import Derived.LaidMore
import Derived.SevenTiedAt
import Derived.Stop.Joined
import Derived.Stop.LaidErr
namespace Go.Proofs.YtppcohadoilpgaaGreatDoor
open Go.ChangeShapes Go.WideShapes Go.ChangeAt Go.RowKit Go.Joins Go.Maps Go.Proofs.Tryz
set_option maxHeartbeats 8000000
set_option linter.unusedVariables false
theorem Cg (p q:Addr) (x:Int) (v:Value) (e:Int) (older:List PanicEntry) (w:World) (hp:w.cell? p=some v) (hpz:w.frozen? p=false) (hq:w.cell? q=some (.int .i64 x)) (hqz:w.frozen? q=false) (hne:p ≠ q) :
 CallsD prog 21 #[.pointer (some p),.pointer (some q)] (.panicking (C2 e :: older)) w fun r u' w' =>
  r = .returned (.tuple #[])/\u' = .panicking ({ v:= .iface 40 (.int .i64 e),recovered:=true } :: older)/\w'=(w.setCell p (.slice none 0 0)).setCell q (.int .i64 e):=by
 unfold C2;refine callsD_of_wpS func21 rfl fun c₀ cs hu=>?_
 apply wpS_seq
 apply wpS_region
 simp [wpOpsS,go_sem,recoverD,hu,ntmps21,J6,Exit.thenS]
 apply wpS_seq
 apply wpS_region
 simp [wpOpsS,go_sem,Exit.thenS];refine wpS_cond (t:=true) (by simp [Act.eval,Array.replicate]) ?_;simp only [if_true]
 apply wpS_region
 simp [wpOpsS,go_sem,hp,hpz,hq,hqz,hne,bodyPostS,results,results21]
theorem Qt (p q:Addr) (w:World) :
 CallsD prog 21 #[.pointer (some p),.pointer (some q)] .returning w fun r u' w'=>r = .returned (.tuple #[])/\u' = .returning/\w'=w:=by
 refine callsD_of_wpS func21 rfl fun c₀ cs hu=>?_
 apply wpS_seq
 apply wpS_region
 simp [wpOpsS,go_sem,recoverD,hu,ntmps21,J5,Exit.thenS]
 apply wpS_seq
 apply wpS_region
 simp [wpOpsS,go_sem,Exit.thenS];refine wpS_cond (t:=false) (by simp [Act.eval,Array.replicate]) ?_;simp only [Bool.false_eq_true,if_false];refine wpS_of_wp (wp_skip ?_);cases c₀
 simp_all [bodyPostS,results,results21]
def On (s:ByteArray) (w:World) (e:Ending) (w':World):Prop:=Below w.heap.size w w'/\match Ch s.toList with
 | .ok l=>∃v,e = .returned (.tuple #[.agg #[v],.int .i64 0])/\SlP (fun b=>w.heap.size<=b) w' 7 v l.length (fun i c=>∃x,l[i]? = some x/\RuP (fun b=>w.heap.size<=b) w' 6000 c x)
 | .error er=>e = .returned (.tuple #[.agg #[.slice none 0 0],.int .i64 er])
structure Tr (w:World):Prop where
 tb:Tb w.heap.size w
 pref:Ao w 2 Lt
 signs:Hi w
 err:Ke w
theorem Tr.stays {w w':World} (h:Tr w) (hb:Below w.heap.size w w'):Tr w':=by
 have t:=h.tb.below hb;have hs:=hb.size;exact⟨⟨⟨lle t.words.1 hs,t.words.2⟩,⟨lle t.levels.1 hs,t.levels.2⟩,⟨lle t.funcs.1 hs,t.funcs.2⟩,⟨lle t.args.1 hs,t.args.2⟩,⟨lle t.exprs.1 hs,t.exprs.2⟩⟩,h.pref.stays (hb.block _ h.pref.lt),h.signs.stays (hb.block _ h.signs.lt),h.err.stays hb⟩
theorem Tr.tz {w:World} (h:Tr w) {r:Nat} (hr:w.heap.size<=r):Tz r w :=
 ⟨⟨lle h.tb.words.1 hr,h.tb.words.2⟩,⟨lle h.tb.levels.1 hr,h.tb.levels.2⟩,⟨lle h.tb.funcs.1 hr,h.tb.funcs.2⟩,⟨lle h.pref.lt hr,h.pref⟩⟩
theorem Ym:(prog.info? 34).map (fun i=>(i.zero,i.size,i.bytes))=some (some (.agg #[.int .i64 0,.bool false,.int .i64 0,.int .i64 0,.string ⟨#[]⟩,.slice none 0 0,.slice none 0 0]),7,96):=by kernel_rfl
theorem J9 (m j:Nat) (l:List Ru) (ps:List Pc):Ca m (j+1) l ps=match ps with
 | []=> .ok l
 | p :: r=>match Cl m 0 (p :: r) with
  | .error e=> .error e
  | .ok (x,p1)=>Ca m j (l ++ [x]) p1:=by
 cases ps with
 | nil=>rfl
 | cons p r=>rw [Ca];rfl
theorem RuP.shape {P:Nat->Prop} {w:World} {m:Nat} {cs:List Value} {r:Ru} (h:RuP P w m cs r):∃(k:Int) (h1:Bool) (k1 n1:Int) (s1:ByteArray) (a1:Option Addr) (len1 cap1:Nat) (a2:Option Addr) (len2 cap2:Nat),
 cs = [.int .i64 k,.bool h1,.int .i64 k1,.int .i64 n1,.string s1,.slice a1 len1 cap1,.slice a2 len2 cap2]:=by
 obtain⟨c0,c1,c2,c3,v,rfl,_,hp,a2,cap2,rfl,_⟩:=h;obtain⟨k1,n1,s1,a1,len1,cap1,e⟩:=hp.shape;simp only [List.cons.injEq,and_true] at e;obtain⟨rfl,rfl,rfl,rfl⟩:=e;exact⟨_,_,k1,n1,s1,a1,len1,cap1,a2,_,cap2,rfl⟩
structure RdI (r:Nat) (ps:List Pc) (w wr:World) (base:Nat) (v:Value) (l:List Ru) (css:List (List Value)) (p:List Pc) (f:Nat):Prop where
 eq:Ca (20 * ps.length+40) (ps.length+1) [] ps=Ca (20 * ps.length+40) f l p
 fu:p.length<f
 le:p.length<=ps.length
 cnt:l.length+p.length<=ps.length
 rd:Rdr r wr 0 p
 low:Below w.heap.size w wr
 pb:Bx w.heap.size [v] 26 wr
 eb:Bx (w.heap.size+1) [.int .i64 0] 40 wr
 gr:GrL Zm ps.length base 34 7 wr v l css
 sz:base<=wr.heap.size
theorem Hd {s:ByteArray} {w w1:World} {er:Int} (hR:Ch s.toList = .error er) (hb:Below w.heap.size w w1):On s w (.returned (.tuple #[.agg #[.slice none 0 0],.int .i64 er])) ((w1.setCell ⟨w.heap.size,0,none⟩ (.slice none 0 0)).setCell ⟨w.heap.size+1,0,none⟩ (.int .i64 er)) :=
 ⟨(hb.setCell (p:=⟨w.heap.size,0,none⟩) lr0 _).setCell (p:=⟨w.heap.size+1,0,none⟩) (Nat.le_succ _) _,by rw [hR]⟩
theorem Bx.one {g:Nat} {a:Value} {T:TypeId} {w:World} (h:Bx g [a] T w):w.cell? ⟨g,0,none⟩=some a/\w.frozen? ⟨g,0,none⟩=false:=⟨h.cell 0,h.thaw 0⟩
theorem PcA.far {w w':World} {r P:Nat} {v:Value} {ps:List Pc} {a:Option Addr} {len cap:Nat} {T:TypeId} (h:PcA w r v ps) (hP:Bx P [.slice a len cap] T w) (hw:∀b,b ≠ P->b<r->w'.heap[b]? = w.heap[b]?):PcA w' r v ps:=by
 obtain⟨a0,cap0,h1,h2,h3,h4⟩:=h;refine⟨a0,cap0,h1,h2,h3,fun h0=>?_⟩;obtain⟨b,off,ha,hb,hi⟩:=h4 h0;refine⟨b,off,ha,hb,fun i p hp=>?_⟩;have hc:=hi i p hp;have hne:b ≠ P:=by
  intro e;subst e;have h5:=hc.1;rw [hP.cell] at h5;cases hj:off+i * 3 with
  | zero=>rw [hj] at h5;simp at h5
  | succ j=>rw [hj] at h5;simp at h5
 have e:∀j,w'.cell? ⟨b,j,none⟩=w.cell? ⟨b,j,none⟩:=fun j=>World.cell?_of_block (a:=⟨b,j,none⟩) (hw b hne hb);rw [e,e,e];exact hc
theorem Px {r f f' base:Nat} {ps p p1:List Pc} {w wr w4 w5:World} {v:Value} {l:List Ru} {css:List (List Value)} {x:Ru} {c:List Value} {ob:Obj} {g cap:Nat} (hTr:Tr w) (hsl:∃a len cap,v = .slice a len cap) (hr:w.heap.size+1<r) (hbase:r<base) (hf:f=f'+1) (I:RdI r ps w wr base v l css p f) (hp:0<p.length)
 (hE:Ca (20 * ps.length+40) (ps.length+1) [] ps=Ca (20 * ps.length+40) f' (l ++ [x]) p1) (hl1:p1.length<p.length) (hb4:But r r wr w4) (hr4:Rdr r w4 0 p1) (hg4:GrL Zm ps.length base 34 7 w4 v l css) (hx:RuP (fun b=>base<=b/\some b ≠ v.ownBlock) w4 ps.length c x)
 (hown:w5.ownsRow base 34 7 (.slice (some ⟨g,0,none⟩) (l.length+1) cap) (l.length+1) (css.flatten ++ c)) (hg:(w4.alloc ob).grownBy w5 v.ownBlock) (hat:v.ownBlock=some g\/g=(w4.alloc ob).heap.size) :
 RdI r ps w (w5.setCell ⟨w.heap.size,0,none⟩ (.slice (some ⟨g,0,none⟩) (l.length+1) cap)) base (.slice (some ⟨g,0,none⟩) (l.length+1) cap) (l ++ [x]) (css ++ [c]) p1 f'/\left r (w5.setCell ⟨w.heap.size,0,none⟩ (.slice (some ⟨g,0,none⟩) (l.length+1) cap))<left r wr:=by
 have hal:Below w4.heap.size w4 (w4.alloc ob):=br0.alloc lr0 _;have hcl:c.length=7:=by obtain⟨_,_,_,_,_,_,_,_,_,_,_,rfl⟩:=hx.shape;rfl
 have hgr:=hg4.push He hal hcl hx hown hg (by
  rcases hat with e | e
  . exact .inl (by rw [e];rfl)
  . exact .inr (by rw [e];rfl))
 have hrow:=fun k (hk:v.ownBlock=some k)=>hg4.row.lt k hk;have hlow:∀k,k<base->k<w4.heap.size->w5.heap[k]? = w4.heap[k]? := fun k hk hk4=>by
  refine (hg.block k (lle hk4 hal.size) (fun e=>?_)).trans (hal.block k hk4);have:=(hrow k e.symm).1;omega
 have hrl:=hr4.lt;have hsz5:w4.heap.size<=w5.heap.size:=lq0 hal.size hg.size;have hb5:Below (r+1) w4 w5:=⟨hg.os.trans hal.os,hg.tape.trans hal.tape,hg.output.trans hal.output,hsz5,fun k hk=>hlow k (by omega) (by omega)⟩;have hw:=(Cb.refl w.heap.size w5).set 0 (.slice (some ⟨g,0,none⟩) (l.length+1) cap);have hlt:w.heap.size<wr.heap.size:=I.pb.lt;have hlt4:wr.heap.size<=w4.heap.size:=hb4.size;have hlow6:Below w.heap.size w (w5.setCell ⟨w.heap.size,0,none⟩ (.slice (some ⟨g,0,none⟩) (l.length+1) cap)):=by
  refine I.low.trans (Below.trans (b:=w4) ⟨hb4.os,hb4.tape,hb4.output,hb4.size,fun k hk=>hb4.block k (by omega) (by omega) (by omega)⟩ ?_);exact (hb5.mono (by omega)).trans (hw.below lr0)
 have hpb5:Bx w.heap.size [v] 26 w5:=(hlow _ (by omega) (by omega)).trans ((hb4.block _ hlt (by omega) (by omega)).trans I.pb);have hr6:Rdr r (w5.setCell ⟨w.heap.size,0,none⟩ (.slice (some ⟨g,0,none⟩) (l.length+1) cap)) 0 p1:=by
  have h5:=hr4.low hb5;obtain⟨u,hu,hpa⟩:=h5.pcs;obtain⟨va,vl,vc,hv⟩:=hsl;rw [hv] at hpb5;have T6:=hTr.stays hlow6;have hc:∀o,(w5.setCell ⟨w.heap.size,0,none⟩ (.slice (some ⟨g,0,none⟩) (l.length+1) cap)).cell? ⟨r,o,none⟩=w5.cell? ⟨r,o,none⟩:=fun o=>World.cell?_of_block (a:=⟨r,o,none⟩) (hw.block r (by omega));have hz:∀o,(w5.setCell ⟨w.heap.size,0,none⟩ (.slice (some ⟨g,0,none⟩) (l.length+1) cap)).frozen? ⟨r,o,none⟩=w5.frozen? ⟨r,o,none⟩:=fun o=>World.frozen?_of_block (a:=⟨r,o,none⟩) (hw.block r (by omega));have t1:=hTr.tb.words.1;have t2:=hTr.tb.levels.1;have t3:=hTr.tb.funcs.1;have t4:=hTr.pref.lt;exact⟨⟨u,(hc 0).trans hu,hpa.far hpb5 fun b h1 _=>hw.block b h1⟩,(hc 1).trans h5.c1,(hz 0).trans h5.f0,(hz 1).trans h5.f1,h5.lo,h5.hi,h5.fit,⟨⟨by omega,T6.tb.words.2⟩,⟨by omega,T6.tb.levels.2⟩,⟨by omega,T6.tb.funcs.2⟩,⟨by omega,T6.pref⟩⟩⟩
 refine⟨⟨hE,?_,?_,?_,hr6,hlow6,?_,?_,?_,?_⟩,?_⟩
 . have:=I.fu;omega
 . have:=I.le;omega
 . have:=I.cnt;simp;omega
 . have h':w5.heap[w.heap.size]? = some (.cells #[v] 26 (0,0)):=hpb5;simp [Bx,World.setCell,Array.getElem?_modify,h']
 . exact (hw.block _ (by omega)).trans ((hlow _ (by omega) (by have:=I.eb.lt;omega)).trans ((hb4.block _ I.eb.lt (by omega) (by omega)).trans I.eb))
 . exact hgr.keep He lr0 fun b h1 _=>hw.block b (by omega)
 . rw [hw.size];have:=I.sz;omega
 . rw [hr6.left,I.rd.left];exact hl1
set_option maxRecDepth 100000 in
theorem T5 (s:ByteArray) (w:World) (hs:s.size<=maxLen) (hT:Tr w):Calls prog 12 #[.string s] w (On s w):=by
 unfold maxLen at hs;have HT:Hid (Tr w):=hT;obtain⟨i0,hi,hz0,hz1,hz2⟩:=info_parts Ym;have HI:Hid (prog.info? 34=some i0/\i0.zero=some (.agg #[.int .i64 0,.bool false,.int .i64 0,.int .i64 0,.string ⟨#[]⟩,.slice none 0 0,.slice none 0 0])/\i0.size=7/\i0.bytes=96):=⟨hi,hz0,hz1,hz2⟩;clear hi hz0 hz1 hz2 hT;have hmf:∀(fn:Fn) (first cap:Array Value) (w:World),(Instr.makeFunc fn first cap).run prog w = .ok (.func fn first cap) w:=fun _ _ _ _=>rfl;obtain⟨W,hW⟩:∃W,W=(w.alloc (.cells #[.slice none 0 0] 26)).alloc (.cells #[.int .i64 0] 40):=⟨_,rfl⟩;have hz:(w.alloc (.cells #[.slice none 0 0] 26)).heap.size=w.heap.size+1:=by simp
 have HA:Hid (Below w.heap.size w W):=by rw [hW];exact (br0.alloc lr0 _).alloc (by rw [hz];omega) _
 have HPB:Hid (Bx w.heap.size [.slice none 0 0] 26 W):=by rw [hW];exact (Bx.new w _ _).below (br0.alloc lr0 _)
 have HEB:Hid (Bx (w.heap.size+1) [.int .i64 0] 40 W):=by
  have h2:=Bx.new (w.alloc (.cells #[.slice none 0 0] 26)) [.int .i64 0] 40;rw [hz] at h2;rw [hW];exact h2
 have HSW:Hid (W.heap.size=w.heap.size+2):=by rw [hW];simp [Hid]
 have HWW:Hid (W=_):=hW;clear hW hz
 by_cases h6:6000<s.size
 . have HR:Hid (Ch s.toList = .error 1):=by unfold Hid Ch;rw [if_pos (by rw [Bj];exact h6)]
   have i1:(6000:Int)<(s.size:Int):=by omega
   obtain⟨pc,pz⟩:=HPB.out.one;obtain⟨ec,ez⟩:=HEB.out.one;have HB:Hid (Below w.heap.size w W):=HA.out
   go_enter_defers func12,ntmps12
   go_wp2_with fail
   rw [<-HWW.out];clear HWW;refine (Al 1 _).mono ?_;rintro e w1 ⟨rfl,hw1⟩;rw [hw1];clear hw1 w1;go_wp2_with fail
   refine leaves_cons (f:=21) (args:= #[.pointer (some ⟨w.heap.size,0,none⟩),.pointer (some ⟨w.heap.size+1,0,none⟩)]) (by simp) (by simp [go_sem]) ?_;refine (Cg ⟨w.heap.size,0,none⟩ ⟨w.heap.size+1,0,none⟩ 0 (.slice none 0 0) 1 [] W pc pz ec ez (by simp)).mono ?_;rintro e u' w99 ⟨rfl,rfl,rfl⟩;simp [Leaves,settle,results,results12,go_sem,pc,ec];exact Hd HR.out HB.out
 have i1:¬(6000:Int)<(s.size:Int):=by omega
 have h6':s.size<=6000:=by omega
 have HRD:Hid (Ch s.toList=match Gi (s.size+1) s.toList with
  | .error e=> .error e
  | .ok ps=>match Ca (20 * ps.length+40) (ps.length+1) [] ps with
   | .error e=> .error e
   | .ok l=>if ckP (20 * ps.length+40) l=0 then .ok l else .error (ckP (20 * ps.length+40) l)):=by unfold Hid Ch;rw [if_neg (by rw [Bj];omega),Bj];rfl
 have TW:=HT.out.stays HA.out;have HC:Hid _:=Agx s W h6' TW.signs TW.err;clear TW
 go_enter_defers func12,ntmps12
 go_wp2_with fail
 rw [<-HWW.out];clear HWW
 (try rw [decide_eq_false (show ¬(6000:Int)<(s.size:Int) by omega)])
 refine (Af 1 _).mono ?_;rintro e w1 ⟨rfl,hw1⟩;rw [hw1];clear hw1 w1;go_wp2_with fail
 refine Calls.mono HC.out ?_;rintro e w1 ⟨hb1,hr1⟩;have HB1:Hid (Below W.heap.size W w1):=hb1;have HP1:Hid (Bx w.heap.size [.slice none 0 0] 26 w1):=HPB.out.below hb1;have HE1:Hid (Bx (w.heap.size+1) [.int .i64 0] 40 w1):=HEB.out.below hb1;cases hcut:Gi (s.size+1) s.toList with
 | error er =>
  rw [hcut] at hr1 HRD;subst hr1;have HR:Hid (Ch s.toList = .error er):=HRD.out;obtain⟨pc,pz⟩:=HP1.out.one;obtain⟨ec,ez⟩:=HE1.out.one;have HB:Hid (Below w.heap.size w w1):=Aa HA.out HB1.out;clear hb1 hcut HC;go_wp2_with fail
  refine leaves_cons (f:=21) (args:= #[.pointer (some ⟨w.heap.size,0,none⟩),.pointer (some ⟨w.heap.size+1,0,none⟩)]) (by simp) (by simp [go_sem]) ?_;refine (Cg ⟨w.heap.size,0,none⟩ ⟨w.heap.size+1,0,none⟩ 0 (.slice none 0 0) er [] w1 pc pz ec ez (by simp)).mono ?_;rintro e u' w99 ⟨rfl,rfl,rfl⟩;simp [Leaves,settle,results,results12,go_sem,pc,ec];exact Hd HR.out HB.out
 | ok ps =>
  rw [hcut] at hr1 HRD;obtain⟨v,rfl,hpa,hfit⟩:=hr1;have hpa':=hpa;obtain⟨a,cap,rfl,-⟩:=hpa';obtain⟨nps,hnps⟩:∃n,n=ps.length:=⟨_,rfl⟩;rw [<-hnps] at hpa ⊢;obtain⟨r,hr⟩:∃r,r=w1.heap.size:=⟨_,rfl⟩;obtain⟨W1,hW1⟩:∃W1,W1=w1.alloc (.cells #[.slice a nps cap,.int .i64 0] 70):=⟨_,rfl⟩;have hal:Below w1.heap.size w1 W1:=by rw [hW1];exact br0.alloc lr0 _
  have hbx:Bx r [.slice a nps cap,.int .i64 0] 70 W1:=by rw [hW1,hr];exact Bx.new w1 _ _
  have hsw:=HSW.out;have hs1:=HB1.out.size;have hz1:W1.heap.size=r+1:=by rw [hW1,hr];simp
  have hlow1:Below w.heap.size w W1:=Aa (Aa HA.out HB1.out) hal;have T1:=HT.out.stays (Aa HA.out HB1.out);have hrd:Rdr r W1 0 ps:=⟨⟨_,hbx.cell 0,(by rw [<-hr] at hpa;exact hpa.low fun k hk=>hal.block k (by omega))⟩,hbx.cell 1,hbx.thaw 0,hbx.thaw 1,by omega,by omega,hfit,(T1.tz (Nat.le_of_eq hr.symm)).low fun k hk=>hal.block k (by omega)⟩;have HI0:Hid (∃l css p f,RdI r ps w W1 (r+1) (.slice none 0 0) l css p f):=⟨[],[],ps,ps.length+1,rfl,by omega,Nat.le_refl _,by simp,hrd,hlow1,HP1.out.below hal,HE1.out.below hal,GrL.nil _ _ _ _ _ _,by omega⟩;have HRr:Hid (w.heap.size+1<r):=by unfold Hid;omega
  have hps:ps.length<=6000:=hrd.short;have HWW:Hid (W1=_):=hW1;have HRR:Hid (r=w1.heap.size):=hr;clear hb1 hcut HC hpa hfit hnps hW1 hal hbx hsw hs1 hz1 hlow1 T1 hrd;go_wp2_with fail
  rw [<-HWW.out,<-hr];clear HWW hr
  go_loopw [13] (fun _ wr=>∃(a:Option Addr) (len cap:Nat),Hid (∃l css p f,RdI r ps w wr (r+1) (.slice a len cap) l css p f)) (fun _ wr=>left r wr)
  case atStart=>exact⟨_,_,_,HI0.out⟩
  case round =>
   obtain⟨va,vl,vc,HI1⟩:=hrel;clear HI0;obtain⟨l,css,p,f,HI2⟩:=HI1.out;have HW:Hid (RdI r ps w wr (r+1) (.slice va vl vc) l css p f):=HI2;clear HI1 HI2;obtain⟨f',hf'⟩:∃f',f=f'+1:=⟨f - 1,by have:=HW.out.fu;omega⟩;cases p with
   | cons q p0 =>
    obtain⟨pp,hpp⟩:∃pp,pp=q :: p0:=⟨_,rfl⟩;have HC:Hid _:=Iv r 0 q p0 wr HW.out.rd;rw [<-hpp] at HW;have HPL:Hid (0<pp.length):=by rw [hpp];simp [Hid]
    have HE:Hid (Ca (20 * ps.length+40) (ps.length+1) [] ps=match Cl (20 * ps.length+40) 0 pp with
     | .error e=> .error e
     | .ok (x,p1)=>Ca (20 * ps.length+40) f' (l ++ [x]) p1):=by unfold Hid;rw [HW.out.eq,hf',J9,hpp]
    clear hpp;have hwl:=HW.out.le;have HCR:Hid (Calls prog 25 #[.pointer (some ⟨r,0,none⟩)] wr.drew fun e w4=>(∃er,e = .panicked [C2 er]/\Hid (Ca (20 * ps.length+40) (ps.length+1) [] ps = .error er/\But r r wr w4))\/∃k1 h1 k2 n2 s2 a2 len2 cap2 a3 len3 cap3 x p1,e = .returned (.agg #[.int .i64 k1,.bool h1,.int .i64 k2,.int .i64 n2,.string s2,.slice a2 len2 cap2,.slice a3 len3 cap3])/\Hid (Ca (20 * ps.length+40) (ps.length+1) [] ps=Ca (20 * ps.length+40) f' (l ++ [x]) p1/\p1.length<pp.length/\But r r wr w4/\Rdr r w4 0 p1/\GrL Zm ps.length (r+1) 34 7 w4 (.slice va vl vc) l css/\RuP (fun b=>r+1<=b/\some b ≠ (Value.slice va vl vc).ownBlock) w4 ps.length [.int .i64 k1,.bool h1,.int .i64 k2,.int .i64 n2,.string s2,.slice a2 len2 cap2,.slice a3 len3 cap3] x)):=by
     refine (Ze (20 * ps.length+40) r 0 pp wr.drew (HW.out.rd.below (Ac _)) (by omega)).mono ?_;rintro e w4 ⟨hb,hr⟩;have hb':But r r wr w4:=⟨hb.os,hb.tape,hb.output,hb.size,hb.block⟩;rcases A6 (Cl (20 * ps.length+40) 0 pp) with⟨er,hN⟩ | ⟨x,p1,hN⟩
     . rw [hN] at hr;obtain⟨rfl,hop⟩:=hr;exact .inl ⟨er,rfl,by rw [HE.out,hN],hb'⟩
     . rw [hN] at hr;obtain⟨u,rfl,hrd,hl1,cs1,rfl,hx1⟩:=hr;obtain⟨k1,h1,k2,n2,s2,a2,len2,cap2,a3,len3,cap3,rfl⟩:=hx1.shape;refine .inr ⟨k1,h1,k2,n2,s2,a2,len2,cap2,a3,len3,cap3,x,p1,rfl,by rw [HE.out,hN],hl1,hb',hrd,HW.out.gr.but He lr0 hb' (Nat.lt_succ_self _),?_⟩;have hsz:=HW.out.sz;refine (RuP.stays (w:=w4) (fun b h=>⟨lq0 hsz h,fun e=>?_⟩) (fun _ _ _=>rfl) hx1).le (by omega);have:=(HW.out.gr.row.lt b e.symm).2;have h2:wr.heap.size<=b:=h;omega
    obtain⟨pc,pz⟩:=HW.out.pb.one;go_wp2_with fail
    refine Calls.mono HC.out ?_;rintro e w3 ⟨rfl,hw3⟩;rw [hw3];clear hw3 w3 HC;go_wp2_with fail
    have hbl:=HW.out.pb.lt;refine wp_region_any (by kernel_rfl) ?_
    change wpAny _ _ _ _ _ _ _ (World.drew _)
    refine Ko (D:= [{ target:= .fn (.func 21) #[.pointer (some ⟨w.heap.size,0,none⟩),.pointer (some ⟨w.heap.size+1,0,none⟩)],args:= #[] }]) (i:=2) (j:=3) (x:= .pointer (some ⟨w.heap.size,0,none⟩)) (y:= .pointer (some ⟨w.heap.size+1,0,none⟩)) (by decide) _ _ _ _ ⟨by simp,by simp⟩ ?_;refine wpAny_take (i:=0) (v:= .pointer (some ⟨w.heap.size,0,none⟩)) rfl (by kernel_rfl) (by kernel_rfl) (by kernel_rfl) (fun _ _ _ h=>h) (Or.inl ⟨by rfl,?_⟩) ?_
    . intro w
      go_simp
    refine wpAny_ready (rs:= [1,2]) (by kernel_rfl) (by simp) ?_;refine AllReady.cons rfl (fun K hK=>?_) ?_
    . go_simp
      refine hK _ _ ?_;clear hK K;refine wpAny_ready (rs:= [2]) (by kernel_rfl) (by simp) ?_;refine AllReady.cons rfl (fun K hK=>?_) AllReady.nil
      go_simp
      refine Calls.mono HCR.out ?_;rintro e w4 (⟨er,rfl,F⟩ | ⟨k1,h1,k2,n2,s2,a2,len2,cap2,a3,len3,cap3,x,p1,rfl,F⟩)
      . have HR:Hid (Ch s.toList = .error er):=by unfold Hid;rw [HRD.out];simp only [F.out.1]
        have hP4:Bx w.heap.size [.slice va vl vc] 26 w4:=(F.out.2.block _ HW.out.pb.lt (by have:=HRr.out;omega) (by have:=HRr.out;omega)).trans HW.out.pb;have hE4:Bx (w.heap.size+1) [.int .i64 0] 40 w4:=(F.out.2.block _ HW.out.eb.lt (by have:=HRr.out;omega) (by have:=HRr.out;omega)).trans HW.out.eb;have HB:Hid (Below w.heap.size w w4):=HW.out.low.trans ⟨F.out.2.os,F.out.2.tape,F.out.2.output,F.out.2.size,fun k hk=>F.out.2.block k (by omega) (by have:=HRr.out;omega) (by have:=HRr.out;omega)⟩;obtain⟨pc4,pz4⟩:=hP4.one;obtain⟨ec4,ez4⟩:=hE4.one;refine⟨rfl,fun tmps t2 t3=>?_⟩;show Leaves _ _ _ _ _ _ _;refine leaves_cons (f:=21) (args:= #[.pointer (some ⟨w.heap.size,0,none⟩),.pointer (some ⟨w.heap.size+1,0,none⟩)]) (by simp) (by simp [go_sem]) ?_;refine (Cg ⟨w.heap.size,0,none⟩ ⟨w.heap.size+1,0,none⟩ 0 (.slice va vl vc) er [] w4 pc4 pz4 ec4 ez4 (by simp)).mono ?_;rintro e u' w99 ⟨rfl,rfl,rfl⟩
        simp [Leaves,settle,results,results12,go_sem,pc4,ec4,t2,t3];exact Hd HR.out HB.out
      have hP4:Bx w.heap.size [.slice va vl vc] 26 w4:=(F.out.2.2.1.block _ HW.out.pb.lt (by have:=HRr.out;omega) (by have:=HRr.out;omega)).trans HW.out.pb;obtain⟨pc4,pz4⟩:=hP4.one;have hbl4:=hP4.lt;have hbl5:¬w.heap.size=w4.heap.size:=by omega
      have HRW:Hid (w4.ownsRow (r+1) 34 7 (.slice va vl vc) l.length css.flatten):=F.out.2.2.2.2.1.row;have HNE:Hid (some w.heap.size ≠ (Value.slice va vl vc).ownBlock):=fun e=>by
       have:=(HRW.out.lt _ e.symm).1;have:=HRr.out;omega
      have HCT:Hid (l.length<=6000):=by have:=HW.out.cnt;unfold Hid;omega
      have HSZ:Hid (r+1<=w4.heap.size):=F.out.2.2.2.1.lt;have HNW:Hid (∀j u,[Value.int .i64 k1,  .bool h1,.int .i64 k2,.int .i64 n2,.string s2,.slice a2 len2 cap2,.slice a3 len3 cap3][j]? = some u->(w4.alloc (.cells #[.int .i64 k1,.bool h1,.int .i64 k2,.int .i64 n2,.string s2,.slice a2 len2 cap2,.slice a3 len3 cap3] 34)).cell? ((⟨w4.heap.size,0,none⟩:Addr).add j)=some u):=D6 w4 _ _;clear hP4;refine hK _ _ ?_;clear hK K;refine wpAny_ready (rs:= [3]) (by kernel_rfl) (by simp) ?_;refine AllReady.cons rfl (fun K hK=>?_) AllReady.nil
      go_simp
      refine hK _ _ ?_;clear hK K;refine wpAny_ready (rs:= [4]) (by kernel_rfl) (by simp) ?_;refine AllReady.cons rfl (fun K hK=>?_) AllReady.nil;refine step_append_lies _ (by rfl) _ _ 24 (by rfl) (r+1) 34 i0 (.agg #[.int .i64 0,.bool false,.int .i64 0,.int .i64 0,.string ⟨#[]⟩,.slice none 0 0,.slice none 0 0]) 7 96 underlying24 HI.out.1 HI.out.2.1 HI.out.2.2.1 HI.out.2.2.2 rfl (by decide) (.slice va vl vc) l.length css.flatten (by rfl) (HRW.out.alloc _) ⟨w4.heap.size,0,none⟩ 1 1 [.int .i64 k1,.bool h1,.int .i64 k2,.int .i64 n2,.string s2,.slice a2 len2 cap2,.slice a3 len3 cap3] (by rfl) rfl HNW.out (by intro u hu;simp at hu;rcases hu with rfl | rfl | rfl | rfl | rfl | rfl | rfl <;> rfl) (by omega) (by have:=HCT.out;unfold maxLen;omega) (by have:=HCT.out;omega) (by simp;have:=HSZ.out;omega) (w4.heap.size+1) (by simp) ?_;intro g cap' w5 hown hgrow hat hlt5;refine hK _ _ ?_;clear hK K
      have hb6:w.heap.size<(w4.alloc (.cells #[.int .i64 k1,.bool h1,.int .i64 k2,.int .i64 n2,.string s2,.slice a2 len2 cap2,.slice a3 len3 cap3] 34)).heap.size:=by simp;omega
      have pc5:w5.cell? ⟨w.heap.size,0,none⟩=some (.slice va vl vc):=by rw [hgrow.cell_far _ hb6 HNE.out];exact (((Below.refl w4.heap.size w4).alloc lr0 _).cell (p:=⟨w.heap.size,0,none⟩) hbl4).trans pc4
      have pz5:w5.frozen? ⟨w.heap.size,0,none⟩=false:=by rw [hgrow.frozen_far _ hb6 HNE.out];exact (((Below.refl w4.heap.size w4).alloc lr0 _).frozen (p:=⟨w.heap.size,0,none⟩) hbl4).trans pz4
      refine wpAny_ready (rs:= [5]) (by kernel_rfl) (by simp) ?_;refine AllReady.cons rfl (fun K hK=>?_) AllReady.nil
      go_simp
      refine hK _ _ ?_;clear hK K;refine wpAny_ready (rs:= [6]) (by kernel_rfl) (by simp) ?_;refine AllReady.cons rfl (fun K hK=>?_) AllReady.nil
      go_simp
      refine hK _ _ ?_;clear hK K;refine wpAny_done (by kernel_rfl) ?_ _;have HNX:Hid (RdI r ps w (w5.setCell ⟨w.heap.size,0,none⟩ (.slice (some ⟨g,0,none⟩) (l.length+1) cap')) (r+1) (.slice (some ⟨g,0,none⟩) (l.length+1) cap') (l ++ [x]) (css ++ [[.int .i64 k1,.bool h1,.int .i64 k2,.int .i64 n2,.string s2,.slice a2 len2 cap2,.slice a3 len3 cap3]]) p1 f'/\left r (w5.setCell ⟨w.heap.size,0,none⟩ (.slice (some ⟨g,0,none⟩) (l.length+1) cap'))<left r wr) :=
       Px HT.out ⟨_,_,_,rfl⟩ HRr.out (Nat.lt_succ_self _) hf' HW.out HPL.out F.out.1 F.out.2.1 F.out.2.2.1 F.out.2.2.2.1 F.out.2.2.2.2.1 F.out.2.2.2.2.2 hown hgrow (by
        rcases hat with e | e
        . exact .inl e
        . exact .inr (by rw [e];simp))
      clear hown hgrow hat HNW HRW;go_wp2_with fail
      go_roundw
      case rel=>exact⟨_,_,_,_,_,_,_,_,⟨_,_,_,_,_,_,_,HNX.out.1⟩,rfl⟩
      case measure=>exact HNX.out.2
    refine AllReady.cons rfl (fun K hK=>?_) AllReady.nil
    go_simp
    refine Calls.mono HCR.out ?_;rintro e w4 (⟨er,rfl,F⟩ | ⟨k1,h1,k2,n2,s2,a2,len2,cap2,a3,len3,cap3,x,p1,rfl,F⟩)
    . have HR:Hid (Ch s.toList = .error er):=by unfold Hid;rw [HRD.out];simp only [F.out.1]
      have hP4:Bx w.heap.size [.slice va vl vc] 26 w4:=(F.out.2.block _ HW.out.pb.lt (by have:=HRr.out;omega) (by have:=HRr.out;omega)).trans HW.out.pb;have hE4:Bx (w.heap.size+1) [.int .i64 0] 40 w4:=(F.out.2.block _ HW.out.eb.lt (by have:=HRr.out;omega) (by have:=HRr.out;omega)).trans HW.out.eb;have HB:Hid (Below w.heap.size w w4):=HW.out.low.trans ⟨F.out.2.os,F.out.2.tape,F.out.2.output,F.out.2.size,fun k hk=>F.out.2.block k (by omega) (by have:=HRr.out;omega) (by have:=HRr.out;omega)⟩;obtain⟨pc4,pz4⟩:=hP4.one;obtain⟨ec4,ez4⟩:=hE4.one;refine⟨rfl,fun tmps t2 t3=>?_⟩;show Leaves _ _ _ _ _ _ _;refine leaves_cons (f:=21) (args:= #[.pointer (some ⟨w.heap.size,0,none⟩),.pointer (some ⟨w.heap.size+1,0,none⟩)]) (by simp) (by simp [go_sem]) ?_;refine (Cg ⟨w.heap.size,0,none⟩ ⟨w.heap.size+1,0,none⟩ 0 (.slice va vl vc) er [] w4 pc4 pz4 ec4 ez4 (by simp)).mono ?_;rintro e u' w99 ⟨rfl,rfl,rfl⟩
      simp [Leaves,settle,results,results12,go_sem,pc4,ec4,t2,t3];exact Hd HR.out HB.out
    have hP4:Bx w.heap.size [.slice va vl vc] 26 w4:=(F.out.2.2.1.block _ HW.out.pb.lt (by have:=HRr.out;omega) (by have:=HRr.out;omega)).trans HW.out.pb;obtain⟨pc4,pz4⟩:=hP4.one;have hbl4:=hP4.lt;have hbl5:¬w.heap.size=w4.heap.size:=by omega
    have HRW:Hid (w4.ownsRow (r+1) 34 7 (.slice va vl vc) l.length css.flatten):=F.out.2.2.2.2.1.row;have HNE:Hid (some w.heap.size ≠ (Value.slice va vl vc).ownBlock):=fun e=>by
     have:=(HRW.out.lt _ e.symm).1;have:=HRr.out;omega
    have HCT:Hid (l.length<=6000):=by have:=HW.out.cnt;unfold Hid;omega
    have HSZ:Hid (r+1<=w4.heap.size):=F.out.2.2.2.1.lt;have HNW:Hid (∀j u,[Value.int .i64 k1,  .bool h1,.int .i64 k2,.int .i64 n2,.string s2,.slice a2 len2 cap2,.slice a3 len3 cap3][j]? = some u->(w4.alloc (.cells #[.int .i64 k1,.bool h1,.int .i64 k2,.int .i64 n2,.string s2,.slice a2 len2 cap2,.slice a3 len3 cap3] 34)).cell? ((⟨w4.heap.size,0,none⟩:Addr).add j)=some u):=D6 w4 _ _;clear hP4;refine hK _ _ ?_;clear hK K;refine wpAny_ready (rs:= [1,3]) (by kernel_rfl) (by simp) ?_;refine AllReady.cons rfl (fun K hK=>?_) ?_
    . go_simp
      refine hK _ _ ?_;clear hK K;refine wpAny_ready (rs:= [3]) (by kernel_rfl) (by simp) ?_;refine AllReady.cons rfl (fun K hK=>?_) AllReady.nil
      go_simp
      refine hK _ _ ?_;clear hK K;refine wpAny_ready (rs:= [4]) (by kernel_rfl) (by simp) ?_;refine AllReady.cons rfl (fun K hK=>?_) AllReady.nil;refine step_append_lies _ (by rfl) _ _ 24 (by rfl) (r+1) 34 i0 (.agg #[.int .i64 0,.bool false,.int .i64 0,.int .i64 0,.string ⟨#[]⟩,.slice none 0 0,.slice none 0 0]) 7 96 underlying24 HI.out.1 HI.out.2.1 HI.out.2.2.1 HI.out.2.2.2 rfl (by decide) (.slice va vl vc) l.length css.flatten (by rfl) (HRW.out.alloc _) ⟨w4.heap.size,0,none⟩ 1 1 [.int .i64 k1,.bool h1,.int .i64 k2,.int .i64 n2,.string s2,.slice a2 len2 cap2,.slice a3 len3 cap3] (by rfl) rfl HNW.out (by intro u hu;simp at hu;rcases hu with rfl | rfl | rfl | rfl | rfl | rfl | rfl <;> rfl) (by omega) (by have:=HCT.out;unfold maxLen;omega) (by have:=HCT.out;omega) (by simp;have:=HSZ.out;omega) (w4.heap.size+1) (by simp) ?_;intro g cap' w5 hown hgrow hat hlt5;refine hK _ _ ?_;clear hK K
      have hb6:w.heap.size<(w4.alloc (.cells #[.int .i64 k1,.bool h1,.int .i64 k2,.int .i64 n2,.string s2,.slice a2 len2 cap2,.slice a3 len3 cap3] 34)).heap.size:=by simp;omega
      have pc5:w5.cell? ⟨w.heap.size,0,none⟩=some (.slice va vl vc):=by rw [hgrow.cell_far _ hb6 HNE.out];exact (((Below.refl w4.heap.size w4).alloc lr0 _).cell (p:=⟨w.heap.size,0,none⟩) hbl4).trans pc4
      have pz5:w5.frozen? ⟨w.heap.size,0,none⟩=false:=by rw [hgrow.frozen_far _ hb6 HNE.out];exact (((Below.refl w4.heap.size w4).alloc lr0 _).frozen (p:=⟨w.heap.size,0,none⟩) hbl4).trans pz4
      refine wpAny_ready (rs:= [5]) (by kernel_rfl) (by simp) ?_;refine AllReady.cons rfl (fun K hK=>?_) AllReady.nil
      go_simp
      refine hK _ _ ?_;clear hK K;refine wpAny_ready (rs:= [6]) (by kernel_rfl) (by simp) ?_;refine AllReady.cons rfl (fun K hK=>?_) AllReady.nil
      go_simp
      refine hK _ _ ?_;clear hK K;refine wpAny_done (by kernel_rfl) ?_ _;have HNX:Hid (RdI r ps w (w5.setCell ⟨w.heap.size,0,none⟩ (.slice (some ⟨g,0,none⟩) (l.length+1) cap')) (r+1) (.slice (some ⟨g,0,none⟩) (l.length+1) cap') (l ++ [x]) (css ++ [[.int .i64 k1,.bool h1,.int .i64 k2,.int .i64 n2,.string s2,.slice a2 len2 cap2,.slice a3 len3 cap3]]) p1 f'/\left r (w5.setCell ⟨w.heap.size,0,none⟩ (.slice (some ⟨g,0,none⟩) (l.length+1) cap'))<left r wr) :=
       Px HT.out ⟨_,_,_,rfl⟩ HRr.out (Nat.lt_succ_self _) hf' HW.out HPL.out F.out.1 F.out.2.1 F.out.2.2.1 F.out.2.2.2.1 F.out.2.2.2.2.1 F.out.2.2.2.2.2 hown hgrow (by
        rcases hat with e | e
        . exact .inl e
        . exact .inr (by rw [e];simp))
      clear hown hgrow hat HNW HRW;go_wp2_with fail
      go_roundw
      case rel=>exact⟨_,_,_,_,_,_,_,_,⟨_,_,_,_,_,_,_,HNX.out.1⟩,rfl⟩
      case measure=>exact HNX.out.2
    . refine AllReady.cons rfl (fun K hK=>?_) AllReady.nil
      go_simp
      refine hK _ _ ?_;clear hK K;refine wpAny_ready (rs:= [1]) (by kernel_rfl) (by simp) ?_;refine AllReady.cons rfl (fun K hK=>?_) AllReady.nil
      go_simp
      refine hK _ _ ?_;clear hK K;refine wpAny_ready (rs:= [4]) (by kernel_rfl) (by simp) ?_;refine AllReady.cons rfl (fun K hK=>?_) AllReady.nil;refine step_append_lies _ (by rfl) _ _ 24 (by rfl) (r+1) 34 i0 (.agg #[.int .i64 0,.bool false,.int .i64 0,.int .i64 0,.string ⟨#[]⟩,.slice none 0 0,.slice none 0 0]) 7 96 underlying24 HI.out.1 HI.out.2.1 HI.out.2.2.1 HI.out.2.2.2 rfl (by decide) (.slice va vl vc) l.length css.flatten (by rfl) (HRW.out.alloc _) ⟨w4.heap.size,0,none⟩ 1 1 [.int .i64 k1,.bool h1,.int .i64 k2,.int .i64 n2,.string s2,.slice a2 len2 cap2,.slice a3 len3 cap3] (by rfl) rfl HNW.out (by intro u hu;simp at hu;rcases hu with rfl | rfl | rfl | rfl | rfl | rfl | rfl <;> rfl) (by omega) (by have:=HCT.out;unfold maxLen;omega) (by have:=HCT.out;omega) (by simp;have:=HSZ.out;omega) (w4.heap.size+1) (by simp) ?_;intro g cap' w5 hown hgrow hat hlt5;refine hK _ _ ?_;clear hK K
      have hb6:w.heap.size<(w4.alloc (.cells #[.int .i64 k1,.bool h1,.int .i64 k2,.int .i64 n2,.string s2,.slice a2 len2 cap2,.slice a3 len3 cap3] 34)).heap.size:=by simp;omega
      have pc5:w5.cell? ⟨w.heap.size,0,none⟩=some (.slice va vl vc):=by rw [hgrow.cell_far _ hb6 HNE.out];exact (((Below.refl w4.heap.size w4).alloc lr0 _).cell (p:=⟨w.heap.size,0,none⟩) hbl4).trans pc4
      have pz5:w5.frozen? ⟨w.heap.size,0,none⟩=false:=by rw [hgrow.frozen_far _ hb6 HNE.out];exact (((Below.refl w4.heap.size w4).alloc lr0 _).frozen (p:=⟨w.heap.size,0,none⟩) hbl4).trans pz4
      refine wpAny_ready (rs:= [5]) (by kernel_rfl) (by simp) ?_;refine AllReady.cons rfl (fun K hK=>?_) AllReady.nil
      go_simp
      refine hK _ _ ?_;clear hK K;refine wpAny_ready (rs:= [6]) (by kernel_rfl) (by simp) ?_;refine AllReady.cons rfl (fun K hK=>?_) AllReady.nil
      go_simp
      refine hK _ _ ?_;clear hK K;refine wpAny_done (by kernel_rfl) ?_ _;have HNX:Hid (RdI r ps w (w5.setCell ⟨w.heap.size,0,none⟩ (.slice (some ⟨g,0,none⟩) (l.length+1) cap')) (r+1) (.slice (some ⟨g,0,none⟩) (l.length+1) cap') (l ++ [x]) (css ++ [[.int .i64 k1,.bool h1,.int .i64 k2,.int .i64 n2,.string s2,.slice a2 len2 cap2,.slice a3 len3 cap3]]) p1 f'/\left r (w5.setCell ⟨w.heap.size,0,none⟩ (.slice (some ⟨g,0,none⟩) (l.length+1) cap'))<left r wr) :=
       Px HT.out ⟨_,_,_,rfl⟩ HRr.out (Nat.lt_succ_self _) hf' HW.out HPL.out F.out.1 F.out.2.1 F.out.2.2.1 F.out.2.2.2.1 F.out.2.2.2.2.1 F.out.2.2.2.2.2 hown hgrow (by
        rcases hat with e | e
        . exact .inl e
        . exact .inr (by rw [e];simp))
      clear hown hgrow hat HNW HRW;go_wp2_with fail
      go_roundw
      case rel=>exact⟨_,_,_,_,_,_,_,_,⟨_,_,_,_,_,_,_,HNX.out.1⟩,rfl⟩
      case measure=>exact HNX.out.2
   | nil =>
    have HC:Hid _:=Iw r 0 wr HW.out.rd;have HEQ:Hid (Ca (20 * ps.length+40) (ps.length+1) [] ps = .ok l):=by unfold Hid;rw [HW.out.eq,hf',J9]
    have hsl:SlP (fun b=>b<wr.heap.size) wr 7 (.slice va vl vc) l.length (fun i c=>∃x,l[i]? = some x/\RuP (fun b=>b<wr.heap.size) wr (20 * ps.length+40) c x):=by
     have h1:=HW.out.gr.slp He (by decide) (by have:=HW.out.cnt;unfold maxLen;omega);exact (h1.old (by decide) fun i c ⟨x,hx,he⟩=>⟨x,hx,(RuP.stays (fun b hb=>hb.2) (fun _ _ _=>rfl) (RuP.old he)).le (by omega)⟩).mono (fun b hb=>hb.2) fun _ _ h=>h
    have hsa:Sl wr wr.heap.size 7 (.slice va vl vc) l.length (fun i c=>∃x,l[i]? = some x/\RuA wr.heap.size wr (20 * ps.length+40) c x):=hsl.low fun i c ⟨x,hx,he⟩=>⟨x,hx,he.low⟩;have HK:Hid _:=U5 (20 * ps.length+40) wr.heap.size l (.slice va vl vc) wr hsa (HT.out.stays HW.out.low).tb lr0;obtain⟨pc,pz⟩:=HW.out.pb.one;clear hsl hsa;go_wp2_with fail
    refine Calls.mono HC.out ?_;rintro e w3 ⟨rfl,hw3⟩;rw [hw3];clear hw3 w3 HC;go_wp2_with fail
    refine Calls.mono HK.out ?_;rintro e w4 ⟨rfl,hb4⟩;have HB4:Hid (Below wr.heap.size wr w4):=hb4;have HP4:Hid (Bx w.heap.size [.slice va vl vc] 26 w4):=HW.out.pb.below hb4;have HE4:Hid (Bx (w.heap.size+1) [.int .i64 0] 40 w4):=HW.out.eb.below hb4;obtain⟨pc4,pz4⟩:=HP4.out.one;obtain⟨ec4,ez4⟩:=HE4.out.one;obtain⟨ck,hck⟩:∃ck,ck=ckP (20 * ps.length+40) l:=⟨_,rfl⟩;have HCK:Hid (Ch s.toList=if ck=0 then .ok l else .error ck):=by unfold Hid;rw [HRD.out,hck];simp only [HEQ.out]
    rw [<-hck];clear hb4 HK hck pc pz
    by_cases h0:ck=0
    . subst h0;have HR:Hid (Ch s.toList = .ok l):=by unfold Hid;rw [HCK.out,if_pos rfl]
      have HF:Hid (∀w5,Below w.heap.size w w5->(∀b,r+1<=b->b<wr.heap.size->w5.heap[b]? = wr.heap[b]?)->On s w (.returned (.tuple #[.agg #[.slice va vl vc],.int .i64 0])) w5):=fun w5 h1 h2=>by
       refine⟨h1,?_⟩;rw [HR.out];have h3:=(HW.out.gr.keep He lr0 h2).slp He (by decide) (by have:=HW.out.cnt;unfold maxLen;omega);have hr:=HRr.out;exact⟨_,rfl,h3.mono (fun b hb=>by omega) fun i c ⟨x,hx,he⟩=>⟨x,hx,(RuP.stays (fun b hb=>by omega) (fun _ _ _=>rfl) he).le (by omega)⟩⟩
      go_wp2_with fail
      refine (Af 0 _).mono ?_;rintro e w5 ⟨rfl,hw5⟩;rw [hw5];clear hw5 w5;go_wp2_with fail
      refine leaves_cons (f:=21) (args:= #[.pointer (some ⟨w.heap.size,0,none⟩),.pointer (some ⟨w.heap.size+1,0,none⟩)]) (by simp) (by simp [go_sem]) ?_;refine (Qt ⟨w.heap.size,0,none⟩ ⟨w.heap.size+1,0,none⟩ _).mono ?_;rintro e u' w99 ⟨rfl,rfl,rfl⟩;simp [Leaves,settle,results,results12,go_sem,pc4,ec4];refine HF.out _ ((((HW.out.low.trans (HB4.out.mono HW.out.low.size)).setCell (p:=⟨w.heap.size+1,0,none⟩) (Nat.le_succ _) _).setCell (p:=⟨w.heap.size,0,none⟩) lr0 _).setCell (p:=⟨w.heap.size+1,0,none⟩) (Nat.le_succ _) _) fun b h1 h2=>?_;have hr:=HRr.out;rw [Below.heap_setCell _ _ _ _ (by simp;omega),Below.heap_setCell _ _ _ _ (by simp;omega),Below.heap_setCell _ _ _ _ (by simp;omega)];exact HB4.out.block b h2
    . have HR:Hid (Ch s.toList = .error ck):=by unfold Hid;rw [HCK.out,if_neg h0]
      have b0:(ck != 0)=true:=by simp [h0]
      have HB:Hid (Below w.heap.size w (w4.setCell ⟨w.heap.size+1,0,none⟩ (.int .i64 ck))):=(HW.out.low.trans (HB4.out.mono HW.out.low.size)).setCell (p:=⟨w.heap.size+1,0,none⟩) (Nat.le_succ _) _;go_wp2_with fail
      refine (Al ck _).mono ?_;rintro e w5 ⟨rfl,hw5⟩;rw [hw5];clear hw5 w5;go_wp2_with fail
      refine leaves_cons (f:=21) (args:= #[.pointer (some ⟨w.heap.size,0,none⟩),.pointer (some ⟨w.heap.size+1,0,none⟩)]) (by simp) (by simp [go_sem]) ?_;have hne1:(⟨w.heap.size,0,none⟩:Addr) ≠ ⟨w.heap.size+1,0,none⟩:=by simp
      have pc:(w4.setCell ⟨w.heap.size+1,0,none⟩ (.int .i64 ck)).cell? ⟨w.heap.size,0,none⟩=some (.slice va vl vc):=(World.cell?_setCell_other _ _ _ _ hne1.symm).trans pc4;have pz:(w4.setCell ⟨w.heap.size+1,0,none⟩ (.int .i64 ck)).frozen? ⟨w.heap.size,0,none⟩=false:=by simp [pz4]
      have ec:(w4.setCell ⟨w.heap.size+1,0,none⟩ (.int .i64 ck)).cell? ⟨w.heap.size+1,0,none⟩=some (.int .i64 ck):=World.cell?_setCell_same _ _ _ ec4;have ez:(w4.setCell ⟨w.heap.size+1,0,none⟩ (.int .i64 ck)).frozen? ⟨w.heap.size+1,0,none⟩=false:=by simp [ez4]
      refine (Cg ⟨w.heap.size,0,none⟩ ⟨w.heap.size+1,0,none⟩ ck (.slice va vl vc) ck [] _ pc pz ec ez (by simp)).mono ?_;rintro e u' w99 ⟨rfl,rfl,rfl⟩;have HF:=Hd HR.out HB.out;obtain⟨U,hU⟩:∃U,U=((w4.setCell ⟨w.heap.size+1,0,none⟩ (.int .i64 ck)).setCell ⟨w.heap.size,0,none⟩ (.slice none 0 0)).setCell ⟨w.heap.size+1,0,none⟩ (.int .i64 ck):=⟨_,rfl⟩;have u0:U.cell? ⟨w.heap.size,0,none⟩=some (.slice none 0 0):=by rw [hU,World.cell?_setCell_other _ _ _ _ hne1.symm,World.cell?_setCell_same _ _ _ pc]
      have u1:U.cell? ⟨w.heap.size+1,0,none⟩=some (.int .i64 ck):=by rw [hU];exact World.cell?_setCell_same _ _ _ (by rw [World.cell?_setCell_other _ _ _ _ hne1];exact ec)
      rw [<-hU] at HF ⊢;simp [Leaves,settle,results,results12,go_sem,u0,u1];exact HF
end Go.Proofs.YtppcohadoilpgaaGreatDoor
namespace Go.Proofs.YtppcohadoilpgaaGreatDoor
open Go.ChangeShapes Go.WideShapes Go.ChangeAt Go.RowKit Go.Joins Go.Proofs.Tryz
set_option linter.unusedVariables false
set_option maxRecDepth 100000
theorem Abh : prog.globalNamed "tillage/syntax.levels" = some 6 := by kernel_rfl
theorem Nq {W : World} {r : List (String × DataW Unit)} (hL : laidMet prog (("tillage/syntax.levels", Rows.laid_tillage_syntax_levels) :: r) W) : Ao W 6 Ed := by
 obtain⟨cs,u,fr,hh,fuel,p,hd⟩:=Ie (t:=204) Abh (by kernel_rfl) hL;have:=Hc (l:=Cp) underlying204 underlying203 (by kernel_rfl) (by kernel_rfl) rfl rfl (by kernel_rfl) (by kernel_rfl) underlying9 underlying3 hd;exact⟨u,fr,by rw [hh,Ed,<-this]⟩
theorem Aem : prog.globalNamed "tillage/syntax.functions" = some 3 := by kernel_rfl
theorem Rc {W : World} {r : List (String × DataW Unit)} (hL : laidMet prog (("tillage/syntax.functions", Rows.laid_tillage_syntax_functions) :: r) W) : Ao W 3 Fd := by
 obtain⟨cs,u,fr,hh,fuel,p,hd⟩:=Ie (t:=174) Aem (by kernel_rfl) hL;have:=Hc (l:=Dp) underlying174 underlying173 (by kernel_rfl) (by kernel_rfl) rfl rfl (by kernel_rfl) (by kernel_rfl) underlying9 underlying3 hd;exact⟨u,fr,by rw [hh,Fd,<-this]⟩
theorem Ag3 : prog.globalNamed "tillage/syntax.prefixes" = some 2 := by kernel_rfl
theorem Acd {W : World} {r : List (String × DataW Unit)} (hL : laidMet prog (("tillage/syntax.prefixes", Rows.laid_tillage_syntax_prefixes) :: r) W) : Ao W 2 Lt := by
 obtain⟨cs,u,fr,hh,fuel,p,hd⟩:=Ie (t:=165) Ag3 (by kernel_rfl) hL;have:=Hc (l:=F9) underlying165 underlying164 (by kernel_rfl) (by kernel_rfl) rfl rfl (by kernel_rfl) (by kernel_rfl) underlying9 underlying3 hd;exact⟨u,fr,by rw [hh,Lt,<-this]⟩
theorem Ag1 : prog.globalNamed "tillage/syntax.argsOfKind" = some 1 := by kernel_rfl
theorem U2 {W : World} {r : List (String × DataW Unit)} (hL : laidMet prog (("tillage/syntax.argsOfKind", Rows.laid_tillage_syntax_argsOfKind) :: r) W) : Ao W 1 (J8 Hv) := by
 obtain⟨cs,u,fr,hh,fuel,p,hd⟩:=Ie (t:=150) Ag1 (by kernel_rfl) hL;have:=Lib.cells_of_tab (k:= .i64) (zs:=Hv) underlying150 underlying3 (by kernel_rfl) (by kernel_rfl) hd;exact⟨u,fr,by rw [hh,J8,<-this]⟩
theorem Ael : prog.globalNamed "tillage/syntax.exprsOfKind" = some 4 := by kernel_rfl
theorem J7 {W : World} {r : List (String × DataW Unit)} (hL : laidMet prog (("tillage/syntax.exprsOfKind", Rows.laid_tillage_syntax_exprsOfKind) :: r) W) : Ao W 4 (J8 Fy) := by
 obtain⟨cs,u,fr,hh,fuel,p,hd⟩:=Ie (t:=175) Ael (by kernel_rfl) hL;have:=Lib.cells_of_tab (k:= .i64) (zs:=Fy) underlying175 underlying3 (by kernel_rfl) (by kernel_rfl) hd;exact⟨u,fr,by rw [hh,J8,<-this]⟩
theorem Aeo : prog.globalNamed "tillage/syntax.signs" = some 0 := by kernel_rfl
theorem Zu {W : World} {r : List (String × DataW Unit)} (hL : laidMet prog (("tillage/syntax.signs", Rows.laid_tillage_syntax_signs) :: r) W) : Hi W := by
 obtain⟨cs,u,fr,hh,fuel,p,hd⟩:=Ie (t:=116) Aeo (by kernel_rfl) hL;have:=Ma (l:=Bp) underlying116 underlying9 (by kernel_rfl) (by kernel_rfl) hd;exact⟨u,fr,by rw [hh];congr 1;rw [show Jw=(Bp.map Zy).toArray from rfl,<-this]⟩
theorem Ag2 : prog.globalNamed "strconv.ErrRange" = some 11 := by kernel_rfl
theorem Vp : "*errors.errorString" = "*" ++ "errors.errorString" := by decide
theorem Afn (u : TypeId) (h : prog.typeName? 3 u = some "*errors.errorString") : u = 241 :=
 typeName_ptr_named (nm := "errors.errorString") (by rw [<- Vp]; kernel_rfl) (by kernel_rfl) (by decide) u (by rw [<- Vp]; exact h)
theorem Aeg {W : World} {r : List (String × DataW Unit)} (hL : laidMet prog (("strconv.ErrRange", Rows.laid_strconv_ErrRange) :: r) W) : Ke W := by
 obtain ⟨tp, p, h⟩ : ∃ tp p, W.var? prog "strconv.ErrRange" = some #[.iface tp p] := by
  obtain⟨pt,_,hv,_⟩:=laid_sentinel hL Ag2 (ti:=138) (by kernel_rfl) underlying138 Afn underlying241 underlying243 rfl rfl underlying9 (by kernel_rfl) (by kernel_rfl);exact⟨_,_,hv⟩
 simp only [World.var?,Ag2,Option.bind_some] at h;split at h
 . rename_i c u fr hh;obtain rfl:=Option.some.inj h;exact⟨tp,p,by simp [World.cell?,hh]⟩
 . cases h
theorem Ahv {W : World} {r1 r2 r3 r4 r5 r6 r7 r8 : List (String × DataW Unit)} (h1 : laidMet prog (("tillage/syntax.words", Rows.laid_tillage_syntax_words) :: r1) W) (h2 : laidMet prog (("tillage/syntax.levels", Rows.laid_tillage_syntax_levels) :: r2) W) (h3 : laidMet prog (("tillage/syntax.functions", Rows.laid_tillage_syntax_functions) :: r3) W) (h4 : laidMet prog (("tillage/syntax.argsOfKind", Rows.laid_tillage_syntax_argsOfKind) :: r4) W) (h5 : laidMet prog (("tillage/syntax.exprsOfKind", Rows.laid_tillage_syntax_exprsOfKind) :: r5) W) (h6 : laidMet prog (("tillage/syntax.prefixes", Rows.laid_tillage_syntax_prefixes) :: r6) W) (h7 : laidMet prog (("tillage/syntax.signs", Rows.laid_tillage_syntax_signs) :: r7) W) (h8 : laidMet prog (("strconv.ErrRange", Rows.laid_strconv_ErrRange) :: r8) W) : Tr W :=
 ⟨⟨⟨(Sq h1).lt,Sq h1⟩,⟨(Nq h2).lt,Nq h2⟩,⟨(Rc h3).lt,Rc h3⟩,⟨(U2 h4).lt,U2 h4⟩,⟨(J7 h5).lt,J7 h5⟩⟩,Acd h6,Zu h7,Aeg h8⟩
end Go.Proofs.YtppcohadoilpgaaGreatDoor
