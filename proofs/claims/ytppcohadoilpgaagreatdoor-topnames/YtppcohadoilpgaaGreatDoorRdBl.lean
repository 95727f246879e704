/-
  Contract of the reader's block; those of all statements. / Contract of the reader's rule.
-/
import Derived.Test.YtppcohadoilpgaaGreatDoorRdSt
import Derived.Test.YtppcohadoilpgaaGreatDoorRdSg
import Derived.OwnWalk
import Derived.Deep.RegionWith
namespace Go.Proofs.YtppcohadoilpgaaGreatDoor
open Go.ChangeShapes Go.WideShapes Go.ChangeAt Go.RowKit Go.Joins Go.Maps Go.Proofs.Tryz
set_option maxHeartbeats 8000000
set_option linter.unusedVariables false
theorem Yn:(prog.info? 54).map (fun i=>(i.zero,i.size,i.bytes))=some (some (.agg #[.int .i64 0,.string ⟨#[]⟩,.string ⟨#[]⟩,.slice none 0 0,.slice none 0 0,.slice none 0 0]),6,112):=by kernel_rfl
theorem Kb (f:Nat) (o:Int) (l:List Sm) (ps:List Pc):Dc (f+1) o l ps=if Aj [125] ps then .ok (l,ps.tail)
 else match Bn f o ps with
  | .error e=> .error e
  | .ok (x,p1)=>Dc f o (l ++ [x]) p1:=by rw [Dc];rfl
theorem pk1 {α β:Type} {r:Nat} {o:Int} {f:FuncId} {args:Array Value} {w W:World} {R:Rd α} {K:Value->α->List Pc->World->Prop} {R0:Rd β}
 (hc:Calls prog f args W (Ce r o W R K)) (hb:But r r w W) (herr:∀er,R = .error er->R0 = .error er) :
 Calls prog f args W fun e w'=>(∃er,e = .panicked [C2 er]/\Hid (But r r w w'/\But r r W w'/\Opn r w' o/\R0 = .error er))\/∃v x ps,e = .returned v/\Hid (R = .ok (x,ps)/\But r r W w'/\Rdr r w' o ps/\K v x ps w'):=by
 refine hc.mono ?_;rintro e w1 ⟨hb1,hr⟩;cases R with
 | error er =>
  obtain⟨rfl,hop⟩:=hr;exact .inl ⟨er,rfl,hb.trans hb1,hb1,hop,herr er rfl⟩
 | ok q =>
  obtain⟨x,ps⟩:=q;obtain⟨v,rfl,hrd,hk⟩:=hr;exact .inr ⟨v,x,ps,rfl,rfl,hb1,hrd,hk⟩
structure BlI (r m:Nat) (o:Int) (ps:List Pc) (w wr:World) (v:Value) (l:List Sm) (css:List (List Value)) (p:List Pc) (f:Nat):Prop where
 eq:A5 (m+1) o ps=Dc f (o+1) l p
 fu:20 * p.length+13<=f
 fm:f<=m
 le:p.length<ps.length
 cnt:l.length+p.length<=ps.length
 but:But r r w wr
 rd:Rdr r wr (o+1) p
 lv:Lv r w.heap.size wr
 gr:GrL R8 (ps.length - p.length) (w.heap.size+1) 54 6 wr v l css
theorem Aar {r m f f':Nat} {o:Int} {ps p p1:List Pc} {w wr w4 w5:World} {v v':Value} {l:List Sm} {css:List (List Value)} {x:Sm} {c:List Value} {ob:Obj} (hlt:r<w.heap.size) (hf:f=f'+1) (HW:BlI r m o ps w wr v l css p f)
 (hE:A5 (m+1) o ps=match Bn f' (o+1) p with
  | .error e=> .error e
  | .ok (x,p1)=>Dc f' (o+1) (l ++ [x]) p1)
 (F:Bn f' (o+1) p = .ok (x,p1)/\p1.length<p.length/\But r r w w4/\Rdr r w4 (o+1) p1/\Lv r w.heap.size w4/\GrL R8 (ps.length - p1.length) (w.heap.size+1) 54 6 w4 v l css/\SmP (fun b=>w.heap.size+1<=b/\some b ≠ v.ownBlock) w4 (ps.length - p1.length) c x)
 (hown:w5.ownsRow (w.heap.size+1) 54 6 v' (l.length+1) (css.flatten ++ c)) (hg:(w4.alloc ob).grownBy w5 v.ownBlock) (hat:v'.ownBlock=v.ownBlock\/v'.ownBlock=some (w4.alloc ob).heap.size) :
 (∃a len cap,v' = .slice a len cap/\Hid (∃l css p f,BlI r m o ps w w5 v' l css p f))/\left r w5<left r wr:=by
 obtain⟨hN,hl1,hb4,hr4,hv4,hg4,hx⟩:=F;have hal:Below w4.heap.size w4 (w4.alloc ob):=br0.alloc lr0 _;have hcl:c.length=6:=by obtain⟨k,s,t,a,len,cap,b,lem,caq,c',leo,car,rfl⟩:=hx.shape;rfl
 have hgr:=hg4.push I6 hal hcl hx hown hg hat;have hrow:=fun k (hk:v.ownBlock=some k)=>hg4.row.lt k hk;have hlow:∀k,k<w.heap.size+1->k<w4.heap.size->w5.heap[k]? = w4.heap[k]? := fun k hk hk4=>by
  refine (hg.block k (lle hk4 hal.size) (fun e=>?_)).trans (hal.block k hk4);have:=(hrow k e.symm).1;omega
 have hr5:Rdr r w5 (o+1) p1:=hr4.low ⟨hg.os.trans hal.os,hg.tape.trans hal.tape,hg.output.trans hal.output,lq0 hal.size hg.size,fun k hk=>hlow k (by omega) (by have:=hr4.lt;omega)⟩;have hb5:But r r w w5:=⟨hg.os.trans (hal.os.trans hb4.os),hg.tape.trans (hal.tape.trans hb4.tape),hg.output.trans (hal.output.trans hb4.output),lq0 hb4.size (lq0 hal.size hg.size),fun k hk h1 h2=>(hlow k (by omega) (lle hk hb4.size)).trans (hb4.block k hk h1 h2)⟩;have hv5:Lv r w.heap.size w5:=⟨hv4.1,hv4.2.stays (hlow _ (by omega) hv4.2.lt)⟩;have h1:=HW.fu;have h2:=HW.fm;have h3:=HW.le;have h4:=HW.cnt;refine⟨?_,?_⟩
 . have hsh:∃a len cap,v' = .slice a len cap:=by
    rcases hown.2 with⟨rfl,_⟩ | ⟨g,cap,cur,rfl,_⟩
    . exact⟨_,_,_,rfl⟩
    . exact⟨_,_,_,rfl⟩
   obtain⟨a,len,cap,rfl⟩:=hsh;refine⟨a,len,cap,rfl,l ++ [x],css ++ [c],p1,f',?_⟩;exact⟨by rw [hE,hN],by omega,by omega,by omega,by simp;omega,hb5,hr5,hv5,hgr⟩
 . rw [hr5.left,HW.rd.left];omega
set_option maxRecDepth 100000 in
theorem Wp {m:Nat} (hY:∀m',m'<=m->Ol m'):Es (m+1):=by
 intro r o ps w h hm;have HY:Hid (∀m',m'<=m->Ol m'):=hY;have hlt:=h.lt;have lo:=h.lo;have hps:=h.short;obtain⟨i0,hi,hz0,hz1,hz2⟩:=info_parts Yn;have HI:Hid (prog.info? 54=some i0/\i0.zero=some (.agg #[.int .i64 0,.string ⟨#[]⟩,.string ⟨#[]⟩,.slice none 0 0,.slice none 0 0,.slice none 0 0])/\i0.size=6/\i0.bytes=112):=⟨hi,hz0,hz1,hz2⟩;clear hi hz0 hz1 hz2 hY
 by_cases ho:40<o+1
 . have HE:Hid (A5 (m+1) o ps = .error 1):=by unfold Hid;rw [A5,if_pos ho]
   have HC:Hid _:=Pd r o ps w h ho;clear h
   go_enter_defers func40,ntmps40
   go_wp2_with fail
   refine Calls.mono HC.out ?_;rintro e w1 ⟨rfl,hb,hop⟩;have HO:Hid (But r r w w1/\Opn r w1 o):=⟨hb,hop⟩;clear hb hop HC;go_wp2_with fail
   refine⟨HO.out.1,?_⟩;rw [HE.out];exact⟨rfl,HO.out.2⟩
 have HE0:Hid (A5 (m+1) o ps=match A8 [123] ps with
  | .error e=> .error e
  | .ok (_,p1)=>Dc m (o+1) [] p1):=by unfold Hid;rw [A5,if_neg ho];rfl
 have HC:Hid _:=Pb r o ps w h ho;clear h
 go_enter_defers func40,ntmps40
 go_wp2_with fail
 refine Calls.mono HC.out ?_;rintro e w1 ⟨rfl,hrd,hb,hlv⟩;have HV1:Hid (Lv r w.heap.size w1):=hlv;have HR1:Hid (Rdr r w1 (o+1) ps):=hrd;have HB1:Hid (But r r w w1):=hb;have HZ1:Hid (w.heap.size+1<=w1.heap.size):=hlv.2.lt;clear hb hrd hlv HC;have HC:Hid _:=pk1 (R0:=A5 (m+1) o ps) (Du r (o+1) [123] ps w1 HR1.out) HB1.out (fun er hN=>by rw [HE0.out,hN]);go_wp2_with fail
 refine Calls.mono HC.out ?_;rintro e w2 (⟨er,rfl,F⟩ | ⟨v,x,p1,rfl,F⟩)
 . have HV2:Hid (Lv r w.heap.size w2):=HV1.out.but F.out.2.1;clear HC;go_wp2_with fail
   refine leaves_cons (f:=91) (args:= #[.pointer (some ⟨w.heap.size,0,none⟩)]) (by simp) (by simp [go_sem]) ?_;refine (Ff r w.heap.size o _ w2 F.out.2.2.1 lo HV2.out).mono ?_;rintro e u' w99 ⟨rfl,rfl,h1,h2⟩;refine⟨F.out.1.trans h2,?_⟩;rw [F.out.2.2.2];exact⟨rfl,h1⟩
 obtain⟨hN,hb,hrd,hk⟩:=F.out;obtain rfl:v = .tuple #[]:=hk;have HI0:Hid (∃l css p f,BlI r m o ps w w2 (.slice none 0 0) l css p f):=by
  have hl:=Br hN;exact⟨[],[],p1,m,by rw [HE0.out,hN],by omega,Nat.le_refl _,by omega,by simp;omega,HB1.out.trans hb,hrd,HV1.out.but hb,GrL.nil _ _ _ _ _ _⟩
 have HZ2:Hid (w.heap.size+1<=w2.heap.size):=lq0 HZ1.out hb.size;clear hN hb hrd F HC;go_wp2_with fail
 go_loopw [3] (fun v wr=>∃a len cap,v = .slice a len cap/\Hid (∃l css p f,BlI r m o ps w wr v l css p f)) (fun _ wr=>left r wr)
 case atStart=>exact⟨_,_,_,rfl,HI0.out⟩
 case round =>
  obtain⟨a,len,cap,rfl,HI1⟩:=hrel;obtain⟨l,css,p,f,HW0⟩:=HI1.out;have HW:Hid (BlI r m o ps w wr _ l css p f):=HW0;have HC:Hid _:=C8 r (o+1) [125] p wr HW0.rd;clear HI0 HI1 HW0;obtain⟨f',hf'⟩:∃f',f=f'+1:=⟨f - 1,by have:=HW.out.fu;omega⟩;cases hb:Aj [125] p with
  | true =>
   rw [hb] at HC;have HE:Hid (A5 (m+1) o ps = .ok (l,p.tail)):=by unfold Hid;rw [HW.out.eq,hf',Kb,hb];rfl
   have HP:Hid (p.tail.length+1=p.length):=Bs hb;clear hb;go_wp2_with fail
   refine Calls.mono HC.out ?_;rintro e w3 ⟨rfl,h1,h2⟩;have hr3:Rdr r w3 (o+1) p.tail:=by simpa using h1
   have HR3:Hid (Rdr r w3 (o+1) p.tail):=hr3;have HV3:Hid (Lv r w.heap.size w3):=HW.out.lv.but h2;have HF:Hid (Ce r o w (A5 (m+1) o ps) (KB w ps.length) (.returned (.slice a len cap)) (w3.setCell ⟨r,1,none⟩ (.int .i64 o))):=by
    refine⟨(HW.out.but.trans h2).trans ((But.refl _ _ _).set 1 _),?_⟩;rw [HE.out];have hle:=HW.out.le;have hpt:=HP.out;have hg:LSm (w.heap.size+1) w3 (ps.length - p.length) (.slice a len cap) l:=(HW.out.gr.but I6 lr0 h2 (by omega)).slp I6 (by decide) (by have:=HW.out.cnt;unfold maxLen;omega);exact⟨_,rfl,hr3.opened o lo (by omega),(by omega:p.tail.length<ps.length),hg.same ((Ap.refl _ _).set (by omega) 1 _) (Nat.le_succ _) (by omega)⟩
   clear h1 h2 hr3 HC;go_wp2_with fail
   refine leaves_cons (f:=91) (args:= #[.pointer (some ⟨w.heap.size,0,none⟩)]) (by simp) (by simp [go_sem]) ?_;refine (Iz r w.heap.size o p.tail _ _ HR3.out lo HV3.out).mono ?_;rintro e u' w99 ⟨rfl,rfl,rfl⟩;exact⟨.slice a len cap,by simp [results,results40,go_sem],HF.out⟩
  | false =>
   rw [hb] at HC;have HE:Hid (A5 (m+1) o ps=match Bn f' (o+1) p with
    | .error e=> .error e
    | .ok (x,p1)=>Dc f' (o+1) (l ++ [x]) p1):=by unfold Hid;rw [HW.out.eq,hf',Kb,hb];rfl
   clear hb;go_wp2_with fail
   refine Calls.mono HC.out ?_;rintro e w3 ⟨rfl,h1,h2⟩;have hr3:Rdr r w3 (o+1) p:=by simpa using h1
   have HR3:Hid (Rdr r w3 (o+1) p):=hr3;have HB3:Hid (But r r w w3):=HW.out.but.trans h2;have HV3:Hid (Lv r w.heap.size w3):=HW.out.lv.but h2;have HG3:Hid (GrL R8 (ps.length - p.length) (w.heap.size+1) 54 6 w3 (.slice a len cap) l css):=HW.out.gr.but I6 lr0 h2 (by omega);clear h1 h2 HC hr3
   have HC:Hid (Calls prog 67 #[.pointer (some ⟨r,0,none⟩)] w3 fun e w4=>(∃er,e = .panicked [C2 er]/\Hid (But r r w w4/\Lv r w.heap.size w4/\Opn r w4 (o+1)/\A5 (m+1) o ps = .error er))\/∃k1 s1 t1 a1 len1 cap1 b1 lem1 caq1 c1 leo1 car1 x p1,e = .returned (.agg #[.int .i64 k1,.string s1,.string t1,.slice a1 len1 cap1,.slice b1 lem1 caq1,.slice c1 leo1 car1])/\Hid (Bn f' (o+1) p = .ok (x,p1)/\p1.length<p.length/\But r r w w4/\Rdr r w4 (o+1) p1/\Lv r w.heap.size w4/\GrL R8 (ps.length - p1.length) (w.heap.size+1) 54 6 w4 (.slice a len cap) l css/\SmP (fun b=>w.heap.size+1<=b/\some b ≠ (Value.slice a len cap).ownBlock) w4 (ps.length - p1.length) [.int .i64 k1,.string s1,.string t1,.slice a1 len1 cap1,.slice b1 lem1 caq1,.slice c1 leo1 car1] x)):=by
    have hfu:=HW.out.fu;have hfm:=HW.out.fm;have hple:=HW.out.le;refine (HY.out f' (by omega) r (o+1) p w3 HR3.out (by omega)).mono ?_;rintro e w4 ⟨hb,hr⟩;rcases A6 (Bn f' (o+1) p) with⟨er,hN⟩ | ⟨x,p1,hN⟩
    . rw [hN] at hr;obtain⟨rfl,hop⟩:=hr;refine .inl ⟨er,rfl,HB3.out.trans hb,HV3.out.but hb,hop,?_⟩;rw [HE.out,hN]
    . rw [hN] at hr;obtain⟨v,rfl,hrd,hl1,cs1,rfl,hx1⟩:=hr;obtain⟨k1,s1,t1,a1,len1,cap1,b1,lem1,caq1,c1,leo1,car1,rfl⟩:=hx1.shape;refine .inr ⟨k1,s1,t1,a1,len1,cap1,b1,lem1,caq1,c1,leo1,car1,x,p1,rfl,hN,hl1,HB3.out.trans hb,hrd,HV3.out.but hb,HG3.out.but I6 (by omega) hb (by omega),?_⟩;have hv3:=HV3.out.2.lt;refine (SmP.stays (w:=w4) (fun b h=>⟨lq0 hv3 h,fun e=>?_⟩) (fun _ _ _=>rfl) hx1).le (by omega);have:=(HG3.out.row.lt b e.symm).2;have h2:w3.heap.size<=b:=h;omega
   go_wp2_with fail
   refine Calls.mono HC.out ?_;rintro e w4 (⟨er,rfl,F⟩ | ⟨k1,s1,t1,a1,len1,cap1,b1,lem1,caq1,c1,leo1,car1,x,p1,rfl,F⟩)
   . clear HC;go_wp2_with fail
     refine leaves_cons (f:=91) (args:= #[.pointer (some ⟨w.heap.size,0,none⟩)]) (by simp) (by simp [go_sem]) ?_;refine (Ff r w.heap.size o _ w4 F.out.2.2.1 lo F.out.2.1).mono ?_;rintro e u' w99 ⟨rfl,rfl,h1,h2⟩;refine⟨F.out.1.trans h2,?_⟩;rw [F.out.2.2.2];exact⟨rfl,h1⟩
   clear HC;have HRW:Hid (w4.ownsRow (w.heap.size+1) 54 6 (.slice a len cap) l.length css.flatten):=F.out.2.2.2.2.2.1.row;have HCT:Hid (l.length<=6000):=by have:=HW.out.cnt;unfold Hid;omega
   have HSZ:Hid (w.heap.size+1<=w4.heap.size):=F.out.2.2.2.2.1.2.lt
   go_wp2_with (first
    | (at_builtin;refine wpList_append_own_at _ rfl _ _ 32 rfl (w.heap.size+1) 54 i0 (.agg #[.int .i64 0,.string ⟨#[]⟩,.string ⟨#[]⟩,.slice none 0 0,.slice none 0 0,.slice none 0 0]) 6 112 underlying32 HI.out.1 HI.out.2.1 HI.out.2.2.1 HI.out.2.2.2 rfl (by decide) (.slice a len cap) l.length css.flatten rfl (HRW.out.alloc _) ⟨w4.heap.size,0,none⟩ 1 1 [.int .i64 k1,.string s1,.string t1,.slice a1 len1 cap1,.slice b1 lem1 caq1,.slice c1 leo1 car1] rfl rfl (D6 _ _ _) (by intro u hu;simp at hu;rcases hu with rfl | rfl | rfl | rfl | rfl | rfl <;> rfl) (by have:=HCT.out;unfold maxLen;omega) (by have:=HCT.out;omega) (by simp;exact Nat.le_of_succ_le HSZ.out) ?_;intro v' w5 hown hgrow _ hloc;have HNX:Hid ((∃a len cap,v' = .slice a len cap/\Hid (∃l css p f,BlI r m o ps w w5 v' l css p f))/\left r w5<left r wr):=Aar hlt hf' HW.out HE.out F.out hown hgrow hloc;clear hown hgrow hloc))
   go_roundw
   case rel=>exact HNX.out.1
   case measure=>exact HNX.out.2
theorem Zl:∀m,Es m/\Ol m:=by
 intro m
 induction m using Nat.strongRecOn with
 | ind m ih =>
  cases m with
  | zero=>exact⟨fun r o ps w h hm=>by omega,fun r o ps w h hm=>by omega⟩
  | succ m=>exact⟨Wp fun m' h=>(ih m' (by omega)).2,Zk (ih m (Nat.lt_succ_self m)).1⟩
theorem Vk {r n h:Nat} {o:Int} {w w3:World} {R:Rd Ru} {x:Ru} {p3:List Pc} {a b c d e f i:Value} (hR:R = .ok (x,p3)) (hb:But r r w w3) (hr:r<w.heap.size) (h3:Rdr r w3 o p3) (hl:p3.length<n) (hx:RuP (fun b=>w.heap.size+1<=b) w3 h [a,b,c,d,e,f,i] x) (hh:h<=n - p3.length) :
 Ce r o w R (KR w n) (.returned (.agg #[a,b,c,d,e,f,i])) (Ahs w3 w.heap.size a b c d e f i):=by
 have hw:=Cb.seven w3 w.heap.size a b c d e f i;refine⟨hw.but hb lr0,?_⟩;rw [hR];exact⟨_,rfl,h3.low (hw.below (by omega)),hl,[a,b,c,d,e,f,i],rfl,(RuP.stays (fun b hb=>Nat.le_of_succ_le hb) (hw.same (Nat.lt_succ_self _)).2 hx).le hh⟩
theorem RuP.bare {lo:Nat} {w:World} {m:Nat} {k:Int} {v:Value} {l:List Sm} (hk:(Lit.int .i64 k).wf=true) (hm:1<=m) (h:LSm lo w m v l):RuP (fun b=>lo<=b) w m [.int .i64 k,.bool false,.int .i64 0,.int .i64 0,.string ⟨#[]⟩,.slice none 0 0,v] ⟨k,false,A3 0 0 [] [],l⟩ :=
 ⟨_,_,_,_,_,rfl,hk,(ExP.leaf (s:= []) (by decide) (by decide) (by decide)).le hm,h⟩
theorem Ze (m:Nat) (r:Nat) (o:Int) (ps:List Pc) (w:World) (h:Rdr r w o ps) (hm:20 * ps.length+9<=m) :
 Calls prog 25 #[.pointer (some ⟨r,0,none⟩)] w (Ce r o w (Cl m o ps) (KR w ps.length)):=by
 have HBL:Hid (Es m):=(Zl m).1;have hlt:=h.lt;have lo:=h.lo;have hsh:=h.short;obtain⟨W,hW⟩:∃W,W=w.alloc (.cells #[.int .i64 0,.bool false,.int .i64 0,.int .i64 0,.string ⟨#[]⟩,.slice none 0 0,.slice none 0 0] 34):=⟨_,rfl⟩;have HA0:Hid (Below w.heap.size w W):=by rw [hW];exact br0.alloc lr0 _
 have HG0:Hid (Bx (w.heap.size) [.int .i64 0,.bool false,.int .i64 0,.int .i64 0,.string ⟨#[]⟩,.slice none 0 0,.slice none 0 0] 34 W):=by rw [hW];exact Bx.new w _ _
 have HS0:Hid (w.heap.size+1<=W.heap.size):=by rw [hW];simp [Hid]
 have HB0:Hid (But r r w W):=But.of_below HA0.out;have HR0:Hid (Rdr r W o ps):=h.below HA0.out;have HWW:Hid (W=_):=hW;clear hW h;go_enter func25,ntmps25
 have HC:Hid _:=C8 r o [66,69,71,73,78] ps W HR0.out;cases hS:Aj [66,69,71,73,78] ps with
 | true =>
  rw [hS] at HC;have ES1:Hid (Aj [66,69,71,73,78] ps=true):=hS;have L1:Hid (ps.tail.length+1=ps.length):=Bs hS;clear hS;go_wp2_with fail
  rw [<-HWW.out];clear HWW;refine Calls.mono HC.out ?_;rintro e w1 ⟨rfl,hrd0,hb⟩;have hrd:Rdr r w1 o ps.tail:=by simpa using hrd0
  obtain⟨pt1,hpt⟩:∃pt,ps.tail=pt:=⟨_,rfl⟩;have HPT1:Hid (ps.tail=pt1):=hpt;rw [hpt] at hrd L1;have HB1:Hid (But r r w w1):=HB0.out.trans hb;have HS1:Hid (w.heap.size+1<=w1.heap.size):=lq0 HS0.out hb.size;have HP1_0:Hid (Bx (w.heap.size) [.int .i64 0,.bool false,.int .i64 0,.int .i64 0,.string ⟨#[]⟩,.slice none 0 0,.slice none 0 0] 34 w1):=HG0.out.but hb hlt;have HR1:Hid (Rdr r w1 o pt1):=hrd;clear hpt hrd0;clear hb hrd HC;have HC:Hid _:=pk (R0:=Cl m o ps) (K0:=KR w ps.length) (HBL.out r o pt1 w1 HR1.out (by have:=L1.out;omega)) HB1.out (fun er hN=>by rw [Cl];simp only [ES1.out,HPT1.out,hN,↓reduceIte]);go_wp2_with fail
  refine Calls.mono HC.out ?_;rintro e w2 (⟨er,rfl,F⟩ | ⟨v,b,p1,rfl,F⟩)
  . go_wp2_with fail
    exact⟨rfl,F.out⟩
  obtain⟨hN,hb,hrd,hk⟩:=F.out;have E2:Hid (A5 m o pt1 = .ok (b,p1)):=hN;have HB2:Hid (But r r w w2):=HB1.out.trans hb;have HS2:Hid (w.heap.size+1<=w2.heap.size):=lq0 HS1.out hb.size;have HP2_0:Hid (Bx (w.heap.size) [.int .i64 0,.bool false,.int .i64 0,.int .i64 0,.string ⟨#[]⟩,.slice none 0 0,.slice none 0 0] 34 w2):=HP1_0.out.but hb hlt;have HR2:Hid (Rdr r w2 o p1):=hrd;obtain⟨hl,hx⟩:=hk
  replace hx:LSm _ _ _ _ _:=hx
  obtain⟨a2,len2,cap2,rfl⟩:=hx.shape;have L2:Hid (p1.length<pt1.length):=hl;have XR2:Hid (LSm _ w2 _ _ _):=hx;have X2:Hid (LSm (w.heap.size+1) w2 (pt1.length - p1.length) (.slice a2 len2 cap2) b):=hx.same (Ap.refl _ _) (by have:=HS1.out;omega) lr0;clear hl hx;clear hN hb hrd F HC;obtain⟨g0,g1,g2,g3,g4,g5,g6,z0,z1,z2,z3,z4,z5,z6⟩:=HP2_0.out.seven;have HE:Hid (Cl m o ps = .ok (⟨0,false,A3 0 0 [] [],b⟩,p1)):=by unfold Hid;rw [Cl];simp only [ES1.out,HPT1.out,E2.out,↓reduceIte]
  have HX:Hid (RuP (fun b=>w.heap.size+1<=b) w2 (pt1.length - p1.length) [.int .i64 0,.bool false,.int .i64 0,.int .i64 0,.string ⟨#[]⟩,.slice none 0 0,.slice a2 len2 cap2] (⟨0,false,A3 0 0 [] [],b⟩)):=RuP.bare (by decide) (by have:=L1.out;have:=L2.out;omega) X2.out;have HL:Hid (p1.length<ps.length/\pt1.length - p1.length<=ps.length - p1.length):=by unfold Hid;have:=L1.out;have:=L2.out;omega
  go_wp2_with fail
  refine bodyPost_ret (v:= .agg #[.int .i64 0,.bool false,.int .i64 0,.int .i64 0,.string ⟨#[]⟩,.slice none 0 0,.slice a2 len2 cap2]) (by simp [results,results25,go_sem,g0,g1,g2,g3,g4,g5,g6]) rfl ?_;exact Vk HE.out HB2.out hlt HR2.out HL.out.1 HX.out HL.out.2
 | false =>
  rw [hS] at HC;have ES1:Hid (Aj [66,69,71,73,78] ps=false):=hS;clear hS;go_wp2_with fail
  rw [<-HWW.out];clear HWW;refine Calls.mono HC.out ?_;rintro e w1 ⟨rfl,hrd0,hb⟩;have hrd:Rdr r w1 o ps:=by simpa using hrd0
  clear hrd0;have HB1:Hid (But r r w w1):=HB0.out.trans hb;have HS1:Hid (w.heap.size+1<=w1.heap.size):=lq0 HS0.out hb.size;have HP1_0:Hid (Bx (w.heap.size) [.int .i64 0,.bool false,.int .i64 0,.int .i64 0,.string ⟨#[]⟩,.slice none 0 0,.slice none 0 0] 34 w1):=HG0.out.but hb hlt;have HR1:Hid (Rdr r w1 o ps):=hrd;clear hb hrd HC;have HC:Hid _:=C8 r o [69,78,68] ps w1 HR1.out;cases hS:Aj [69,78,68] ps with
  | true =>
   rw [hS] at HC;have ES2:Hid (Aj [69,78,68] ps=true):=hS;have L2:Hid (ps.tail.length+1=ps.length):=Bs hS;clear hS;go_wp2_with fail
   refine Calls.mono HC.out ?_;rintro e w2 ⟨rfl,hrd0,hb⟩;have hrd:Rdr r w2 o ps.tail:=by simpa using hrd0
   obtain⟨pt2,hpt⟩:∃pt,ps.tail=pt:=⟨_,rfl⟩;have HPT2:Hid (ps.tail=pt2):=hpt;rw [hpt] at hrd L2;have HB2:Hid (But r r w w2):=HB1.out.trans hb;have HS2:Hid (w.heap.size+1<=w2.heap.size):=lq0 HS1.out hb.size;have HP2_0:Hid (Bx (w.heap.size) [.int .i64 0,.bool false,.int .i64 0,.int .i64 0,.string ⟨#[]⟩,.slice none 0 0,.slice none 0 0] 34 w2):=HP1_0.out.but hb hlt;have HR2:Hid (Rdr r w2 o pt2):=hrd;clear hpt hrd0;clear hb hrd HC;have HC:Hid _:=pk (R0:=Cl m o ps) (K0:=KR w ps.length) (HBL.out r o pt2 w2 HR2.out (by have:=L2.out;omega)) HB2.out (fun er hN=>by rw [Cl];simp only [ES1.out,ES2.out,HPT2.out,hN,Bool.false_eq_true,↓reduceIte]);go_wp2_with fail
   refine Calls.mono HC.out ?_;rintro e w3 (⟨er,rfl,F⟩ | ⟨v,b,p1,rfl,F⟩)
   . go_wp2_with fail
     exact⟨rfl,F.out⟩
   obtain⟨hN,hb,hrd,hk⟩:=F.out;have E3:Hid (A5 m o pt2 = .ok (b,p1)):=hN;have HB3:Hid (But r r w w3):=HB2.out.trans hb;have HS3:Hid (w.heap.size+1<=w3.heap.size):=lq0 HS2.out hb.size;have HP3_0:Hid (Bx (w.heap.size) [.int .i64 0,.bool false,.int .i64 0,.int .i64 0,.string ⟨#[]⟩,.slice none 0 0,.slice none 0 0] 34 w3):=HP2_0.out.but hb hlt;have HR3:Hid (Rdr r w3 o p1):=hrd;obtain⟨hl,hx⟩:=hk
   replace hx:LSm _ _ _ _ _:=hx
   obtain⟨a3,len3,cap3,rfl⟩:=hx.shape;have L3:Hid (p1.length<pt2.length):=hl;have XR3:Hid (LSm _ w3 _ _ _):=hx;have X3:Hid (LSm (w.heap.size+1) w3 (pt2.length - p1.length) (.slice a3 len3 cap3) b):=hx.same (Ap.refl _ _) (by have:=HS2.out;omega) lr0;clear hl hx;clear hN hb hrd F HC;obtain⟨g0,g1,g2,g3,g4,g5,g6,z0,z1,z2,z3,z4,z5,z6⟩:=HP3_0.out.seven;have HE:Hid (Cl m o ps = .ok (⟨2,false,A3 0 0 [] [],b⟩,p1)):=by unfold Hid;rw [Cl];simp only [ES1.out,ES2.out,HPT2.out,E3.out,Bool.false_eq_true,↓reduceIte]
   have HX:Hid (RuP (fun b=>w.heap.size+1<=b) w3 (pt2.length - p1.length) [.int .i64 2,.bool false,.int .i64 0,.int .i64 0,.string ⟨#[]⟩,.slice none 0 0,.slice a3 len3 cap3] (⟨2,false,A3 0 0 [] [],b⟩)):=RuP.bare (by decide) (by have:=L2.out;have:=L3.out;omega) X3.out;have HL:Hid (p1.length<ps.length/\pt2.length - p1.length<=ps.length - p1.length):=by unfold Hid;have:=L2.out;have:=L3.out;omega
   go_wp2_with fail
   refine bodyPost_ret (v:= .agg #[.int .i64 2,.bool false,.int .i64 0,.int .i64 0,.string ⟨#[]⟩,.slice none 0 0,.slice a3 len3 cap3]) (by simp [results,results25,go_sem,g0,g1,g2,g3,g4,g5,g6]) rfl ?_;exact Vk HE.out HB3.out hlt HR3.out HL.out.1 HX.out HL.out.2
  | false =>
   rw [hS] at HC;have ES2:Hid (Aj [69,78,68] ps=false):=hS;clear hS;go_wp2_with fail
   refine Calls.mono HC.out ?_;rintro e w2 ⟨rfl,hrd0,hb⟩;have hrd:Rdr r w2 o ps:=by simpa using hrd0
   clear hrd0;have HB2:Hid (But r r w w2):=HB1.out.trans hb;have HS2:Hid (w.heap.size+1<=w2.heap.size):=lq0 HS1.out hb.size;have HP2_0:Hid (Bx (w.heap.size) [.int .i64 0,.bool false,.int .i64 0,.int .i64 0,.string ⟨#[]⟩,.slice none 0 0,.slice none 0 0] 34 w2):=HP1_0.out.but hb hlt;have HR2:Hid (Rdr r w2 o ps):=hrd;clear hb hrd HC;have HC:Hid _:=P5 r o [123] ps w2 HR2.out;cases hS:Aj [123] ps with
   | true =>
    rw [hS] at HC;have ES3:Hid (Aj [123] ps=true):=hS;have L3:Hid (ps.tail.length+1=ps.length):=Bs hS;clear hS;go_wp2_with fail
    refine Calls.mono HC.out ?_;rintro e w3 ⟨rfl,hbe0⟩;have hbe:Below w2.heap.size w2 w3:=by rw [hbe0];exact Below.refl _ _
    clear hbe0;have hb:But r r w2 w3:=But.of_below hbe;have hrd:Rdr r w3 o ps:=HR2.out.below hbe;clear hbe;have HB3:Hid (But r r w w3):=HB2.out.trans hb;have HS3:Hid (w.heap.size+1<=w3.heap.size):=lq0 HS2.out hb.size;have HP3_0:Hid (Bx (w.heap.size) [.int .i64 0,.bool false,.int .i64 0,.int .i64 0,.string ⟨#[]⟩,.slice none 0 0,.slice none 0 0] 34 w3):=HP2_0.out.but hb hlt;have HR3:Hid (Rdr r w3 o ps):=hrd;clear hb hrd HC;have HC:Hid _:=pk (R0:=Cl m o ps) (K0:=KR w ps.length) (HBL.out r o ps w3 HR3.out (by have:=L3.out;omega)) HB3.out (fun er hN=>by rw [Cl];simp only [ES1.out,ES2.out,ES3.out,hN,Bool.false_eq_true,↓reduceIte]);go_wp2_with fail
    refine Calls.mono HC.out ?_;rintro e w4 (⟨er,rfl,F⟩ | ⟨v,b,p1,rfl,F⟩)
    . go_wp2_with fail
      exact⟨rfl,F.out⟩
    obtain⟨hN,hb,hrd,hk⟩:=F.out;have E4:Hid (A5 m o ps = .ok (b,p1)):=hN;have HB4:Hid (But r r w w4):=HB3.out.trans hb;have HS4:Hid (w.heap.size+1<=w4.heap.size):=lq0 HS3.out hb.size;have HP4_0:Hid (Bx (w.heap.size) [.int .i64 0,.bool false,.int .i64 0,.int .i64 0,.string ⟨#[]⟩,.slice none 0 0,.slice none 0 0] 34 w4):=HP3_0.out.but hb hlt;have HR4:Hid (Rdr r w4 o p1):=hrd;obtain⟨hl,hx⟩:=hk
    replace hx:LSm _ _ _ _ _:=hx
    obtain⟨a4,len4,cap4,rfl⟩:=hx.shape;have L4:Hid (p1.length<ps.length):=hl;have XR4:Hid (LSm _ w4 _ _ _):=hx;have X4:Hid (LSm (w.heap.size+1) w4 (ps.length - p1.length) (.slice a4 len4 cap4) b):=hx.same (Ap.refl _ _) (by have:=HS3.out;omega) lr0;clear hl hx;clear hN hb hrd F HC;obtain⟨g0,g1,g2,g3,g4,g5,g6,z0,z1,z2,z3,z4,z5,z6⟩:=HP4_0.out.seven;have HE:Hid (Cl m o ps = .ok (⟨1,false,A3 0 0 [] [],b⟩,p1)):=by unfold Hid;rw [Cl];simp only [ES1.out,ES2.out,ES3.out,E4.out,Bool.false_eq_true,↓reduceIte]
    have HX:Hid (RuP (fun b=>w.heap.size+1<=b) w4 (ps.length - p1.length) [.int .i64 1,.bool false,.int .i64 0,.int .i64 0,.string ⟨#[]⟩,.slice none 0 0,.slice a4 len4 cap4] (⟨1,false,A3 0 0 [] [],b⟩)):=RuP.bare (by decide) (by have:=L3.out;have:=L4.out;omega) X4.out;have HL:Hid (p1.length<ps.length/\ps.length - p1.length<=ps.length - p1.length):=by unfold Hid;have:=L3.out;have:=L4.out;omega
    go_wp2_with fail
    refine bodyPost_ret (v:= .agg #[.int .i64 1,.bool false,.int .i64 0,.int .i64 0,.string ⟨#[]⟩,.slice none 0 0,.slice a4 len4 cap4]) (by simp [results,results25,go_sem,g0,g1,g2,g3,g4,g5,g6]) rfl ?_;exact Vk HE.out HB4.out hlt HR4.out HL.out.1 HX.out HL.out.2
   | false =>
    rw [hS] at HC;have ES3:Hid (Aj [123] ps=false):=hS;clear hS;go_wp2_with fail
    refine Calls.mono HC.out ?_;rintro e w3 ⟨rfl,hbe0⟩;have hbe:Below w2.heap.size w2 w3:=by rw [hbe0];exact Below.refl _ _
    clear hbe0;have hb:But r r w2 w3:=But.of_below hbe;have hrd:Rdr r w3 o ps:=HR2.out.below hbe;clear hbe;have HB3:Hid (But r r w w3):=HB2.out.trans hb;have HS3:Hid (w.heap.size+1<=w3.heap.size):=lq0 HS2.out hb.size;have HP3_0:Hid (Bx (w.heap.size) [.int .i64 0,.bool false,.int .i64 0,.int .i64 0,.string ⟨#[]⟩,.slice none 0 0,.slice none 0 0] 34 w3):=HP2_0.out.but hb hlt;have HR3:Hid (Rdr r w3 o ps):=hrd;clear hb hrd HC;have HC:Hid _:=pk (R0:=Cl m o ps) (K0:=KR w ps.length) ((Im m).whole r o ps w3 HR3.out (by  omega)) HB3.out (fun er hN=>by rw [Cl];simp only [ES1.out,ES2.out,ES3.out,hN,Bool.false_eq_true,↓reduceIte]);go_wp2_with fail
    refine Calls.mono HC.out ?_;rintro e w4 (⟨er,rfl,F⟩ | ⟨v,x,p1,rfl,F⟩)
    . go_wp2_with fail
      exact⟨rfl,F.out⟩
    obtain⟨hN,hb,hrd,hk⟩:=F.out;have E4:Hid (Ax m o ps = .ok (x,p1)):=hN;have HB4:Hid (But r r w w4):=HB3.out.trans hb;have HS4:Hid (w.heap.size+1<=w4.heap.size):=lq0 HS3.out hb.size;have HP4_0:Hid (Bx (w.heap.size) [.int .i64 0,.bool false,.int .i64 0,.int .i64 0,.string ⟨#[]⟩,.slice none 0 0,.slice none 0 0] 34 w4):=HP3_0.out.but hb hlt;have HR4:Hid (Rdr r w4 o p1):=hrd;obtain⟨hl,cs,rfl,hx⟩:=hk;obtain⟨k4,n4,s4,a4,len4,cap4,rfl⟩:=hx.shape;have L4:Hid (p1.length<ps.length):=hl;have X4:Hid (ExP (fun b=>w.heap.size+1<=b) w4 (ps.length - p1.length) [.int .i64 k4,.int .i64 n4,.string s4,.slice a4 len4 cap4] x):=hx.same (Ap.refl _ _) (by have:=HS3.out;omega) lr0;clear hl hx;clear hN hb hrd F HC;obtain⟨W4,hW⟩:∃W',W'=w4.alloc (.cells #[.int .i64 k4,.int .i64 n4,.string s4,.slice a4 len4 cap4] 31):=⟨_,rfl⟩;have HA:Hid (Below w4.heap.size w4 W4):=by rw [hW];exact br0.alloc lr0 _
    have HGn4:Hid (Bx (w4.heap.size) [.int .i64 k4,.int .i64 n4,.string s4,.slice a4 len4 cap4] 31 W4):=by rw [hW];exact Bx.new w4 _ _
    have HBb4:Hid (But r r w W4):=HB4.out.more HA.out;have HSb4:Hid (w.heap.size+1<=W4.heap.size):=lq0 HS4.out HA.out.size;have HRb4:Hid (Rdr r W4 o p1):=HR4.out.below HA.out;have HWW:Hid (W4=_):=hW;have HQ4_0:Hid (Bx (w.heap.size) [.int .i64 0,.bool false,.int .i64 0,.int .i64 0,.string ⟨#[]⟩,.slice none 0 0,.slice none 0 0] 34 W4):=HP4_0.out.below HA.out;have HQ4_1:Hid (ExP (fun b=>w.heap.size+1<=b) W4 (ps.length - p1.length) [.int .i64 k4,.int .i64 n4,.string s4,.slice a4 len4 cap4] x):=X4.out.same (Ap.below HA.out) lr0 lr0;clear hW HA;obtain⟨d10,d11,d12,d13,-⟩:=HGn4.out.four;have HC:Hid _:=pk (R0:=Cl m o ps) (K0:=KR w ps.length) (HBL.out r o p1 W4.drew (HRb4.out.below (Ac _)) (by have:=L4.out;omega)) (HBb4.out.more (Ac _)) (fun er hN=>by rw [Cl];simp only [ES1.out,ES2.out,ES3.out,E4.out,hN,Bool.false_eq_true,↓reduceIte]);go_wp2_with fail
    rw [<-HWW.out];clear HWW
    go_region_with (
     refine Calls.mono HC.out ?_;rintro e w5 (⟨er,rfl,F⟩ | ⟨v,b,p2,rfl,F⟩)
     . go_wp2_with fail
       exact⟨rfl,F.out⟩
     obtain⟨hN,hb,hrd,hk⟩:=F.out;have E5:Hid (A5 m o p1 = .ok (b,p2)):=hN;have HB5:Hid (But r r w w5):=(HBb4.out.more (Ac _)).trans hb;have HS5:Hid (w.heap.size+1<=w5.heap.size):=lq0 HSb4.out hb.size;have HP5_0:Hid (Bx (w.heap.size) [.int .i64 0,.bool false,.int .i64 0,.int .i64 0,.string ⟨#[]⟩,.slice none 0 0,.slice none 0 0] 34 w5):=(HQ4_0.out.below (Ac _)).but hb hlt;have HP5_1:Hid (ExP (fun b=>w.heap.size+1<=b) w5 (ps.length - p1.length) [.int .i64 k4,.int .i64 n4,.string s4,.slice a4 len4 cap4] x):=(HQ4_1.out.same (Ap.below (Ac _)) lr0 lr0).same (Ap.but hb (by omega)) lr0 lr0;have HP5_2:Hid (Bx (w4.heap.size) [.int .i64 k4,.int .i64 n4,.string s4,.slice a4 len4 cap4] 31 w5):=(HGn4.out.below (Ac _)).but hb (by have:=HS4.out;omega);have HR5:Hid (Rdr r w5 o p2):=hrd;obtain⟨hl,hx⟩:=hk
     replace hx:LSm _ _ _ _ _:=hx
     obtain⟨a5,len5,cap5,rfl⟩:=hx.shape;have L5:Hid (p2.length<p1.length):=hl;have XR5:Hid (LSm _ w5 _ _ _):=hx;have X5:Hid (LSm (w.heap.size+1) w5 (p1.length - p2.length) (.slice a5 len5 cap5) b):=hx.same (Ap.refl _ _) (by have:=HSb4.out;have h3:W4.drew.heap.size=W4.heap.size:=rfl;omega) lr0;clear hl hx;clear hN hb hrd F HC;obtain⟨e0,e1,e2,e3,-⟩:=HP5_2.out.four;obtain⟨g0,g1,g2,g3,g4,g5,g6,z0,z1,z2,z3,z4,z5,z6⟩:=HP5_0.out.seven;have HE:Hid (Cl m o ps = .ok (⟨1,true,x,b⟩,p2)):=by unfold Hid;rw [Cl];simp only [ES1.out,ES2.out,ES3.out,E4.out,E5.out,Bool.false_eq_true,↓reduceIte]
     have HX:Hid (RuP (fun b=>w.heap.size+1<=b) w5 (ps.length - p2.length) [.int .i64 1,.bool true,.int .i64 k4,.int .i64 n4,.string s4,.slice a4 len4 cap4,.slice a5 len5 cap5] (⟨1,true,x,b⟩)):=⟨_,_,_,_,_,rfl,(show (Lit.int .i64 1).wf=true by decide),HP5_1.out.le (by have:=L4.out;have:=L5.out;omega),X5.out.same (Ap.refl _ _) lr0 (by have:=L4.out;have:=L5.out;omega)⟩;have HL:Hid (p2.length<ps.length/\ps.length - p2.length<=ps.length - p2.length):=by unfold Hid;have:=L4.out;have:=L5.out;omega)
    all_goals go_wp2_with fail
    all_goals refine bodyPost_ret (v:= .agg #[.int .i64 1,.bool true,.int .i64 k4,.int .i64 n4,.string s4,.slice a4 len4 cap4,.slice a5 len5 cap5]) (by simp [results,results25,go_sem,g0,g1,g2,g3,g4,g5,g6]) rfl ?_
    all_goals exact Vk HE.out HB5.out hlt HR5.out HL.out.1 HX.out HL.out.2
end Go.Proofs.YtppcohadoilpgaaGreatDoor
