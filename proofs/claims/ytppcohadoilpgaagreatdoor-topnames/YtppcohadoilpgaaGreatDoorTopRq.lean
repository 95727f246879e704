/-
  What is wrong with a program hangs on no height: any that is great enough says the same. Of data alone. / A program of raw numbers: made, and read; which one, is not said (small). / Raw numbers that came in, opened.
-/
import Derived.Test.YtppcohadoilpgaaGreatDoorGround
import Derived.Test.YtppcohadoilpgaaGreatDoorRunC
import Derived.Test.YtppcohadoilpgaaGreatDoorSrcB
import Derived.Test.YtppcohadoilpgaaGreatDoorSrcF
import Derived.Test.YtppcohadoilpgaaGreatDoorSrcSpec
namespace Go.Proofs.YtppcohadoilpgaaGreatDoor
open Go.RowKit Go.Proofs.Tryz
set_option linter.unusedVariables false
set_option maxRecDepth 100000
theorem Nv {d:Int} (h:20<d) (st:St):B6 d st = .error 1:=by unfold B6;rw [if_pos (.inr h)]
theorem Pa:∀(m m':Nat) (d:Int),d<=21->22<=(m:Int)+d->22<=(m':Int)+d->∀x st,ckE m x d st=ckE m' x d st
 | 0,_,d,h0,h,_,_,_=>by omega
 | _+1,0,d,h0,_,h,_,_=>by omega
 | m+1,m'+1,d,h0,h,h',.mk k n s l,st=>by
  unfold ckE
  by_cases hd:20<d
  . rw [Nv hd]
  . have e:(fun x=>ckE m x (d+1))=fun x=>ckE m' x (d+1):=funext fun x=>funext fun st=>Pa m m' (d+1) (by omega) (by omega) (by omega) x st;rw [e]
theorem U8 (when:Int):∀(m m':Nat) (d:Int),d<=21->22<=(m:Int)+d->22<=(m':Int)+d->∀x st,ckS when m x d st=ckS when m' x d st
 | 0,_,d,h0,h,_,_,_=>by omega
 | _+1,0,d,h0,_,h,_,_=>by omega
 | m+1,m'+1,d,h0,h,h',.mk k s t es b e,st=>by
  unfold ckS
  by_cases hd:20<d
  . rw [Nv hd]
  . have e1:(fun x=>ckE m x (d+1))=fun x=>ckE m' x (d+1):=funext fun x=>funext fun st=>Pa m m' (d+1) (by omega) (by omega) (by omega) x st;have e2:(fun x=>ckS when m x (d+1))=fun x=>ckS when m' x (d+1):=funext fun x=>funext fun st=>U8 when m m' (d+1) (by omega) (by omega) (by omega) x st;rw [e1,e2]
theorem Aav {m m':Nat} (h:21<=m) (h':21<=m') (l:List Ru):ckP m l=ckP m' l:=by
 have e:ckR m=ckR m':=funext fun r=>funext fun st=>by
  unfold ckR;have e2:(fun x=>ckS r.when m x 1)=fun x=>ckS r.when m' x 1:=funext fun x=>funext fun st=>U8 r.when m m' 1 (by omega) (by omega) (by omega) x st;rw [e2,Pa m m' 1 (by omega) (by omega) (by omega)]
 unfold ckP;rw [e]
theorem Zf {s:List UInt8} {l:List Ru} (h:Ch s = .ok l):ckP 6000 l=0:=by
 unfold Ch at h;split at h
 . cases h
 . split at h
   . cases h
   . rename_i ps hc;split at h
     . cases h
     . rename_i r hr;split at h
       . rename_i hk;cases h;rw [Aav (by decide) (show 21<=20 * ps.length+40 by omega)];exact hk
       . cases h
theorem Wq {s:List UInt8} {l:List Ru} (h:Ch s = .ok l):s.length<=6000:=by
 unfold Ch at h;split at h
 . cases h
 . omega
end Go.Proofs.YtppcohadoilpgaaGreatDoor
namespace Go.Proofs.YtppcohadoilpgaaGreatDoor
open Go.ChangeShapes Go.WideShapes Go.ChangeAt Go.RowKit Go.Joins Go.Proofs.Tryz
set_option maxHeartbeats 4000000
set_option linter.unusedVariables false
set_option linter.unusedSimpArgs false
set_option maxRecDepth 100000
theorem Zw (l:List Rw) (v:Value) (w:World) (hv:RwA w w.heap.size v l) (hP:Pow w) :
 Calls prog 13 #[v] w fun e w'=>∃s,e = .returned (.string (bs s))/\Ok s/\Below w.heap.size w w':=Wy (Ag6.up (by decide)) (Aie.up (by decide)) l v w hv hP
theorem Afh {s:ByteArray} {L:List UInt8} {l:List Ru} {w:World} (hs:s=bs L) (hR:Ch L = .ok l) (hl:L.length<=6000) (hK:Kr w) :
 Calls prog 12 #[.string s] w fun e w'=>∃a cap,e = .returned (.tuple #[.agg #[.slice a l.length cap],.int .i64 0])/\Below w.heap.size w w' /\
  ∀W:World,w'.heap.size<=W.heap.size->(∀b,w.heap.size<=b->b<w'.heap.size->W.heap[b]? = w'.heap[b]?)->Gy W (.slice a l.length cap) l:=by
 subst hs;refine (T5 (bs L) w (by rw [Ba];unfold maxLen;omega) hK.tr).mono fun e w' hr=>?_;obtain⟨hb,hr⟩:=hr;rw [B5,hR] at hr;obtain⟨v,he,hv⟩:=hr;have h6:∀W:World,w'.heap.size<=W.heap.size->(∀b,w.heap.size<=b->b<w'.heap.size->W.heap[b]? = w'.heap[b]?)->Gy W v l:=fun W hsz hW=>by
  have h5:SlP (fun b=>b<W.heap.size) W 7 v l.length (fun i c=>∃x,l[i]? = some x/\RuP (fun b=>b<W.heap.size) W 6000 c x) :=
   ((hv.old (by decide) fun i c ⟨x,hx,he⟩=>⟨x,hx,RuP.stays (fun b hb=>lle hb.2 hsz) (fun b hb _=>hW b hb.1 hb.2) (RuP.old he)⟩).stays (by decide) (fun b hb _=>hW b hb.1 hb.2) fun _ _ h=>h).mono (fun b hb=>lle hb.2 hsz) fun _ _ h=>h
  exact h5.low fun i c ⟨x,hx,he⟩=>⟨x,hx,he.low⟩
 have h7:=h6 w' lr0 (fun _ _ _=>rfl);obtain⟨a,cap,rfl,-⟩:=h7;exact⟨a,cap,he,hb,h6⟩
def Ada (w w1 W:World):Prop:=w1.heap.size<=W.heap.size/\∀b,w.heap.size<=b->b<w1.heap.size->W.heap[b]? = w1.heap[b]?
def Agj (Q:List Ru->Prop) (w:World) (e:Ending) (w':World):Prop:=Below w.heap.size w w'/\((∃p a cap,(ckP 6000 p=0/\Q p)/\e = .returned (.tuple #[.agg #[.slice a p.length cap],.int .i64 0])/\∀W,Ada w w' W->Gy W (.slice a p.length cap) p)\/∃er:Int,er ≠ 0/\e = .returned (.tuple #[.agg #[.slice none 0 0],.int .i64 er]))
theorem Acg {Q:List Ru->Prop} (s:List UInt8) (w:World) (hs:s.length<=400000) (hK:Kr w) (hq:∀p,Ch s = .ok p->Q p) (hn:Q []):Calls prog 12 #[.string (bs s)] w (Agj Q w):=by
 cases hR:Ch s with
 | ok p=>exact (Afh rfl hR (Wq hR) hK).mono fun e w' ⟨a,cap,he,hb,hp⟩=>⟨hb,.inl ⟨p,a,cap,⟨Zf hR,hq p hR⟩,he,fun W h=>hp W h.1 h.2⟩⟩
 | error er =>
  refine (T5 (bs s) w (by rw [Ba];unfold maxLen;omega) hK.tr).mono fun e w' hr=>?_;obtain⟨hb,hr⟩:=hr;rw [B5,hR] at hr
  by_cases h0:er=0
  . exact⟨hb,.inl ⟨[],none,0,⟨rfl,hn⟩,by rw [hr,h0];rfl,fun W _=>⟨none,0,rfl,Nat.zero_le _,fun h=>absurd h (by simp)⟩⟩⟩
  . exact⟨hb,.inr ⟨er,h0,hr⟩⟩
def Ah8 (Q:List Ru->Prop) (w:World) (e:Ending) (w':World):Prop:=Below w.heap.size w w'/\((∃p a cap,(ckP 6000 p=0/\Q p)/\e = .returned (.tuple #[.agg #[.slice a p.length cap],.bool true])/\Gy w' (.slice a p.length cap) p)\/e = .returned (.tuple #[.agg #[.slice none 0 0],.bool false]))
theorem Xb {Q:List Ru->Prop} (hq:∀s p,Ok s->Ch s = .ok p->Q p) (hn:Q []) (l:List Rw) (v:Value) (w:World) (hv:RwA w w.heap.size v l) (hK:Kr w):Calls prog 5 #[v] w (Ah8 Q w):=by
 have HQ:Hid ((∀s p,Ok s->Ch s = .ok p->Q p)/\Q []):=⟨hq,hn⟩;obtain⟨W,hW⟩:∃W,W=w.alloc (.cells #[.slice none 0 0] 26):=⟨_,rfl⟩;have hB:Below w.heap.size w W:=by rw [hW];exact br0.alloc lr0 _
 have hs:W.heap.size=w.heap.size+1:=by rw [hW];simp
 have HOB:Hid (W.heap[w.heap.size]? = some (.cells #[.slice none 0 0] 26 (0,0))):=by
  unfold Hid;rw [hW];show (Array.push w.heap _)[_]? = _;exact Array.getElem?_push_size
 have hv2:RwA W W.heap.size v l:=by
  have h:=hv.low fun k hk=>hB.block k hk;obtain⟨a,cap,h1,h2,h3,h4⟩:=h;exact⟨a,cap,h1,h2,h3,fun h0=>by obtain⟨b,off,e1,e2,e3⟩:=h4 h0;exact⟨b,off,e1,by omega,e3⟩⟩
 have HC:=hid (Zw l v W hv2 (hK.stays hB).pw);have HB:=hid (And.intro hB hs);have HK:=hid (hK.stays hB);have HWW:Hid (W=_):=hW;obtain⟨a,cap,rfl,-,-,-⟩:=hv;clear hW hB hs hv2 hK hq hn;go_enter func5,ntmps5
 go_wp2_with fail
 rw [<-HWW.out];clear HWW;refine Calls.mono HC.out ?_;rintro e w1 ⟨s,rfl,hG,hb1⟩;have HG:=hid hG;have HB1:Hid (Below W.heap.size W w1):=hb1;have HR:=hid (Acg (Q:=Q) s w1 hG.len (HK.out.stays hb1) (fun p h=>HQ.out.1 s p hG h) HQ.out.2);clear HC hG hb1 HQ;go_wp2_with fail
 refine Calls.mono HR.out ?_;rintro e w2 ⟨hb2,h⟩;have HB2:Hid (Below W.heap.size W w2):=Aa HB1.out hb2;have ob:w2.heap[w.heap.size]? = some (.cells #[.slice none 0 0] 26 (0,0)):=(HB2.out.block _ (by have:=HB.out.2;omega)).trans HOB.out;have hne:¬w2.heap.size=w.heap.size:=by have:=HB2.out.size;have:=HB.out.2;omega
 have hne':¬w.heap.size=w2.heap.size:=by omega
 have hlt:w.heap.size<w2.heap.size:=by have:=HB2.out.size;have:=HB.out.2;omega
 have o0:w2.cell? ⟨w.heap.size,0,none⟩=some (.slice none 0 0):=by simp [World.cell?,ob]
 have oz:w2.frozen? ⟨w.heap.size,0,none⟩=false:=Lib.frozen_of_heap ob 0;have cc:∀(x:Value) (o:Obj),((w2.setCell ⟨w.heap.size,0,none⟩ x).alloc o).cell? ⟨w.heap.size,0,none⟩=some x:=fun x o=>((br0.alloc lr0 o).cell (p:=⟨w.heap.size,0,none⟩) (by simpa [World.setCell] using hlt)).trans (World.cell?_setCell_same w2 ⟨w.heap.size,0,none⟩ x o0);have cd:∀(x:Value) (o:Obj),((w2.alloc o).setCell ⟨w.heap.size,0,none⟩ x).cell? ⟨w.heap.size,0,none⟩=some x:=fun x o=>World.cell?_setCell_same _ ⟨w.heap.size,0,none⟩ x (((br0.alloc lr0 o).cell (p:=⟨w.heap.size,0,none⟩) hlt).trans o0);have HB3:Hid (∀(x:Value) (o:Obj),Below w.heap.size w ((w2.setCell ⟨w.heap.size,0,none⟩ x).alloc o)/\Ada w1 w2 ((w2.setCell ⟨w.heap.size,0,none⟩ x).alloc o)):=fun x o=>by
  have h1:Below w.heap.size w (w2.setCell ⟨w.heap.size,0,none⟩ x):=(Aa HB.out.1 HB2.out).setCell (p:=⟨w.heap.size,0,none⟩) lr0 x;refine⟨h1.alloc h1.size _,by simp [World.setCell],fun b hb1 hb2=>?_⟩;have hb3:b ≠ w.heap.size:=by have:=HB1.out.size;have:=HB.out.2;omega
  exact (Below.heap_alloc _ _ b (by simpa [World.setCell] using hb2)).trans (Below.heap_setCell _ _ _ _ (by simpa using hb3))
 rcases h with⟨p,pa,pcap,hR,rfl,hp⟩ | ⟨er,h0,rfl⟩
 . have HP:=hid (And.intro hR hp);clear HR hb2 ob hR hp;go_wp2_with fail
   simp [bodyPost,results,results5,go_sem,o0,cc,cd];have h3:=HB3.out (.slice pa p.length pcap) (.cells #[.slice pa p.length pcap] 26);exact⟨h3.1,.inl ⟨p,pa,pcap,HP.out.1,rfl,HP.out.2 _ h3.2⟩⟩
 . skip
   have h0':(er == 0)=false:=by simpa using h0
   clear HR hb2 ob h0;go_wp2_with fail
   simp [bodyPost,results,results5,go_sem,o0,cc,cd];have h3:=HB3.out (.slice none 0 0) (.cells #[.slice none 0 0] 26);exact⟨h3.1,.inr rfl⟩
end Go.Proofs.YtppcohadoilpgaaGreatDoor
namespace Go.Proofs.YtppcohadoilpgaaGreatDoor
open Go.ChangeShapes Go.WideShapes Go.ChangeAt Go.RowKit Go.Joins Go.Proofs.Tryz
set_option linter.unusedVariables false
set_option maxRecDepth 100000
theorem Aat:prog.cellsOf 64=4:=by kernel_rfl
theorem Y3 {H:Type} {enc:TypeId × Value->H} {w:World} {base:Nat} {spare:Nat->Bool} {held:Bool} {fuel:Nat} {cs:List Value} {y:DataW H × List MemPlace} (hl:cs.length=4)
 (h:DataW.trod enc prog w base spare held fuel 64 cs=some y):∃x:Rw,cs = [.int .i64 x.kind,.int .i64 x.a,.int .i64 x.b,.int .i64 x.c]/\x.ok:=by
 obtain⟨xs,n,rfl,_,_,hxl,hfd⟩:=DataW.trod_struct underlying64 h
 match cs,hl with
 | [v0,v1,v2,v3],_ =>
  match xs,hxl with
  | [y0,y1,y2,y3],_ =>
   obtain⟨n0,f0,_,w0⟩:=DataW.trod_int underlying3 (hfd 0 _ rfl);obtain⟨n1,f1,_,w1⟩:=DataW.trod_int underlying3 (hfd 1 _ rfl);obtain⟨n2,f2,_,w2⟩:=DataW.trod_int underlying3 (hfd 2 _ rfl);obtain⟨n3,f3,_,w3⟩:=DataW.trod_int underlying3 (hfd 3 _ rfl);simp [Ad9] at f0 f1 f2 f3;subst f0 f1 f2 f3;exact⟨⟨n0,n1,n2,n3⟩,rfl,w0,w1,w2,w3⟩
theorem Jq {H:Type} {enc:TypeId × Value->H} {w:World} {base:Nat} {spare:Nat->Bool} {held:Bool} {fuel:Nat} {cs:List Value} {y:DataW H × List MemPlace}
 (h:DataW.trod enc prog w base spare held fuel 22 cs=some y):∃(v:Value) (l:List Rw),cs = [v]/\RwA w w.heap.size v l:=by
 obtain⟨v,len,e,hs⟩:=Abw underlying22 Aat (by omega) h;have hs':Sl w w.heap.size 4 v len (fun _ c=>∃x:Rw,c = [.int .i64 x.kind,.int .i64 x.a,.int .i64 x.b,.int .i64 x.c]/\x.ok):=by
  obtain⟨a,cap,hv,hl,hh⟩:=hs;exact⟨a,cap,hv,hl,fun h0=>let ⟨b,off,ha,hb,hi⟩:=hh h0; ⟨b,off,ha,hb,fun i hi'=>let ⟨c,h1,h2,n,y,_,h3⟩:=hi i hi'; ⟨c,h1,h2,Y3 h1 h3⟩⟩⟩
 obtain⟨l,hll,a,cap,hv,hmax,hh⟩:=Sl.list (E:=fun c (x:Rw)=>c = [.int .i64 x.kind,.int .i64 x.a,.int .i64 x.b,.int .i64 x.c]/\x.ok) hs';refine⟨v,l,e,a,cap,hv,hmax,fun x hx=>?_,fun h0=>?_⟩
 . obtain⟨i,hi,hxi⟩:=List.mem_iff_getElem.1 hx;obtain⟨b,off,_,_,hc⟩:=hh (by omega);obtain⟨c,_,_,x',hx',_,hok⟩:=hc i hi;rw [gee hi,Option.some.injEq] at hx';rw [<-hxi,hx'];exact hok
 . obtain⟨b,off,ha,hb,hc⟩:=hh h0;refine⟨b,off,ha,hb,fun i x hx=>?_⟩;have hi:i<l.length:=by
    by_cases h:i<l.length
    . exact h
    . rw [List.getElem?_eq_none (by omega)] at hx;cases hx
   obtain⟨c,_,hcell,x',hx',rfl,_⟩:=hc i hi;obtain rfl:=Option.some.inj (hx.symm.trans hx');exact⟨hcell 0 (by omega),hcell 1 (by omega),hcell 2 (by omega),hcell 3 (by omega)⟩
end Go.Proofs.YtppcohadoilpgaaGreatDoor
