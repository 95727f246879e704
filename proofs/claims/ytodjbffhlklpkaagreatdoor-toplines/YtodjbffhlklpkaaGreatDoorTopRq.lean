/-
  What is wrong with a program hangs on no height: any that is great enough says the same. Of data alone. / A program of raw numbers: made, and read; which one, is not said (small). / Raw numbers that came in, opened.
-/
import Derived.Test.YtodjbffhlklpkaaGreatDoorGround
import Derived.Test.YtodjbffhlklpkaaGreatDoorRunC
import Derived.Test.YtodjbffhlklpkaaGreatDoorSrcB
import Derived.Test.YtodjbffhlklpkaaGreatDoorSrcF
import Derived.Test.YtodjbffhlklpkaaGreatDoorSrcSpec
namespace Go.Proofs.YtodjbffhlklpkaaGreatDoor
open Go.RowKit
set_option linter.unusedVariables false
set_option maxRecDepth 100000
theorem part_deep {d:Int} (h:20<d) (st:St):partR d st = .error 1:=by unfold partR;rw [if_pos (.inr h)]
theorem ckE_any:∀(m m':Nat) (d:Int),d<=21->22<=(m:Int)+d->22<=(m':Int)+d->∀x st,ckE m x d st=ckE m' x d st
 | 0,_,d,h0,h,_,_,_=>by omega
 | _+1,0,d,h0,_,h,_,_=>by omega
 | m+1,m'+1,d,h0,h,h',.mk k n s l,st=>by
  unfold ckE
  by_cases hd:20<d
  . rw [part_deep hd]
  . have e:(fun x=>ckE m x (d+1))=fun x=>ckE m' x (d+1):=funext fun x=>funext fun st=>ckE_any m m' (d+1) (by omega) (by omega) (by omega) x st
    rw [e]
theorem ckS_any (when:Int):∀(m m':Nat) (d:Int),d<=21->22<=(m:Int)+d->22<=(m':Int)+d->∀x st,ckS when m x d st=ckS when m' x d st
 | 0,_,d,h0,h,_,_,_=>by omega
 | _+1,0,d,h0,_,h,_,_=>by omega
 | m+1,m'+1,d,h0,h,h',.mk k s t es b e,st=>by
  unfold ckS
  by_cases hd:20<d
  . rw [part_deep hd]
  . have e1:(fun x=>ckE m x (d+1))=fun x=>ckE m' x (d+1):=funext fun x=>funext fun st=>ckE_any m m' (d+1) (by omega) (by omega) (by omega) x st
    have e2:(fun x=>ckS when m x (d+1))=fun x=>ckS when m' x (d+1):=funext fun x=>funext fun st=>ckS_any when m m' (d+1) (by omega) (by omega) (by omega) x st
    rw [e1,e2]
theorem ckP_any {m m':Nat} (h:21<=m) (h':21<=m') (l:List Ru):ckP m l=ckP m' l:=by
 have e:ckR m=ckR m':=funext fun r=>funext fun st=>by
  unfold ckR
  have e2:(fun x=>ckS r.when m x 1)=fun x=>ckS r.when m' x 1:=funext fun x=>funext fun st=>ckS_any r.when m m' 1 (by omega) (by omega) (by omega) x st
  rw [e2,ckE_any m m' 1 (by omega) (by omega) (by omega)]
 unfold ckP
 rw [e]
theorem readR_ck {s:List UInt8} {l:List Ru} (h:readR s = .ok l):ckP 6000 l=0:=by
 unfold readR at h
 split at h
 . cases h
 . split at h
   . cases h
   . rename_i ps hc
     split at h
     . cases h
     . rename_i r hr
       split at h
       . rename_i hk
         cases h
         rw [ckP_any (by decide) (show 21<=20 * ps.length+40 by omega)]
         exact hk
       . cases h
theorem readR_len {s:List UInt8} {l:List Ru} (h:readR s = .ok l):s.length<=6000:=by
 unfold readR at h
 split at h
 . cases h
 . omega
end Go.Proofs.YtodjbffhlklpkaaGreatDoor
namespace Go.Proofs.YtodjbffhlklpkaaGreatDoor
open Go.ChangeShapes Go.WideShapes Go.ChangeAt Go.RowKit Go.Joins
set_option maxHeartbeats 4000000
set_option linter.unusedVariables false
set_option linter.unusedSimpArgs false
set_option maxRecDepth 100000
theorem source_c (l:List Rw) (v:Value) (w:World) (hv:RwA w w.heap.size v l) (hP:Pow w) :
 Calls Tryz.prog 5 #[v] w fun e w'=>∃s,e = .returned (.string (bs s))/\GSrc s/\Below w.heap.size w w':=source_of (mkE2.up (by decide)) (mkS2.up (by decide)) l v w hv hP
theorem read_g {s:ByteArray} {L:List UInt8} {l:List Ru} {w:World} (hs:s=bs L) (hR:readR L = .ok l) (hl:L.length<=6000) (hK:Kr w) :
 Calls Tryz.prog 6 #[.string s] w fun e w'=>∃a cap,e = .returned (.tuple #[.agg #[.slice a l.length cap],.int .i64 0])/\Below w.heap.size w w' /\
  ∀W:World,w'.heap.size<=W.heap.size->(∀b,w.heap.size<=b->b<w'.heap.size->W.heap[b]? = w'.heap[b]?)->PrgA W (.slice a l.length cap) l:=by
 subst hs
 refine (read_c (bs L) w (by rw [bs_size];unfold maxLen;omega) hK.tr).mono fun e w' hr=>?_
 obtain⟨hb,hr⟩:=hr
 rw [bs_list,hR] at hr
 obtain⟨v,he,hv⟩:=hr
 have h6:∀W:World,w'.heap.size<=W.heap.size->(∀b,w.heap.size<=b->b<w'.heap.size->W.heap[b]? = w'.heap[b]?)->PrgA W v l:=fun W hsz hW=>by
  have h5:SlP (fun b=>b<W.heap.size) W 7 v l.length (fun i c=>∃x,l[i]? = some x/\RuP (fun b=>b<W.heap.size) W 6000 c x) :=
   ((hv.old (by decide) fun i c ⟨x,hx,he⟩=>⟨x,hx,RuP.stays (fun b hb=>Nat.lt_of_lt_of_le hb.2 hsz) (fun b hb _=>hW b hb.1 hb.2) (RuP.old he)⟩).stays (by decide) (fun b hb _=>hW b hb.1 hb.2) fun _ _ h=>h).mono (fun b hb=>Nat.lt_of_lt_of_le hb.2 hsz) fun _ _ h=>h
  exact h5.low fun i c ⟨x,hx,he⟩=>⟨x,hx,he.low⟩
 have h7:=h6 w' (Nat.le_refl _) (fun _ _ _=>rfl)
 obtain⟨a,cap,rfl,-⟩:=h7
 exact⟨a,cap,he,hb,h6⟩
def Keeps (w w1 W:World):Prop:=w1.heap.size<=W.heap.size/\∀b,w.heap.size<=b->b<w1.heap.size->W.heap[b]? = w1.heap[b]?
end Go.Proofs.YtodjbffhlklpkaaGreatDoor
namespace Go.Proofs.YtodjbffhlklpkaaGreatDoor
open Go.ChangeShapes Go.WideShapes Go.ChangeAt Go.RowKit Go.Joins
set_option linter.unusedVariables false
set_option maxRecDepth 100000
theorem cellsRw:Tryz.prog.cellsOf 48=4:=by kernel_rfl
theorem open_raw {H:Type} {enc:TypeId × Value->H} {w:World} {base:Nat} {spare:Nat->Bool} {held:Bool} {fuel:Nat} {cs:List Value} {y:DataW H × List MemPlace} (hl:cs.length=4)
 (h:DataW.trod enc Tryz.prog w base spare held fuel 48 cs=some y):∃x:Rw,cs = [.int .i64 x.kind,.int .i64 x.a,.int .i64 x.b,.int .i64 x.c]/\x.ok:=by
 obtain⟨xs,n,rfl,_,_,hxl,hfd⟩:=DataW.trod_struct Tryz.underlying48 h
 match cs,hl with
 | [v0,v1,v2,v3],_ =>
  match xs,hxl with
  | [y0,y1,y2,y3],_ =>
   obtain⟨n0,f0,_,w0⟩:=DataW.trod_int Tryz.underlying3 (hfd 0 _ rfl)
   obtain⟨n1,f1,_,w1⟩:=DataW.trod_int Tryz.underlying3 (hfd 1 _ rfl)
   obtain⟨n2,f2,_,w2⟩:=DataW.trod_int Tryz.underlying3 (hfd 2 _ rfl)
   obtain⟨n3,f3,_,w3⟩:=DataW.trod_int Tryz.underlying3 (hfd 3 _ rfl)
   simp [cellsI] at f0 f1 f2 f3
   subst f0 f1 f2 f3
   exact⟨⟨n0,n1,n2,n3⟩,rfl,w0,w1,w2,w3⟩
theorem open_raws {H:Type} {enc:TypeId × Value->H} {w:World} {base:Nat} {spare:Nat->Bool} {held:Bool} {fuel:Nat} {cs:List Value} {y:DataW H × List MemPlace}
 (h:DataW.trod enc Tryz.prog w base spare held fuel 22 cs=some y):∃(v:Value) (l:List Rw),cs = [v]/\RwA w w.heap.size v l:=by
 obtain⟨v,len,e,hs⟩:=open_sl Tryz.underlying22 cellsRw (by omega) h
 have hs':Sl w w.heap.size 4 v len (fun _ c=>∃x:Rw,c = [.int .i64 x.kind,.int .i64 x.a,.int .i64 x.b,.int .i64 x.c]/\x.ok):=by
  obtain⟨a,cap,hv,hl,hh⟩:=hs
  exact⟨a,cap,hv,hl,fun h0=>let ⟨b,off,ha,hb,hi⟩:=hh h0; ⟨b,off,ha,hb,fun i hi'=>let ⟨c,h1,h2,n,y,_,h3⟩:=hi i hi'; ⟨c,h1,h2,open_raw h1 h3⟩⟩⟩
 obtain⟨l,hll,a,cap,hv,hmax,hh⟩:=Sl.list (E:=fun c (x:Rw)=>c = [.int .i64 x.kind,.int .i64 x.a,.int .i64 x.b,.int .i64 x.c]/\x.ok) hs'
 refine⟨v,l,e,a,cap,hv,hmax,fun x hx=>?_,fun h0=>?_⟩
 . obtain⟨i,hi,hxi⟩:=List.mem_iff_getElem.1 hx
   obtain⟨b,off,_,_,hc⟩:=hh (by omega)
   obtain⟨c,_,_,x',hx',_,hok⟩:=hc i hi
   rw [List.getElem?_eq_getElem hi,Option.some.injEq] at hx'
   rw [<-hxi,hx']
   exact hok
 . obtain⟨b,off,ha,hb,hc⟩:=hh h0
   refine⟨b,off,ha,hb,fun i x hx=>?_⟩
   have hi:i<l.length:=by
    by_cases h:i<l.length
    . exact h
    . rw [List.getElem?_eq_none (by omega)] at hx;cases hx
   obtain⟨c,_,hcell,x',hx',rfl,_⟩:=hc i hi
   obtain rfl:=Option.some.inj (hx.symm.trans hx')
   exact⟨hcell 0 (by omega),hcell 1 (by omega),hcell 2 (by omega),hcell 3 (by omega)⟩
end Go.Proofs.YtodjbffhlklpkaaGreatDoor
