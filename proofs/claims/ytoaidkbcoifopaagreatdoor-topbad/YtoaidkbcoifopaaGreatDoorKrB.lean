/-
  The variable MaxLen of internal/bytealg. / What statements that read programs share: a program that was read; the tables that they ask of.
-/
import Derived.Test.YtoaidkbcoifopaaGreatDoorGround
import Derived.Test.YtoaidkbcoifopaaGreatDoorRdRead
import Derived.Test.YtoaidkbcoifopaaGreatDoorWdMem
import Derived.Test.YtoaidkbcoifopaaGreatDoorPrShelf
import Derived.HandedShaped
import Derived.Lib.LaidTab
namespace Go.Proofs.YtoaidkbcoifopaaGreatDoor
open Go.ChangeShapes Go.WideShapes Go.ChangeAt Go.RowKit Go.Joins Go.Maps
set_option linter.unusedVariables false
def MxB (B:Nat) (w:World):Prop:=1<B/\∃m,w.cell? ⟨1,0,none⟩=some (.int .i64 m)
theorem MxB.below {B:Nat} {w w':World} (h:MxB B w) (hb:Below B w w'):MxB B w':=by
 obtain⟨h1,m,h2⟩:=h
 exact⟨h1,m,(hb.cell (p:=⟨1,0,none⟩) h1).trans h2⟩
end Go.Proofs.YtoaidkbcoifopaaGreatDoor
namespace Go.Proofs.YtoaidkbcoifopaaGreatDoor
open Go.ChangeShapes Go.WideShapes Go.ChangeAt Go.RowKit Go.Joins Go.Maps
set_option linter.unusedVariables false
set_option maxRecDepth 100000
theorem Sl.up {w:World} {B B' sz:Nat} {v:Value} {len:Nat} {E F:Nat->List Value->Prop} (h:Sl w B sz v len E) (hB:B<=B') (hEF:∀i cs,E i cs->F i cs):Sl w B' sz v len F:=by
 obtain⟨a,cap,hv,hl,hs⟩:=h
 refine⟨a,cap,hv,hl,fun h0=>?_⟩
 obtain⟨b,off,ha,hb,hi⟩:=hs h0
 exact⟨b,off,ha,Nat.lt_of_lt_of_le hb hB,fun i hi'=>let ⟨cs,h1,h2,h3⟩:=hi i hi'; ⟨cs,h1,h2,hEF i cs h3⟩⟩
theorem ExA.up {B B':Nat} {w:World} (hB:B<=B'):∀ {m:Nat} {cs:List Value} {x:Ex},ExA B w m cs x->ExA B' w m cs x:=by
 intro m
 induction m with
 | zero=>intro cs x h;exact h.elim
 | succ m ih =>
  intro cs x h
  cases x with
  | mk k n s l =>
   obtain⟨v,h1,h2,h3,h4,h5⟩:=h
   exact⟨v,h1,h2,h3,h4,h5.up hB fun i c ⟨x,hx,he⟩=>⟨x,hx,ih he⟩⟩
theorem SmA.up {B B':Nat} {w:World} (hB:B<=B'):∀ {m:Nat} {cs:List Value} {x:Sm},SmA B w m cs x->SmA B' w m cs x:=by
 intro m
 induction m with
 | zero=>intro cs x h;exact h.elim
 | succ m ih =>
  intro cs x h
  cases x with
  | mk k s t es b e =>
   obtain⟨v1,v2,v3,h1,h2,h3,h4,h5,h6,h7⟩:=h
   exact⟨v1,v2,v3,h1,h2,h3,h4,h5.up hB fun i c ⟨x,hx,he⟩=>⟨x,hx,he.up hB⟩,h6.up hB fun i c ⟨x,hx,he⟩=>⟨x,hx,ih he⟩,h7.up hB fun i c ⟨x,hx,he⟩=>⟨x,hx,ih he⟩⟩
theorem RuA.up {B B':Nat} {w:World} {m:Nat} {cs:List Value} {r:Ru} (h:RuA B w m cs r) (hB:B<=B'):RuA B' w m cs r:=by
 obtain⟨c0,c1,c2,c3,v,h1,h2,h3,h4⟩:=h
 exact⟨c0,c1,c2,c3,v,h1,h2,h3.up hB,h4.up hB fun i c ⟨x,hx,he⟩=>⟨x,hx,he.up hB⟩⟩
theorem TxL.up {w:World} {B B':Nat} {v:Value} {l:List ByteArray} (h:TxL w B v l) (hB:B<=B'):TxL w B' v l:=Sl.up h hB fun _ _ h=>h
def PrgA (w:World) (v:Value) (l:List Ru):Prop:=Sl w w.heap.size 7 v l.length (fun i c=>∃x,l[i]? = some x/\RuA w.heap.size w 6000 c x)
theorem PrgA.stays {w w':World} {v:Value} {l:List Ru} (h:PrgA w v l) (hb:Below w.heap.size w w'):PrgA w' v l :=
 Sl.up (E:=fun i c=>∃x,l[i]? = some x/\RuA w.heap.size w' 6000 c x) (Sl.below h hb fun i c ⟨x,hx,he⟩=>⟨x,hx,he.below hb⟩) hb.size fun i c ⟨x,hx,he⟩=>⟨x,hx,he.up hb.size⟩
def TxsA (w:World) (v:Value) (l:List ByteArray):Prop:=TxL w w.heap.size v l
theorem TxsA.stays {w w':World} {v:Value} {l:List ByteArray} (h:TxsA w v l) (hb:Below w.heap.size w w'):TxsA w' v l:=(TxL.below h hb).up hb.size
structure Kr (w:World):Prop where
 tr:Tr w
 pw:Pow w
 mx:MxB w.heap.size w
theorem Kr.stays {w w':World} (h:Kr w) (hb:Below w.heap.size w w'):Kr w':=by
 have hm:=h.mx.below hb
 exact⟨h.tr.stays hb,h.pw.stays hb,⟨Nat.lt_of_lt_of_le hm.1 hb.size,hm.2⟩⟩
theorem readOk {s:ByteArray} {l:List Ru} {w:World} (hR:readR s.toList = .ok l) (hs:s.size<=100000) (hT:Kr w) :
 Calls Tryz.prog 10 #[.string s] w fun e w'=>∃a cap,e = .returned (.tuple #[.agg #[.slice a l.length cap],.int .i64 0])/\Below w.heap.size w w'/\PrgA w' (.slice a l.length cap) l:=by
 refine (read_c s w (by unfold maxLen;omega) hT.tr).mono fun e w' hr=>?_
 obtain⟨hb,hr⟩:=hr
 rw [hR] at hr
 obtain⟨v,he,hv⟩:=hr
 have h5:SlP (fun b=>b<w'.heap.size) w' 7 v l.length (fun i c=>∃x,l[i]? = some x/\RuP (fun b=>b<w'.heap.size) w' 6000 c x) :=
  (hv.old (by decide) fun i c ⟨x,hx,he⟩=>⟨x,hx,(RuP.stays (fun b hb=>hb.2) (fun _ _ _=>rfl) (RuP.old he)).le (by omega)⟩).mono (fun b hb=>hb.2) fun _ _ h=>h
 have h6:PrgA w' v l:=h5.low fun i c ⟨x,hx,he⟩=>⟨x,hx,he.low⟩
 have h7:=h6
 obtain⟨a,cap,rfl,-⟩:=h7
 exact⟨a,cap,he,hb,h6⟩
theorem nilTx (w:World):TxsA w (.slice none 0 0) []:=⟨none,0,rfl,Nat.zero_le _,fun h=>absurd h (by simp)⟩
theorem pow_of {W : World} {r : List (String × DataW Unit)} (hL : laidMet Tryz.prog (("internal/strconv.uint64pow10", Rows.laid_internal_strconv_uint64pow10) :: r) W) : Pow W := by
 obtain⟨g,hg⟩:=gPow
 have ht:(Tryz.prog.globals[g]?).map (·.type)=some 272:=by
  have e : (match Tryz.prog.globalNamed "internal/strconv.uint64pow10" with | some g => (Tryz.prog.globals[g]?).map (·.type) | none => none) = some 272 := by kernel_rfl
  rw [hg] at e;exact e
 exact Lib.tabIs_of_head hg ht Tryz.underlying272 Tryz.underlying97 (by kernel_rfl) (by kernel_rfl) hL
theorem mx_of {W:World} (h:W.ShapedOpen Tryz.prog):MxB W.heap.size W:=by
 obtain⟨m,hm⟩:=Tryz.laysM144.s1_3 W h
 have hm':W.cell? ⟨1,0,none⟩=some (.int .i64 m):=hm
 exact⟨World.block_lt_of_cell? W ⟨1,0,none⟩ hm',m,hm'⟩
theorem handed {H:Type} {enc:TypeId × Value->H} {C:Checked} {os:Os} {f:FuncId} {fn:Func} {s:ChangeSpec} {conds:List PathCond} {apart fresh handsOn again:Bool} {X:World->Prop}
 (hX:∀w w':World,w.heap=w'.heap->X w->X w')
 (own:ownKnob C.prog.godebug=none) (started:os.Started) (noInit:C.prog.inits.idxOf? f=none) (hfn:C.prog.funcs[f]? = some fn)
 (first:∃(w:World) (tape:Tape) (i:Input),w.os=os/\(w.forCall tape i).Shaped C.prog/\i.vars = []/\Input.okWide C.prog (w.forCall tape i) .any w.heap.size f i /\
  ((s.pre enc C.prog fn conds apart (w.forCall tape i).memory i.args/\X (w.forCall tape i).memory)/\sizedMet enc C.prog fn (OpenSpec.ofChange s) apart (w.forCall tape i).memory i.args)/\({}:Assume).holds C.prog (lone (Frame.enter C.prog f i.args .normal) [] (w.forCall tape i)))
 (body:∀(W:World) (base:Nat) (args:Array Value) (ds gs:List (DataW H)) (before:List MemPlace),
  (∀(j:Nat) t v,fn.params[j]? = some t->args[j]? = some v->Value.okWide C.prog W .any base t v) ->
  DataW.Whole enc C.prog fn.params.toList s.vars apart W args.toList ds gs before->X W->W.ShapedOpen C.prog ->
  Calls C.prog f args W fun e W'=>∃v,e = .returned v/\s.post enc C.prog fn apart fresh handsOn again W args v W') :
 ReturnsInHanded {} C os f .any (fun w args=>(s.pre enc C.prog fn conds apart w args/\X w)/\sizedMet enc C.prog fn (OpenSpec.ofChange s) apart w args) (s.post enc C.prog fn apart fresh handsOn again):=by
 refine returnsInHanded_of_calls own started noInit first fun w tape i _ shape _ okin pre _=>?_
 obtain⟨_,_,_,fn2,hfn2,_,_,_,_,vals⟩:=okin
 obtain rfl:fn2=fn:=Option.some.inj (hfn2.symm.trans hfn)
 obtain⟨⟨⟨ds,gs,before,whole,_⟩,hx⟩,_⟩:=pre
 refine (body (w.forCall tape i) w.heap.size i.args ds gs before vals (DataW.Whole.of_heap (w':=w.forCall tape i) (by rfl) whole) (hX _ _ (by rfl) hx) shape).mono fun e W' he=>?_
 obtain⟨v,rfl,hp⟩:=he
 exact ChangeSpec.post_blind hp
end Go.Proofs.YtoaidkbcoifopaaGreatDoor
