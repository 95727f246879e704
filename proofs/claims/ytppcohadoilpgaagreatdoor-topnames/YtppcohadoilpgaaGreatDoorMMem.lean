/-
  The variable MaxLen of internal/bytealg. / Maps in memory whose elements are read as they are; a map from texts to values as a list in the order of its keys: put, delete, look-up, size. / A machine in memory: which block is what for; its cells; what stays while it runs; what its calls may turn. / An element of a list of expressions in memory. / Values that may be: what operators, functions and expressions make of values that may be, may be. / Contracts of the machine's small functions: endIf, sure, truth, burn, count, field. / What asking an expression stands on: its contract as a statement; look-ups in the machine's maps.
-/
import Derived.Test.YtppcohadoilpgaaGreatDoorGround
import Derived.Test.YtppcohadoilpgaaGreatDoorMSpec
import Derived.Test.YtppcohadoilpgaaGreatDoorChk
import Derived.Maps.OwnSet
import Derived.StringKeys
import Derived.Test.YtppcohadoilpgaaGreatDoorCheckC
import Derived.Laws.AppendOwn
namespace Go.Proofs.YtppcohadoilpgaaGreatDoor
open Go.ChangeShapes Go.WideShapes Go.ChangeAt Go.RowKit Go.Joins Go.Maps Go.Proofs.Tryz
set_option linter.unusedVariables false
def MxB (B:Nat) (w:World):Prop:=5<B/\∃m,w.cell? ⟨5,0,none⟩=some (.int .i64 m)
theorem MxB.below {B:Nat} {w w':World} (h:MxB B w) (hb:Below B w w'):MxB B w':=by
 obtain⟨h1,m,h2⟩:=h;exact⟨h1,m,(hb.cell (p:=⟨5,0,none⟩) h1).trans h2⟩
end Go.Proofs.YtppcohadoilpgaaGreatDoor
namespace Go.Proofs.YtppcohadoilpgaaGreatDoor
open Go.ChangeShapes Go.WideShapes Go.ChangeAt Go.RowKit Go.Joins Go.Maps Go.WideMaps Go.Proofs.Tryz
set_option linter.unusedVariables false
def Gh (v:Value):Option (DataW Value × List MemPlace):=some (.held v,[])
theorem F2 {v:Value} {d:DataW Value} {ps:List MemPlace} (h:Gh v=some (d,ps)):d = .held v/\ps = []:=by
 simp only [Gh,Option.some.injEq,Prod.mk.injEq] at h;exact⟨h.1.symm,h.2.symm⟩
def vlV (v:Vl):Value:= .agg #[.bool v.t,.int .i64 v.n,.string v.s]
def Kk (p:List UInt8 × Vl):Lit × DataW Value:=(.string p.1,.held (vlV p.2))
def Em (t:Tab):DataW Value:= .map (t.map Kk)
theorem Kc (k:List UInt8) (t:Tab):(t.map Kk).filter (fun p=> !p.1.sameKey (.string k))=(Dy k t).map Kk:=by
 unfold Dy;rw [List.filter_map];rfl
theorem Se (x:List UInt8 × Vl):∀t:Tab,DataW.insert (Kk x) (t.map Kk)=(Gq x t).map Kk
 | []=>rfl
 | y :: r=>by
  have ih:=Se x r;simp only [List.map_cons,DataW.insert,Gq];have e:(Kk x).1.before (Kk y).1=bytesBefore x.1 y.1:=rfl;rw [e]
  by_cases h:bytesBefore x.1 y.1=true
  . rw [if_pos h,if_pos h];rfl
  . rw [if_neg h,if_neg h,ih];rfl
theorem Z6 (k:List UInt8) (v:Vl) (t:Tab):(Em t).put (.string k) (.held (vlV v))=Em (En k v t):=by
 unfold Em En;simp only [DataW.put];rw [Kc,<-Se];rfl
theorem Z4 (k:List UInt8) (t:Tab):(Em t).del (.string k)=Em (Dy k t):=by
 unfold Em;simp only [DataW.del];rw [Kc]
theorem W8 (k:List UInt8) (t:Tab):(t.map Kk).find? (fun p=>p.1.sameKey (.string k))=(t.find? fun p=>p.1 == k).map Kk:=by
 rw [List.find?_map];rfl
theorem Vs (k:List UInt8) (t:Tab):(Em t).atKey (.string k) (.held (vlV (vN 0))) = .held (vlV ((Cm k t).getD (vN 0))):=by
 unfold Em Cm;simp only [DataW.atKey];rw [W8];cases t.find? fun p=>p.1 == k <;> rfl
theorem Z5 (k:List UInt8) (t:Tab):Maps.has (Em t) (.string k)=(Cm k t).isSome:=by
 unfold Em Cm;rw [Maps.has_eq,List.any_map]
 induction t with
 | nil=>rfl
 | cons y r ih =>
  rw [List.any_cons,List.find?_cons,ih];have e:((fun p:Lit × DataW Value=>p.1.sameKey (.string k)) ∘ Kk) y=(y.1 == k):=rfl;rw [e];cases y.1 == k <;> simp
theorem Jz (t:Tab):Maps.size (Em t)=t.length:=by
 unfold Em;rw [Maps.size_eq,List.length_map]
theorem Me (x:List UInt8 × Vl):∀t:Tab,(Gq x t).length=t.length+1
 | []=>rfl
 | y :: r=>by
  have ih:=Me x r;simp only [Gq];split
  . rfl
  . simp [ih]
theorem Uk (k:List UInt8) (t:Tab):(Dy k t).length<=t.length:=List.length_filter_le _ _
theorem Mf (x y:List UInt8 × Vl):∀t:Tab,y ∈ Gq x t ↔ y=x\/y ∈ t
 | []=>by simp [Gq]
 | z :: r=>by
  have ih:=Mf x y r;simp only [Gq];split
  . simp
  . simp only [List.mem_cons,ih];exact⟨fun h=>h.elim (fun h=> .inr (.inl h)) fun h=>h.elim .inl fun h=> .inr (.inr h),fun h=>h.elim (fun h=> .inr (.inl h)) fun h=>h.elim .inl fun h=> .inr (.inr h)⟩
theorem Md {k:List UInt8} {y:List UInt8 × Vl} {t:Tab} (h:y ∈ Dy k t):y ∈ t:=(List.mem_filter.1 h).1
theorem Ul {k:List UInt8} {v:Vl} {y:List UInt8 × Vl} {t:Tab} (h:y ∈ En k v t):y=(k,v)\/y ∈ t :=
 ((Mf _ _ _).1 h).imp id Md
theorem W7 {k:List UInt8} {t:Tab} {v:Vl} (h:Cm k t=some v):∃k',(k',v) ∈ t:=by
 unfold Cm at h;cases e:t.find? fun p=>p.1 == k with
 | none=>rw [e] at h;cases h
 | some p =>
  rw [e] at h;simp only [Option.map_some,Option.some.injEq] at h;subst h;exact⟨p.1,List.mem_of_find?_eq_some e⟩
theorem I1 {w:World} {b n:Nat} {t:Tab} (h:w.ownsMap prog 9 Gh b n (Em t)):w.ownsMap prog 9 Gh b t.length (Em t):=by
 obtain⟨es,clock,hb,F,hs,hD⟩:=h;refine⟨es,clock,hb,F,?_,hD⟩;have e:=congrArg Maps.size hD;rw [Jz,Maps.size_eq,length_sorted,List.length_map] at e;rw [e];simp
theorem Iy:Keyed prog 9:=string_keyed underlying9
theorem Jj {s:ByteArray} (h:s.size<=maxLen):keyOf prog 9 (.string s)=some (.string s.data.toList):=keyOf_string_mk underlying9 h
end Go.Proofs.YtppcohadoilpgaaGreatDoor
namespace Go.Proofs.YtppcohadoilpgaaGreatDoor
open Go.ChangeShapes Go.WideShapes Go.ChangeAt Go.RowKit Go.Joins Go.Maps Go.Proofs.Tryz
set_option linter.unusedVariables false
inductive Ro where
 | mach | vars | lists | flds | outs
 | lst (nm:ByteArray)
abbrev Own:=Nat->Option Ro
structure Bts (O:Own) (w w':World):Prop where
 os:w'.os=w.os
 tape:w'.tape=w.tape
 output:w'.output=w.output
 size:w.heap.size<=w'.heap.size
 block:∀k,k<w.heap.size->O k=none->w'.heap[k]? = w.heap[k]?
theorem Bts.refl (O:Own) (w:World):Bts O w w:=⟨rfl,rfl,rfl,Nat.le_refl _,fun _ _ _=>rfl⟩
theorem Bts.of_below {O:Own} {w w':World} (h:Below w.heap.size w w'):Bts O w w':=⟨h.os,h.tape,h.output,h.size,fun k hk _=>h.block k hk⟩
def Gr (w:World) (O O':Own):Prop:=∀b,b<w.heap.size->O b=none->O' b=none
theorem Gr.refl (w:World) (O:Own):Gr w O O:=fun _ _ h=>h
theorem Gr.trans {w w':World} {O O' O'':Own} (h:Gr w O O') (k:Gr w' O' O'') (hs:w.heap.size<=w'.heap.size):Gr w O O'':=fun b hb h0=>k b (lle hb hs) (h b hb h0)
theorem Bts.trans {O O':Own} {a b c:World} (h:Bts O a b) (k:Bts O' b c) (g:Gr a O O'):Bts O a c :=
 ⟨k.os.trans h.os,k.tape.trans h.tape,k.output.trans h.output,lq0 h.size k.size,fun i hi h0=>(k.block i (lle hi h.size) (g i hi h0)).trans (h.block i hi h0)⟩
theorem Bts.more {O:Own} {a w w':World} (h:Bts O a w) (k:Below w.heap.size w w'):Bts O a w':=h.trans (Bts.of_below (O:=O) k) (Gr.refl _ _)
theorem Bts.alloc {O:Own} {a w:World} (h:Bts O a w) (o:Obj):Bts O a (w.alloc o):=h.more (br0.alloc lr0 o)
theorem Bts.below {O:Own} {B:Nat} {w w':World} (h:Bts O w w') (hs:B<=w.heap.size) (hB:∀b,b<B->O b=none):Below B w w' :=
 ⟨h.os,h.tape,h.output,h.size,fun k hk=>h.block k (by omega) (hB k hk)⟩
theorem Bts.cell {O:Own} {w w':World} (h:Bts O w w') {b:Nat} (hb:b<w.heap.size) (h0:O b=none) (o:Nat):w'.cell? ⟨b,o,none⟩=w.cell? ⟨b,o,none⟩ :=
 World.cell?_of_block (a:=⟨b,o,none⟩) (h.block b hb h0)
theorem Bts.set {O:Own} {a w:World} {b:Nat} {x:Ro} (h:Bts O a w) (hb:O b=some x) (o:Nat) (v:Value):Bts O a (w.setCell ⟨b,o,none⟩ v) :=
 ⟨h.os,h.tape,h.output,(by simp [World.setCell,h.size]),fun k hk h0=>(Below.heap_setCell _ _ _ _ (by
  simp only;intro e;rw [e] at h0;rw [h0] at hb;cases hb)).trans (h.block k hk h0)⟩
theorem Bts.grown {O:Own} {a w w':World} {q:Option Nat} (h:Bts O a w) (hq:∀b,q=some b->(∃x,O b=some x)\/a.heap.size<=b) (hg:w.grownBy w' q):Bts O a w' :=
 ⟨hg.os.trans h.os,hg.tape.trans h.tape,hg.output.trans h.output,lq0 h.size hg.size,fun k hk h0=>(hg.block k (lle hk h.size) (fun e=>by
  rcases hq k e.symm with⟨x,hx⟩ | hx
  . rw [h0] at hx;cases hx
  . omega)).trans (h.block k hk h0)⟩
structure Cx where
 r:Nat
 B:Nat
 fuel:Nat
 m:Nat
 F:List Fl
 R:List Ru
 rv:Value
 fv:Value
structure Lo (c:Cx) (w:World):Prop where
 pw:D4 c.B w
 mx:MxB c.B w
 rules:Sl w c.B 7 c.rv c.R.length (fun i cs=>∃x,c.R[i]? = some x/\RuA c.B w c.m cs x)
 ok:∀r ∈ c.R,okR c.m r
 files:FlL w c.B c.fv c.F
 fine:∀f ∈ c.F,f.lines.length<=100/\∀l ∈ f.lines,l.size<=200
 fuel:c.fuel<=200000
 size:c.B<=w.heap.size
theorem Lo.below {c:Cx} {w w':World} (h:Lo c w) (hb:Below c.B w w'):Lo c w' :=
 ⟨h.pw.low hb.block,h.mx.below hb,h.rules.below hb fun _ _ ⟨x,hx,he⟩=>⟨x,hx,he.below hb⟩,h.ok,h.files.below hb,h.fine,h.fuel,lq0 h.size hb.size⟩
structure Fit (s:Ms):Prop where
 vars:∀nm,(s.vars nm).ok
 lists:∀nm,∀p ∈ s.lists nm,p.2.ok/\p.1.length<=200
 few:∀nm,(s.lists nm).length<=100
 whole:s.whole.size<=200
 flds:∀x ∈ s.flds,x.size<=200
 nf:s.flds.length<=200
 recs:s.recs<=200
 out:s.out.length<=2000
 outs:∀x ∈ s.out,x.size<=200
def Gz (O:Own) (w:World) (b:Nat) (f:ByteArray->Vl) (N:Nat):Prop :=
 O b=some .vars/\∃n D,n<=N/\w.ownsMap prog 9 Gh b n D/\∀x:ByteArray,D.atKey (.string x.data.toList) (.held (vlV (vN 0))) = .held (vlV (f x))
def Jc (O:Own) (w:World) (D:DataW Value) (x:ByteArray) (t:Tab):Prop :=
 (D.atKey (.string x.data.toList) (.held (.map none)) = .held (.map none)/\t = []) \/
  ∃k,D.atKey (.string x.data.toList) (.held (.map none)) = .held (.map (some k))/\O k=some (.lst x)/\w.ownsMap prog 9 Gh k t.length (Em t)
def Fp (O:Own) (w:World) (b:Nat) (f:ByteArray->Tab) (N:Nat):Prop :=
 O b=some .lists/\∃n D,n<=N/\w.ownsMap prog 9 Gh b n D/\∀x:ByteArray,Jc O w D x (f x)
def Ef (O:Own) (ro:Ro) (w:World) (v:Value) (l:List ByteArray):Prop :=
 w.ownsRow 0 9 1 v l.length (l.map Value.string)/\∀b,v.ownBlock=some b->O b=some ro
theorem Gz.stays {O O':Own} {w w':World} {b:Nat} {f:ByteArray->Vl} {N:Nat} (h:Gz O w b f N) (hb:∀k,O k=some .vars->k<w.heap.size->O' k=some .vars/\w'.heap[k]? = w.heap[k]?):Gz O' w' b f N:=by
 obtain⟨h0,n,D,h1,h2,h3⟩:=h;obtain⟨h4,h5⟩:=hb b h0 h2.lt;exact⟨h4,n,D,h1,Aq h2 h5,h3⟩
theorem Fp.stays {O O':Own} {w w':World} {b:Nat} {f:ByteArray->Tab} {N:Nat} (h:Fp O w b f N) (hb:∀k,O k=some .lists->k<w.heap.size->O' k=some .lists/\w'.heap[k]? = w.heap[k]?)
 (hl:∀k x,O k=some (.lst x)->k<w.heap.size->O' k=some (.lst x)/\w'.heap[k]? = w.heap[k]?):Fp O' w' b f N:=by
 obtain⟨h0,n,D,h1,h2,h3⟩:=h;obtain⟨h4,h5⟩:=hb b h0 h2.lt;refine⟨h4,n,D,h1,Aq h2 h5,fun x=>(h3 x).imp id ?_⟩;rintro ⟨k,h6,h7,h8⟩;obtain⟨h9,h10⟩:=hl k x h7 h8.lt;exact⟨k,h6,h9,Aq h8 h10⟩
theorem A9 {w w':World} {base e size n:Nat} {v:Value} {xs:List Value} (h:w.ownsRow base e size v n xs) (hb:∀b,v.ownBlock=some b->w'.heap[b]? = w.heap[b]?):w'.ownsRow base e size v n xs:=by
 obtain⟨h1,h2⟩:=h;refine⟨h1,h2.imp id ?_⟩;rintro ⟨g,cap,cur,rfl,h3,h4,h5⟩;exact⟨g,cap,cur,rfl,h3,(hb g rfl).trans h4,h5⟩
theorem Ef.stays {O O':Own} {ro:Ro} {w w':World} {v:Value} {l:List ByteArray} (h:Ef O ro w v l) (hb:∀k,O k=some ro->k<w.heap.size->O' k=some ro/\w'.heap[k]? = w.heap[k]?):Ef O' ro w' v l :=
 ⟨A9 h.1 fun b e=>(hb b (h.2 b e) (h.1.lt b e).2).2,fun b e=>(hb b (h.2 b e) (h.1.lt b e).2).1⟩
structure Ck (r:Nat) (w:World) (bv bl:Nat) (rv fv fl ol:Value) (fuel used recs:Int) (whole:ByteArray):Prop where
 c0:w.cell? ⟨r,0,none⟩=some (.map (some bv))
 c1:w.cell? ⟨r,1,none⟩=some (.map (some bl))
 c2:w.cell? ⟨r,2,none⟩=some rv
 c3:w.cell? ⟨r,3,none⟩=some fv
 c4:w.cell? ⟨r,4,none⟩=some (.int .i64 fuel)
 c5:w.cell? ⟨r,5,none⟩=some (.string whole)
 c6:w.cell? ⟨r,6,none⟩=some fl
 c7:w.cell? ⟨r,7,none⟩=some (.int .i64 recs)
 c8:w.cell? ⟨r,8,none⟩=some ol
 c9:w.cell? ⟨r,9,none⟩=some (.int .i64 0)
 c10:w.cell? ⟨r,10,none⟩=some (.int .i64 used)
 thaw:∀o,w.frozen? ⟨r,o,none⟩=false
theorem Ck.lt {r:Nat} {w:World} {bv bl:Nat} {rv fv fl ol:Value} {fuel used recs:Int} {whole:ByteArray} (h:Ck r w bv bl rv fv fl ol fuel used recs whole):r<w.heap.size:=World.block_lt_of_cell? w ⟨r,0,none⟩ h.c0
theorem Ck.stays {r:Nat} {w w':World} {bv bl:Nat} {rv fv fl ol:Value} {fuel used recs:Int} {whole:ByteArray} (h:Ck r w bv bl rv fv fl ol fuel used recs whole) (hb:w'.heap[r]? = w.heap[r]?):Ck r w' bv bl rv fv fl ol fuel used recs whole:=by
 have e:∀o,w'.cell? ⟨r,o,none⟩=w.cell? ⟨r,o,none⟩:=fun o=>World.cell?_of_block (a:=⟨r,o,none⟩) hb;exact⟨(e _).trans h.c0,(e _).trans h.c1,(e _).trans h.c2,(e _).trans h.c3,(e _).trans h.c4,(e _).trans h.c5,(e _).trans h.c6,(e _).trans h.c7,(e _).trans h.c8,(e _).trans h.c9,(e _).trans h.c10,fun o=>(World.frozen?_of_block (a:=⟨r,o,none⟩) hb).trans (h.thaw o)⟩
structure Mc (c:Cx) (O:Own) (w:World) (s:Ms) (j:Nat):Prop where
 own:O c.r=some .mach
 low:∀b,b<c.B->O b=none
 top:∀b,w.heap.size<=b->O b=none
 lo:Lo c w
 fit:Fit s
 left:s.left<=c.fuel
 mem:∃bv bl fl ol,Ck c.r w bv bl c.rv c.fv fl ol c.fuel ((c.fuel:Int) - s.left) s.recs s.whole/\Gz O w bv s.vars (400000 - j - s.left)/\Fp O w bl s.lists (400000 - j - s.left)/\Ef O .flds w fl s.flds/\Ef O .outs w ol s.out
 room:j+s.left<=400000
def Ou (c:Cx) (O:Own) (w:World) (out:List ByteArray) (left:Nat):Prop :=
 O c.r=some .mach/\(∀b,b<c.B->O b=none)/\left<=c.fuel/\∃bv bl fl ol recs whole,Ck c.r w bv bl c.rv c.fv fl ol c.fuel ((c.fuel:Int) - left) recs whole/\Ef O .outs w ol out/\out.length<=2000/\∀x ∈ out,x.size<=200
theorem Mc.lt {c:Cx} {O:Own} {w:World} {s:Ms} {j:Nat} (h:Mc c O w s j):c.r<w.heap.size:=by
 obtain⟨_,_,_,_,h1,_⟩:=h.mem;exact h1.lt
theorem Mc.ou {c:Cx} {O:Own} {w:World} {s:Ms} {j:Nat} (h:Mc c O w s j):Ou c O w s.out s.left:=by
 obtain⟨bv,bl,fl,ol,h1,_,_,_,h5⟩:=h.mem;exact⟨h.own,h.low,h.left,bv,bl,fl,ol,_,_,h1,h5,h.fit.out,h.fit.outs⟩
theorem Mc.stays {c:Cx} {O O':Own} {w w':World} {s:Ms} {j:Nat} (h:Mc c O w s j) (hb:Below c.B w w') (hO:∀b,b<c.B->O' b=none) (hT:∀b,w'.heap.size<=b->O' b=none) (hk:∀k x,O k=some x->k<w.heap.size->O' k=some x/\w'.heap[k]? = w.heap[k]?):Mc c O' w' s j:=by
 obtain⟨bv,bl,fl,ol,h1,h2,h3,h4,h5⟩:=h.mem;have hr:=hk c.r _ h.own h1.lt;exact⟨hr.1,hO,hT,h.lo.below hb,h.fit,h.left,⟨bv,bl,fl,ol,h1.stays hr.2,h2.stays fun k e l=>hk k _ e l,h3.stays (fun k e l=>hk k _ e l) fun k x e l=>hk k _ e l,h4.stays fun k e l=>hk k _ e l,h5.stays fun k e l=>hk k _ e l⟩,h.room⟩
theorem Mc.below {c:Cx} {O:Own} {w w':World} {s:Ms} {j:Nat} (h:Mc c O w s j) (hb:Below w.heap.size w w'):Mc c O w' s j :=
 h.stays (hb.mono h.lo.size) h.low (fun b hb'=>h.top b (lq0 hb.size hb')) fun k x e l=>⟨e,hb.block k l⟩
theorem Mc.alloc {c:Cx} {O:Own} {w:World} {s:Ms} {j:Nat} (h:Mc c O w s j) (o:Obj):Mc c O (w.alloc o) s j:=h.below (br0.alloc lr0 o)
theorem Ou.below {c:Cx} {O:Own} {w w':World} {out:List ByteArray} {left:Nat} (h:Ou c O w out left) (hb:Below w.heap.size w w'):Ou c O w' out left:=by
 obtain⟨h0,h1,h2,bv,bl,fl,ol,recs,whole,h3,h4,h5⟩:=h;exact⟨h0,h1,h2,bv,bl,fl,ol,recs,whole,h3.stays (hb.block _ h3.lt),h4.stays fun k e l=>⟨e,hb.block k l⟩,h5⟩
def Fb (e:Int):PanicEntry:={ v:= .iface 107 (.int .i64 e),recovered:=false }
def Bb {α:Type} (w:World) (R:Except Int α) (K:α->Value) (e:Ending) (w':World):Prop :=
 Below w.heap.size w w'/\match R with
  | .ok v=>e = .returned (K v)
  | .error er=>e = .panicked [Fb er]
abbrev Dm (w:World) (R:Except Int Vl):Ending->World->Prop:=Bb w R vlV
end Go.Proofs.YtppcohadoilpgaaGreatDoor
namespace Go.Proofs.YtppcohadoilpgaaGreatDoor
open Go.ChangeShapes Go.WideShapes Go.ChangeAt Go.RowKit Go.Joins Go.Proofs.Tryz
set_option linter.unusedVariables false
theorem kid {B m b off:Nat} {w:World} {l:List Ex} (hi:∀i,i<l.length->∃cs:List Value,cs.length=4/\(∀j,j<4->w.cell? ⟨b,off+i * 4+j,none⟩=cs[j]?)/\∃x,l[i]? = some x/\ExA B w m cs x) (i o:Nat) (ho:off+i * 4=o) (h:i<l.length) :
 ∃(k n:Int) (s:ByteArray) (a:Option Addr) (len cap:Nat),w.cell? ⟨b,o,none⟩=some (.int .i64 k)/\w.cell? ⟨b,o+1,none⟩=some (.int .i64 n)/\w.cell? ⟨b,o+2,none⟩=some (.string s)/\w.cell? ⟨b,o+3,none⟩=some (.slice a len cap)/\Hid (ExA B w m [.int .i64 k,.int .i64 n,.string s,.slice a len cap] (l.getD i default))/\l.getD i default ∈ l:=by
 obtain⟨cs,hcl,hcell,x,hx,hex⟩:=hi i h;obtain⟨k,n,s,a,len,cap,rfl⟩:=hex.shape;subst ho;have hx2:l.getD i default=x:=by simp [List.getD_eq_getElem?_getD,hx]
 refine⟨k,n,s,a,len,cap,hcell 0 (by omega),hcell 1 (by omega),hcell 2 (by omega),hcell 3 (by omega),by rw [hx2];exact hex,?_⟩;rw [hx2];exact List.mem_of_getElem? hx
end Go.Proofs.YtppcohadoilpgaaGreatDoor
namespace Go.Proofs.YtppcohadoilpgaaGreatDoor
open Go.RowKit Go.Proofs.Tryz
theorem N8 {n:Int} (h1: -1099511627776<=n) (h2:n<=1099511627776):(vN n).ok:=by
 show vf false n ⟨#[]⟩=0;exact Ahz (by decide) h1 h2
theorem N9 {s:ByteArray} (h:s.size<=200):(vS s).ok:=by
 show vf true 0 s=0;exact Ah3 (by omega)
theorem Mo (b:Bool):(vB b).ok:=by cases b <;> exact N8 (by decide) (by decide)
theorem Vl.ok.may {v:Vl} (h:v.ok):v.s.size<=200 /\ -1099511627776<=v.n/\v.n<=1099511627776:=Agb h
theorem Vl.ok.len {v:Vl} (h:v.ok):v.str.size<=200:=Jy h.may.2.1 h.may.2.2 h.may.1
def OkR (r:R4):Prop:=r.2.2.2=0->vf r.1 r.2.1 r.2.2.1=0
theorem R5 {x:Int} (h1: -1099511627776<=x) (h2:x<=1099511627776):OkR (rN x):=fun _=>N8 h1 h2
theorem Ey {e:Int} (h:e ≠ 0):OkR (Ew e):=fun h0=>absurd h0 h
theorem O0 (x:Int):OkR (bnd x):=by
 unfold bnd;split
 . rename_i h;exact R5 h.1 h.2
 . exact Ey (by decide)
theorem Yq (s t:ByteArray):OkR (Ix s t):=by
 unfold Ix;split
 . rename_i h;intro _;exact N9 (s:=s ++ t) (by simpa [ByteArray.size_append] using h)
 . exact Ey (by decide)
theorem Ach {l:List UInt8} {m n:Int} (h1: -1099511627776<=m) (h2:m<=1099511627776):OkR (Py l m n):=by
 unfold Py;split
 . exact O0 _
 . split
   . exact O0 _
   . split
     . exact O0 _
     . split
       . exact Ey (by decide)
       . split
         . exact R5 (P8 m n h1 h2).1 (P8 m n h1 h2).2
         . exact R5 (Qb m n h1 h2).1 (Qb m n h1 h2).2
theorem Nu (op:ByteArray) (t1:Bool) (n1:Int) (s1:ByteArray) (t2:Bool) (n2:Int) (s2:ByteArray):OkR (D8 op t1 n1 s1 t2 n2 s2):=by
 unfold D8;split
 . exact fun _=>Mo _
 . split
   . exact Yq _ _
   . split
     . rename_i h;exact Ach h.1.1 h.1.2
     . exact Ey (by decide)
theorem Mb {r:R4} {v:Vl} (h:OkR r) (e:Di r = .ok v):v.ok:=by
 unfold Di at e;split at e
 . rename_i h0;cases e;exact h h0
 . cases e
theorem Zz (l:List UInt8) (x y:Int):(M7 l x y).length<=l.length:=by
 unfold M7;simp only [List.length_drop,List.length_take];omega
theorem Ab4 {A:ByteArray} (h:A.size<=200) (t1:Bool) (n1:Int) (s1:ByteArray) (t2:Bool) (n2:Int) (s2:ByteArray):OkR (Wn A t1 n1 s1 t2 n2 s2):=by
 unfold Wn;split
 . intro _;refine N9 (s:=⟨(M7 A.data.toList _ _).toArray⟩) ?_;have:=Zz A.data.toList (Av t1 n1 s1) (Av t2 n2 s2);simp only [ByteArray.size,List.size_toArray];have e:A.data.toList.length=A.size:=by simp
   omega
 . exact Ey (by decide)
theorem Xs {nm:ByteArray} {l:List Vl} (h:∀v ∈ l,v.ok):OkR (Ir nm l):=by
 unfold Ir;split
 . rename_i a;split
   . have:=(h a (by simp)).len;exact R5 (by omega) (by omega)
   . exact Ey (by decide)
 . rename_i a b;split
   . have h1:=(h a (by simp)).len;have h2:=Lib.index_ge a.str.data.toList b.str.data.toList;have h3:=Lib.index_le a.str.data.toList b.str.data.toList;have e:a.str.data.toList.length=a.str.size:=by simp
     exact R5 (by omega) (by omega)
   . exact Ey (by decide)
 . rename_i a b c;split
   . exact Ab4 (h a (by simp)).len _ _ _ _ _ _
   . exact Ey (by decide)
 . exact Ey (by decide)
theorem S8 {l:List ByteArray} (h:∀x ∈ l,x.size<=200) (i:Nat):(l.getD i ⟨#[]⟩).size<=200:=by
 rw [List.getD_eq_getElem?_getD];cases e:l[i]? with
 | none=>exact Nat.zero_le _
 | some y=>exact h y (List.mem_of_getElem? e)
theorem V8 {s:Ms} (hs:Fit s) {v:Vl} {x:ByteArray} (e:Cu s v = .ok x):x.size<=200:=by
 unfold Cu at e;split at e
 . cases e
 . split at e
   . cases e
   . split at e
     . cases e;exact hs.whole
     . cases e;exact S8 hs.flds _
theorem Bq {α β:Type} {a:Except Int α} {f:α->Except Int β} {v:β} (e:a.bind f = .ok v):∃x,a = .ok x/\f x = .ok v:=by
 cases a with
 | error e'=>cases e
 | ok x=>exact⟨x,rfl,e⟩
theorem Il {α β:Type} {f:α->Except Int β}:∀ {l:List α} {r:List β},Cw f l = .ok r->∀v ∈ r,∃x ∈ l,f x = .ok v
 | [],r,e,v,hv=>by cases e;cases hv
 | x :: l,r,e,v,hv=>by
  obtain⟨y,h1,h2⟩:=Bq e;obtain⟨q,h3,h4⟩:=Bq h2;cases h4;rcases List.mem_cons.1 hv with rfl | hv
  . exact⟨x,by simp,h1⟩
  . obtain⟨z,h5,h6⟩:=Il h3 v hv;exact⟨z,by simp [h5],h6⟩
theorem Ae4 {op:ByteArray} {a b:Except Int Vl} {v:Vl} (e:opM op a b = .ok v):v.ok:=by
 unfold opM at e;split at e
 . obtain⟨x,_,h⟩:=Bq e;split at h
   . obtain⟨y,_,h⟩:=Bq h;cases h;exact Mo _
   . cases h;exact Mo _
 . split at e
   . obtain⟨x,_,h⟩:=Bq e;split at h
     . cases h;exact Mo _
     . obtain⟨y,_,h⟩:=Bq h;cases h;exact Mo _
   . obtain⟨x,_,h⟩:=Bq e;obtain⟨y,_,h⟩:=Bq h;exact Mb (Nu _ _ _ _ _ _ _) h
theorem Ve {m:Nat} {l:List Ex} (h:∀x ∈ l,okE m x) {i:Nat} (hi:i<l.length):okE m (l.getD i default):=by
 rw [List.getD_eq_getElem?_getD,gee hi];exact h _ (List.getElem_mem hi)
theorem Tq {k n:Int} {s:ByteArray} {len:Nat} (h:Bt k n s len=true):(len:Int)=D1 k s:=by
 unfold Bt at h;simp only [Bool.and_eq_true,decide_eq_true_eq] at h;exact h.1.2
theorem B4 {s:Ms} (hs:Fit s):∀ {m:Nat} {x:Ex} {v:Vl},okE m x->Ai s m x = .ok v->v.ok:=by
 intro m
 induction m with
 | zero=>intro x v h;exact h.elim
 | succ m ih =>
  intro x v h e;cases x with
  | mk k n t l =>
   obtain⟨h1,h2,h3,h4,h5,h6,h7⟩:=h;have hl:=Tq h3;rw [Ai] at e
   by_cases k1:k=1
   . rw [if_pos k1] at e;cases e;exact N8 (by omega) h6
   rw [if_neg k1] at e
   by_cases k2:k=2
   . rw [if_pos k2] at e;cases e;exact N9 h4
   rw [if_neg k2] at e
   by_cases k3:k=3
   . rw [if_pos k3] at e;cases e;exact hs.vars _
   rw [if_neg k3] at e
   by_cases k4:k=4
   . rw [if_pos k4] at e;obtain⟨x,_,h⟩:=Bq e;obtain⟨y,h8,h9⟩:=Bq h;cases h9;exact N9 (V8 hs h8)
   rw [if_neg k4] at e
   by_cases k5:k=5
   . rw [if_pos k5] at e;obtain⟨x,_,h⟩:=Bq e;cases h;cases h8:Cm x.key (s.lists t) with
     | none=>exact N8 (by decide) (by decide)
     | some y =>
      obtain⟨k',h9⟩:=W7 h8;exact (hs.lists t _ h9).1
   rw [if_neg k5] at e
   by_cases k6:k=6
   . rw [if_pos k6] at e;exact Ae4 e
   rw [if_neg k6] at e
   by_cases k7:k=7
   . rw [if_pos k7] at e;obtain⟨x,_,h⟩:=Bq e;exact Mb (Nu _ _ _ _ _ _ _) h
   rw [if_neg k7] at e
   by_cases k8:k=8
   . rw [if_pos k8] at e;obtain⟨x,_,h⟩:=Bq e;cases h;exact Mo _
   rw [if_neg k8] at e
   by_cases k9:k=9
   . rw [if_pos k9] at e;obtain⟨x,_,h⟩:=Bq e;cases h;exact Mo _
   rw [if_neg k9] at e
   by_cases k10:k=10
   . rw [if_pos k10] at e;have hl3:l.length=3:=by
      rw [k10] at hl;have:D1 10 t=3:=rfl;omega
     obtain⟨x,_,h⟩:=Bq e
     by_cases hx:x.so=true
     . rw [if_pos hx] at h;exact ih (Ve h7 (by omega)) h
     . rw [if_neg hx] at h;exact ih (Ve h7 (by omega)) h
   rw [if_neg k10] at e
   by_cases k11:k=11
   . rw [if_pos k11] at e;obtain⟨vs,h8,h⟩:=Bq e;refine Mb (Xs fun v hv=>?_) h;obtain⟨x,hx,h9⟩:=Il h8 v hv;exact ih (h7 x hx) h9
   rw [if_neg k11] at e;cases e;have h8:=hs.recs;have h9:=hs.nf;split
   . exact N8 (by omega) (by omega)
   . exact N8 (by omega) (by omega)
end Go.Proofs.YtppcohadoilpgaaGreatDoor
namespace Go.Proofs.YtppcohadoilpgaaGreatDoor
open Go.ChangeShapes Go.WideShapes Go.ChangeAt Go.RowKit Go.Joins Go.Maps Go.Proofs.Tryz
set_option maxHeartbeats 400000
set_option linter.unusedVariables false
theorem Do (e:Int) (w:World):Calls prog 106 #[.bool false,.int .i64 e] w fun r w'=>r = .returned (.tuple #[])/\w'=w:=by
 go_enter func106,ntmps106
 go_wp2
 go_end0
 exact⟨rfl,rfl⟩
theorem C1 (e:Int) (w:World):Calls prog 106 #[.bool true,.int .i64 e] w fun r w'=>r = .panicked [Fb e]/\w'=w:=by
 go_enter func106,ntmps106
 go_wp2
 exact⟨rfl,rfl,rfl⟩
theorem F5 (b:Bool) (w:World):Calls prog 140 #[.bool b] w fun e w'=>e = .returned (vlV (vB b))/\Below w.heap.size w w':=by
 cases b
 all_goals go_enter func140,ntmps140
 all_goals go_wp2
 all_goals go_returns
 all_goals exact⟨rfl,by go_grown⟩
theorem Uj (t:Bool) (n:Int) (s:ByteArray) (en:Int) (w:World):Calls prog 138 #[.agg #[.bool t,.int .i64 n,.string s],.int .i64 en] w (Dm w (Di (t,n,s,en))):=by
 by_cases h:en=0
 . have HE:Hid (Di (t,n,s,en) = .ok ⟨t,n,s⟩):=by unfold Hid Di;rw [if_pos h]
   subst h;rw [HE.out];go_enter func138,ntmps138
   go_wp2_with fail
   refine (Do 0 _).mono ?_;rintro e w1 ⟨rfl,hw1⟩;rw [hw1];clear hw1 w1;go_wp2_with fail
   go_returns
   exact⟨by go_grown,rfl⟩
 . have HE:Hid (Di (t,n,s,en) = .error en):=by unfold Hid Di;rw [if_neg h]
   have hb:(en != 0)=true:=by rw [bne_iff_ne];exact h
   rw [HE.out];go_enter func138,ntmps138
   go_wp2_with fail
   refine (C1 en _).mono ?_;rintro e w1 ⟨rfl,hw1⟩;rw [hw1];clear hw1 w1;go_wp2_with fail
   exact⟨rfl,by go_grown,rfl⟩
def Er (m:Nat):Prop:=∀(c:Cx) (O:Own) (w:World) (s:Ms) (j:Nat) (x:Ex) (cs:List Value),Mc c O w s j->ExA c.B w m cs x->okE m x ->
 Calls prog 108 #[.pointer (some ⟨c.r,0,none⟩),.agg cs.toArray] w (Dm w (Ai s m x))
theorem Mw (w:World):(zeroValue 157).run prog w = .ok (vlV (vN 0)) w:=by kernel_rfl
theorem Uv (w:World):(zeroValue 83).run prog w = .ok (.map none) w:=by kernel_rfl
theorem Gz.look {O:Own} {w:World} {b:Nat} {f:ByteArray->Vl} {N:Nat} (h:Gz O w b f N) {t:ByteArray} (ht:t.size<=maxLen) :
 (Instr.lookup 83 (.map (some b)) (.string t) false).run prog w = .ok (.agg #[.bool (f t).t,.int .i64 (f t).n,.string (f t).s]) w:=by
 obtain⟨_,n,D,_,h2,h3⟩:=h;obtain⟨v,ps,hr,hv⟩:=h2.lookup Iy underlying83 (Mw w) rfl (Jj ht);have:=F2 hv;rw [h3] at this;cases this.1;exact hr
theorem Fp.look {O:Own} {w:World} {b:Nat} {f:ByteArray->Tab} {N:Nat} (h:Fp O w b f N) {t:ByteArray} (ht:t.size<=maxLen) :
 ∃q:Option Nat,(∀w',w'.heap[b]? = w.heap[b]? -> (Instr.lookup 84 (.map (some b)) (.string t) false).run prog w' = .ok (.map q) w') /\
  ((q=none/\f t = [])\/∃k,q=some k/\O k=some (.lst t)/\w.ownsMap prog 9 Gh k (f t).length (Em (f t))):=by
 obtain⟨_,n,D,_,h2,h3⟩:=h;have hl:∀w',w'.heap[b]? = w.heap[b]? -> ∃v,(Instr.lookup 84 (.map (some b)) (.string t) false).run prog w' = .ok v w'/\D.atKey (.string t.data.toList) (.held (.map none)) = .held v:=fun w' hw'=>by
  obtain⟨v,ps,hr,hv⟩:=(Aq h2 hw').lookup Iy underlying84 (Uv w') rfl (Jj ht);exact⟨v,hr,(F2 hv).1⟩
 rcases h3 t with⟨h4,h5⟩ | ⟨k,h4,h5,h6⟩
 . refine⟨none,fun w' hw'=>?_,.inl ⟨rfl,h5⟩⟩;obtain⟨v,hr,e⟩:=hl w' hw';rw [h4] at e;cases e;exact hr
 . refine⟨some k,fun w' hw'=>?_,.inr ⟨k,rfl,h5,h6⟩⟩;obtain⟨v,hr,e⟩:=hl w' hw';rw [h4] at e;cases e;exact hr
def Ii (w:World) (q:Option Nat) (t:Tab):Prop:=(q=none/\t = [])\/∃k,q=some k/\w.ownsMap prog 9 Gh k t.length (Em t)
theorem Ii.below {w w':World} {q:Option Nat} {t:Tab} (h:Ii w q t) (hb:Below w.heap.size w w'):Ii w' q t:=h.imp id fun⟨k,h1,h2⟩=>⟨k,h1,Aq h2 (hb.block k h2.lt)⟩
theorem Ii.look {w:World} {q:Option Nat} {t:Tab} (h:Ii w q t) {x:ByteArray} (hx:x.size<=maxLen) :
 (Instr.lookup 83 (.map q) (.string x) false).run prog w = .ok (.agg #[.bool ((Cm x.data.toList t).getD (vN 0)).t,.int .i64 ((Cm x.data.toList t).getD (vN 0)).n,.string ((Cm x.data.toList t).getD (vN 0)).s]) w:=by
 rcases h with⟨rfl,rfl⟩ | ⟨k,rfl,h⟩
 . exact Maps.look_nil false Iy underlying83 (Mw w) (Jj hx)
 . obtain⟨v,ps,hr,hv⟩:=h.lookup Iy underlying83 (Mw w) rfl (Jj hx);have:=F2 hv;rw [Vs] at this;cases this.1;exact hr
theorem Ii.lookOk {w:World} {q:Option Nat} {t:Tab} (h:Ii w q t) {x:ByteArray} (hx:x.size<=maxLen) :
 (Instr.lookup 83 (.map q) (.string x) true).run prog w = .ok (.tuple #[.agg #[.bool ((Cm x.data.toList t).getD (vN 0)).t,.int .i64 ((Cm x.data.toList t).getD (vN 0)).n,.string ((Cm x.data.toList t).getD (vN 0)).s],.bool (Cm x.data.toList t).isSome]) w:=by
 rcases h with⟨rfl,rfl⟩ | ⟨k,rfl,h⟩
 . exact Maps.look_nil true Iy underlying83 (Mw w) (Jj hx)
 . obtain⟨v,ps,hr,hv⟩:=h.look_ok Iy underlying83 (Mw w) rfl (Jj hx);have:=F2 hv;rw [Vs] at this;cases this.1;rw [Z5] at hr;exact hr
theorem Mc.open {c:Cx} {O:Own} {w:World} {s:Ms} {j:Nat} (h:Mc c O w s j):∃bv bl fl ol,Ck c.r w bv bl c.rv c.fv fl ol c.fuel ((c.fuel:Int) - s.left) s.recs s.whole/\Gz O w bv s.vars (400000 - j - s.left)/\Fp O w bl s.lists (400000 - j - s.left)/\Ef O .flds w fl s.flds/\Ef O .outs w ol s.out:=h.mem
end Go.Proofs.YtppcohadoilpgaaGreatDoor
