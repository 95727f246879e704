/-
  The variable MaxLen of internal/bytealg. / Maps in memory whose elements are read as they are; a map from texts to values as a list in the order of its keys: put, delete, look-up, size. / A machine in memory: which block is what for; its cells; what stays while it runs; what its calls may turn. / An element of a list of expressions in memory. / Values that may be: what operators, functions and expressions make of values that may be, may be. / Contracts of the machine's small functions: endIf, sure, truth, burn, count, field. / What asking an expression stands on: its contract as a statement; look-ups in the machine's maps.
-/
import Derived.Test.YtodjbffhlklpkaaGreatDoorGround
import Derived.Test.YtodjbffhlklpkaaGreatDoorMSpec
import Derived.Test.YtodjbffhlklpkaaGreatDoorChk
import Derived.Maps.OwnSet
import Derived.StringKeys
import Derived.Test.YtodjbffhlklpkaaGreatDoorCheckC
import Derived.Laws.AppendOwn
namespace Go.Proofs.YtodjbffhlklpkaaGreatDoor
open Go.ChangeShapes Go.WideShapes Go.ChangeAt Go.RowKit Go.Joins Go.Maps
set_option linter.unusedVariables false
def MxB (B:Nat) (w:World):Prop:=0<B/\∃m,w.cell? ⟨0,0,none⟩=some (.int .i64 m)
theorem MxB.below {B:Nat} {w w':World} (h:MxB B w) (hb:Below B w w'):MxB B w':=by
 obtain⟨h1,m,h2⟩:=h
 exact⟨h1,m,(hb.cell (p:=⟨0,0,none⟩) h1).trans h2⟩
end Go.Proofs.YtodjbffhlklpkaaGreatDoor
namespace Go.Proofs.YtodjbffhlklpkaaGreatDoor
open Go.ChangeShapes Go.WideShapes Go.ChangeAt Go.RowKit Go.Joins Go.Maps Go.WideMaps
set_option linter.unusedVariables false
def anyV (v:Value):Option (DataW Value × List MemPlace):=some (.held v,[])
theorem anyV_inv {v:Value} {d:DataW Value} {ps:List MemPlace} (h:anyV v=some (d,ps)):d = .held v/\ps = []:=by
 simp only [anyV,Option.some.injEq,Prod.mk.injEq] at h
 exact⟨h.1.symm,h.2.symm⟩
def vlV (v:Vl):Value:= .agg #[.bool v.t,.int .i64 v.n,.string v.s]
def tabP (p:List UInt8 × Vl):Lit × DataW Value:=(.string p.1,.held (vlV p.2))
def tabD (t:Tab):DataW Value:= .map (t.map tabP)
theorem tabD_filter (k:List UInt8) (t:Tab):(t.map tabP).filter (fun p=> !p.1.sameKey (.string k))=(tabDel k t).map tabP:=by
 unfold tabDel
 rw [List.filter_map]
 rfl
theorem tabD_ins (x:List UInt8 × Vl):∀t:Tab,DataW.insert (tabP x) (t.map tabP)=(tabIns x t).map tabP
 | []=>rfl
 | y :: r=>by
  have ih:=tabD_ins x r
  simp only [List.map_cons,DataW.insert,tabIns]
  have e:(tabP x).1.before (tabP y).1=bytesBefore x.1 y.1:=rfl
  rw [e]
  by_cases h:bytesBefore x.1 y.1=true
  . rw [if_pos h,if_pos h];rfl
  . rw [if_neg h,if_neg h,ih];rfl
theorem tabD_put (k:List UInt8) (v:Vl) (t:Tab):(tabD t).put (.string k) (.held (vlV v))=tabD (tabPut k v t):=by
 unfold tabD tabPut
 simp only [DataW.put]
 rw [tabD_filter,<-tabD_ins]
 rfl
theorem tabD_del (k:List UInt8) (t:Tab):(tabD t).del (.string k)=tabD (tabDel k t):=by
 unfold tabD
 simp only [DataW.del]
 rw [tabD_filter]
theorem tabD_find (k:List UInt8) (t:Tab):(t.map tabP).find? (fun p=>p.1.sameKey (.string k))=(t.find? fun p=>p.1 == k).map tabP:=by
 rw [List.find?_map]
 rfl
theorem tabD_at (k:List UInt8) (t:Tab):(tabD t).atKey (.string k) (.held (vlV (vN 0))) = .held (vlV ((tabAt k t).getD (vN 0))):=by
 unfold tabD tabAt
 simp only [DataW.atKey]
 rw [tabD_find]
 cases t.find? fun p=>p.1 == k <;> rfl
theorem tabD_has (k:List UInt8) (t:Tab):Maps.has (tabD t) (.string k)=(tabAt k t).isSome:=by
 unfold tabD tabAt
 rw [Maps.has_eq,List.any_map]
 induction t with
 | nil=>rfl
 | cons y r ih =>
  rw [List.any_cons,List.find?_cons,ih]
  have e:((fun p:Lit × DataW Value=>p.1.sameKey (.string k)) ∘ tabP) y=(y.1 == k):=rfl
  rw [e]
  cases y.1 == k <;> simp
theorem tabD_size (t:Tab):Maps.size (tabD t)=t.length:=by
 unfold tabD
 rw [Maps.size_eq,List.length_map]
theorem tabIns_len (x:List UInt8 × Vl):∀t:Tab,(tabIns x t).length=t.length+1
 | []=>rfl
 | y :: r=>by
  have ih:=tabIns_len x r
  simp only [tabIns]
  split
  . rfl
  . simp [ih]
theorem tabDel_len (k:List UInt8) (t:Tab):(tabDel k t).length<=t.length:=List.length_filter_le _ _
theorem tabIns_mem (x y:List UInt8 × Vl):∀t:Tab,y ∈ tabIns x t ↔ y=x\/y ∈ t
 | []=>by simp [tabIns]
 | z :: r=>by
  have ih:=tabIns_mem x y r
  simp only [tabIns]
  split
  . simp
  . simp only [List.mem_cons,ih]
    exact⟨fun h=>h.elim (fun h=> .inr (.inl h)) fun h=>h.elim .inl fun h=> .inr (.inr h),fun h=>h.elim (fun h=> .inr (.inl h)) fun h=>h.elim .inl fun h=> .inr (.inr h)⟩
theorem tabDel_mem {k:List UInt8} {y:List UInt8 × Vl} {t:Tab} (h:y ∈ tabDel k t):y ∈ t:=(List.mem_filter.1 h).1
theorem tabPut_mem {k:List UInt8} {v:Vl} {y:List UInt8 × Vl} {t:Tab} (h:y ∈ tabPut k v t):y=(k,v)\/y ∈ t :=
 ((tabIns_mem _ _ _).1 h).imp id tabDel_mem
theorem tabAt_mem {k:List UInt8} {t:Tab} {v:Vl} (h:tabAt k t=some v):∃k',(k',v) ∈ t:=by
 unfold tabAt at h
 cases e:t.find? fun p=>p.1 == k with
 | none=>rw [e] at h;cases h
 | some p =>
  rw [e] at h
  simp only [Option.map_some,Option.some.injEq] at h
  subst h
  exact⟨p.1,List.mem_of_find?_eq_some e⟩
theorem ownsMap_size {w:World} {b n:Nat} {t:Tab} (h:w.ownsMap Tryz.prog 9 anyV b n (tabD t)):w.ownsMap Tryz.prog 9 anyV b t.length (tabD t):=by
 obtain⟨es,clock,hb,F,hs,hD⟩:=h
 refine⟨es,clock,hb,F,?_,hD⟩
 have e:=congrArg Maps.size hD
 rw [tabD_size,Maps.size_eq,length_sorted,List.length_map] at e
 rw [e]
 simp
theorem lawS:Keyed Tryz.prog 9:=string_keyed Tryz.underlying9
theorem keyS {s:ByteArray} (h:s.size<=maxLen):keyOf Tryz.prog 9 (.string s)=some (.string s.data.toList):=keyOf_string_mk Tryz.underlying9 h
end Go.Proofs.YtodjbffhlklpkaaGreatDoor
namespace Go.Proofs.YtodjbffhlklpkaaGreatDoor
open Go.ChangeShapes Go.WideShapes Go.ChangeAt Go.RowKit Go.Joins Go.Maps
set_option linter.unusedVariables false
inductive Ro where
 | mach | vars | lists | flds | outs
 | lst (nm:ByteArray)
abbrev Own:=Nat->Option Ro
structure Bts (O:Own) (w w':World):Prop where
 os:w'.os=w.os
 tape:w'.tape=w.tape
 output:w'.output=w.output
 size:w.heap.size<=w'.heap.size
 block:∀k,k<w.heap.size->O k=none->w'.heap[k]? = w.heap[k]?
theorem Bts.refl (O:Own) (w:World):Bts O w w:=⟨rfl,rfl,rfl,Nat.le_refl _,fun _ _ _=>rfl⟩
theorem Bts.of_below {O:Own} {w w':World} (h:Below w.heap.size w w'):Bts O w w':=⟨h.os,h.tape,h.output,h.size,fun k hk _=>h.block k hk⟩
def Gr (w:World) (O O':Own):Prop:=∀b,b<w.heap.size->O b=none->O' b=none
theorem Gr.refl (w:World) (O:Own):Gr w O O:=fun _ _ h=>h
theorem Gr.trans {w w':World} {O O' O'':Own} (h:Gr w O O') (k:Gr w' O' O'') (hs:w.heap.size<=w'.heap.size):Gr w O O'':=fun b hb h0=>k b (Nat.lt_of_lt_of_le hb hs) (h b hb h0)
theorem Bts.trans {O O':Own} {a b c:World} (h:Bts O a b) (k:Bts O' b c) (g:Gr a O O'):Bts O a c :=
 ⟨k.os.trans h.os,k.tape.trans h.tape,k.output.trans h.output,Nat.le_trans h.size k.size,fun i hi h0=>(k.block i (Nat.lt_of_lt_of_le hi h.size) (g i hi h0)).trans (h.block i hi h0)⟩
theorem Bts.more {O:Own} {a w w':World} (h:Bts O a w) (k:Below w.heap.size w w'):Bts O a w':=h.trans (Bts.of_below (O:=O) k) (Gr.refl _ _)
theorem Bts.alloc {O:Own} {a w:World} (h:Bts O a w) (o:Obj):Bts O a (w.alloc o):=h.more ((Below.refl _ _).alloc (Nat.le_refl _) o)
theorem Bts.below {O:Own} {B:Nat} {w w':World} (h:Bts O w w') (hs:B<=w.heap.size) (hB:∀b,b<B->O b=none):Below B w w' :=
 ⟨h.os,h.tape,h.output,h.size,fun k hk=>h.block k (by omega) (hB k hk)⟩
theorem Bts.cell {O:Own} {w w':World} (h:Bts O w w') {b:Nat} (hb:b<w.heap.size) (h0:O b=none) (o:Nat):w'.cell? ⟨b,o,none⟩=w.cell? ⟨b,o,none⟩ :=
 World.cell?_of_block (a:=⟨b,o,none⟩) (h.block b hb h0)
theorem Bts.set {O:Own} {a w:World} {b:Nat} {x:Ro} (h:Bts O a w) (hb:O b=some x) (o:Nat) (v:Value):Bts O a (w.setCell ⟨b,o,none⟩ v) :=
 ⟨h.os,h.tape,h.output,(by simp [World.setCell,h.size]),fun k hk h0=>(Below.heap_setCell _ _ _ _ (by
  simp only
  intro e
  rw [e] at h0
  rw [h0] at hb
  cases hb)).trans (h.block k hk h0)⟩
theorem Bts.grown {O:Own} {a w w':World} {q:Option Nat} (h:Bts O a w) (hq:∀b,q=some b->(∃x,O b=some x)\/a.heap.size<=b) (hg:w.grownBy w' q):Bts O a w' :=
 ⟨hg.os.trans h.os,hg.tape.trans h.tape,hg.output.trans h.output,Nat.le_trans h.size hg.size,fun k hk h0=>(hg.block k (Nat.lt_of_lt_of_le hk h.size) (fun e=>by
  rcases hq k e.symm with⟨x,hx⟩ | hx
  . rw [h0] at hx;cases hx
  . omega)).trans (h.block k hk h0)⟩
structure Cx where
 r:Nat
 B:Nat
 fuel:Nat
 m:Nat
 F:List Fl
 R:List Ru
 rv:Value
 fv:Value
structure Lo (c:Cx) (w:World):Prop where
 pw:PowB c.B w
 mx:MxB c.B w
 rules:Sl w c.B 7 c.rv c.R.length (fun i cs=>∃x,c.R[i]? = some x/\RuA c.B w c.m cs x)
 ok:∀r ∈ c.R,okR c.m r
 files:FlL w c.B c.fv c.F
 fine:∀f ∈ c.F,f.lines.length<=100/\∀l ∈ f.lines,l.size<=200
 fuel:c.fuel<=200000
 size:c.B<=w.heap.size
theorem Lo.below {c:Cx} {w w':World} (h:Lo c w) (hb:Below c.B w w'):Lo c w' :=
 ⟨h.pw.low hb.block,h.mx.below hb,h.rules.below hb fun _ _ ⟨x,hx,he⟩=>⟨x,hx,he.below hb⟩,h.ok,h.files.below hb,h.fine,h.fuel,Nat.le_trans h.size hb.size⟩
structure Fit (s:Ms):Prop where
 vars:∀nm,(s.vars nm).ok
 lists:∀nm,∀p ∈ s.lists nm,p.2.ok/\p.1.length<=200
 few:∀nm,(s.lists nm).length<=100
 whole:s.whole.size<=200
 flds:∀x ∈ s.flds,x.size<=200
 nf:s.flds.length<=200
 recs:s.recs<=200
 out:s.out.length<=2000
 outs:∀x ∈ s.out,x.size<=200
def VarsAt (O:Own) (w:World) (b:Nat) (f:ByteArray->Vl) (N:Nat):Prop :=
 O b=some .vars/\∃n D,n<=N/\w.ownsMap Tryz.prog 9 anyV b n D/\∀x:ByteArray,D.atKey (.string x.data.toList) (.held (vlV (vN 0))) = .held (vlV (f x))
def ListAt (O:Own) (w:World) (D:DataW Value) (x:ByteArray) (t:Tab):Prop :=
 (D.atKey (.string x.data.toList) (.held (.map none)) = .held (.map none)/\t = []) \/
  ∃k,D.atKey (.string x.data.toList) (.held (.map none)) = .held (.map (some k))/\O k=some (.lst x)/\w.ownsMap Tryz.prog 9 anyV k t.length (tabD t)
def ListsAt (O:Own) (w:World) (b:Nat) (f:ByteArray->Tab) (N:Nat):Prop :=
 O b=some .lists/\∃n D,n<=N/\w.ownsMap Tryz.prog 9 anyV b n D/\∀x:ByteArray,ListAt O w D x (f x)
def RowIs (O:Own) (ro:Ro) (w:World) (v:Value) (l:List ByteArray):Prop :=
 w.ownsRow 0 9 1 v l.length (l.map Value.string)/\∀b,v.ownBlock=some b->O b=some ro
theorem VarsAt.stays {O O':Own} {w w':World} {b:Nat} {f:ByteArray->Vl} {N:Nat} (h:VarsAt O w b f N) (hb:∀k,O k=some .vars->k<w.heap.size->O' k=some .vars/\w'.heap[k]? = w.heap[k]?):VarsAt O' w' b f N:=by
 obtain⟨h0,n,D,h1,h2,h3⟩:=h
 obtain⟨h4,h5⟩:=hb b h0 h2.lt
 exact⟨h4,n,D,h1,ownsMap_block h2 h5,h3⟩
theorem ListsAt.stays {O O':Own} {w w':World} {b:Nat} {f:ByteArray->Tab} {N:Nat} (h:ListsAt O w b f N) (hb:∀k,O k=some .lists->k<w.heap.size->O' k=some .lists/\w'.heap[k]? = w.heap[k]?)
 (hl:∀k x,O k=some (.lst x)->k<w.heap.size->O' k=some (.lst x)/\w'.heap[k]? = w.heap[k]?):ListsAt O' w' b f N:=by
 obtain⟨h0,n,D,h1,h2,h3⟩:=h
 obtain⟨h4,h5⟩:=hb b h0 h2.lt
 refine⟨h4,n,D,h1,ownsMap_block h2 h5,fun x=>(h3 x).imp id ?_⟩
 rintro ⟨k,h6,h7,h8⟩
 obtain⟨h9,h10⟩:=hl k x h7 h8.lt
 exact⟨k,h6,h9,ownsMap_block h8 h10⟩
theorem ownsRow_block {w w':World} {base e size n:Nat} {v:Value} {xs:List Value} (h:w.ownsRow base e size v n xs) (hb:∀b,v.ownBlock=some b->w'.heap[b]? = w.heap[b]?):w'.ownsRow base e size v n xs:=by
 obtain⟨h1,h2⟩:=h
 refine⟨h1,h2.imp id ?_⟩
 rintro ⟨g,cap,cur,rfl,h3,h4,h5⟩
 exact⟨g,cap,cur,rfl,h3,(hb g rfl).trans h4,h5⟩
theorem RowIs.stays {O O':Own} {ro:Ro} {w w':World} {v:Value} {l:List ByteArray} (h:RowIs O ro w v l) (hb:∀k,O k=some ro->k<w.heap.size->O' k=some ro/\w'.heap[k]? = w.heap[k]?):RowIs O' ro w' v l :=
 ⟨ownsRow_block h.1 fun b e=>(hb b (h.2 b e) (h.1.lt b e).2).2,fun b e=>(hb b (h.2 b e) (h.1.lt b e).2).1⟩
structure Cells (r:Nat) (w:World) (bv bl:Nat) (rv fv fl ol:Value) (fuel used recs:Int) (whole:ByteArray):Prop where
 c0:w.cell? ⟨r,0,none⟩=some (.map (some bv))
 c1:w.cell? ⟨r,1,none⟩=some (.map (some bl))
 c2:w.cell? ⟨r,2,none⟩=some rv
 c3:w.cell? ⟨r,3,none⟩=some fv
 c4:w.cell? ⟨r,4,none⟩=some (.int .i64 fuel)
 c5:w.cell? ⟨r,5,none⟩=some (.string whole)
 c6:w.cell? ⟨r,6,none⟩=some fl
 c7:w.cell? ⟨r,7,none⟩=some (.int .i64 recs)
 c8:w.cell? ⟨r,8,none⟩=some ol
 c9:w.cell? ⟨r,9,none⟩=some (.int .i64 0)
 c10:w.cell? ⟨r,10,none⟩=some (.int .i64 used)
 thaw:∀o,w.frozen? ⟨r,o,none⟩=false
theorem Cells.lt {r:Nat} {w:World} {bv bl:Nat} {rv fv fl ol:Value} {fuel used recs:Int} {whole:ByteArray} (h:Cells r w bv bl rv fv fl ol fuel used recs whole):r<w.heap.size:=World.block_lt_of_cell? w ⟨r,0,none⟩ h.c0
theorem Cells.stays {r:Nat} {w w':World} {bv bl:Nat} {rv fv fl ol:Value} {fuel used recs:Int} {whole:ByteArray} (h:Cells r w bv bl rv fv fl ol fuel used recs whole) (hb:w'.heap[r]? = w.heap[r]?):Cells r w' bv bl rv fv fl ol fuel used recs whole:=by
 have e:∀o,w'.cell? ⟨r,o,none⟩=w.cell? ⟨r,o,none⟩:=fun o=>World.cell?_of_block (a:=⟨r,o,none⟩) hb
 exact⟨(e _).trans h.c0,(e _).trans h.c1,(e _).trans h.c2,(e _).trans h.c3,(e _).trans h.c4,(e _).trans h.c5,(e _).trans h.c6,(e _).trans h.c7,(e _).trans h.c8,(e _).trans h.c9,(e _).trans h.c10,fun o=>(World.frozen?_of_block (a:=⟨r,o,none⟩) hb).trans (h.thaw o)⟩
structure Mc (c:Cx) (O:Own) (w:World) (s:Ms) (j:Nat):Prop where
 own:O c.r=some .mach
 low:∀b,b<c.B->O b=none
 top:∀b,w.heap.size<=b->O b=none
 lo:Lo c w
 fit:Fit s
 left:s.left<=c.fuel
 mem:∃bv bl fl ol,Cells c.r w bv bl c.rv c.fv fl ol c.fuel ((c.fuel:Int) - s.left) s.recs s.whole/\VarsAt O w bv s.vars (400000 - j - s.left)/\ListsAt O w bl s.lists (400000 - j - s.left)/\RowIs O .flds w fl s.flds/\RowIs O .outs w ol s.out
 room:j+s.left<=400000
def Ou (c:Cx) (O:Own) (w:World) (out:List ByteArray) (left:Nat):Prop :=
 O c.r=some .mach/\(∀b,b<c.B->O b=none)/\left<=c.fuel/\∃bv bl fl ol recs whole,Cells c.r w bv bl c.rv c.fv fl ol c.fuel ((c.fuel:Int) - left) recs whole/\RowIs O .outs w ol out/\out.length<=2000/\∀x ∈ out,x.size<=200
theorem Mc.lt {c:Cx} {O:Own} {w:World} {s:Ms} {j:Nat} (h:Mc c O w s j):c.r<w.heap.size:=by
 obtain⟨_,_,_,_,h1,_⟩:=h.mem
 exact h1.lt
theorem Mc.ou {c:Cx} {O:Own} {w:World} {s:Ms} {j:Nat} (h:Mc c O w s j):Ou c O w s.out s.left:=by
 obtain⟨bv,bl,fl,ol,h1,_,_,_,h5⟩:=h.mem
 exact⟨h.own,h.low,h.left,bv,bl,fl,ol,_,_,h1,h5,h.fit.out,h.fit.outs⟩
theorem Mc.stays {c:Cx} {O O':Own} {w w':World} {s:Ms} {j:Nat} (h:Mc c O w s j) (hb:Below c.B w w') (hO:∀b,b<c.B->O' b=none) (hT:∀b,w'.heap.size<=b->O' b=none) (hk:∀k x,O k=some x->k<w.heap.size->O' k=some x/\w'.heap[k]? = w.heap[k]?):Mc c O' w' s j:=by
 obtain⟨bv,bl,fl,ol,h1,h2,h3,h4,h5⟩:=h.mem
 have hr:=hk c.r _ h.own h1.lt
 exact⟨hr.1,hO,hT,h.lo.below hb,h.fit,h.left,⟨bv,bl,fl,ol,h1.stays hr.2,h2.stays fun k e l=>hk k _ e l,h3.stays (fun k e l=>hk k _ e l) fun k x e l=>hk k _ e l,h4.stays fun k e l=>hk k _ e l,h5.stays fun k e l=>hk k _ e l⟩,h.room⟩
theorem Mc.below {c:Cx} {O:Own} {w w':World} {s:Ms} {j:Nat} (h:Mc c O w s j) (hb:Below w.heap.size w w'):Mc c O w' s j :=
 h.stays (hb.mono h.lo.size) h.low (fun b hb'=>h.top b (Nat.le_trans hb.size hb')) fun k x e l=>⟨e,hb.block k l⟩
theorem Mc.alloc {c:Cx} {O:Own} {w:World} {s:Ms} {j:Nat} (h:Mc c O w s j) (o:Obj):Mc c O (w.alloc o) s j:=h.below ((Below.refl _ _).alloc (Nat.le_refl _) o)
theorem Ou.below {c:Cx} {O:Own} {w w':World} {out:List ByteArray} {left:Nat} (h:Ou c O w out left) (hb:Below w.heap.size w w'):Ou c O w' out left:=by
 obtain⟨h0,h1,h2,bv,bl,fl,ol,recs,whole,h3,h4,h5⟩:=h
 exact⟨h0,h1,h2,bv,bl,fl,ol,recs,whole,h3.stays (hb.block _ h3.lt),h4.stays fun k e l=>⟨e,hb.block k l⟩,h5⟩
def endP (e:Int):PanicEntry:={ v:= .iface 118 (.int .i64 e),recovered:=false }
def AskAs {α:Type} (w:World) (R:Except Int α) (K:α->Value) (e:Ending) (w':World):Prop :=
 Below w.heap.size w w'/\match R with
  | .ok v=>e = .returned (K v)
  | .error er=>e = .panicked [endP er]
abbrev AskOut (w:World) (R:Except Int Vl):Ending->World->Prop:=AskAs w R vlV
end Go.Proofs.YtodjbffhlklpkaaGreatDoor
namespace Go.Proofs.YtodjbffhlklpkaaGreatDoor
open Go.ChangeShapes Go.WideShapes Go.ChangeAt Go.RowKit Go.Joins
set_option linter.unusedVariables false
theorem kid {B m b off:Nat} {w:World} {l:List Ex} (hi:∀i,i<l.length->∃cs:List Value,cs.length=4/\(∀j,j<4->w.cell? ⟨b,off+i * 4+j,none⟩=cs[j]?)/\∃x,l[i]? = some x/\ExA B w m cs x) (i o:Nat) (ho:off+i * 4=o) (h:i<l.length) :
 ∃(k n:Int) (s:ByteArray) (a:Option Addr) (len cap:Nat),w.cell? ⟨b,o,none⟩=some (.int .i64 k)/\w.cell? ⟨b,o+1,none⟩=some (.int .i64 n)/\w.cell? ⟨b,o+2,none⟩=some (.string s)/\w.cell? ⟨b,o+3,none⟩=some (.slice a len cap)/\Hid (ExA B w m [.int .i64 k,.int .i64 n,.string s,.slice a len cap] (l.getD i default))/\l.getD i default ∈ l:=by
 obtain⟨cs,hcl,hcell,x,hx,hex⟩:=hi i h
 obtain⟨k,n,s,a,len,cap,rfl⟩:=hex.shape
 subst ho
 have hx2:l.getD i default=x:=by simp [List.getD_eq_getElem?_getD,hx]
 refine⟨k,n,s,a,len,cap,hcell 0 (by omega),hcell 1 (by omega),hcell 2 (by omega),hcell 3 (by omega),by rw [hx2];exact hex,?_⟩
 rw [hx2]
 exact List.mem_of_getElem? hx
end Go.Proofs.YtodjbffhlklpkaaGreatDoor
namespace Go.Proofs.YtodjbffhlklpkaaGreatDoor
open Go.RowKit
theorem vN_ok {n:Int} (h1: -1099511627776<=n) (h2:n<=1099511627776):(vN n).ok:=by
 show vf false n ⟨#[]⟩=0
 exact vf_f0 (by decide) h1 h2
theorem vS_ok {s:ByteArray} (h:s.size<=200):(vS s).ok:=by
 show vf true 0 s=0
 exact vf_t0 (by omega)
theorem vB_ok (b:Bool):(vB b).ok:=by cases b <;> exact vN_ok (by decide) (by decide)
theorem Vl.ok.may {v:Vl} (h:v.ok):v.s.size<=200 /\ -1099511627776<=v.n/\v.n<=1099511627776:=vf_may h
theorem Vl.ok.len {v:Vl} (h:v.ok):v.str.size<=200:=strOf_len h.may.2.1 h.may.2.2 h.may.1
def OkR (r:R4):Prop:=r.2.2.2=0->vf r.1 r.2.1 r.2.2.1=0
theorem rN_ok {x:Int} (h1: -1099511627776<=x) (h2:x<=1099511627776):OkR (rN x):=fun _=>vN_ok h1 h2
theorem rEnd_ok {e:Int} (h:e ≠ 0):OkR (rEnd e):=fun h0=>absurd h0 h
theorem bnd_okR (x:Int):OkR (bnd x):=by
 unfold bnd
 split
 . rename_i h;exact rN_ok h.1 h.2
 . exact rEnd_ok (by decide)
theorem joinR_ok (s t:ByteArray):OkR (joinR s t):=by
 unfold joinR
 split
 . rename_i h
   intro _
   exact vS_ok (s:=s ++ t) (by simpa [ByteArray.size_append] using h)
 . exact rEnd_ok (by decide)
theorem reck_ok {l:List UInt8} {m n:Int} (h1: -1099511627776<=m) (h2:m<=1099511627776):OkR (reck l m n):=by
 unfold reck
 split
 . exact bnd_okR _
 . split
   . exact bnd_okR _
   . split
     . exact bnd_okR _
     . split
       . exact rEnd_ok (by decide)
       . split
         . exact rN_ok (tdiv_bd m n h1 h2).1 (tdiv_bd m n h1 h2).2
         . exact rN_ok (tmod_bd m n h1 h2).1 (tmod_bd m n h1 h2).2
theorem opSpec_ok (op:ByteArray) (t1:Bool) (n1:Int) (s1:ByteArray) (t2:Bool) (n2:Int) (s2:ByteArray):OkR (opSpec op t1 n1 s1 t2 n2 s2):=by
 unfold opSpec
 split
 . exact fun _=>vB_ok _
 . split
   . exact joinR_ok _ _
   . split
     . rename_i h;exact reck_ok h.1.1 h.1.2
     . exact rEnd_ok (by decide)
theorem sureM_ok {r:R4} {v:Vl} (h:OkR r) (e:sureM r = .ok v):v.ok:=by
 unfold sureM at e
 split at e
 . rename_i h0
   cases e
   exact h h0
 . cases e
theorem subL_len (l:List UInt8) (x y:Int):(subL l x y).length<=l.length:=by
 unfold subL
 simp only [List.length_drop,List.length_take]
 omega
theorem pceR_ok {A:ByteArray} (h:A.size<=200) (t1:Bool) (n1:Int) (s1:ByteArray) (t2:Bool) (n2:Int) (s2:ByteArray):OkR (pceR A t1 n1 s1 t2 n2 s2):=by
 unfold pceR
 split
 . intro _
   refine vS_ok (s:=⟨(subL A.data.toList _ _).toArray⟩) ?_
   have:=subL_len A.data.toList (numOf t1 n1 s1) (numOf t2 n2 s2)
   simp only [ByteArray.size,List.size_toArray]
   have e:A.data.toList.length=A.size:=by simp
   omega
 . exact rEnd_ok (by decide)
theorem callM_ok {nm:ByteArray} {l:List Vl} (h:∀v ∈ l,v.ok):OkR (callM nm l):=by
 unfold callM
 split
 . rename_i a
   split
   . have:=(h a (by simp)).len
     exact rN_ok (by omega) (by omega)
   . exact rEnd_ok (by decide)
 . rename_i a b
   split
   . have h1:=(h a (by simp)).len
     have h2:=Lib.index_ge a.str.data.toList b.str.data.toList
     have h3:=Lib.index_le a.str.data.toList b.str.data.toList
     have e:a.str.data.toList.length=a.str.size:=by simp
     exact rN_ok (by omega) (by omega)
   . exact rEnd_ok (by decide)
 . rename_i a b c
   split
   . exact pceR_ok (h a (by simp)).len _ _ _ _ _ _
   . exact rEnd_ok (by decide)
 . exact rEnd_ok (by decide)
theorem getD_small {l:List ByteArray} (h:∀x ∈ l,x.size<=200) (i:Nat):(l.getD i ⟨#[]⟩).size<=200:=by
 rw [List.getD_eq_getElem?_getD]
 cases e:l[i]? with
 | none=>exact Nat.zero_le _
 | some y=>exact h y (List.mem_of_getElem? e)
theorem fieldM_ok {s:Ms} (hs:Fit s) {v:Vl} {x:ByteArray} (e:fieldM s v = .ok x):x.size<=200:=by
 unfold fieldM at e
 split at e
 . cases e
 . split at e
   . cases e
   . split at e
     . cases e;exact hs.whole
     . cases e
       exact getD_small hs.flds _
theorem bind_ok {α β:Type} {a:Except Int α} {f:α->Except Int β} {v:β} (e:a.bind f = .ok v):∃x,a = .ok x/\f x = .ok v:=by
 cases a with
 | error e'=>cases e
 | ok x=>exact⟨x,rfl,e⟩
theorem allM_mem {α β:Type} {f:α->Except Int β}:∀ {l:List α} {r:List β},allM f l = .ok r->∀v ∈ r,∃x ∈ l,f x = .ok v
 | [],r,e,v,hv=>by cases e;cases hv
 | x :: l,r,e,v,hv=>by
  obtain⟨y,h1,h2⟩:=bind_ok e
  obtain⟨q,h3,h4⟩:=bind_ok h2
  cases h4
  rcases List.mem_cons.1 hv with rfl | hv
  . exact⟨x,by simp,h1⟩
  . obtain⟨z,h5,h6⟩:=allM_mem h3 v hv
    exact⟨z,by simp [h5],h6⟩
theorem opM_ok {op:ByteArray} {a b:Except Int Vl} {v:Vl} (e:opM op a b = .ok v):v.ok:=by
 unfold opM at e
 split at e
 . obtain⟨x,_,h⟩:=bind_ok e
   split at h
   . obtain⟨y,_,h⟩:=bind_ok h
     cases h;exact vB_ok _
   . cases h;exact vB_ok _
 . split at e
   . obtain⟨x,_,h⟩:=bind_ok e
     split at h
     . cases h;exact vB_ok _
     . obtain⟨y,_,h⟩:=bind_ok h
       cases h;exact vB_ok _
   . obtain⟨x,_,h⟩:=bind_ok e
     obtain⟨y,_,h⟩:=bind_ok h
     exact sureM_ok (opSpec_ok _ _ _ _ _ _ _) h
theorem getD_ok {m:Nat} {l:List Ex} (h:∀x ∈ l,okE m x) {i:Nat} (hi:i<l.length):okE m (l.getD i default):=by
 rw [List.getD_eq_getElem?_getD,List.getElem?_eq_getElem hi]
 exact h _ (List.getElem_mem hi)
theorem partsE_len {k n:Int} {s:ByteArray} {len:Nat} (h:partsE k n s len=true):(len:Int)=argsN k s:=by
 unfold partsE at h
 simp only [Bool.and_eq_true,decide_eq_true_eq] at h
 exact h.1.2
theorem askM_ok {s:Ms} (hs:Fit s):∀ {m:Nat} {x:Ex} {v:Vl},okE m x->askM s m x = .ok v->v.ok:=by
 intro m
 induction m with
 | zero=>intro x v h;exact h.elim
 | succ m ih =>
  intro x v h e
  cases x with
  | mk k n t l =>
   obtain⟨h1,h2,h3,h4,h5,h6,h7⟩:=h
   have hl:=partsE_len h3
   rw [askM] at e
   by_cases k1:k=1
   . rw [if_pos k1] at e;cases e;exact vN_ok (by omega) h6
   rw [if_neg k1] at e
   by_cases k2:k=2
   . rw [if_pos k2] at e;cases e;exact vS_ok h4
   rw [if_neg k2] at e
   by_cases k3:k=3
   . rw [if_pos k3] at e;cases e;exact hs.vars _
   rw [if_neg k3] at e
   by_cases k4:k=4
   . rw [if_pos k4] at e
     obtain⟨x,_,h⟩:=bind_ok e
     obtain⟨y,h8,h9⟩:=bind_ok h
     cases h9;exact vS_ok (fieldM_ok hs h8)
   rw [if_neg k4] at e
   by_cases k5:k=5
   . rw [if_pos k5] at e
     obtain⟨x,_,h⟩:=bind_ok e
     cases h
     cases h8:tabAt x.key (s.lists t) with
     | none=>exact vN_ok (by decide) (by decide)
     | some y =>
      obtain⟨k',h9⟩:=tabAt_mem h8
      exact (hs.lists t _ h9).1
   rw [if_neg k5] at e
   by_cases k6:k=6
   . rw [if_pos k6] at e;exact opM_ok e
   rw [if_neg k6] at e
   by_cases k7:k=7
   . rw [if_pos k7] at e
     obtain⟨x,_,h⟩:=bind_ok e
     exact sureM_ok (opSpec_ok _ _ _ _ _ _ _) h
   rw [if_neg k7] at e
   by_cases k8:k=8
   . rw [if_pos k8] at e
     obtain⟨x,_,h⟩:=bind_ok e
     cases h;exact vB_ok _
   rw [if_neg k8] at e
   by_cases k9:k=9
   . rw [if_pos k9] at e
     obtain⟨x,_,h⟩:=bind_ok e
     cases h;exact vB_ok _
   rw [if_neg k9] at e
   by_cases k10:k=10
   . rw [if_pos k10] at e
     have hl3:l.length=3:=by
      rw [k10] at hl
      have:argsN 10 t=3:=rfl
      omega
     obtain⟨x,_,h⟩:=bind_ok e
     by_cases hx:x.so=true
     . rw [if_pos hx] at h;exact ih (getD_ok h7 (by omega)) h
     . rw [if_neg hx] at h;exact ih (getD_ok h7 (by omega)) h
   rw [if_neg k10] at e
   by_cases k11:k=11
   . rw [if_pos k11] at e
     obtain⟨vs,h8,h⟩:=bind_ok e
     refine sureM_ok (callM_ok fun v hv=>?_) h
     obtain⟨x,hx,h9⟩:=allM_mem h8 v hv
     exact ih (h7 x hx) h9
   rw [if_neg k11] at e
   cases e
   have h8:=hs.recs
   have h9:=hs.nf
   split
   . exact vN_ok (by omega) (by omega)
   . exact vN_ok (by omega) (by omega)
end Go.Proofs.YtodjbffhlklpkaaGreatDoor
namespace Go.Proofs.YtodjbffhlklpkaaGreatDoor
open Go.ChangeShapes Go.WideShapes Go.ChangeAt Go.RowKit Go.Joins Go.Maps
set_option maxHeartbeats 400000
set_option linter.unusedVariables false
theorem endIf_f (e:Int) (w:World):Calls Tryz.prog 124 #[.bool false,.int .i64 e] w fun r w'=>r = .returned (.tuple #[])/\w'=w:=by
 go_enter Tryz.func124,Tryz.ntmps124
 go_wp2
 go_end0
 exact⟨rfl,rfl⟩
theorem endIf_t (e:Int) (w:World):Calls Tryz.prog 124 #[.bool true,.int .i64 e] w fun r w'=>r = .panicked [endP e]/\w'=w:=by
 go_enter Tryz.func124,Tryz.ntmps124
 go_wp2
 exact⟨rfl,rfl,rfl⟩
theorem mtruth_c (b:Bool) (w:World):Calls Tryz.prog 154 #[.bool b] w fun e w'=>e = .returned (vlV (vB b))/\Below w.heap.size w w':=by
 cases b
 all_goals go_enter Tryz.func154,Tryz.ntmps154
 all_goals go_wp2
 all_goals go_returns
 all_goals exact⟨rfl,by go_grown⟩
theorem sure_c (t:Bool) (n:Int) (s:ByteArray) (en:Int) (w:World):Calls Tryz.prog 152 #[.agg #[.bool t,.int .i64 n,.string s],.int .i64 en] w (AskOut w (sureM (t,n,s,en))):=by
 by_cases h:en=0
 . have HE:Hid (sureM (t,n,s,en) = .ok ⟨t,n,s⟩):=by unfold Hid sureM;rw [if_pos h]
   subst h
   rw [HE.out]
   go_enter Tryz.func152,Tryz.ntmps152
   go_wp2_with fail
   refine (endIf_f 0 _).mono ?_
   rintro e w1 ⟨rfl,hw1⟩
   rw [hw1]
   clear hw1 w1
   go_wp2_with fail
   go_returns
   exact⟨by go_grown,rfl⟩
 . have HE:Hid (sureM (t,n,s,en) = .error en):=by unfold Hid sureM;rw [if_neg h]
   have hb:(en != 0)=true:=by rw [bne_iff_ne];exact h
   rw [HE.out]
   go_enter Tryz.func152,Tryz.ntmps152
   go_wp2_with fail
   refine (endIf_t en _).mono ?_
   rintro e w1 ⟨rfl,hw1⟩
   rw [hw1]
   clear hw1 w1
   go_wp2_with fail
   exact⟨rfl,by go_grown,rfl⟩
def AskC (m:Nat):Prop:=∀(c:Cx) (O:Own) (w:World) (s:Ms) (j:Nat) (x:Ex) (cs:List Value),Mc c O w s j->ExA c.B w m cs x->okE m x ->
 Calls Tryz.prog 126 #[.pointer (some ⟨c.r,0,none⟩),.agg cs.toArray] w (AskOut w (askM s m x))
theorem zeroVl (w:World):(zeroValue 172).run Tryz.prog w = .ok (vlV (vN 0)) w:=by kernel_rfl
theorem zeroMp (w:World):(zeroValue 92).run Tryz.prog w = .ok (.map none) w:=by kernel_rfl
theorem VarsAt.look {O:Own} {w:World} {b:Nat} {f:ByteArray->Vl} {N:Nat} (h:VarsAt O w b f N) {t:ByteArray} (ht:t.size<=maxLen) :
 (Instr.lookup 92 (.map (some b)) (.string t) false).run Tryz.prog w = .ok (.agg #[.bool (f t).t,.int .i64 (f t).n,.string (f t).s]) w:=by
 obtain⟨_,n,D,_,h2,h3⟩:=h
 obtain⟨v,ps,hr,hv⟩:=h2.lookup lawS Tryz.underlying92 (zeroVl w) rfl (keyS ht)
 have:=anyV_inv hv
 rw [h3] at this
 cases this.1
 exact hr
theorem ListsAt.look {O:Own} {w:World} {b:Nat} {f:ByteArray->Tab} {N:Nat} (h:ListsAt O w b f N) {t:ByteArray} (ht:t.size<=maxLen) :
 ∃q:Option Nat,(∀w',w'.heap[b]? = w.heap[b]? -> (Instr.lookup 93 (.map (some b)) (.string t) false).run Tryz.prog w' = .ok (.map q) w') /\
  ((q=none/\f t = [])\/∃k,q=some k/\O k=some (.lst t)/\w.ownsMap Tryz.prog 9 anyV k (f t).length (tabD (f t))):=by
 obtain⟨_,n,D,_,h2,h3⟩:=h
 have hl:∀w',w'.heap[b]? = w.heap[b]? -> ∃v,(Instr.lookup 93 (.map (some b)) (.string t) false).run Tryz.prog w' = .ok v w'/\D.atKey (.string t.data.toList) (.held (.map none)) = .held v:=fun w' hw'=>by
  obtain⟨v,ps,hr,hv⟩:=(ownsMap_block h2 hw').lookup lawS Tryz.underlying93 (zeroMp w') rfl (keyS ht)
  exact⟨v,hr,(anyV_inv hv).1⟩
 rcases h3 t with⟨h4,h5⟩ | ⟨k,h4,h5,h6⟩
 . refine⟨none,fun w' hw'=>?_,.inl ⟨rfl,h5⟩⟩
   obtain⟨v,hr,e⟩:=hl w' hw'
   rw [h4] at e
   cases e
   exact hr
 . refine⟨some k,fun w' hw'=>?_,.inr ⟨k,rfl,h5,h6⟩⟩
   obtain⟨v,hr,e⟩:=hl w' hw'
   rw [h4] at e
   cases e
   exact hr
def LstAt (w:World) (q:Option Nat) (t:Tab):Prop:=(q=none/\t = [])\/∃k,q=some k/\w.ownsMap Tryz.prog 9 anyV k t.length (tabD t)
theorem LstAt.below {w w':World} {q:Option Nat} {t:Tab} (h:LstAt w q t) (hb:Below w.heap.size w w'):LstAt w' q t:=h.imp id fun⟨k,h1,h2⟩=>⟨k,h1,ownsMap_block h2 (hb.block k h2.lt)⟩
theorem LstAt.look {w:World} {q:Option Nat} {t:Tab} (h:LstAt w q t) {x:ByteArray} (hx:x.size<=maxLen) :
 (Instr.lookup 92 (.map q) (.string x) false).run Tryz.prog w = .ok (.agg #[.bool ((tabAt x.data.toList t).getD (vN 0)).t,.int .i64 ((tabAt x.data.toList t).getD (vN 0)).n,.string ((tabAt x.data.toList t).getD (vN 0)).s]) w:=by
 rcases h with⟨rfl,rfl⟩ | ⟨k,rfl,h⟩
 . exact Maps.look_nil false lawS Tryz.underlying92 (zeroVl w) (keyS hx)
 . obtain⟨v,ps,hr,hv⟩:=h.lookup lawS Tryz.underlying92 (zeroVl w) rfl (keyS hx)
   have:=anyV_inv hv
   rw [tabD_at] at this
   cases this.1
   exact hr
theorem LstAt.lookOk {w:World} {q:Option Nat} {t:Tab} (h:LstAt w q t) {x:ByteArray} (hx:x.size<=maxLen) :
 (Instr.lookup 92 (.map q) (.string x) true).run Tryz.prog w = .ok (.tuple #[.agg #[.bool ((tabAt x.data.toList t).getD (vN 0)).t,.int .i64 ((tabAt x.data.toList t).getD (vN 0)).n,.string ((tabAt x.data.toList t).getD (vN 0)).s],.bool (tabAt x.data.toList t).isSome]) w:=by
 rcases h with⟨rfl,rfl⟩ | ⟨k,rfl,h⟩
 . exact Maps.look_nil true lawS Tryz.underlying92 (zeroVl w) (keyS hx)
 . obtain⟨v,ps,hr,hv⟩:=h.look_ok lawS Tryz.underlying92 (zeroVl w) rfl (keyS hx)
   have:=anyV_inv hv
   rw [tabD_at] at this
   cases this.1
   rw [tabD_has] at hr
   exact hr
theorem Mc.open {c:Cx} {O:Own} {w:World} {s:Ms} {j:Nat} (h:Mc c O w s j):∃bv bl fl ol,Cells c.r w bv bl c.rv c.fv fl ol c.fuel ((c.fuel:Int) - s.left) s.recs s.whole/\VarsAt O w bv s.vars (400000 - j - s.left)/\ListsAt O w bl s.lists (400000 - j - s.left)/\RowIs O .flds w fl s.flds/\RowIs O .outs w ol s.out:=h.mem
end Go.Proofs.YtodjbffhlklpkaaGreatDoor
