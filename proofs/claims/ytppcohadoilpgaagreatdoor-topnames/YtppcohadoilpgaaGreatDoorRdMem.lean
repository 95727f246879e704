/-
  The reader of package syntax in memory: its pieces, what is open; trees that lie in blocks of a kind; how a call that reads ends. / Contracts of the reader's smallest methods: ended, next, sees, skip, need, name, level. / Contracts of the reader's name, level, enter and what enter hands back. / What the walks of the reader's expressions share: contracts, and trees that stay. / Lists that a call of the reader's makes by append: the row is the call's own, its elements' trees lie in other new blocks. / A region that draws its order, in a function that catches: where a call within it ends all, what is deferred and two slots are as they were.
-/
import Derived.Test.YtppcohadoilpgaaGreatDoorGround
import Derived.Test.YtppcohadoilpgaaGreatDoorChk
import Derived.Deep.OwnRows
import Derived.Maps.AppendAt
import Derived.Laws.OwnMore
namespace Go.Proofs.YtppcohadoilpgaaGreatDoor
open Go.ChangeShapes Go.WideShapes Go.ChangeAt Go.RowKit Go.Joins Go.Maps Go.Proofs.Tryz
def SlP (P:Nat->Prop) (w:World) (sz:Nat) (v:Value) (len:Nat) (E:Nat->List Value->Prop):Prop :=
 ∃(a:Option Addr) (cap:Nat),v = .slice a len cap/\len<=maxLen/\(0<len->∃b off,a=some ⟨b,off,none⟩/\P b/\∀i,i<len->∃cs:List Value,cs.length=sz/\(∀j,j<sz->w.cell? ⟨b,off+i * sz+j,none⟩=cs[j]?)/\E i cs)
theorem SlP.mono {P Q:Nat->Prop} {w:World} {sz:Nat} {v:Value} {len:Nat} {E F:Nat->List Value->Prop} (h:SlP P w sz v len E) (hPQ:∀b,P b->Q b) (hEF:∀i cs,E i cs->F i cs):SlP Q w sz v len F:=by
 obtain⟨a,cap,hv,hl,hs⟩:=h;refine⟨a,cap,hv,hl,fun h0=>?_⟩;obtain⟨b,off,ha,hb,hi⟩:=hs h0;exact⟨b,off,ha,hPQ b hb,fun i hi'=>let ⟨cs,h1,h2,h3⟩:=hi i hi'; ⟨cs,h1,h2,hEF i cs h3⟩⟩
theorem SlP.stays {P:Nat->Prop} {w w':World} {sz:Nat} {v:Value} {len:Nat} {E F:Nat->List Value->Prop} (h:SlP P w sz v len E) (hsz:0<sz) (hw:∀b,P b->b<w.heap.size->w'.heap[b]? = w.heap[b]?) (hEF:∀i cs,E i cs->F i cs):SlP P w' sz v len F:=by
 obtain⟨a,cap,hv,hl,hs⟩:=h;refine⟨a,cap,hv,hl,fun h0=>?_⟩;obtain⟨b,off,ha,hb,hi⟩:=hs h0;have hlt:b<w.heap.size:=by
  obtain⟨cs,h1,h2,_⟩:=hi 0 h0;have h3:=h2 0 hsz;rw [gee (by omega)] at h3;exact World.block_lt_of_cell? w _ h3
 exact⟨b,off,ha,hb,fun i hi'=>let ⟨cs,h1,h2,h3⟩:=hi i hi'; ⟨cs,h1,fun j hj=>(World.cell?_of_block (a:=⟨b,off+i * sz+j,none⟩) (hw b hb hlt)).trans (h2 j hj),hEF i cs h3⟩⟩
def ExP (P:Nat->Prop) (w:World):Nat->List Value->Ex->Prop
 | 0,_,_=>False
 | m+1,cs,.mk k n s l=>∃v,cs = [.int .i64 k,.int .i64 n,.string s,v]/\(Lit.int .i64 k).wf=true/\(Lit.int .i64 n).wf=true/\s.size<=maxLen/\SlP P w 4 v l.length (fun i c=>∃x,l[i]? = some x/\ExP P w m c x)
def SmP (P:Nat->Prop) (w:World):Nat->List Value->Sm->Prop
 | 0,_,_=>False
 | m+1,cs,.mk k s t es b e=>∃v1 v2 v3,cs = [.int .i64 k,.string s,.string t,v1,v2,v3]/\(Lit.int .i64 k).wf=true/\s.size<=maxLen/\t.size<=maxLen /\
  SlP P w 4 v1 es.length (fun i c=>∃x,es[i]? = some x/\ExP P w m c x)/\SlP P w 6 v2 b.length (fun i c=>∃x,b[i]? = some x/\SmP P w m c x)/\SlP P w 6 v3 e.length (fun i c=>∃x,e[i]? = some x/\SmP P w m c x)
def RuP (P:Nat->Prop) (w:World) (m:Nat) (cs:List Value) (r:Ru):Prop :=
 ∃c0 c1 c2 c3 v,cs = [.int .i64 r.when,.bool r.has,c0,c1,c2,c3,v]/\(Lit.int .i64 r.when).wf=true/\ExP P w m [c0,c1,c2,c3] r.pat/\SlP P w 6 v r.body.length (fun i c=>∃x,r.body[i]? = some x/\SmP P w m c x)
theorem ExP.more {P:Nat->Prop} {w:World}:∀ {m:Nat} {cs:List Value} {x:Ex},ExP P w m cs x->ExP P w (m+1) cs x:=by
 intro m
 induction m with
 | zero=>intro cs x h;exact h.elim
 | succ m ih =>
  intro cs x h;cases x with
  | mk k n s l =>
   obtain⟨v,h1,h2,h3,h4,h5⟩:=h;exact⟨v,h1,h2,h3,h4,h5.mono (fun _ h=>h) fun i c ⟨x,hx,he⟩=>⟨x,hx,ih he⟩⟩
theorem ExP.le {P:Nat->Prop} {w:World} {m m':Nat} {cs:List Value} {x:Ex} (h:ExP P w m cs x) (hm:m<=m'):ExP P w m' cs x:=by
 induction hm with
 | refl=>exact h
 | step _ ih=>exact ih.more
theorem SmP.more {P:Nat->Prop} {w:World}:∀ {m:Nat} {cs:List Value} {x:Sm},SmP P w m cs x->SmP P w (m+1) cs x:=by
 intro m
 induction m with
 | zero=>intro cs x h;exact h.elim
 | succ m ih =>
  intro cs x h;cases x with
  | mk k s t es b e =>
   obtain⟨v1,v2,v3,h1,h2,h3,h4,h5,h6,h7⟩:=h;exact⟨v1,v2,v3,h1,h2,h3,h4,h5.mono (fun _ h=>h) fun i c ⟨x,hx,he⟩=>⟨x,hx,he.more⟩,h6.mono (fun _ h=>h) fun i c ⟨x,hx,he⟩=>⟨x,hx,ih he⟩,h7.mono (fun _ h=>h) fun i c ⟨x,hx,he⟩=>⟨x,hx,ih he⟩⟩
theorem SmP.le {P:Nat->Prop} {w:World} {m m':Nat} {cs:List Value} {x:Sm} (h:SmP P w m cs x) (hm:m<=m'):SmP P w m' cs x:=by
 induction hm with
 | refl=>exact h
 | step _ ih=>exact ih.more
theorem ExP.stays {P Q:Nat->Prop} {w w':World} (hPQ:∀b,P b->Q b) (hw:∀b,P b->b<w.heap.size->w'.heap[b]? = w.heap[b]?):∀ {m:Nat} {cs:List Value} {x:Ex},ExP P w m cs x->ExP Q w' m cs x:=by
 intro m
 induction m with
 | zero=>intro cs x h;exact h.elim
 | succ m ih =>
  intro cs x h;cases x with
  | mk k n s l =>
   obtain⟨v,h1,h2,h3,h4,h5⟩:=h;exact⟨v,h1,h2,h3,h4,(h5.stays (by decide) hw fun i c ⟨x,hx,he⟩=>⟨x,hx,ih he⟩).mono hPQ fun _ _ h=>h⟩
theorem SmP.stays {P Q:Nat->Prop} {w w':World} (hPQ:∀b,P b->Q b) (hw:∀b,P b->b<w.heap.size->w'.heap[b]? = w.heap[b]?):∀ {m:Nat} {cs:List Value} {x:Sm},SmP P w m cs x->SmP Q w' m cs x:=by
 intro m
 induction m with
 | zero=>intro cs x h;exact h.elim
 | succ m ih =>
  intro cs x h;cases x with
  | mk k s t es b e =>
   obtain⟨v1,v2,v3,h1,h2,h3,h4,h5,h6,h7⟩:=h;exact⟨v1,v2,v3,h1,h2,h3,h4,(h5.stays (by decide) hw fun i c ⟨x,hx,he⟩=>⟨x,hx,he.stays hPQ hw⟩).mono hPQ fun _ _ h=>h,(h6.stays (by decide) hw fun i c ⟨x,hx,he⟩=>⟨x,hx,ih he⟩).mono hPQ fun _ _ h=>h,(h7.stays (by decide) hw fun i c ⟨x,hx,he⟩=>⟨x,hx,ih he⟩).mono hPQ fun _ _ h=>h⟩
theorem RuP.stays {P Q:Nat->Prop} {w w':World} (hPQ:∀b,P b->Q b) (hw:∀b,P b->b<w.heap.size->w'.heap[b]? = w.heap[b]?) {m:Nat} {cs:List Value} {r:Ru} (h:RuP P w m cs r):RuP Q w' m cs r:=by
 obtain⟨c0,c1,c2,c3,v,h1,h2,h3,h4⟩:=h;exact⟨c0,c1,c2,c3,v,h1,h2,h3.stays hPQ hw,(h4.stays (by decide) hw fun i c ⟨x,hx,he⟩=>⟨x,hx,he.stays hPQ hw⟩).mono hPQ fun _ _ h=>h⟩
theorem SlP.low {B:Nat} {w:World} {sz:Nat} {v:Value} {len:Nat} {E F:Nat->List Value->Prop} (h:SlP (· < B) w sz v len E) (hEF:∀i cs,E i cs->F i cs):Sl w B sz v len F:=by
 obtain⟨a,cap,hv,hl,hs⟩:=h;refine⟨a,cap,hv,hl,fun h0=>?_⟩;obtain⟨b,off,ha,hb,hi⟩:=hs h0;exact⟨b,off,ha,hb,fun i hi'=>let ⟨cs,h1,h2,h3⟩:=hi i hi'; ⟨cs,h1,h2,hEF i cs h3⟩⟩
theorem ExP.low {B:Nat} {w:World}:∀ {m:Nat} {cs:List Value} {x:Ex},ExP (· < B) w m cs x->ExA B w m cs x:=by
 intro m
 induction m with
 | zero=>intro cs x h;exact h.elim
 | succ m ih =>
  intro cs x h;cases x with
  | mk k n s l =>
   obtain⟨v,h1,h2,h3,h4,h5⟩:=h;exact⟨v,h1,h2,h3,h4,h5.low fun i c ⟨x,hx,he⟩=>⟨x,hx,ih he⟩⟩
theorem SmP.low {B:Nat} {w:World}:∀ {m:Nat} {cs:List Value} {x:Sm},SmP (· < B) w m cs x->SmA B w m cs x:=by
 intro m
 induction m with
 | zero=>intro cs x h;exact h.elim
 | succ m ih =>
  intro cs x h;cases x with
  | mk k s t es b e =>
   obtain⟨v1,v2,v3,h1,h2,h3,h4,h5,h6,h7⟩:=h;exact⟨v1,v2,v3,h1,h2,h3,h4,h5.low fun i c ⟨x,hx,he⟩=>⟨x,hx,he.low⟩,h6.low fun i c ⟨x,hx,he⟩=>⟨x,hx,ih he⟩,h7.low fun i c ⟨x,hx,he⟩=>⟨x,hx,ih he⟩⟩
theorem RuP.low {B:Nat} {w:World} {m:Nat} {cs:List Value} {r:Ru} (h:RuP (· < B) w m cs r):RuA B w m cs r:=by
 obtain⟨c0,c1,c2,c3,v,h1,h2,h3,h4⟩:=h;exact⟨c0,c1,c2,c3,v,h1,h2,h3.low,h4.low fun i c ⟨x,hx,he⟩=>⟨x,hx,he.low⟩⟩
def PcA (w:World) (r:Nat) (v:Value) (ps:List Pc):Prop :=
 ∃(a:Option Addr) (cap:Nat),v = .slice a ps.length cap/\ps.length<=cap/\ps.length<=6000/\(0<ps.length->∃b off,a=some ⟨b,off,none⟩/\b<r/\∀(i:Nat) (p:Pc),ps[i]? = some p->w.cell? ⟨b,off+i * 3,none⟩=some (.int .i64 p.k)/\w.cell? ⟨b,off+i * 3+1,none⟩=some (.string (bs p.s))/\w.cell? ⟨b,off+i * 3+2,none⟩=some (.int .i64 p.n))
def F9:List (List UInt8 × Int):= [([45],7),([33],8),([36],4)]
def Lt:Array Value:=(F9.flatMap F8).toArray
structure Tz (r:Nat) (w:World):Prop where
 words:12<r/\Ij w
 levels:6<r/\Ao w 6 Ed
 funcs:3<r/\Ao w 3 Fd
 pref:2<r/\Ao w 2 Lt
theorem Tz.low {r:Nat} {w w':World} (h:Tz r w) (hb:∀k,k<r->w'.heap[k]? = w.heap[k]?):Tz r w' :=
 ⟨⟨h.words.1,h.words.2.stays (hb _ h.words.1)⟩,⟨h.levels.1,h.levels.2.stays (hb _ h.levels.1)⟩,⟨h.funcs.1,h.funcs.2.stays (hb _ h.funcs.1)⟩,⟨h.pref.1,h.pref.2.stays (hb _ h.pref.1)⟩⟩
structure Rdr (r:Nat) (w:World) (o:Int) (ps:List Pc):Prop where
 pcs:∃v,w.cell? ⟨r,0,none⟩=some v/\PcA w r v ps
 c1:w.cell? ⟨r,1,none⟩=some (.int .i64 o)
 f0:w.frozen? ⟨r,0,none⟩=false
 f1:w.frozen? ⟨r,1,none⟩=false
 lo:0<=o
 hi:o<=40
 fit:∀p ∈ ps,p.s.length<=6000/\(Lit.int .i64 p.n).wf=true
 tz:Tz r w
theorem Rdr.lt {r:Nat} {w:World} {o:Int} {ps:List Pc} (h:Rdr r w o ps):r<w.heap.size:=World.block_lt_of_cell? w ⟨r,1,none⟩ h.c1
theorem PcA.low {w w':World} {r:Nat} {v:Value} {ps:List Pc} (h:PcA w r v ps) (hw:∀k,k<r->w'.heap[k]? = w.heap[k]?):PcA w' r v ps:=by
 obtain⟨a,cap,h1,h2,h3,h4⟩:=h;refine⟨a,cap,h1,h2,h3,fun h0=>?_⟩;obtain⟨b,off,ha,hb,hi⟩:=h4 h0;refine⟨b,off,ha,hb,fun i p hp=>?_⟩;have:=hi i p hp;have e:∀j,w'.cell? ⟨b,j,none⟩=w.cell? ⟨b,j,none⟩:=fun j=>World.cell?_of_block (a:=⟨b,j,none⟩) (hw b hb);rw [e,e,e];exact this
theorem Rdr.low {r:Nat} {w w':World} {o:Int} {ps:List Pc} (h:Rdr r w o ps) (hb:Below (r+1) w w'):Rdr r w' o ps:=by
 obtain⟨v,h1,h2⟩:=h.pcs;exact⟨⟨v,(hb.cell (p:=⟨r,0,none⟩) (Nat.lt_succ_self r)).trans h1,h2.low fun k hk=>hb.block k (by omega)⟩,(hb.cell (p:=⟨r,1,none⟩) (Nat.lt_succ_self r)).trans h.c1,(hb.frozen (p:=⟨r,0,none⟩) (Nat.lt_succ_self r)).trans h.f0,(hb.frozen (p:=⟨r,1,none⟩) (Nat.lt_succ_self r)).trans h.f1,h.lo,h.hi,h.fit,h.tz.low fun k hk=>hb.block k (by omega)⟩
theorem Rdr.below {r:Nat} {w w':World} {o:Int} {ps:List Pc} (h:Rdr r w o ps) (hb:Below w.heap.size w w'):Rdr r w' o ps:=h.low (hb.mono h.lt)
theorem Rdr.alloc {r:Nat} {w:World} {o:Int} {ps:List Pc} (h:Rdr r w o ps) (ob:Obj):Rdr r (w.alloc ob) o ps:=h.below (br0.alloc lr0 ob)
def Opn (r:Nat) (w:World) (o:Int):Prop:=∃o',w.cell? ⟨r,1,none⟩=some (.int .i64 o')/\w.frozen? ⟨r,1,none⟩=false/\o<=o'/\o'<=41/\0<=o
theorem Rdr.opn {r:Nat} {w:World} {o:Int} {ps:List Pc} (h:Rdr r w o ps):Opn r w o:=⟨o,h.c1,h.f1,Int.le_refl _,by have:=h.hi;omega,h.lo⟩
theorem Opn.low {r:Nat} {w w':World} {o:Int} (h:Opn r w o) (hb:Below (r+1) w w'):Opn r w' o:=by
 obtain⟨o',h1,h2,h3⟩:=h;exact⟨o',(hb.cell (p:=⟨r,1,none⟩) (Nat.lt_succ_self r)).trans h1,(hb.frozen (p:=⟨r,1,none⟩) (Nat.lt_succ_self r)).trans h2,h3⟩
theorem Opn.below {r:Nat} {w w':World} {o:Int} (h:Opn r w o) (hb:Below w.heap.size w w'):Opn r w' o:=by
 obtain⟨o',h1,h2,h3⟩:=h;have hlt:=World.block_lt_of_cell? w ⟨r,1,none⟩ h1;exact⟨o',(hb.cell (p:=⟨r,1,none⟩) hlt).trans h1,(hb.frozen (p:=⟨r,1,none⟩) hlt).trans h2,h3⟩
theorem Opn.alloc {r:Nat} {w:World} {o:Int} (h:Opn r w o) (ob:Obj):Opn r (w.alloc ob) o:=h.below (br0.alloc lr0 ob)
def Ce {α:Type} (r:Nat) (o:Int) (w:World) (R:Rd α) (K:Value->α->List Pc->World->Prop):Ending->World->Prop:=fun e w' =>
 But r r w w'/\match R with
  | .ok (x,ps)=>∃v,e = .returned v/\Rdr r w' o ps/\K v x ps w'
  | .error er=>e = .panicked [C2 er]/\Opn r w' o
def KE (w:World) (n:Nat):Value->Ex->List Pc->World->Prop:=fun v x ps w'=>ps.length<n/\∃cs:List Value,v = .agg cs.toArray/\ExP (fun b=>w.heap.size<=b) w' (n - ps.length) cs x
end Go.Proofs.YtppcohadoilpgaaGreatDoor
namespace Go.Proofs.YtppcohadoilpgaaGreatDoor
open Go.ChangeShapes Go.WideShapes Go.ChangeAt Go.RowKit Go.Joins Go.Maps Go.Proofs.Tryz
set_option maxHeartbeats 2000000
set_option linter.unusedVariables false
theorem Iw (r:Nat) (o:Int) (w:World) (h:Rdr r w o []) :
 Calls prog 24 #[.pointer (some ⟨r,0,none⟩)] w fun e w'=>e = .returned (.bool true)/\w'=w:=by
 obtain⟨v,c0,a,cap,rfl,-,-,-⟩:=h.pcs;have c0':w.cell? ⟨r,0,none⟩=some (.slice a 0 cap):=c0;clear c0 h;go_enter func24,ntmps24
 go_wp2
 go_ret
 exact⟨Am (by simp),rfl⟩
theorem Iv (r:Nat) (o:Int) (p:Pc) (ps:List Pc) (w:World) (h:Rdr r w o (p :: ps)) :
 Calls prog 24 #[.pointer (some ⟨r,0,none⟩)] w fun e w'=>e = .returned (.bool false)/\w'=w:=by
 obtain⟨v,c0,a,cap,rfl,-,h6,-⟩:=h.pcs;have c0':w.cell? ⟨r,0,none⟩=some (.slice a (ps.length+1) cap):=c0;clear c0 h;go_enter func24,ntmps24
 go_wp2
 go_ret
 exact⟨Am (by simp;omega),rfl⟩
theorem P5 (r:Nat) (o:Int) (t:List UInt8) (ps:List Pc) (w:World) (h:Rdr r w o ps) :
 Calls prog 41 #[.pointer (some ⟨r,0,none⟩),.string (bs t)] w fun e w'=>e = .returned (.bool (Aj t ps))/\w'=w:=by
 cases ps with
 | nil =>
  have HC:Hid _:=Iw r o w h;clear h;go_enter func41,ntmps41
  go_wp2_with fail
  refine Calls.mono HC.out ?_;rintro e w1 ⟨rfl,rfl⟩;go_wp2
  go_ret
  exact⟨Am (by simp [Aj]),rfl⟩
 | cons p ps =>
  have HC:Hid _:=Iv r o p ps w h;obtain⟨v,c0,a,cap,rfl,-,h6,hi⟩:=h.pcs;obtain⟨b,off,rfl,hb,hj⟩:=hi (by simp);have c0':w.cell? ⟨r,0,none⟩=some (.slice (some ⟨b,off,none⟩) (ps.length+1) cap):=c0;obtain⟨d0,d1,-⟩:=hj 0 p rfl;have d0':w.cell? ⟨b,off,none⟩=some (.int .i64 p.k):=by simpa using d0
  have d1':w.cell? ⟨b,off+1,none⟩=some (.string (bs p.s)):=by simpa using d1
  have i1:(0:Int)<((ps.length+1:Nat):Int):=by omega
  have HS:Hid (∀t,Aj t (p :: ps)=(decide (p.k ≠ 3) && decide (p.s=t))):=fun t=>rfl;obtain⟨k,hk⟩:∃k,k=p.k:=⟨_,rfl⟩;obtain⟨S,hS⟩:∃S,S=bs p.s:=⟨_,rfl⟩;rw [<-hk] at d0' HS;rw [<-hS] at d1'
  by_cases hk3:k=3
  . have HF:Hid (Aj t (p :: ps)=false):=by unfold Hid;rw [HS.out t,hk3];simp
    clear c0 d0 d1 hj h hi HS hk hS;subst hk3;go_enter func41,ntmps41
    go_wp2_with fail
    refine Calls.mono HC.out ?_;rintro e w1 ⟨rfl,rfl⟩;go_wp2
    go_ret
    exact⟨Am (by simp [HF.out]),rfl⟩
  . have hk3':(k == 3)=false:=by simpa using hk3
    obtain⟨T,hT⟩:∃T,T=bs t:=⟨_,rfl⟩;have HF:Hid (Aj t (p :: ps)=(k != 3 && S.toList == T.toList)):=by
     unfold Hid;rw [HS.out t,hS,hT,B5,B5];have e1:(k != 3)=decide (k ≠ 3):=by by_cases e:k=3 <;> simp [e]
     have e2:(p.s == t)=decide (p.s=t):=by by_cases e:p.s=t <;> simp [e]
     rw [e1,e2]
    rw [<-hT];clear c0 d0 d1 hj h hi HS hk hS hT;go_enter func41,ntmps41
    go_wp2_with fail
    refine Calls.mono HC.out ?_;rintro e w1 ⟨rfl,rfl⟩;go_wp2
    go_ret
    exact⟨Am (by rw [HF.out]),rfl⟩
theorem Th (r:Nat) (o:Int) (w:World) (h:Rdr r w o []) :
 Calls prog 64 #[.pointer (some ⟨r,0,none⟩)] w fun e w'=>e = .panicked [C2 5]/\But r r w w'/\Opn r w' o:=by
 have HA:Hid (∀ob,But r r w (w.alloc ob)/\Opn r (w.alloc ob) o):=fun ob=>⟨(But.refl r r w).alloc ob,h.opn.alloc ob⟩;have HC:Hid (∀ob,Calls prog 24 #[.pointer (some ⟨r,0,none⟩)] (w.alloc ob) fun e w'=>e = .returned (.bool true)/\w'=(w.alloc ob)):=fun ob=>Iw r o _ (h.alloc ob);clear h;go_enter func64,ntmps64
 go_wp2_with fail
 refine Calls.mono (HC.out _) ?_;rintro e w1 ⟨rfl,rfl⟩;go_wp2_with fail
 refine (Al 5 _).mono ?_;rintro e w1 ⟨rfl,rfl⟩;go_wp2_with fail
 exact⟨rfl,rfl,HA.out _⟩
theorem But.setOther {r g:Nat} {a w:World} (h:But r r a w) (hg:a.heap.size<=g) (o:Nat) (v:Value):But r r a (w.setCell ⟨g,o,none⟩ v) :=
 ⟨h.os,h.tape,h.output,by simpa [World.setCell] using h.size,fun k hk h1 h2=>(Below.heap_setCell _ _ _ _ (by simp;omega)).trans (h.block k hk h1 h2)⟩
theorem Rdr.took {r:Nat} {w:World} {o:Int} {p:Pc} {ps:List Pc} {v:Value} (h:Rdr r w o (p :: ps)) (hv:PcA w r v ps):Rdr r (w.setCell ⟨r,0,none⟩ v) o ps:=by
 obtain⟨v0,h0,_⟩:=h.pcs;have e:∀k,k<r->(w.setCell ⟨r,0,none⟩ v).heap[k]? = w.heap[k]? := fun k hk=>Below.heap_setCell _ _ _ _ (by simp;omega);exact⟨⟨v,World.cell?_setCell_same _ _ _ h0,hv.low e⟩,(World.cell?_setCell_other _ _ _ _ (by simp)).trans h.c1,by simp [h.f0],by simp [h.f1],h.lo,h.hi,fun q hq=>h.fit q (List.mem_cons_of_mem _ hq),h.tz.low e⟩
theorem Lp (r:Nat) (o:Int) (p:Pc) (ps:List Pc) (w:World) (h:Rdr r w o (p :: ps)) :
 Calls prog 64 #[.pointer (some ⟨r,0,none⟩)] w fun e w'=>e = .returned (.agg #[.int .i64 p.k,.string (bs p.s),.int .i64 p.n])/\Rdr r w' o ps/\But r r w w':=by
 have HC:Hid (∀ob,Calls prog 24 #[.pointer (some ⟨r,0,none⟩)] (w.alloc ob) fun e w'=>e = .returned (.bool false)/\w'=(w.alloc ob)):=fun ob=>Iv r o p ps _ (h.alloc ob);have HH:Hid (Rdr r w o (p :: ps)):=h;have hlt:=h.lt;obtain⟨v,c0,a,cap,rfl,hcap,h6,hi⟩:=h.pcs;obtain⟨b,off,rfl,hb,hj⟩:=hi (by simp);have c0':w.cell? ⟨r,0,none⟩=some (.slice (some ⟨b,off,none⟩) (ps.length+1) cap):=c0;obtain⟨d0,d1,d2⟩:=hj 0 p rfl;have d0':w.cell? ⟨b,off,none⟩=some (.int .i64 p.k):=by simpa using d0
 have d1':w.cell? ⟨b,off+1,none⟩=some (.string (bs p.s)):=by simpa using d1
 have d2':w.cell? ⟨b,off+2,none⟩=some (.int .i64 p.n):=by simpa using d2
 have i1:(0:Int)<((ps.length+1:Nat):Int):=by omega
 have hcap':ps.length+1<=cap:=by simpa using hcap
 have f0:=h.f0;have HT:Hid (∀v,PcA w r v ps->Rdr r (w.setCell ⟨r,0,none⟩ v) o ps/\But r r w (w.setCell ⟨r,0,none⟩ v)):=fun v hv=>⟨h.took hv,(But.refl _ _ _).set 0 v⟩;have HV1:Hid (cap=1->PcA w r (.slice (some ⟨b,off,none⟩) ps.length 0) ps):=fun hc=>by
  have:ps = []:=List.eq_nil_of_length_eq_zero (by omega);subst this;exact⟨_,_,rfl,Nat.le_refl _,by simp,fun h=>by simp at h⟩
 have HV2:Hid (PcA w r (.slice (some ⟨b,off+3,none⟩) ps.length (cap - 1)) ps):=by
  refine⟨_,_,rfl,by omega,by simp at h6;omega,fun _=>⟨b,off+3,rfl,hb,fun i q hq=>?_⟩⟩;have:=hj (i+1) q (by simpa using hq);rw [show off+(i+1) * 3=off+3+i * 3 by omega] at this;exact this
 have n1:¬r=w.heap.size:=by omega
 have n2:¬r=w.heap.size+1:=by omega
 have n3:¬b=w.heap.size:=by omega
 have n4:¬b=w.heap.size+1:=by omega
 have hr:b ≠ r:=by omega
 have hbw:b<w.heap.size:=by omega
 clear hb;clear c0 d0 d1 d2 hj hi h;go_enter func64,ntmps64
 go_wp2_with fail
 refine Calls.mono (HC.out _) ?_;rintro e w1 ⟨rfl,rfl⟩;go_wp2_with fail
 refine (Af 5 _).mono ?_;rintro e w1 ⟨rfl,rfl⟩;clear HC;go_wp2_with fail
 . refine bodyPost_ret (v:= .agg #[.int .i64 p.k,.string (bs p.s),.int .i64 p.n]) (by simp [results,results64,go_sem]) rfl ?_;have h1:=HT.out _ (HV1.out (by first | assumption | omega));exact⟨rfl,(h1.1.alloc _).alloc _,(h1.2.alloc _).alloc _⟩
 . refine bodyPost_ret (v:= .agg #[.int .i64 p.k,.string (bs p.s),.int .i64 p.n]) (by simp [results,results64,go_sem]) rfl ?_;have h1:=HT.out _ HV2.out;exact⟨rfl,(h1.1.alloc _).alloc _,(h1.2.alloc _).alloc _⟩
theorem C8 (r:Nat) (o:Int) (t:List UInt8) (ps:List Pc) (w:World) (h:Rdr r w o ps) :
 Calls prog 39 #[.pointer (some ⟨r,0,none⟩),.string (bs t)] w fun e w'=>e = .returned (.bool (Aj t ps))/\Rdr r w' o (if Aj t ps then ps.tail else ps)/\But r r w w':=by
 have HH:Hid (Rdr r w o ps):=h;have HC:Hid _:=P5 r o t ps w h;obtain⟨T,hT⟩:∃T,T=bs t:=⟨_,rfl⟩;rw [<-hT] at HC ⊢;clear h hT;cases hb:Aj t ps with
 | false =>
  rw [hb] at HC;go_enter func39,ntmps39
  go_wp2_with fail
  refine Calls.mono HC.out ?_;rintro e w1 ⟨rfl,rfl⟩;go_wp2_with fail
  go_ret
  exact⟨rfl,by simpa using HH.out,But.refl _ _ _⟩
 | true =>
  rw [hb] at HC;cases ps with
  | nil=>cases hb
  | cons p ps =>
   have HN:Hid _:=Lp r o p ps w HH.out;clear hb;go_enter func39,ntmps39
   go_wp2_with fail
   refine Calls.mono HC.out ?_;rintro e w1 ⟨rfl,rfl⟩;go_wp2_with fail
   refine Calls.mono HN.out ?_;rintro e w2 ⟨rfl,h1,h2⟩;have HR:Hid (Rdr r w2 o ps/\But r r w1 w2):=⟨h1,h2⟩;clear h1 h2;go_wp2_with fail
   go_ret
   exact⟨rfl,by simpa using HR.out.1,HR.out.2⟩
def KU:Value->Unit->List Pc->World->Prop:=fun v _ _ _=>v = .tuple #[]
theorem Du (r:Nat) (o:Int) (t:List UInt8) (ps:List Pc) (w:World) (h:Rdr r w o ps) :
 Calls prog 66 #[.pointer (some ⟨r,0,none⟩),.string (bs t)] w (Ce r o w (A8 t ps) KU):=by
 have HH:Hid (Rdr r w o ps):=h;have HS:Hid _:=C8 r o t ps w h;obtain⟨T,hT⟩:∃T,T=bs t:=⟨_,rfl⟩;rw [<-hT] at HS ⊢;clear hT;cases ps with
 | nil =>
  have HC:Hid _:=Iw r o w h;clear h;go_enter func66,ntmps66
  go_wp2_with fail
  refine Calls.mono HC.out ?_;rintro e w1 ⟨rfl,rfl⟩;go_wp2_with fail
  refine (Al 5 _).mono ?_;rintro e w1 ⟨rfl,rfl⟩;go_wp2_with fail
  exact⟨rfl,But.refl _ _ _,rfl,HH.out.opn⟩
 | cons p ps =>
  have HC:Hid _:=Iv r o p ps w h;clear h;cases hb:Aj t (p :: ps) with
  | false =>
   rw [hb] at HS;have HE:Hid (A8 t (p :: ps) = .error 4):=by simp [Hid,A8,hb]
   clear hb;go_enter func66,ntmps66
   go_wp2_with fail
   refine Calls.mono HC.out ?_;rintro e w1 ⟨rfl,rfl⟩;go_wp2_with fail
   refine (Af 5 _).mono ?_;rintro e w2 ⟨rfl,rfl⟩;go_wp2_with fail
   refine Calls.mono HS.out ?_;rintro e w3 ⟨rfl,h1,h2⟩;have HR:Hid (But r r w2 w3/\Opn r w3 o):=⟨h2,h1.opn⟩;clear h1 h2;go_wp2_with fail
   refine (Al 4 _).mono ?_;rintro e w4 ⟨rfl,rfl⟩;go_wp2_with fail
   refine⟨rfl,HR.out.1,?_⟩;rw [HE.out];exact⟨rfl,HR.out.2⟩
  | true =>
   rw [hb] at HS;have HE:Hid (A8 t (p :: ps) = .ok ((),ps)):=by simp [Hid,A8,hb]
   clear hb;go_enter func66,ntmps66
   go_wp2_with fail
   refine Calls.mono HC.out ?_;rintro e w1 ⟨rfl,rfl⟩;go_wp2_with fail
   refine (Af 5 _).mono ?_;rintro e w2 ⟨rfl,rfl⟩;go_wp2_with fail
   refine Calls.mono HS.out ?_;rintro e w3 ⟨rfl,h1,h2⟩;have HR:Hid (Rdr r w3 o ps/\But r r w2 w3):=⟨by simpa using h1,h2⟩;clear h1 h2;go_wp2_with fail
   refine (Af 4 _).mono ?_;rintro e w4 ⟨rfl,rfl⟩;go_wp2_with fail
   go_end0
   exact⟨HR.out.2,by rw [HE.out];exact⟨_,rfl,HR.out.1,rfl⟩⟩
theorem Rp (l:List UInt8):Ct (bs l)=Dt l:=by
 unfold Ct Dt Eu Dr;rw [B5,Ba]
theorem Ae1 (l:List UInt8):(if l = [105,110] then 3 else lvl (bs l))=Ys l:=by
 unfold lvl Ys;rw [B5]
 by_cases h:l = [105,110]
 . subst h;decide
 . simp [h]
theorem Aao (l:List UInt8):Dn (bs l)=J4 l:=by unfold Dn J4;rw [B5]
def KN:Value->List UInt8->List Pc->World->Prop:=fun v s _ _=>v = .string (bs s)
theorem Ti (r:Nat) (o:Int) (ps:List Pc) (w:World) (h:Rdr r w o ps) :
 Calls prog 98 #[.pointer (some ⟨r,0,none⟩)] w (Ce r o w (nmR ps) KN):=by
 cases ps with
 | nil =>
  have HC:Hid _:=Th r o w h;clear h;go_enter func98,ntmps98
  go_wp2_with fail
  refine Calls.mono HC.out ?_;rintro e w1 ⟨rfl,hb⟩;go_wp2_with fail
  exact⟨rfl,hb.1,rfl,hb.2⟩
 | cons p ps =>
  have HC:Hid _:=Lp r o p ps w h;have hsz:=(h.fit p (List.mem_cons_self ..)).1;have HN:Hid (∀w1,Rdr r w1 o ps->Calls prog 123 #[.string (bs p.s)] w1 fun e w'=>e = .returned (.bool (Dt p.s))/\w'=w1):=fun w1 h1=>by
   have:=Jo (bs p.s) w1 (by rw [Ba];unfold maxLen;omega) h1.tz.words.2;rw [Rp] at this;exact this
  have HR:Hid (nmR (p :: ps)=if p.k=1/\Dt p.s=true then .ok (p.s,ps) else .error 4):=rfl;clear h hsz;obtain⟨k,hk⟩:∃k,k=p.k:=⟨_,rfl⟩;obtain⟨S,hS⟩:∃S,S=bs p.s:=⟨_,rfl⟩;have HKS:Hid (S=bs p.s):=hS;rw [<-hk,<-hS] at HC;rw [<-hk] at HR;rw [<-hS] at HN;clear hk hS
  by_cases hk1:k=1
  . subst hk1;cases hn:Dt p.s with
    | true =>
     rw [hn] at HN HR;go_enter func98,ntmps98
     go_wp2_with fail
     refine Calls.mono HC.out ?_;rintro e w1 ⟨rfl,h1,h2⟩;have HW:Hid (∀ob,Rdr r (w1.alloc ob) o ps/\But r r w (w1.alloc ob)):=fun ob=>⟨h1.alloc ob,h2.alloc ob⟩;clear h1 h2;go_wp2_with fail
     refine (HN.out _ (HW.out _).1).mono ?_;rintro e w2 ⟨rfl,rfl⟩;go_wp2_with fail
     refine (Af 4 _).mono ?_;rintro e w2 ⟨rfl,rfl⟩;go_wp2_with fail
     go_ret
     refine⟨(HW.out _).2,?_⟩;rw [HR.out];exact⟨_,rfl,(HW.out _).1,by show Value.string S=_;rw [HKS.out]⟩
    | false =>
     rw [hn] at HN HR;go_enter func98,ntmps98
     go_wp2_with fail
     refine Calls.mono HC.out ?_;rintro e w1 ⟨rfl,h1,h2⟩;have HW:Hid (∀ob,Rdr r (w1.alloc ob) o ps/\But r r w (w1.alloc ob)):=fun ob=>⟨h1.alloc ob,h2.alloc ob⟩;clear h1 h2;go_wp2_with fail
     refine (HN.out _ (HW.out _).1).mono ?_;rintro e w2 ⟨rfl,rfl⟩;go_wp2_with fail
     refine (Al 4 _).mono ?_;rintro e w2 ⟨rfl,rfl⟩;go_wp2_with fail
     refine⟨rfl,(HW.out _).2,?_⟩;rw [HR.out];exact⟨rfl,(HW.out _).1.opn⟩
  . have HR2:Hid (nmR (p :: ps) = .error 4):=by unfold Hid;rw [HR.out,if_neg (fun h=>hk1 h.1)]
    have hk2:(k == 1)=false:=by simpa using hk1
    go_enter func98,ntmps98
    go_wp2_with fail
    refine Calls.mono HC.out ?_;rintro e w1 ⟨rfl,h1,h2⟩;have HW:Hid (∀ob,But r r w (w1.alloc ob)/\Opn r (w1.alloc ob) o):=fun ob=>⟨h2.alloc ob,h1.opn.alloc ob⟩;clear h1 h2;go_wp2_with fail
    refine (Al 4 _).mono ?_;rintro e w2 ⟨rfl,rfl⟩;go_wp2_with fail
    refine⟨rfl,(HW.out _).1,?_⟩;rw [HR2.out];exact⟨rfl,(HW.out _).2⟩
theorem Abk (r:Nat) (o:Int) (ps:List Pc) (w:World) (h:Rdr r w o ps) :
 Calls prog 97 #[.pointer (some ⟨r,0,none⟩)] w fun e w'=>e = .returned (.int .i64 (G6 ps))/\Below w.heap.size w w':=by
 cases ps with
 | nil =>
  have HC:Hid _:=Iw r o w h;clear h;go_enter func97,ntmps97
  go_wp2_with fail
  refine Calls.mono HC.out ?_;rintro e w1 ⟨rfl,rfl⟩;go_wp2_with fail
  go_ret
  exact⟨rfl,Below.refl _ _⟩
 | cons p ps =>
  have HC:Hid _:=Iv r o p ps w h;have HL:=Vf (bs p.s) w h.tz.levels.2;rw [Adf,B5,Ae1] at HL;have HL:Hid _:=HL;obtain⟨v,c0,a,cap,rfl,-,h6,hi⟩:=h.pcs;obtain⟨b,off,rfl,hb,hj⟩:=hi (by simp);have c0':w.cell? ⟨r,0,none⟩=some (.slice (some ⟨b,off,none⟩) (ps.length+1) cap):=c0;obtain⟨d0,d1,-⟩:=hj 0 p rfl;have d0':w.cell? ⟨b,off,none⟩=some (.int .i64 p.k):=by simpa using d0
  have d1':w.cell? ⟨b,off+1,none⟩=some (.string (bs p.s)):=by simpa using d1
  have i1:(0:Int)<((ps.length+1:Nat):Int):=by omega
  have HR:Hid (G6 (p :: ps)=if p.k=3 then 0 else Ys p.s):=rfl;obtain⟨k,hk⟩:∃k,k=p.k:=⟨_,rfl⟩;obtain⟨S,hS⟩:∃S,S=bs p.s:=⟨_,rfl⟩;rw [<-hk] at d0' HR;rw [<-hS] at d1' HL;clear c0 d0 d1 hj h hi hk hS
  by_cases hk3:k=3
  . subst hk3;go_enter func97,ntmps97
    go_wp2_with fail
    refine Calls.mono HC.out ?_;rintro e w1 ⟨rfl,rfl⟩;go_wp2_with fail
    go_ret
    exact⟨A4 (by rw [HR.out];rfl),Below.refl _ _⟩
  . have hk3':(k == 3)=false:=by simpa using hk3
    have HR2:Hid (G6 (p :: ps)=Ys p.s):=by unfold Hid;rw [HR.out,if_neg hk3]
    clear hk3;go_enter func97,ntmps97
    go_wp2_with fail
    refine Calls.mono HC.out ?_;rintro e w1 ⟨rfl,rfl⟩;go_wp2_with fail
    refine Calls.mono HL.out ?_;rintro e w2 ⟨rfl,hb2⟩;go_wp2_with fail
    go_ret
    exact⟨A4 (by rw [HR2.out]),by first | exact hb2 | (rw [hb2];exact Below.refl _ _)⟩
theorem Rdr.opened {r:Nat} {w:World} {o:Int} {ps:List Pc} (h:Rdr r w o ps) (o':Int) (h0:0<=o') (h1:o'<=40):Rdr r (w.setCell ⟨r,1,none⟩ (.int .i64 o')) o' ps:=by
 obtain⟨v,hv,hp⟩:=h.pcs;have e:∀k,k<r->(w.setCell ⟨r,1,none⟩ (.int .i64 o')).heap[k]? = w.heap[k]? := fun k hk=>Below.heap_setCell _ _ _ _ (by simp;omega);exact⟨⟨v,(World.cell?_setCell_other _ _ _ _ (by simp)).trans hv,hp.low e⟩,World.cell?_setCell_same _ _ _ h.c1,by simp [h.f0],by simp [h.f1],h0,h1,h.fit,h.tz.low e⟩
theorem Pd (r:Nat) (o:Int) (ps:List Pc) (w:World) (h:Rdr r w o ps) (ho:40<o+1) :
 Calls prog 65 #[.pointer (some ⟨r,0,none⟩)] w fun e w'=>e = .panicked [C2 1]/\But r r w w'/\Opn r w' o:=by
 have hlt:=h.lt;have hne:¬r=w.heap.size:=by omega
 have c1:=h.c1;have f1:=h.f1;have lo:=h.lo;have hi:=h.hi;have HB:Hid (∀ob,But r r w ((w.setCell ⟨r,1,none⟩ (.int .i64 (o+1))).alloc ob)/\Opn r ((w.setCell ⟨r,1,none⟩ (.int .i64 (o+1))).alloc ob) o):=fun ob =>
  ⟨((But.refl r r w).set 1 _).alloc ob,Opn.alloc ⟨o+1,World.cell?_setCell_same _ _ _ c1,by simp [f1],by omega,by omega,lo⟩ ob⟩
 have i1:o+1<=9223372036854775807:=by omega
 have i2: -9223372036854775808<=o+1:=by omega
 have hmf:∀(fn:Fn) (first cap:Array Value) (w:World),(Instr.makeFunc fn first cap).run prog w = .ok (.func fn first cap) w:=fun _ _ _ _=>rfl;clear h;go_enter func65,ntmps65
 go_wp2_with fail
 refine (Al 1 _).mono ?_;rintro e w1 ⟨rfl,rfl⟩;go_wp2_with fail
 exact⟨rfl,rfl,HB.out _⟩
def Lv (r g:Nat) (w:World):Prop:=g ≠ r/\Ao w g #[.pointer (some ⟨r,0,none⟩)]
theorem Pb (r:Nat) (o:Int) (ps:List Pc) (w:World) (h:Rdr r w o ps) (ho:¬40<o+1) :
 Calls prog 65 #[.pointer (some ⟨r,0,none⟩)] w fun e w'=>e = .returned (.func (.func 91) #[] #[.pointer (some ⟨w.heap.size,0,none⟩)])/\Rdr r w' (o+1) ps/\But r r w w'/\Lv r w.heap.size w':=by
 have hlt:=h.lt;have hne:¬r=w.heap.size:=by omega
 have c1:=h.c1;have f1:=h.f1;have lo:=h.lo;have hi:=h.hi;have hsz:(w.setCell ⟨r,1,none⟩ (.int .i64 (o+1))).heap.size=w.heap.size:=by simp [World.setCell]
 have HB:Hid (Rdr r ((w.setCell ⟨r,1,none⟩ (.int .i64 (o+1))).alloc (.cells #[.pointer (some ⟨r,0,none⟩)] 94)) (o+1) ps/\But r r w ((w.setCell ⟨r,1,none⟩ (.int .i64 (o+1))).alloc (.cells #[.pointer (some ⟨r,0,none⟩)] 94))/\Lv r w.heap.size ((w.setCell ⟨r,1,none⟩ (.int .i64 (o+1))).alloc (.cells #[.pointer (some ⟨r,0,none⟩)] 94))) :=
  ⟨(h.opened (o+1) (by omega) (by omega)).alloc _,((But.refl r r w).set 1 _).alloc _,by omega,by have:=Ao.new (w.setCell ⟨r,1,none⟩ (.int .i64 (o+1))) #[.pointer (some ⟨r,0,none⟩)] 94;rw [hsz] at this;exact this⟩
 have i1:o+1<=9223372036854775807:=by omega
 have i2: -9223372036854775808<=o+1:=by omega
 have hmf:∀(fn:Fn) (first cap:Array Value) (w:World),(Instr.makeFunc fn first cap).run prog w = .ok (.func fn first cap) w:=fun _ _ _ _=>rfl;clear h hsz;go_enter func65,ntmps65
 go_wp2_with fail
 refine (Af 1 _).mono ?_;rintro e w1 ⟨rfl,rfl⟩;go_wp2_with fail
 go_ret
 exact⟨rfl,HB.out⟩
def Ap (lo:Nat) (w w':World):Prop:=w.heap.size<=w'.heap.size/\∀b,lo<=b->b<w.heap.size->w'.heap[b]? = w.heap[b]?
theorem Ap.refl (lo:Nat) (w:World):Ap lo w w:=⟨Nat.le_refl _,fun _ _ _=>rfl⟩
theorem Ap.trans {lo:Nat} {a b c:World} (h:Ap lo a b) (k:Ap lo b c):Ap lo a c:=⟨lq0 h.1 k.1,fun i h1 h2=>(k.2 i h1 (lle h2 h.1)).trans (h.2 i h1 h2)⟩
theorem Ap.but {lo r:Nat} {w w':World} (h:But r r w w') (hr:r<lo):Ap lo w w':=⟨h.size,fun b h1 h2=>h.block b h2 (by omega) (by omega)⟩
theorem Ap.alloc {lo:Nat} {a w:World} (h:Ap lo a w) (o:Obj):Ap lo a (w.alloc o):=h.trans ⟨by simp,fun b _ hb=>((Below.refl w.heap.size w).alloc lr0 o).block b hb⟩
theorem Ap.set {lo g:Nat} {a w:World} (h:Ap lo a w) (hg:g<lo) (o:Nat) (v:Value):Ap lo a (w.setCell ⟨g,o,none⟩ v) :=
 h.trans ⟨by simp [World.setCell],fun b h1 _=>Below.heap_setCell _ _ _ _ (by simp;omega)⟩
theorem Ap.below {lo:Nat} {w w':World} (h:Below w.heap.size w w'):Ap lo w w':=⟨h.size,fun b _ h2=>h.block b h2⟩
theorem ExP.same {lo lo' m m':Nat} {w w':World} {cs:List Value} {x:Ex} (h:ExP (fun b=>lo<=b) w m cs x) (hs:Ap lo w w') (hl:lo'<=lo) (hm:m<=m'):ExP (fun b=>lo'<=b) w' m' cs x :=
 (h.stays (fun b hb=>lq0 hl hb) hs.2).le hm
theorem ExP.shape {P:Nat->Prop} {w:World} {m:Nat} {cs:List Value} {x:Ex} (h:ExP P w m cs x):∃(k n:Int) (s:ByteArray) (a:Option Addr) (len cap:Nat),cs = [.int .i64 k,.int .i64 n,.string s,.slice a len cap]:=by
 cases m with
 | zero=>exact h.elim
 | succ m =>
  cases x with
  | mk k n s l =>
   obtain⟨v,rfl,_,_,_,a,cap,rfl,_⟩:=h;exact⟨k,n,s,a,_,cap,rfl⟩
theorem But.below' {r:Nat} {w w1 w':World} (h:But r r w1 w') (hb:Below w.heap.size w w1):But r r w w':=(But.of_below hb).trans h
def Ei (m:Nat):Prop:=∀(r:Nat) (o:Int) (ps:List Pc) (w:World),Rdr r w o ps->20 * ps.length+9<=m ->
 Calls prog 42 #[.pointer (some ⟨r,0,none⟩)] w (Ce r o w (Ax m o ps) (KE w ps.length))
def Vw (m:Nat):Prop:=∀(r:Nat) (d o:Int) (ps:List Pc) (w:World),Rdr r w o ps->1<=d->d<=7->20 * ps.length+9<=m+d.toNat ->
 Calls prog 68 #[.pointer (some ⟨r,0,none⟩),.int .i64 d] w (Ce r o w (Cs m d o ps) (KE w ps.length))
def OpC (m:Nat):Prop:=∀(r:Nat) (o:Int) (ps:List Pc) (w:World),Rdr r w o ps->20 * ps.length+1<=m ->
 Calls prog 96 #[.pointer (some ⟨r,0,none⟩)] w (Ce r o w (opR m o ps) (KE w ps.length))
def Aaj (m:Nat):Prop:=∀(r:Nat) (o:Int) (ps:List Pc) (w:World),Rdr r w o ps->20 * ps.length+2<=m ->
 Calls prog 118 #[.pointer (some ⟨r,0,none⟩)] w (Ce r o w (Ht m o ps) (KE w ps.length))
def U1 (m:Nat):Prop:=∀(r:Nat) (o:Int) (s:List UInt8) (ps:List Pc) (w:World),Rdr r w o ps->s.length<=6000->20 * ps.length+2<=m ->
 Calls prog 121 #[.pointer (some ⟨r,0,none⟩),.string (bs s)] w (Ce r o w (B7 m o s ps) (KE w (ps.length+1)))
def Aah (m:Nat):Prop:=∀(r:Nat) (o:Int) (ps:List Pc) (w:World),Rdr r w o ps->20 * ps.length+1<=m ->
 Calls prog 117 #[.pointer (some ⟨r,0,none⟩)] w (Ce r o w (Fo m o ps) (KE w ps.length))
def KL (w:World) (n:Nat):Value->List Ex->List Pc->World->Prop:=fun v l ps w'=>ps.length<n/\0<l.length/\SlP (fun b=>w.heap.size<=b) w' 4 v l.length (fun i c=>∃x,l[i]? = some x/\ExP (fun b=>w.heap.size<=b) w' (n - ps.length) c x)
def Kn (m:Nat):Prop:=∀(r:Nat) (o:Int) (ps:List Pc) (w:World),Rdr r w o ps->20 * ps.length+10<=m ->
 Calls prog 116 #[.pointer (some ⟨r,0,none⟩)] w (Ce r o w (Bo m o ps) (KL w ps.length))
theorem Br {t:List UInt8} {ps p1:List Pc} {u:Unit} (h:A8 t ps = .ok (u,p1)):p1.length+1=ps.length:=by
 unfold A8 at h;cases ps with
 | nil=>cases h
 | cons p r =>
  simp only at h;split at h
  . cases h;rfl
  . cases h
theorem Gm {ps p1:List Pc} {s:List UInt8} (h:nmR ps = .ok (s,p1)):p1.length+1=ps.length/\Dt s=true:=by
 unfold nmR at h;cases ps with
 | nil=>cases h
 | cons p r =>
  simp only at h;split at h
  . rename_i hh;cases h;exact⟨rfl,hh.2⟩
  . cases h
def Bx (g:Nat) (cs:List Value) (T:TypeId) (w:World):Prop:=w.heap[g]? = some (.cells cs.toArray T (0,0))
theorem Bx.new (w:World) (cs:List Value) (T:TypeId):Bx w.heap.size cs T (w.alloc (.cells cs.toArray T)):=by
 show (w.heap.push _)[w.heap.size]? = _;rw [Array.getElem?_push_size]
theorem Bx.lt {g:Nat} {cs:List Value} {T:TypeId} {w:World} (h:Bx g cs T w):g<w.heap.size:=by
 rcases Nat.lt_or_ge g w.heap.size with h' | h'
 . exact h'
 . simp [Bx,Array.getElem?_eq_none h'] at h
theorem Bx.but {g r:Nat} {cs:List Value} {T:TypeId} {w w':World} (h:Bx g cs T w) (hb:But r r w w') (hg:r<g):Bx g cs T w':=(hb.block g h.lt (by omega) (by omega)).trans h
theorem Bx.below {g:Nat} {cs:List Value} {T:TypeId} {w w':World} (h:Bx g cs T w) (hb:Below w.heap.size w w'):Bx g cs T w':=(hb.block g h.lt).trans h
theorem Bx.cell {g:Nat} {cs:List Value} {T:TypeId} {w:World} (h:Bx g cs T w) (i:Nat):w.cell? ⟨g,i,none⟩=cs[i]? := by
 have:=Lib.cell_of_heap h i;rw [List.getElem?_toArray] at this;exact this
theorem Bx.thaw {g:Nat} {cs:List Value} {T:TypeId} {w:World} (h:Bx g cs T w) (i:Nat):w.frozen? ⟨g,i,none⟩=false:=Lib.frozen_of_heap h i
theorem Bx.four {g:Nat} {a b c d:Value} {T:TypeId} {w:World} (h:Bx g [a,b,c,d] T w):w.cell? ⟨g,0,none⟩=some a/\w.cell? ⟨g,1,none⟩=some b/\w.cell? ⟨g,2,none⟩=some c/\w.cell? ⟨g,3,none⟩=some d/\w.frozen? ⟨g,0,none⟩=false/\w.frozen? ⟨g,1,none⟩=false/\w.frozen? ⟨g,2,none⟩=false/\w.frozen? ⟨g,3,none⟩=false :=
 ⟨h.cell 0,h.cell 1,h.cell 2,h.cell 3,h.thaw 0,h.thaw 1,h.thaw 2,h.thaw 3⟩
abbrev Su:List Value:= [.int .i64 0,.int .i64 0,.string ⟨#[]⟩,.slice none 0 0]
abbrev set4 (w:World) (g:Nat) (a b c d:Value):World:=(((w.setCell ⟨g,0,none⟩ a).setCell ⟨g,1,none⟩ b).setCell ⟨g,2,none⟩ c).setCell ⟨g,3,none⟩ d
theorem Below.set4 {B g:Nat} (w:World) (hg:B<=g) (a b c d:Value):Below B w (set4 w g a b c d) :=
 ((((Below.refl B w).setCell (p:=⟨g,0,none⟩) hg a).setCell (p:=⟨g,1,none⟩) hg b).setCell (p:=⟨g,2,none⟩) hg c).setCell (p:=⟨g,3,none⟩) hg d
theorem Lr {r n h:Nat} {o:Int} {w w3:World} {R:Rd Ex} {x:Ex} {p3:List Pc} {a b c d:Value} (hR:R = .ok (x,p3)) (hb:But r r w w3) (hr:r<w.heap.size) (h3:Rdr r w3 o p3) (hl:p3.length<n) (hx:ExP (fun b=>w.heap.size+1<=b) w3 h [a,b,c,d] x) (hh:h<=n - p3.length) :
 Ce r o w R (KE w n) (.returned (.agg #[a,b,c,d])) (set4 w3 w.heap.size a b c d):=by
 refine⟨(((hb.setOther lr0 0 a).setOther lr0 1 b).setOther lr0 2 c).setOther lr0 3 d,?_⟩;rw [hR];exact⟨_,rfl,h3.low (Below.set4 w3 hr a b c d),hl,[a,b,c,d],rfl,hx.same (((((Ap.refl _ _).set (Nat.lt_succ_self _) 0 a).set (Nat.lt_succ_self _) 1 b).set (Nat.lt_succ_self _) 2 c).set (Nat.lt_succ_self _) 3 d) (Nat.le_succ _) hh⟩
theorem A6 {α:Type} (R:Rd α):(∃er,R = .error er)\/∃x ps,R = .ok (x,ps):=by
 cases R with
 | error er=>exact .inl ⟨er,rfl⟩
 | ok q=>exact .inr ⟨q.1,q.2,rfl⟩
theorem SlP.none (P:Nat->Prop) (w:World) (sz:Nat) (E:Nat->List Value->Prop):SlP P w sz (.slice none 0 0) 0 E:=⟨_,_,rfl,Nat.zero_le _,fun h=>absurd h (Nat.lt_irrefl 0)⟩
theorem Iq {s:List UInt8} (h:s.length<=6000):(bs s).size<=maxLen:=by rw [Ba];unfold maxLen;omega
theorem ExP.node {P:Nat->Prop} {w:World} {m:Nat} {k n:Int} {s:List UInt8} {v:Value} {l:List Ex} (hk:(Lit.int .i64 k).wf=true) (hn:(Lit.int .i64 n).wf=true) (hs:s.length<=6000) (hl:SlP P w 4 v l.length (fun i c=>∃x,l[i]? = some x/\ExP P w m c x)):ExP P w (m+1) [.int .i64 k,.int .i64 n,.string (bs s),v] (A3 k n s l) :=
 ⟨v,rfl,hk,hn,Iq hs,hl⟩
theorem ExP.leaf {P:Nat->Prop} {w:World} {k n:Int} {s:List UInt8} (hk:(Lit.int .i64 k).wf=true) (hn:(Lit.int .i64 n).wf=true) (hs:s.length<=6000):ExP P w 1 [.int .i64 k,.int .i64 n,.string (bs s),.slice .none 0 0] (A3 k n s []):=ExP.node (m:=0) hk hn hs (SlP.none _ _ _ _)
theorem SlP.one {P:Nat->Prop} {w:World} {g m:Nat} {a b c d:Value} {T:TypeId} {x:Ex} (hg:Bx g [a,b,c,d] T w) (hP:P g) (hx:ExP P w m [a,b,c,d] x):SlP P w 4 (.slice (some ⟨g,0,.none⟩) 1 1) [x].length (fun i c=>∃y,[x][i]? = some y/\ExP P w m c y):=by
 refine⟨_,_,rfl,by simp [maxLen],fun _=>⟨g,0,rfl,hP,fun i hi=>?_⟩⟩;have hi:i<1:=hi;obtain rfl:i=0:=by omega
 exact⟨_,rfl,fun j hj=>by rw [hg.cell];simp,x,rfl,hx⟩
theorem SlP.two {P:Nat->Prop} {w:World} {g m:Nat} {a b c d a' b' c' d':Value} {T:TypeId} {x y:Ex} (hg:Bx g [a,b,c,d,a',b',c',d'] T w) (hP:P g) (hx:ExP P w m [a,b,c,d] x) (hy:ExP P w m [a',b',c',d'] y):SlP P w 4 (.slice (some ⟨g,0,.none⟩) 2 2) [x,y].length (fun i c=>∃z,[x,y][i]? = some z/\ExP P w m c z):=by
 refine⟨_,_,rfl,by simp [maxLen],fun _=>⟨g,0,rfl,hP,fun i hi=>?_⟩⟩;have hi:i<2:=hi;obtain rfl | rfl:i=0\/i=1:=by omega
 . refine⟨[a,b,c,d],rfl,fun j hj=>?_,x,rfl,hx⟩;rw [hg.cell];obtain rfl | rfl | rfl | rfl:j=0\/j=1\/j=2\/j=3:=by omega
   all_goals rfl
 . refine⟨[a',b',c',d'],rfl,fun j hj=>?_,y,rfl,hy⟩;rw [hg.cell];obtain rfl | rfl | rfl | rfl:j=0\/j=1\/j=2\/j=3:=by omega
   all_goals rfl
theorem SlP.three {P:Nat->Prop} {w:World} {g m:Nat} {a b c d a' b' c' d' e f i' j':Value} {T:TypeId} {x y z:Ex} (hg:Bx g [a,b,c,d,a',b',c',d',e,f,i',j'] T w) (hP:P g) (hx:ExP P w m [a,b,c,d] x) (hy:ExP P w m [a',b',c',d'] y) (hz:ExP P w m [e,f,i',j'] z):SlP P w 4 (.slice (some ⟨g,0,.none⟩) 3 3) [x,y,z].length (fun i c=>∃u,[x,y,z][i]? = some u/\ExP P w m c u):=by
 refine⟨_,_,rfl,by simp [maxLen],fun _=>⟨g,0,rfl,hP,fun i hi=>?_⟩⟩;have hi:i<3:=hi;obtain rfl | rfl | rfl:i=0\/i=1\/i=2:=by omega
 . refine⟨[a,b,c,d],rfl,fun j hj=>?_,x,rfl,hx⟩;rw [hg.cell];obtain rfl | rfl | rfl | rfl:j=0\/j=1\/j=2\/j=3:=by omega
   all_goals rfl
 . refine⟨[a',b',c',d'],rfl,fun j hj=>?_,y,rfl,hy⟩;rw [hg.cell];obtain rfl | rfl | rfl | rfl:j=0\/j=1\/j=2\/j=3:=by omega
   all_goals rfl
 . refine⟨[e,f,i',j'],rfl,fun j hj=>?_,z,rfl,hz⟩;rw [hg.cell];obtain rfl | rfl | rfl | rfl:j=0\/j=1\/j=2\/j=3:=by omega
   all_goals rfl
theorem Ue (w:World) (ob:Obj) (g:Nat) (a b c d:Value) (hg:g<w.heap.size):set4 (w.alloc ob) g a b c d=(set4 w g a b c d).alloc ob:=by
 have e:∀(u:World) (i:Nat) (v:Value),(u.setCell ⟨g,i,none⟩ v).heap.size=u.heap.size:=fun u i v=>by simp [World.setCell]
 simp only [set4];rw [World.setCell_alloc_past _ _ _ _ hg,World.setCell_alloc_past _ _ _ _ (by rw [e];exact hg),World.setCell_alloc_past _ _ _ _ (by rw [e,e];exact hg),World.setCell_alloc_past _ _ _ _ (by rw [e,e,e];exact hg)]
theorem Rq {r n h:Nat} {o:Int} {w w3:World} {ob:Obj} {R:Rd Ex} {x:Ex} {p3:List Pc} {a b c d:Value} (hR:R = .ok (x,p3)) (hb:But r r w w3) (hr:r<w.heap.size) (hw:w.heap.size<w3.heap.size) (h3:Rdr r w3 o p3) (hl:p3.length<n) (hx:ExP (fun b=>w.heap.size+1<=b) (w3.alloc ob) h [a,b,c,d] x) (hh:h<=n - p3.length) :
 Ce r o w R (KE w n) (.returned (.agg #[a,b,c,d])) ((set4 w3 w.heap.size a b c d).alloc ob):=by
 rw [<-Ue _ _ _ _ _ _ _ hw];exact Lr hR (hb.alloc ob) hr (h3.alloc ob) hl hx hh
theorem Vj {r n:Nat} {o:Int} {w:World} {ob:Obj} {R:Rd Ex} {x:Ex} {p:List Pc} {a b c d:Value} (hR:R = .ok (x,p)) (h3:Rdr r w o p) (hl:p.length<n) (hx:∀W,ExP (fun b=>w.heap.size<=b) W 1 [a,b,c,d] x) :
 Ce r o w R (KE w n) (.returned (.agg #[a,b,c,d])) (w.alloc ob):=by
 refine⟨(But.refl r r w).alloc ob,?_⟩;rw [hR];exact⟨_,rfl,h3.alloc ob,hl,[a,b,c,d],rfl,(hx _).le (by omega)⟩
def QP (D:List Deferred) (Q:Exit->Act->World->Prop):Exit->Act->World->Prop
 | .panic c,a,w=>a.defers=D/\∀tmps,Q (.panic c) { tmps:=tmps,defers:=D } w
 | e,a,w=>Q e a w
theorem Aac (D:List Deferred) {P:Program} {c:Code} {Q:Exit->Act->World->Prop} {a:Act} {w:World} (h:c.wp P (QP D Q) a w):c.wp P Q a w:=by
 refine wp_mono h fun e a w h=>?_;cases e with
 | panic c =>
  obtain⟨h1,h2⟩:=h;have:=h2 a.tmps;rw [<-h1] at this;exact this
 | _=>exact h
theorem Wo (D:List Deferred) (Q:Exit->Act->World->Prop) (a:Act) (w:World):QP D Q .normal a w=Q .normal a w:=rfl
theorem Ji (w:World) (g b:Nat) (hb:b ≠ g) (x y z u:Value):(set4 w g x y z u).heap[b]? = w.heap[b]? := by
 simp only [set4];rw [Below.heap_setCell _ _ _ _ (by simpa using hb),Below.heap_setCell _ _ _ _ (by simpa using hb),Below.heap_setCell _ _ _ _ (by simpa using hb),Below.heap_setCell _ _ _ _ (by simpa using hb)]
theorem Jx (w:World) (g:Nat) (x y z u:Value):(set4 w g x y z u).heap.size=w.heap.size:=by simp [set4,World.setCell]
theorem Bx.set4 {g:Nat} {o0 o1 o2 o3:Value} {T:TypeId} {w:World} (h:Bx g [o0,o1,o2,o3] T w) (a b c d:Value):Bx g [a,b,c,d] T (set4 w g a b c d):=by
 have h':w.heap[g]? = some (.cells #[o0,o1,o2,o3] T (0,0)):=h;simp [Bx,Go.Proofs.YtppcohadoilpgaaGreatDoor.set4,World.setCell,Array.getElem?_modify,h']
theorem Bx.far4 {g g':Nat} {cs:List Value} {T:TypeId} {w:World} (h:Bx g cs T w) (hne:g ≠ g') (a b c d:Value):Bx g cs T (Go.Proofs.YtppcohadoilpgaaGreatDoor.set4 w g' a b c d):=(Ji w g' g hne a b c d).trans h
theorem ExP.old {P:Nat->Prop} {w:World}:∀ {m:Nat} {cs:List Value} {x:Ex},ExP P w m cs x->ExP (fun b=>P b/\b<w.heap.size) w m cs x:=by
 intro m
 induction m with
 | zero=>intro cs x h;exact h.elim
 | succ m ih =>
  intro cs x h;cases x with
  | mk k n s l =>
   obtain⟨v,h1,h2,h3,h4,a,cap,h5,h6,h7⟩:=h;refine⟨v,h1,h2,h3,h4,a,cap,h5,h6,fun h0=>?_⟩;obtain⟨b,off,ha,hb,hi⟩:=h7 h0;have hlt:b<w.heap.size:=by
    obtain⟨cs,g1,g2,_⟩:=hi 0 h0;have g3:=g2 0 (by decide);rw [gee (by omega)] at g3;exact World.block_lt_of_cell? w _ g3
   exact⟨b,off,ha,⟨hb,hlt⟩,fun i hi'=>let ⟨cs,g1,g2,y,g3,g4⟩:=hi i hi'; ⟨cs,g1,g2,y,g3,ih g4⟩⟩
def left (r:Nat) (w:World):Nat:=match w.cell? ⟨r,0,none⟩ with
 | some (.slice _ n _)=>n
 | _=>0
theorem Rdr.left {r:Nat} {w:World} {o:Int} {ps:List Pc} (h:Rdr r w o ps):left r w=ps.length:=by
 obtain⟨v,h1,a,cap,h2,_⟩:=h.pcs;unfold Go.Proofs.YtppcohadoilpgaaGreatDoor.left;rw [h1,h2]
theorem SlP.old {P:Nat->Prop} {w:World} {sz:Nat} {v:Value} {len:Nat} {E F:Nat->List Value->Prop} (h:SlP P w sz v len E) (hsz:0<sz) (hEF:∀i cs,E i cs->F i cs):SlP (fun b=>P b/\b<w.heap.size) w sz v len F:=by
 obtain⟨a,cap,hv,hl,hs⟩:=h;refine⟨a,cap,hv,hl,fun h0=>?_⟩;obtain⟨b,off,ha,hb,hi⟩:=hs h0;have hlt:b<w.heap.size:=by
  obtain⟨cs,h1,h2,_⟩:=hi 0 h0;have h3:=h2 0 hsz;rw [gee (by omega)] at h3;exact World.block_lt_of_cell? w _ h3
 exact⟨b,off,ha,⟨hb,hlt⟩,fun i hi'=>let ⟨cs,h1,h2,h3⟩:=hi i hi'; ⟨cs,h1,h2,hEF i cs h3⟩⟩
theorem SmP.old {P:Nat->Prop} {w:World}:∀ {m:Nat} {cs:List Value} {x:Sm},SmP P w m cs x->SmP (fun b=>P b/\b<w.heap.size) w m cs x:=by
 intro m
 induction m with
 | zero=>intro cs x h;exact h.elim
 | succ m ih =>
  intro cs x h;cases x with
  | mk k s t es b e =>
   obtain⟨v1,v2,v3,h1,h2,h3,h4,h5,h6,h7⟩:=h;exact⟨v1,v2,v3,h1,h2,h3,h4,h5.old (by decide) fun i c ⟨x,hx,he⟩=>⟨x,hx,he.old⟩,h6.old (by decide) fun i c ⟨x,hx,he⟩=>⟨x,hx,ih he⟩,h7.old (by decide) fun i c ⟨x,hx,he⟩=>⟨x,hx,ih he⟩⟩
theorem RuP.old {P:Nat->Prop} {w:World} {m:Nat} {cs:List Value} {r:Ru} (h:RuP P w m cs r):RuP (fun b=>P b/\b<w.heap.size) w m cs r:=by
 obtain⟨c0,c1,c2,c3,v,h1,h2,h3,h4⟩:=h;exact⟨c0,c1,c2,c3,v,h1,h2,h3.old,h4.old (by decide) fun i c ⟨x,hx,he⟩=>⟨x,hx,he.old⟩⟩
theorem RuP.le {P:Nat->Prop} {w:World} {m m':Nat} {cs:List Value} {r:Ru} (h:RuP P w m cs r) (hm:m<=m'):RuP P w m' cs r:=by
 obtain⟨c0,c1,c2,c3,v,h1,h2,h3,h4⟩:=h;exact⟨c0,c1,c2,c3,v,h1,h2,h3.le hm,h4.mono (fun _ h=>h) fun i c ⟨x,hx,he⟩=>⟨x,hx,he.le hm⟩⟩
structure Ec {α:Type} (E:Nat->(Nat->Prop)->World->List Value->α->Prop):Prop where
 stays:∀ {h h':Nat} {P Q:Nat->Prop} {w w':World} {c:List Value} {x:α},h<=h'->(∀b,P b->Q b)->(∀b,P b->b<w.heap.size->w'.heap[b]? = w.heap[b]?)->E h P w c x->E h' Q w' c x
 old:∀ {h:Nat} {P:Nat->Prop} {w:World} {c:List Value} {x:α},E h P w c x->E h (fun b=>P b/\b<w.heap.size) w c x
def Yd:Nat->(Nat->Prop)->World->List Value->Ex->Prop:=fun h P w c x=>ExP P w h c x
def R8:Nat->(Nat->Prop)->World->List Value->Sm->Prop:=fun h P w c x=>SmP P w h c x
def Zm:Nat->(Nat->Prop)->World->List Value->Ru->Prop:=fun h P w c x=>RuP P w h c x
theorem Nl:Ec Yd:=⟨fun hh hPQ hw h=>(ExP.stays hPQ hw h).le hh,fun h=>ExP.old h⟩
theorem I6:Ec R8:=⟨fun hh hPQ hw h=>(SmP.stays hPQ hw h).le hh,fun h=>SmP.old h⟩
theorem He:Ec Zm:=⟨fun hh hPQ hw h=>(RuP.stays hPQ hw h).le hh,fun h=>RuP.old h⟩
structure GrL {α:Type} (E:Nat->(Nat->Prop)->World->List Value->α->Prop) (h base:Nat) (T:TypeId) (sz:Nat) (w:World) (v:Value) (l:List α) (css:List (List Value)):Prop where
 len:css.length=l.length
 each:∀c ∈ css,c.length=sz
 row:w.ownsRow base T sz v l.length css.flatten
 tree:∀(i:Nat) (x:α),l[i]? = some x->∃c,css[i]? = some c/\E h (fun b=>base<=b/\some b ≠ v.ownBlock) w c x
section
variable {α : Type} {E : Nat -> (Nat -> Prop) -> World -> List Value -> α -> Prop} {h h' base sz : Nat} {T : TypeId} {w w' : World} {v : Value} {l : List α} {css : List (List Value)}
theorem GrL.nil (E:Nat->(Nat->Prop)->World->List Value->α->Prop) (h base:Nat) (T:TypeId) (sz:Nat) (w:World):GrL E h base T sz w (.slice none 0 0) ([]:List α) [] :=
 ⟨rfl,(fun c hc=>by cases hc),World.ownsRow_nil _ _ _ _,(fun i x hx=>by simp at hx)⟩
theorem GrL.lit {g:Nat} {c:List Value} {x:α} (hg:Bx g c T w) (hb:base<=g) (hc:c.length=sz) (hx:E h (fun b=>base<=b/\b ≠ g) w c x) (law:Ec E):GrL E h base T sz w (.slice (some ⟨g,0,none⟩) 1 1) [x] [c]:=by
 refine⟨rfl,fun d hd=>by simp at hd;rw [hd];exact hc,⟨by simp [hc],.inr ⟨g,1,c.toArray,rfl,hb,hg,Nat.le_refl _,by simp [maxLen],by simp [hc],by simp [<-hc]⟩⟩,fun i y hy=>?_⟩
 match i,hy with
 | 0,hy =>
  simp at hy;subst hy;exact⟨c,rfl,law.stays lr0 (fun b hb=>⟨hb.1,by simp [Value.ownBlock];exact hb.2⟩) (fun _ _ _=>rfl) hx⟩
theorem GrL.keep (law:Ec E) (H:GrL E h base T sz w v l css) (hh:h<=h') (hb:∀b,base<=b->b<w.heap.size->w'.heap[b]? = w.heap[b]?):GrL E h' base T sz w' v l css:=by
 refine⟨H.len,H.each,⟨H.row.1,?_⟩,fun i x hx=>?_⟩
 . rcases H.row.2 with hn | ⟨g,cap,cur,h1,h2,h3,h4⟩
   . exact .inl hn
   . have hlt:g<w.heap.size:=by
      rcases Nat.lt_or_ge g w.heap.size with h' | h'
      . exact h'
      . rw [Array.getElem?_eq_none h'] at h3;cases h3
     exact .inr ⟨g,cap,cur,h1,h2,(hb g h2 hlt).trans h3,h4⟩
 . obtain⟨c,h1,h2⟩:=H.tree i x hx;exact⟨c,h1,law.stays hh (fun _ h=>h) (fun b hP hlt=>hb b hP.1 hlt) h2⟩
theorem GrL.but {r:Nat} (law:Ec E) (H:GrL E h base T sz w v l css) (hh:h<=h') (hb:But r r w w') (hr:r<base):GrL E h' base T sz w' v l css :=
 H.keep law hh fun b h1 h2=>hb.block b h2 (by omega) (by omega)
theorem GrL.below (law:Ec E) (H:GrL E h base T sz w v l css) (hh:h<=h') (hb:Below w.heap.size w w'):GrL E h' base T sz w' v l css :=
 H.keep law hh fun b _ h2=>hb.block b h2
theorem GrL.push (law:Ec E) {W:World} {v':Value} {c:List Value} {x:α} (H:GrL E h base T sz w v l css) (hW:Below w.heap.size w W) (hc:c.length=sz)
 (hx:E h (fun b=>base<=b/\some b ≠ v.ownBlock) w c x) (hrow:w'.ownsRow base T sz v' (l.length+1) (css.flatten ++ c)) (hg:W.grownBy w' v.ownBlock) (hat:v'.ownBlock=v.ownBlock\/v'.ownBlock=some W.heap.size) :
 GrL E h base T sz w' v' (l ++ [x]) (css ++ [c]):=by
 have up:∀ {d:List Value} {y:α},E h (fun b=>base<=b/\some b ≠ v.ownBlock) w d y->E h (fun b=>base<=b/\some b ≠ v'.ownBlock) w' d y:=fun hy =>
  law.stays lr0 (fun b hb=>⟨hb.1.1,by
   rcases hat with e | e
   . rw [e];exact hb.1.2
   . rw [e];intro h2;have h3:b=W.heap.size:=Option.some.inj h2;have:=hW.size;have:=hb.2;omega⟩) (fun b hb hlt=>(hg.block b (lle hlt hW.size) hb.1.2).trans (hW.block b hlt)) (law.old hy)
 refine⟨by simp [H.len],fun d hd=>?_,by simpa using hrow,fun i y hy=>?_⟩
 . simp only [List.mem_append,List.mem_singleton] at hd;rcases hd with hd | rfl
   . exact H.each d hd
   . exact hc
 . by_cases hi:i<l.length
   . rw [List.getElem?_append_left hi] at hy;obtain⟨d,h1,h2⟩:=H.tree i y hy;exact⟨d,by rw [List.getElem?_append_left (by rw [H.len];exact hi)];exact h1,up h2⟩
   . rw [List.getElem?_append_right (by omega)] at hy;have hi2:i=l.length:=by
      rcases Nat.lt_or_ge (i - l.length) 1 with h1 | h1
      . omega
      . rw [List.getElem?_eq_none (by simpa using h1)] at hy;cases hy
     subst hi2;simp at hy;subst hy;exact⟨c,by rw [List.getElem?_append_right (by rw [H.len];exact Nat.le_refl _),H.len];simp,up hx⟩
theorem Pi {css:List (List Value)} {sz:Nat} (h:∀c ∈ css,c.length=sz):∀ {i:Nat} {c:List Value},css[i]? = some c->∀j,j<sz->css.flatten[i * sz+j]? = c[j]? := by
 induction css with
 | nil=>intro i c hc;simp at hc
 | cons d css ih =>
  intro i c hc j hj;have hd:d.length=sz:=h d (List.mem_cons_self ..);cases i with
  | zero =>
   simp at hc;subst hc;rw [List.flatten_cons,List.getElem?_append_left (by omega)];simp
  | succ i =>
   rw [List.flatten_cons,List.getElem?_append_right (by rw [hd,Nat.succ_mul];omega),hd,show (i+1) * sz+j - sz=i * sz+j by rw [Nat.succ_mul];omega];exact ih (fun c hc=>h c (List.mem_cons_of_mem _ hc)) (by simpa using hc) j hj
theorem GrL.slp (law:Ec E) (hsz:0<sz) (hl:l.length<=maxLen) (H:GrL E h base T sz w v l css):SlP (fun b=>base<=b) w sz v l.length (fun i c=>∃x,l[i]? = some x/\E h (fun b=>base<=b) w c x):=by
 rcases H.row.2 with⟨rfl,h0⟩ | ⟨g,cap,cur,rfl,h2,h3,h4,h5,h6,h7⟩
 . rw [h0];exact SlP.none _ _ _ _
 . refine⟨_,_,rfl,hl,fun _=>⟨g,0,rfl,h2,fun i hi=>?_⟩⟩;have hx:l[i]? = some l[i]:=gee hi;obtain⟨c,h8,h9⟩:=H.tree i l[i] hx;refine⟨c,H.each c (List.mem_of_getElem? h8),fun j hj=>?_,l[i],hx,law.stays lr0 (fun b hb=>hb.1) (fun _ _ _=>rfl) h9⟩;have hlt:i * sz+j<l.length * sz:=by
    have:(i+1) * sz<=l.length * sz:=Nat.mul_le_mul_right _ hi;rw [Nat.succ_mul] at this;omega
   have:=World.ownsRow.cellAt H.row (i * sz+j) hlt;rw [Nat.zero_add,this];exact Pi H.each h8 j hj
end
theorem D6 (w:World) (c:List Value) (t:TypeId):∀j u,c[j]? = some u->(w.alloc (.cells c.toArray t)).cell? ((⟨w.heap.size,0,none⟩:Addr).add j)=some u:=by
 intro j u hj;have:=(Bx.new w c t).cell j;have e:(⟨w.heap.size,0,none⟩:Addr).add j = ⟨w.heap.size,j,none⟩:=by unfold Addr.add;simp;exact fun h=>h.symm
 rw [e,this];exact hj
end Go.Proofs.YtppcohadoilpgaaGreatDoor
namespace Go.Proofs.YtppcohadoilpgaaGreatDoor
open Go.ChangeShapes Go.WideShapes Go.ChangeAt Go.RowKit Go.Joins Go.Maps Go.Proofs.Tryz
def Q2 (D:List Deferred) (i j:Nat) (x y:Value) (Q:Exit->Act->World->Prop):Exit->Act->World->Prop
 | .panic c,a,w=>a.defers=D/\∀tmps:Array Value,tmps[i]? = some x->tmps[j]? = some y->Q (.panic c) { tmps:=tmps,defers:=D } w
 | e,a,w=>Q e a w
def Two (i j:Nat) (x y:Value) (a:Act):Prop:=a.tmps[i]? = some x/\a.tmps[j]? = some y
theorem Two.put {i j:Nat} {x y:Value} {a:Act} (h:Two i j x y a) {d:Option Nat} (h1:d ≠ some i) (h2:d ≠ some j) (v:Value):Two i j x y (a.put d v):=by
 cases d with
 | none=>exact h
 | some k =>
  have e1:k ≠ i:=fun e=>h1 (by rw [e]);have e2:k ≠ j:=fun e=>h2 (by rw [e]);exact⟨by simp only [Act.put];rw [Array.getElem?_setIfInBounds_ne e1];exact h.1,by simp only [Act.put];rw [Array.getElem?_setIfInBounds_ne e2];exact h.2⟩
theorem Agc {P:Program} {o:Oper} {a:Act} {w:World} {D:List Deferred} {i j:Nat} {x y:Value} {Q:Exit->Act->World->Prop} {K K':Act->World->Prop} (ha:Two i j x y a) (h1:o.dst ≠ some i) (h2:o.dst ≠ some j) (hK:∀a w,Two i j x y a->K a w->K' a w) (h:o.wp P a w K (Q2 D i j x y Q)):o.wp P a w K' Q:=by
 have hp:∀c w,Q2 D i j x y Q (.panic c) a w->Q (.panic c) a w:=fun c w ⟨e1,e2⟩=>by
  have:=e2 a.tmps ha.1 ha.2;rw [<-e1] at this;exact this
 unfold Oper.wp at *;generalize (execOp a.eval o).run P w=r at *;cases r with
 | ok n w' =>
  cases n with
  | value v=>exact hK _ _ (ha.put h1 h2 v) h
  | skip=>exact hK _ _ (ha.put h1 h2 _) h
  | defer d=>exact hK _ _ (Two.put (a:={ a with defers:=d :: a.defers }) ha h1 h2 _) h
  | enter f args=>exact Calls.mono h (fun e w'' he=>by
   cases e with
   | returned v=>exact hK _ _ (ha.put h1 h2 v) he
   | panicked c=>exact hp _ _ he
   | outgrown=>exact he)
  | row r args=>exact Rows.mono h (fun _ _ he=>hK _ _ (ha.put h1 h2 _) he)
  | _=>exact h
 | halt z w' =>
  cases z with
  | panic v=>exact hp _ _ h
  | _=>exact h
theorem Ko {P:Program} {md:Region.Mode} {ops:Array Oper} {D:List Deferred} {i j:Nat} {x y:Value} {Q:Exit->Act->World->Prop} (hops:∀o ∈ ops.toList,o.dst ≠ some i/\o.dst ≠ some j) :
 ∀(fuel:Nat) (listed:Array Bool) (a:Act) (w:World),Two i j x y a->wpAny P md ops (Q2 D i j x y Q) fuel listed a w->wpAny P md ops Q fuel listed a w
 | 0,_,_,_,_,h=>h
 | fuel+1,listed,a,w,ha,h=>by
  refine⟨h.1,fun k hk=>?_⟩;have h2:=h.2 k hk;unfold wpOp at h2 ⊢;cases ho:ops[k]? with
  | none=>simp only [ho] at h2 ⊢;exact Ko hops fuel _ _ _ ha h2
  | some o =>
   have hm:o ∈ ops.toList:=by
    have:=Array.mem_of_getElem? ho;simpa using this
   obtain⟨d1,d2⟩:=hops o hm;simp only [ho] at h2 ⊢;split
   . rename_i hw;rw [if_pos hw] at h2;rcases h2 with h2 | ⟨h2,h3⟩
     . exact .inl (Agc ha d1 d2 (fun a w ha=>Ko hops fuel _ a w ha) h2)
     . exact .inr ⟨h2,h3⟩
   . rename_i hw;rw [if_neg hw] at h2;exact Ko hops fuel _ _ _ (ha.put d1 d2 _) h2
end Go.Proofs.YtppcohadoilpgaaGreatDoor
