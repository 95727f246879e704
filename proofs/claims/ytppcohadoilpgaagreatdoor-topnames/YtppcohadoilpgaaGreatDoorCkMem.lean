/-
  How expressions, statements and rules lie in memory, below a block's number B: a reading of the argument as a tree; it stays while memory below B stays. / A program in which nothing is wrong: its parts are in form, and its text is not long. Of data alone.
-/
import Derived.Test.YtppcohadoilpgaaGreatDoorGround
import Derived.Deep.Slices
namespace Go.Proofs.YtppcohadoilpgaaGreatDoor
open Go.ChangeShapes Go.WideShapes Go.ChangeAt Go.RowKit Go.Joins Go.Proofs.Tryz
def Sl (w:World) (B sz:Nat) (v:Value) (len:Nat) (E:Nat->List Value->Prop):Prop :=
 ∃(a:Option Addr) (cap:Nat),v = .slice a len cap/\len<=maxLen/\(0<len->∃b off,a=some ⟨b,off,none⟩/\b<B/\∀i,i<len->∃cs:List Value,cs.length=sz/\(∀j,j<sz->w.cell? ⟨b,off+i * sz+j,none⟩=cs[j]?)/\E i cs)
theorem Sl.mono {w:World} {B sz:Nat} {v:Value} {len:Nat} {E F:Nat->List Value->Prop} (h:Sl w B sz v len E) (hEF:∀i cs,E i cs->F i cs):Sl w B sz v len F:=by
 obtain⟨a,cap,hv,hl,hs⟩:=h;refine⟨a,cap,hv,hl,fun h0=>?_⟩;obtain⟨b,off,ha,hb,hi⟩:=hs h0;exact⟨b,off,ha,hb,fun i hi'=>let ⟨cs,h1,h2,h3⟩:=hi i hi'; ⟨cs,h1,h2,hEF i cs h3⟩⟩
theorem Sl.below {w w':World} {B sz:Nat} {v:Value} {len:Nat} {E F:Nat->List Value->Prop} (h:Sl w B sz v len E) (hw:Below B w w') (hEF:∀i cs,E i cs->F i cs):Sl w' B sz v len F:=by
 obtain⟨a,cap,hv,hl,hs⟩:=h;refine⟨a,cap,hv,hl,fun h0=>?_⟩;obtain⟨b,off,ha,hb,hi⟩:=hs h0;exact⟨b,off,ha,hb,fun i hi'=>let ⟨cs,h1,h2,h3⟩:=hi i hi'; ⟨cs,h1,fun j hj=>(hw.cell (p:=⟨b,off+i * sz+j,none⟩) hb).trans (h2 j hj),hEF i cs h3⟩⟩
def ExA (B:Nat) (w:World):Nat->List Value->Ex->Prop
 | 0,_,_=>False
 | m+1,cs,.mk k n s l=>∃v,cs = [.int .i64 k,.int .i64 n,.string s,v]/\(Lit.int .i64 k).wf=true/\(Lit.int .i64 n).wf=true/\s.size<=maxLen/\Sl w B 4 v l.length (fun i c=>∃x,l[i]? = some x/\ExA B w m c x)
def SmA (B:Nat) (w:World):Nat->List Value->Sm->Prop
 | 0,_,_=>False
 | m+1,cs,.mk k s t es b e=>∃v1 v2 v3,cs = [.int .i64 k,.string s,.string t,v1,v2,v3]/\(Lit.int .i64 k).wf=true/\s.size<=maxLen/\t.size<=maxLen /\
  Sl w B 4 v1 es.length (fun i c=>∃x,es[i]? = some x/\ExA B w m c x)/\Sl w B 6 v2 b.length (fun i c=>∃x,b[i]? = some x/\SmA B w m c x)/\Sl w B 6 v3 e.length (fun i c=>∃x,e[i]? = some x/\SmA B w m c x)
def RuA (B:Nat) (w:World) (m:Nat) (cs:List Value) (r:Ru):Prop :=
 ∃c0 c1 c2 c3 v,cs = [.int .i64 r.when,.bool r.has,c0,c1,c2,c3,v]/\(Lit.int .i64 r.when).wf=true/\ExA B w m [c0,c1,c2,c3] r.pat/\Sl w B 6 v r.body.length (fun i c=>∃x,r.body[i]? = some x/\SmA B w m c x)
theorem ExA.more {B:Nat} {w:World}:∀ {m:Nat} {cs:List Value} {x:Ex},ExA B w m cs x->ExA B w (m+1) cs x:=by
 intro m
 induction m with
 | zero=>intro cs x h;exact h.elim
 | succ m ih =>
  intro cs x h;cases x with
  | mk k n s l =>
   obtain⟨v,h1,h2,h3,h4,h5⟩:=h;exact⟨v,h1,h2,h3,h4,h5.mono fun i c ⟨x,hx,he⟩=>⟨x,hx,ih he⟩⟩
theorem ExA.le {B:Nat} {w:World} {m m':Nat} {cs:List Value} {x:Ex} (h:ExA B w m cs x) (hm:m<=m'):ExA B w m' cs x:=by
 induction hm with
 | refl=>exact h
 | step _ ih=>exact ih.more
theorem SmA.more {B:Nat} {w:World}:∀ {m:Nat} {cs:List Value} {x:Sm},SmA B w m cs x->SmA B w (m+1) cs x:=by
 intro m
 induction m with
 | zero=>intro cs x h;exact h.elim
 | succ m ih =>
  intro cs x h;cases x with
  | mk k s t es b e =>
   obtain⟨v1,v2,v3,h1,h2,h3,h4,h5,h6,h7⟩:=h;exact⟨v1,v2,v3,h1,h2,h3,h4,h5.mono fun i c ⟨x,hx,he⟩=>⟨x,hx,he.more⟩,h6.mono fun i c ⟨x,hx,he⟩=>⟨x,hx,ih he⟩,h7.mono fun i c ⟨x,hx,he⟩=>⟨x,hx,ih he⟩⟩
theorem SmA.le {B:Nat} {w:World} {m m':Nat} {cs:List Value} {x:Sm} (h:SmA B w m cs x) (hm:m<=m'):SmA B w m' cs x:=by
 induction hm with
 | refl=>exact h
 | step _ ih=>exact ih.more
theorem ExA.below {B:Nat} {w w':World} (hw:Below B w w'):∀ {m:Nat} {cs:List Value} {x:Ex},ExA B w m cs x->ExA B w' m cs x:=by
 intro m
 induction m with
 | zero=>intro cs x h;exact h.elim
 | succ m ih =>
  intro cs x h;cases x with
  | mk k n s l =>
   obtain⟨v,h1,h2,h3,h4,h5⟩:=h;exact⟨v,h1,h2,h3,h4,h5.below hw fun i c ⟨x,hx,he⟩=>⟨x,hx,ih he⟩⟩
theorem SmA.below {B:Nat} {w w':World} (hw:Below B w w'):∀ {m:Nat} {cs:List Value} {x:Sm},SmA B w m cs x->SmA B w' m cs x:=by
 intro m
 induction m with
 | zero=>intro cs x h;exact h.elim
 | succ m ih =>
  intro cs x h;cases x with
  | mk k s t es b e =>
   obtain⟨v1,v2,v3,h1,h2,h3,h4,h5,h6,h7⟩:=h;exact⟨v1,v2,v3,h1,h2,h3,h4,h5.below hw fun i c ⟨x,hx,he⟩=>⟨x,hx,he.below hw⟩,h6.below hw fun i c ⟨x,hx,he⟩=>⟨x,hx,ih he⟩,h7.below hw fun i c ⟨x,hx,he⟩=>⟨x,hx,ih he⟩⟩
theorem RuA.below {B:Nat} {w w':World} (hw:Below B w w') {m:Nat} {cs:List Value} {r:Ru} (h:RuA B w m cs r):RuA B w' m cs r:=by
 obtain⟨c0,c1,c2,c3,v,h1,h2,h3,h4⟩:=h;exact⟨c0,c1,c2,c3,v,h1,h2,h3.below hw,h4.below hw fun i c ⟨x,hx,he⟩=>⟨x,hx,he.below hw⟩⟩
theorem Abw {H:Type} {enc:TypeId × Value->H} {P:Program} {w:World} {base:Nat} {spare:Nat->Bool} {held:Bool} {t e:TypeId} {fuel sz:Nat} {cs:List Value} {x:DataW H × List MemPlace}
 (ht:P.underlying t=some (.slice e)) (hc:P.cellsOf e=sz) (hsz:0<sz) (h:DataW.trod enc P w base spare held fuel t cs=some x) :
 ∃v len,cs = [v]/\Sl w w.heap.size sz v len (fun _ c=>∃n y,n<fuel/\DataW.trod enc P w base spare held n e c=some y):=by
 rcases DataW.trod_slice ht h with⟨rfl,_⟩ | ⟨a,len,cap,elems,rest,n,hn,rfl,_,hb,hl,hm,hlen,hel,_,_⟩
 . exact⟨_,0,rfl,none,0,rfl,Nat.zero_le _,fun h0=>absurd h0 (Nat.lt_irrefl 0)⟩
 refine⟨_,len,rfl,some a,cap,rfl,by omega,fun h0=>?_⟩;have each:∀i,i<len->∃c:List Value,c.length=sz/\(∀j,j<sz->w.cell? (a.add (i * sz+j))=c[j]?)/\∃y,DataW.trod enc P w base spare held n e c=some y:=by
  intro i hi;have h1:=hel i hi;rw [gee (by omega),hc] at h1;obtain⟨c,h2,h3⟩:=Option.bind_eq_some_iff.1 h1;obtain⟨_,h4,h5⟩:=World.cells?_some h2;exact⟨c,h4,fun j hj=>by rw [<-h5 j hj,Go.Deep.add_add],_,h3⟩
 have hspot:a.spot=none:=by
  obtain⟨c,h1,h2,_⟩:=each 0 h0;have h3:=h2 0 hsz;rw [gee (by omega)] at h3;have:=World.cell?_spot h3;simpa [Addr.add] using this
 obtain⟨b,off,sp⟩:=a;simp only at hspot;subst hspot;have plain:∀j,(⟨b,off,none⟩:Addr).add j = ⟨b,off+j,none⟩:=fun j=>by unfold Addr.add;split <;> simp_all
 refine⟨b,off,rfl,?_,fun i hi=>?_⟩
 . obtain⟨c,h1,h2,_⟩:=each 0 h0;have h3:=h2 0 hsz;rw [gee (by omega),plain] at h3;exact World.block_lt_of_cell? w _ h3
 . obtain⟨c,h1,h2,y,h3⟩:=each i hi;exact⟨c,h1,fun j hj=>by rw [<-h2 j hj,plain,Nat.add_assoc],n,y,by omega,h3⟩
theorem Sl.list {w:World} {B sz:Nat} {v:Value} {len:Nat} {α:Type} {E:List Value->α->Prop} (h:Sl w B sz v len (fun _ c=>∃x,E c x)):∃l:List α,l.length=len/\Sl w B sz v l.length (fun i c=>∃x,l[i]? = some x/\E c x):=by
 obtain⟨a,cap,hv,hl,hs⟩:=h
 by_cases h0:0<len
 . obtain⟨b,off,ha,hb,hi⟩:=hs h0;have each:∀i:Fin len,∃x:α,∃cs:List Value,cs.length=sz/\(∀j,j<sz->w.cell? ⟨b,off+i.1 * sz+j,none⟩=cs[j]?)/\E cs x:=fun i=>by
    obtain⟨cs,h1,h2,x,h3⟩:=hi i.1 i.2;exact⟨x,cs,h1,h2,h3⟩
   refine⟨List.ofFn fun i=>Classical.choose (each i),by simp,a,cap,by simpa using hv,by simpa using hl,fun _=>⟨b,off,ha,hb,fun i hi'=>?_⟩⟩;have hi2:i<len:=by simpa using hi'
   obtain⟨cs,h1,h2,h3⟩:=Classical.choose_spec (each ⟨i,hi2⟩);exact⟨cs,h1,h2,_,by simp [hi2],h3⟩
 . obtain rfl:len=0:=by omega
   exact⟨[],rfl,a,cap,hv,hl,fun h=>absurd h (Nat.lt_irrefl 0)⟩
theorem Ad9:prog.cellsOf 3=1:=by kernel_rfl
set_option maxRecDepth 100000
section
variable {H : Type} {enc : TypeId × Value -> H} {w : World} {base : Nat} {spare : Nat -> Bool} {held : Bool}
end
end Go.Proofs.YtppcohadoilpgaaGreatDoor
namespace Go.Proofs.YtppcohadoilpgaaGreatDoor
open Go.ChangeShapes Go.WideShapes Go.ChangeAt Go.RowKit Go.Joins Go.Proofs.Tryz
set_option linter.unusedVariables false
theorem F6 {s:ByteArray} {kind:Int} {st st':St} (h:Bh s kind st = .ok st'):st'.nodes=st.nodes/\s.size<=200:=by
 unfold Bh at h;split at h
 . cases h
 . rename_i hn;have hs:s.size<=8:=by
    have:Ct s=true:=by simpa using hn
    simp only [Ct,Bool.and_eq_true,decide_eq_true_eq] at this;exact this.1.1.2
   split at h
   . cases h;exact⟨rfl,by omega⟩
   . split at h
     . cases h;exact⟨rfl,by omega⟩
     . cases h
theorem Abo {s:ByteArray} (h:0<lvl s):s.size<=200:=by
 by_cases hs:s.size<=200
 . exact hs
 . exfalso
   have hl:=Hr s;have H:∀l:List UInt8,l.length<=200->(s.toList=l)=False:=fun l hl2=>eq_false (fun e=>by rw [e] at hl;omega);simp [lvl,H] at h
theorem Vx {s:ByteArray} (h:0<Dn s):s.size<=200:=by
 by_cases hs:s.size<=200
 . exact hs
 . exfalso
   have hl:=Hr s;have H:∀l:List UInt8,l.length<=200->(s.toList=l)=False:=fun l hl2=>eq_false (fun e=>by rw [e] at hl;omega);simp [Dn,H] at h
theorem Um {k:Int} {s:ByteArray} {st st':St} (ha:k=11->0<Dn s) (h:Ay k s st = .ok st'):st'.nodes=st.nodes/\s.size<=200:=by
 unfold Ay at h;split at h
 . split at h
   . cases h
   . cases h;exact⟨rfl,by omega⟩
 . split at h
   . exact F6 h
   . split at h
     . exact F6 h
     . split at h
       . split at h
         . rename_i hl;cases h;exact⟨rfl,Abo hl⟩
         . cases h
       . split at h
         . split at h
           . rename_i hl;have hl2:=Hr s;cases h;refine⟨rfl,?_⟩;rcases hl with e | e <;> (rw [e] at hl2;simp at hl2;omega)
           . cases h
         . split at h
           . rename_i h11;cases h;exact⟨rfl,Vx (ha h11)⟩
           . split at h
             . cases h
             . cases h;exact⟨rfl,by omega⟩
theorem Jt {d:Int} {st st':St} (h:B6 d st = .ok st'):st'.nodes=st.nodes+1/\st'.nodes<=4000:=by
 unfold B6 at h;split at h
 . cases h
 . rename_i hn;cases h;exact⟨rfl,by show st.nodes+1<=4000;omega⟩
theorem Ga {α:Type} {f:α->St->Res} {g:α->Nat} {P:α->Prop} {l:List α} {st st':St}
 (hf:∀x ∈ l,∀s s':St,s.nodes<=4000->f x s = .ok s'->P x/\s.nodes+1<=s'.nodes/\s'.nodes<=4000/\(g x:Int)<=1000 * (s'.nodes - s.nodes))
 (h0:st.nodes<=4000) (h:Au f l st = .ok st') :
 (∀x ∈ l,P x)/\st.nodes+l.length<=st'.nodes/\st'.nodes<=4000/\(((l.map g).sum:Nat):Int)<=1000 * (st'.nodes - st.nodes):=by
 induction l generalizing st with
 | nil=>simp only [Au] at h;cases h;simp;omega
 | cons x l ih =>
  simp only [Au] at h;cases hx:f x st with
  | error e=>rw [hx] at h;cases h
  | ok s2 =>
   rw [hx] at h;obtain⟨a1,a2,a3,a4⟩:=hf x (List.mem_cons_self ..) _ _ h0 hx;obtain⟨b1,b2,b3,b4⟩:=ih (fun y hy=>hf y (List.mem_cons_of_mem _ hy)) a3 h;refine⟨?_,?_,b3,?_⟩
   . intro y hy;rcases List.mem_cons.1 hy with rfl | hy
     . exact a1
     . exact b1 y hy
   . simp only [List.length_cons];omega
   . simp only [List.map_cons,List.sum_cons];omega
theorem Nn (l:List (List UInt8)):(Ld l).length<=(l.map fun x=>x.length+2).sum:=by
 induction l with
 | nil=>simp [Ld]
 | cons x l ih =>
  cases l with
  | nil=>simp [Ld]
  | cons y l=>simp only [Ld,lap,List.map_cons,List.sum_cons,List.length_cons,List.length_nil] at ih ⊢;omega
theorem El {w:World} {B sz:Nat} {v:Value} {α:Type} {l:List α} {E:List Value->α->Prop} (h:Sl w B sz v l.length (fun i c=>∃x,l[i]? = some x/\E c x)) {x:α} (hx:x ∈ l):∃c,E c x:=by
 obtain⟨a,cap,_,_,hs⟩:=h;obtain⟨i,hi,rfl⟩:=List.getElem_of_mem hx;obtain⟨b,off,_,_,hj⟩:=hs (by omega);obtain⟨c,_,_,y,hy,he⟩:=hj i hi;rw [gee hi] at hy;cases hy;exact⟨c,he⟩
theorem Aa7 {m:Nat} {k n:Int} {s:ByteArray} {l:List Ex} (h1:1<=k) (h2:k<=12) (hp:Bt k n s l.length=true) (hs:s.size<=200) (hn0:0<=n) (hn:n<=1099511627776) :
 (exT (m+1) (.mk k n s l)).length<=500+(l.map fun x=>(exT m x).length+2).sum:=by
 have hl:=Hr s;have hq:=Lw s.toList;have hi:=Lib.itoa_length_le n (by omega) (by omega);have ha:=Da hp;have hj:=Nn (l.map (exT m));simp only [List.map_map,Function.comp_def] at hj;obtain rfl | rfl | rfl | rfl | rfl | rfl | rfl | rfl | rfl | rfl | rfl | rfl:k=1\/k=2\/k=3\/k=4\/k=5\/k=6\/k=7\/k=8\/k=9\/k=10\/k=11\/k=12:=by omega
 . simp [exT];omega
 . simp [exT];omega
 . simp [exT];omega
 . match l,ha with
   | [x],_=>simp [exT];omega
 . match l,ha with
   | [x],_=>simp [exT];omega
 . match l,ha with
   | [x,y],_=>simp [exT];omega
 . match l,ha with
   | [x],_=>simp [exT];omega
 . match l,ha with
   | [x],_=>simp [exT];omega
 . match l,ha with
   | [x],_=>simp [exT];omega
 . match l,ha with
   | [x,y,z],_=>simp [exT];omega
 . simp [exT];omega
 . simp [exT];omega
theorem Kq:∀ {m:Nat} {B:Nat} {w:World} {cs:List Value} {x:Ex} {d:Int} {st st':St},ExA B w m cs x->st.nodes<=4000->ckE m x d st = .ok st' ->
 okE m x/\st.nodes+1<=st'.nodes/\st'.nodes<=4000/\(((exT m x).length+2:Nat):Int)<=1000 * (st'.nodes - st.nodes):=by
 intro m
 induction m with
 | zero=>intro B w cs x d st st' h;exact h.elim
 | succ m ih =>
  intro B w cs x d st st' hx h0 h;cases x with
  | mk k n s l =>
   obtain⟨v,_,_,_,_,hsl⟩:=hx;simp only [ckE] at h;cases hp:B6 d st with
   | error e=>rw [hp] at h;cases h
   | ok st1 =>
    rw [hp] at h;obtain⟨p1,p2⟩:=Jt hp;simp only at h;split at h
    . cases h
    . rename_i hk;split at h
      . cases h
      . rename_i hpa;have hpa2:Bt k n s l.length=true:=by simpa using hpa
        have ha:k=11->0<Dn s:=by
         simp only [Bt,Bool.and_eq_true,decide_eq_true_eq] at hpa2;exact hpa2.2
        cases ht:Ay k s st1 with
        | error e=>rw [ht] at h;cases h
        | ok st2 =>
         rw [ht] at h;obtain⟨t1,t2⟩:=Um ha ht;simp only at h;split at h
         . cases h
         . rename_i hn;obtain⟨r1,r2,r3,r4⟩:=Ga (g:=fun x=>(exT m x).length+2) (P:=okE m) (fun x hx s s' hs hf=>by
            obtain⟨c,hc⟩:=El hsl hx;exact ih hc hs hf) (by omega) h
           refine⟨⟨by omega,by omega,hpa2,t2,by omega,by omega,r1⟩,by omega,r3,?_⟩;have:=Aa7 (m:=m) (by omega) (by omega) hpa2 t2 (by omega) (by omega:n<=1099511627776);omega
theorem Sh {k:Int} {s:ByteArray} {st st':St} (h:Bi k s st = .ok st'):st'.nodes=st.nodes/\s.size<=200:=by
 unfold Bi at h;split at h
 . exact F6 h
 . split at h
   . exact F6 h
   . split at h
     . cases h
     . cases h;exact⟨rfl,by omega⟩
theorem Si {k:Int} {s:ByteArray} {st st':St} (h:Bc k s st = .ok st'):st'.nodes=st.nodes/\s.size<=200:=by
 unfold Bc at h;split at h
 . exact F6 h
 . split at h
   . split at h
     . cases h
     . cases h;exact⟨rfl,by omega⟩
   . split at h
     . cases h
     . cases h;exact⟨rfl,by omega⟩
theorem Mh {when k:Int} {s t:ByteArray} {st st':St} (h:As when k s t st = .ok st'):st'.nodes=st.nodes/\s.size<=200/\t.size<=200:=by
 unfold As at h;cases h1:Bi k s st with
 | error e=>rw [h1] at h;cases h
 | ok st1 =>
  rw [h1] at h;obtain⟨a1,a2⟩:=Sh h1;simp only at h;split at h
  . cases h
  . obtain⟨b1,b2⟩:=Si h;exact⟨by omega,a2,b2⟩
theorem Ox (f:Sm->List UInt8) (l:List Sm):(blL f l).length=3+(l.map fun x=>(f x).length+1).sum:=by
 have:∀l:List Sm,(l.flatMap fun x=>f x ++ [32]).length=(l.map fun x=>(f x).length+1).sum:=by
  intro l
  induction l with
  | nil=>rfl
  | cons x l ih=>simp only [List.flatMap_cons,lap,ih,List.map_cons,List.sum_cons,List.length_cons,List.length_nil]
 simp only [blL,lap,this,List.length_cons,List.length_nil];omega
theorem Acr {m:Nat} {k:Int} {s t:ByteArray} {es:List Ex} {b e:List Sm} (h1:1<=k) (h2:k<=10) (hp:Dw k es.length b.length e.length=true) (hs:s.size<=200) (ht:t.size<=200) :
 (smT (m+1) (.mk k s t es b e)).length<=700+(es.map fun x=>(exT m x).length+2).sum+(b.map fun x=>(smT m x).length+1).sum+(e.map fun x=>(smT m x).length+1).sum:=by
 have hl:=Hr s;have hl2:=Hr t;have hq:=Lw t.toList;have hj:=Nn (es.map (exT m));simp only [List.map_map,Function.comp_def] at hj;have hb:=Ox (smT m) b;have he:=Ox (smT m) e;simp only [Dw,Bool.and_eq_true] at hp;have hn:=hp.1.1;clear hp;obtain rfl | rfl | rfl | rfl | rfl | rfl | rfl | rfl | rfl | rfl:k=1\/k=2\/k=3\/k=4\/k=5\/k=6\/k=7\/k=8\/k=9\/k=10:=by omega
 . match es,hn with
   | [x],_=>simp [smT];omega
 . match es,hn with
   | [x,y],_=>simp [smT];omega
 . match es,hn with
   | [x,y],_=>simp [smT];omega
 . simp [smT];omega
 . match es,hn with
   | [x],_=>simp [smT];omega
 . match es,hn with
   | [x],_=>simp [smT];omega
 . simp [smT];omega
 . simp [smT];omega
 . match es,hn with
   | [x],_=>simp [smT];omega
 . simp [smT];omega
theorem Iu {when:Int}:∀ {m:Nat} {B:Nat} {w:World} {cs:List Value} {x:Sm} {d:Int} {st st':St},SmA B w m cs x->st.nodes<=4000->ckS when m x d st = .ok st' ->
 okS m x/\st.nodes+1<=st'.nodes/\st'.nodes<=4000/\(((smT m x).length+1:Nat):Int)<=1000 * (st'.nodes - st.nodes):=by
 intro m
 induction m with
 | zero=>intro B w cs x d st st' h;exact h.elim
 | succ m ih =>
  intro B w cs x d st st' hx h0 h;cases x with
  | mk k s t es b e =>
   obtain⟨v1,v2,v3,_,_,_,_,hs1,hs2,hs3⟩:=hx;simp only [ckS] at h;cases hp:B6 d st with
   | error e=>rw [hp] at h;cases h
   | ok st1 =>
    rw [hp] at h;obtain⟨p1,p2⟩:=Jt hp;simp only at h;split at h
    . cases h
    . rename_i hk;split at h
      . cases h
      . rename_i hpa;have hpa2:Dw k es.length b.length e.length=true:=by simpa using hpa
        cases ht:As when k s t st1 with
        | error e=>rw [ht] at h;cases h
        | ok st2 =>
         rw [ht] at h;obtain⟨t1,t2,t3⟩:=Mh ht;simp only at h;split at h
         . cases h
         . cases hr1:Au (fun x=>ckE m x (d+1)) es st2 with
           | error e=>rw [hr1] at h;cases h
           | ok st3 =>
            rw [hr1] at h;simp only at h;cases hr2:Au (fun x=>ckS when m x (d+1)) b st3 with
            | error e=>rw [hr2] at h;cases h
            | ok st4 =>
             rw [hr2] at h;simp only at h;obtain⟨r1,r2,r3,r4⟩:=Ga (g:=fun x=>(exT m x).length+2) (P:=okE m) (fun x hx s s' hs hf=>by
              obtain⟨c,hc⟩:=El hs1 hx;exact Kq hc hs hf) (by omega) hr1
             obtain⟨q1,q2,q3,q4⟩:=Ga (g:=fun x=>(smT m x).length+1) (P:=okS m) (fun x hx s s' hs hf=>by
              obtain⟨c,hc⟩:=El hs2 hx;exact ih hc hs hf) (by omega) hr2
             obtain⟨u1,u2,u3,u4⟩:=Ga (g:=fun x=>(smT m x).length+1) (P:=okS m) (fun x hx s s' hs hf=>by
              obtain⟨c,hc⟩:=El hs3 hx;exact ih hc hs hf) (by omega) h
             refine⟨⟨by omega,by omega,hpa2,t2,t3,r1,q1,u1⟩,by omega,u3,?_⟩;have:=Acr (m:=m) (by omega) (by omega) hpa2 t2 t3;omega
theorem U7 {m B:Nat} {w:World} {cs:List Value} {r:Ru} {st st':St} (hr:RuA B w m cs r) (h0:st.nodes<=4000) (h:ckR m r st = .ok st') :
 okR m r/\st.nodes<=st'.nodes/\st'.nodes<=4000/\(((ruT m r).length:Nat):Int)<=20+1000 * (st'.nodes - st.nodes):=by
 obtain⟨c0,c1,c2,c3,v,_,_,hpat,hb⟩:=hr;unfold ckR at h;split at h
 . cases h
 . rename_i hw;split at h
   . cases h
   . rename_i hh;have hbl:=Ox (smT m) r.body
     by_cases hhas:r.has=true
     . have hw1:r.when=1:=by
        by_cases h1:r.when=1
        . exact h1
        . exact absurd ⟨hhas,h1⟩ hh
       rw [hhas] at h;simp only [if_true] at h;cases hE:ckE m r.pat 1 st with
       | error e=>rw [hE] at h;cases h
       | ok st1 =>
        rw [hE] at h;simp at h;obtain⟨a1,a2,a3,a4⟩:=Kq hpat h0 hE;obtain⟨q1,q2,q3,q4⟩:=Ga (g:=fun x=>(smT m x).length+1) (P:=okS m) (fun x hx s s' hs hf=>by
         obtain⟨c,hc⟩:=El hb hx;exact Iu hc hs hf) a3 h
        refine⟨⟨by omega,by omega,fun _=>⟨hw1,a1⟩,q1⟩,by omega,q3,?_⟩;simp [ruT,hw1,hhas];omega
     . have hhas2:r.has=false:=by simpa using hhas
       rw [hhas2] at h;simp at h
       by_cases hz:C5 r.pat=false
       . rw [if_pos hz] at h;cases h
       . rw [if_neg hz] at h;obtain⟨q1,q2,q3,q4⟩:=Ga (g:=fun x=>(smT m x).length+1) (P:=okS m) (fun x hx s s' hs hf=>by
          obtain⟨c,hc⟩:=El hb hx;exact Iu hc hs hf) h0 h
         refine⟨⟨by omega,by omega,fun h=>absurd h hhas,q1⟩,by omega,q3,?_⟩;have:(if r.when=0 then ([66,69,71,73,78,32]:List UInt8) else if r.when=2 then [69,78,68,32] else if r.has then exT m r.pat ++ [32] else []).length<=6:=by
          rw [hhas2];split
          . simp
          . split <;> simp
         simp only [ruT,lap,hbl];omega
theorem Xx {m B:Nat} {w:World} {l:List Ru} {st st':St} (hl:∀r ∈ l,∃cs,RuA B w m cs r) (h0:st.nodes<=4000) (h:Au (ckR m) l st = .ok st') :
 (∀r ∈ l,okR m r)/\st.nodes<=st'.nodes/\st'.nodes<=4000/\(((prT m l).length:Nat):Int)<=21 * l.length+1000 * (st'.nodes - st.nodes):=by
 induction l generalizing st with
 | nil=>simp only [Au] at h;cases h;simp [prT];omega
 | cons r l ih =>
  simp only [Au] at h;cases hx:ckR m r st with
  | error e=>rw [hx] at h;cases h
  | ok s2 =>
   rw [hx] at h;obtain⟨cs,hcs⟩:=hl r (List.mem_cons_self ..);obtain⟨a1,a2,a3,a4⟩:=U7 hcs h0 hx;obtain⟨b1,b2,b3,b4⟩:=ih (fun y hy=>hl y (List.mem_cons_of_mem _ hy)) a3 h;refine⟨?_,by omega,b3,?_⟩
   . intro y hy;rcases List.mem_cons.1 hy with rfl | hy
     . exact a1
     . exact b1 y hy
   . simp only [prT,List.flatMap_cons,lap,List.length_cons,List.length_nil] at b4 ⊢;omega
theorem E8 {α:Type} {f:α->St->Res} {l:List α} {st:St} (hf:∀x s,f x s ≠ .error 0):Au f l st ≠ .error 0:=by
 induction l generalizing st with
 | nil=>intro h;cases h
 | cons x l ih =>
  intro h;simp only [Au] at h;cases hx:f x st with
  | error e=>rw [hx] at h;exact hf x st (hx.trans h)
  | ok s2=>rw [hx] at h;exact ih h
theorem Ls (d:Int) (st:St):B6 d st ≠ .error 0:=by unfold B6;split <;> (intro h;cases h)
theorem Ib (s:ByteArray) (k:Int) (st:St):Bh s k st ≠ .error 0:=by
 unfold Bh
 repeat' split
 all_goals (intro h;cases h)
theorem Sg (k:Int) (s:ByteArray) (st:St):Ay k s st ≠ .error 0:=by
 unfold Ay
 repeat' split
 all_goals first | exact Ib _ _ _ | (intro h;cases h)
theorem P9 (k:Int) (s:ByteArray) (st:St):Bi k s st ≠ .error 0:=by
 unfold Bi
 repeat' split
 all_goals first | exact Ib _ _ _ | (intro h;cases h)
theorem Qa (k:Int) (s:ByteArray) (st:St):Bc k s st ≠ .error 0:=by
 unfold Bc
 repeat' split
 all_goals first | exact Ib _ _ _ | (intro h;cases h)
theorem Sj (when k:Int) (s t:ByteArray) (st:St):As when k s t st ≠ .error 0:=by
 unfold As;cases h1:Bi k s st with
 | error e=>intro h;exact P9 k s st (h1.trans h)
 | ok st1 =>
  simp only;split
  . intro h;cases h
  . exact Qa _ _ _
theorem Qv (m:Nat):∀(x:Ex) (d:Int) (st:St),ckE m x d st ≠ .error 0:=by
 induction m with
 | zero=>intro x d st h;cases h
 | succ m ih =>
  intro x d st;cases x with
  | mk k n s l =>
   simp only [ckE];cases h1:B6 d st with
   | error e=>intro h;exact Ls d st (h1.trans h)
   | ok st1 =>
    simp only;split
    . intro h;cases h
    . split
      . intro h;cases h
      . cases h2:Ay k s st1 with
        | error e=>intro h;exact Sg k s st1 (h2.trans h)
        | ok st2 =>
         simp only;split
         . intro h;cases h
         . exact E8 fun x s=>ih x _ s
theorem Xz (when:Int) (m:Nat):∀(x:Sm) (d:Int) (st:St),ckS when m x d st ≠ .error 0:=by
 induction m with
 | zero=>intro x d st h;cases h
 | succ m ih =>
  intro x d st;cases x with
  | mk k s t es b e =>
   simp only [ckS];cases h1:B6 d st with
   | error e=>intro h;exact Ls d st (h1.trans h)
   | ok st1 =>
    simp only;split
    . intro h;cases h
    . split
      . intro h;cases h
      . cases h2:As when k s t st1 with
        | error e=>intro h;exact Sj when k s t st1 (h2.trans h)
        | ok st2 =>
         simp only;split
         . intro h;cases h
         . cases h3:Au (fun x=>ckE m x (d+1)) es st2 with
           | error e=>intro h;exact E8 (fun x s=>Qv m x _ s) (h3.trans h)
           | ok st3 =>
            simp only;cases h4:Au (fun x=>ckS when m x (d+1)) b st3 with
            | error e=>intro h;exact E8 (fun x s=>ih x _ s) (h4.trans h)
            | ok st4=>exact E8 fun x s=>ih x _ s
theorem Ho (m:Nat) (l:List Ru) (st:St):Au (ckR m) l st ≠ .error 0:=by
 refine E8 fun r s=>?_;unfold ckR;split
 . intro h;cases h
 . split
   . intro h;cases h
   . cases h1:(if r.has then ckE m r.pat 1 s else .ok s) with
     | error e =>
      intro h;split at h1
      . exact Qv m r.pat 1 s (h1.trans h)
      . cases h1
     | ok st1 =>
      simp only;split
      . intro h;cases h
      . exact E8 fun x s=>Xz _ m x _ s
theorem U6 {m B:Nat} {w:World} {v:Value} {l:List Ru} (hv:Sl w B 7 v l.length (fun i c=>∃x,l[i]? = some x/\RuA B w m c x)) (h:ckP m l=0) :
 (∀r ∈ l,okR m r)/\(prT m l).length<=10000000/\l.length<=20:=by
 unfold ckP at h;split at h
 . omega
 . rename_i h20;cases hr:Au (ckR m) l ⟨fun _=>0,0⟩ with
   | error e =>
    rw [hr] at h;simp only at h;exact absurd (h ▸ hr) (Ho m l _)
   | ok st' =>
    obtain⟨a1,a2,a3,a4⟩:=Xx (fun r hr=>El hv hr) (by simp) hr;refine⟨a1,?_,by omega⟩;simp only at a2 a3 a4;omega
end Go.Proofs.YtppcohadoilpgaaGreatDoor
