/-
  A program done line by line (P3.2 to P3.5), as functions of data: values, lists, what a program knows; expressions asked, statements and rules done; how a run ends. No program is named here. / Fuel that is left never grows. / The number of lines that were begun is not changed by statements.
-/
import Derived.Test.YtppcohadoilpgaaGreatDoorVal2
import Derived.Test.YtppcohadoilpgaaGreatDoorGround
import Derived.Test.YtppcohadoilpgaaGreatDoorWdMem
import Derived.Lib.FieldsP
namespace Go.Proofs.YtppcohadoilpgaaGreatDoor
open Go.RowKit Go.Proofs.Tryz
structure Vl where
 t:Bool
 n:Int
 s:ByteArray
def vN (n:Int):Vl:=⟨false,n,⟨#[]⟩⟩
def vS (s:ByteArray):Vl:=⟨true,0,s⟩
def vB (b:Bool):Vl:=vN (b2i b)
def Vl.ok (v:Vl):Prop:=vf v.t v.n v.s=0
def Vl.str (v:Vl):ByteArray:=Cz v.t v.n v.s
def Vl.key (v:Vl):List UInt8:=v.str.data.toList
def Vl.so (v:Vl):Bool:=if v.t then decide (0<v.s.size) else v.n != 0
def Vl.num (v:Vl):Option Int:=if -1099511627776<=Av v.t v.n v.s/\Av v.t v.n v.s<=1099511627776 then some (Av v.t v.n v.s) else none
abbrev Tab:=List (List UInt8 × Vl)
def Cm (k:List UInt8) (t:Tab):Option Vl:=(t.find? fun p=>p.1 == k).map (·.2)
def Gq (x:List UInt8 × Vl):Tab->Tab
 | []=> [x]
 | y :: r=>if bytesBefore x.1 y.1 then x :: y :: r else y :: Gq x r
def Dy (k:List UInt8) (t:Tab):Tab:=t.filter fun p=> !(p.1 == k)
def En (k:List UInt8) (v:Vl) (t:Tab):Tab:=Gq (k,v) (Dy k t)
structure Ms where
 vars:ByteArray->Vl
 lists:ByteArray->Tab
 left:Nat
 whole:ByteArray
 flds:List ByteArray
 recs:Nat
 out:List ByteArray
def Di (r:R4):Except Int Vl:=if r.2.2.2=0 then .ok ⟨r.1,r.2.1,r.2.2.1⟩ else .error r.2.2.2
def Cu (s:Ms) (v:Vl):Except Int ByteArray :=
 match v.num with
 | none=> .error 4
 | some n=>if n<0 then .error 4 else if n=0 then .ok s.whole else .ok (s.flds.getD (n.toNat - 1) ⟨#[]⟩)
def Ir (nm:ByteArray) (l:List Vl):R4 :=
 match l with
 | [a]=>if nm = ⟨#[108,101,110,103,116,104]⟩ then rN (a.str.size:Int) else Ew 3
 | [a,b]=>if nm = ⟨#[105,110,100,101,120]⟩ then rN (Lib.index a.str.data.toList b.str.data.toList+1) else Ew 3
 | [a,b,c]=>if nm = ⟨#[115,117,98,115,116,114]⟩ then Wn a.str b.t b.n b.s c.t c.n c.s else Ew 3
 | _=>Ew 3
def Cw {α β:Type} (f:α->Except Int β):List α->Except Int (List β)
 | []=> .ok []
 | x :: l=>(f x).bind fun v=>(Cw f l).bind fun r=> .ok (v :: r)
def opM (op:ByteArray) (a b:Except Int Vl):Except Int Vl :=
 if op = ⟨#[38,38]⟩ then a.bind fun x=>if x.so then b.bind fun y=> .ok (vB y.so) else .ok (vB false)
 else if op = ⟨#[124,124]⟩ then a.bind fun x=>if x.so then .ok (vB true) else b.bind fun y=> .ok (vB y.so)
 else a.bind fun x=>b.bind fun y=>Di (D8 op x.t x.n x.s y.t y.n y.s)
def Ai (s:Ms):Nat->Ex->Except Int Vl
 | 0,_=> .ok (vN 0)
 | m+1,.mk k n t l =>
  if k=1 then .ok (vN n)
  else if k=2 then .ok (vS t)
  else if k=3 then .ok (s.vars t)
  else if k=4 then (Ai s m (l.getD 0 default)).bind fun v=>(Cu s v).bind fun x=> .ok (vS x)
  else if k=5 then (Ai s m (l.getD 0 default)).bind fun v=> .ok ((Cm v.key (s.lists t)).getD (vN 0))
  else if k=6 then opM t (Ai s m (l.getD 0 default)) (Ai s m (l.getD 1 default))
  else if k=7 then (Ai s m (l.getD 0 default)).bind fun v=>Di (D8 ⟨#[45]⟩ false 0 ⟨#[]⟩ v.t v.n v.s)
  else if k=8 then (Ai s m (l.getD 0 default)).bind fun v=> .ok (vB (!v.so))
  else if k=9 then (Ai s m (l.getD 0 default)).bind fun v=> .ok (vB (Cm v.key (s.lists t)).isSome)
  else if k=10 then (Ai s m (l.getD 0 default)).bind fun v=>if v.so then Ai s m (l.getD 1 default) else Ai s m (l.getD 2 default)
  else if k=11 then (Cw (Ai s m) l).bind fun vs=>Di (Ir t vs)
  else .ok (vN (if t = ⟨#[78,82]⟩ then (s.recs:Int) else (s.flds.length:Int)))
inductive Om where
 | go (s:Ms) (b:Bool)
 | stop (s:Ms) (e:Int)
def Om.then (r:Om) (f:Ms->Om):Om:=match r with
 | .go s true=>f s
 | .go s false=> .go s false
 | .stop s e=> .stop s e
def orM {α:Type} (s:Ms) (x:Except Int α) (f:α->Om):Om:=match x with
 | .ok v=>f v
 | .error e=> .stop s e
def Az (s:Ms) (f:Ms->Om):Om:=if s.left=0 then .stop s 1 else f { s with left:=s.left - 1 }
def Dz (s:Ms) (nm:ByteArray) (v:Vl):Ms:={ s with vars:=fun x=>if x=nm then v else s.vars x }
def Bm (s:Ms) (nm:ByteArray) (t:Tab):Ms:={ s with lists:=fun x=>if x=nm then t else s.lists x }
def Dl (s:Ms) (nm:ByteArray) (k:List UInt8) (v:Vl):Om :=
 if 100<(En k v (s.lists nm)).length then .stop s 3 else .go (Bm s nm (En k v (s.lists nm))) true
def Co (l:List ByteArray):List UInt8:=Lib.join (l.map (·.data.toList)) [32]
def H8 (l:List ByteArray) (n:Nat):List ByteArray:=l ++ List.replicate (n - l.length) ⟨#[]⟩
def De (s:Ms) (v:Vl) (t:ByteArray):Om :=
 match v.num with
 | none=> .stop s 4
 | some n =>
  if n<1\/100<n then .stop s 4
  else if 200<(Co ((H8 s.flds n.toNat).set (n.toNat - 1) t)).length then .stop s 3
  else .go { s with flds:=(H8 s.flds n.toNat).set (n.toNat - 1) t,whole:=⟨(Co ((H8 s.flds n.toNat).set (n.toNat - 1) t)).toArray⟩ } true
def Dx (s:Ms) (l:List ByteArray):Om :=
 if 200<(Co l).length\/s.out.length=2000 then .stop s 3
 else .go { s with out:=s.out ++ [⟨(Co l).toArray⟩] } true
def Fu (nm:ByteArray):List ByteArray->Nat->Ms->Om
 | [],_,s=> .go s true
 | x :: l,i,s=>(Dl s nm (Lib.itoa ((i+1:Nat):Int)) (vS x)).then (Fu nm l (i+1))
def F4 (F:List Fl) (s:Ms) (nm file:ByteArray):Om :=
 match F.find? (fun f=>f.name == file) with
 | none=> .stop s 5
 | some f=>Fu nm f.lines 0 (Bm s nm [])
def A2 (F:List Fl) (m:Nat) (s:Ms):Sm->Om
 | .mk k a t es _ _ =>
  if k=1 then orM s (Ai s m (es.getD 0 default)) fun v=> .go (Dz s a v) true
  else if k=2 then orM s (Ai s m (es.getD 0 default)) fun x=>orM s (Ai s m (es.getD 1 default)) fun v=>Dl s a x.key v
  else if k=3 then orM s (Ai s m (es.getD 0 default)) fun x=>orM s (Ai s m (es.getD 1 default)) fun v=>De s x v.str
  else if k=4 then orM s (Cw (Ai s m) es) fun vs=>Dx s (vs.map Vl.str)
  else if k=9 then orM s (Ai s m (es.getD 0 default)) fun x=> .go (Bm s a (Dy x.key (s.lists a))) true
  else if k=10 then F4 F s a t
  else .go s true
def A0 {α:Type} (f:Ms->α->Om):List α->Ms->Om
 | [],s=> .go s true
 | x :: l,s=>(f s x).then (A0 f l)
def Dd (q:Ms->Except Int Vl) (b:Ms->Om):Nat->Ms->Om
 | 0,s=> .stop s 1
 | n+1,s=>orM s (q s) fun v=>if v.so then Az s fun s1=>(b s1).then (Dd q b n) else .go s true
def Ag (F:List Fl):Nat->Ms->Sm->Om
 | 0,s,_=> .go s true
 | m+1,s,.mk k a t es b e=>Az s fun s =>
  if k=5 then orM s (Ai s m (es.getD 0 default)) fun v=>if v.so then A0 (Ag F m) b s else A0 (Ag F m) e s
  else if k=6 then Dd (fun s=>Ai s m (es.getD 0 default)) (A0 (Ag F m) b) (s.left+1) s
  else if k=7 then A0 (fun s key=>Az s fun s=>A0 (Ag F m) b (Dz s a (vS ⟨key.toArray⟩))) ((s.lists t).map (·.1)) s
  else if k=8 then .go s false
  else A2 F m s (.mk k a t es b e)
def Ep (F:List Fl) (m:Nat) (s:Ms) (r:Ru):Om:=Az s fun s =>
 if r.has then orM s (Ai s m r.pat) fun v=>if v.so then A0 (Ag F m) r.body s else .go s true
 else A0 (Ag F m) r.body s
def Ci (F:List Fl) (m:Nat) (l:List Ru) (when:Int) (s:Ms):Om :=
 match A0 (Ep F m) (l.filter fun r=>r.when == when) s with
 | .go s _=> .go s true
 | .stop s e=> .stop s e
def M5 (c:Nat):Bool:=c == 32 || c == 9
def Gv (s:Ms) (l:ByteArray):Ms:={ s with whole:=l,flds:=Lib.goFieldsP M5 l }
def Be (F:List Fl) (m:Nat) (l:List Ru) (lines:List ByteArray) (s:Ms):Om :=
 (Ci F m l 0 s).then fun s =>
  (A0 (fun s x=>Ci F m l 1 (Gv { s with recs:=s.recs+1 } x)) lines s).then fun s=>Ci F m l 2 (Gv s ⟨#[]⟩)
def Cj (fuel:Nat):Ms:=⟨fun _=>vN 0,fun _=> [],fuel,⟨#[]⟩,[],0,[]⟩
end Go.Proofs.YtppcohadoilpgaaGreatDoor
namespace Go.Proofs.YtppcohadoilpgaaGreatDoor
set_option linter.unusedVariables false
def Om.lef:Om->Nat
 | .go s _=>s.left
 | .stop s _=>s.left
theorem Mi {r:Om} {f:Ms->Om} {n:Nat} (h:r.lef<=n) (hf:∀s:Ms,s.left<=n->(f s).lef<=n):(r.then f).lef<=n:=by
 match r,h with
 | .go s true,h=>exact hf s h
 | .go s false,h=>exact h
 | .stop s e,h=>exact h
theorem Ev {α:Type} {s:Ms} {x:Except Int α} {f:α->Om} {n:Nat} (h:s.left<=n) (hf:∀v,(f v).lef<=n):(orM s x f).lef<=n:=by
 cases x with
 | ok v=>exact hf v
 | error e=>exact h
theorem Jf {s:Ms} {f:Ms->Om} {n:Nat} (h:s.left<=n) (hf:∀s':Ms,s'.left<=n->(f s').lef<=n):(Az s f).lef<=n:=by
 unfold Az;split
 . exact h
 . exact hf _ (lq0 (Nat.sub_le _ _) h)
theorem Rx (s:Ms) (x:ByteArray) (k:List UInt8) (v:Vl):(Dl s x k v).lef<=s.left:=by
 unfold Dl;split <;> exact Nat.le_refl _
theorem Ur (s:Ms) (v:Vl) (t:ByteArray):(De s v t).lef<=s.left:=by
 unfold De;split
 . exact Nat.le_refl _
 . split
   . exact Nat.le_refl _
   . split <;> exact Nat.le_refl _
theorem T0 (s:Ms) (l:List ByteArray):(Dx s l).lef<=s.left:=by
 unfold Dx;split <;> exact Nat.le_refl _
theorem Nr (x:ByteArray):∀(l:List ByteArray) (i n:Nat) (s:Ms),s.left<=n->(Fu x l i s).lef<=n
 | [],_,_,_,h=>h
 | y :: l,i,n,s,h=>Mi (lq0 (Rx _ _ _ _) h) fun s' h'=>Nr x l (i+1) n s' h'
theorem Wf (F:List Fl) (s:Ms) (x t:ByteArray):(F4 F s x t).lef<=s.left:=by
 unfold F4;split
 . exact Nat.le_refl _
 . exact Nr x _ 0 _ _ lr0
theorem Tx (F:List Fl) (m:Nat) (s:Ms) (x:Sm):(A2 F m s x).lef<=s.left:=by
 obtain⟨k,a,t,es,b,e⟩:=x;unfold A2
 dsimp only
 by_cases h1:k=1
 . rw [if_pos h1];exact Ev (f:=fun v=> .go (Dz s a v) true) lr0 fun v=>Nat.le_refl s.left
 rw [if_neg h1]
 by_cases h2:k=2
 . rw [if_pos h2];exact Ev lr0 fun x=>Ev lr0 fun v=>Rx _ _ _ _
 rw [if_neg h2]
 by_cases h3:k=3
 . rw [if_pos h3];exact Ev lr0 fun x=>Ev lr0 fun v=>Ur _ _ _
 rw [if_neg h3]
 by_cases h4:k=4
 . rw [if_pos h4];exact Ev lr0 fun vs=>T0 _ _
 rw [if_neg h4]
 by_cases h9:k=9
 . rw [if_pos h9];exact Ev (f:=fun x:Vl=> .go (Bm s a (Dy x.key (s.lists a))) true) lr0 fun x=>Nat.le_refl s.left
 rw [if_neg h9]
 by_cases h10:k=10
 . rw [if_pos h10];exact Wf _ _ _ _
 . rw [if_neg h10];exact Nat.le_refl s.left
theorem I4 {α:Type} {f:Ms->α->Om} {n:Nat} (hf:∀(s:Ms) x,s.left<=n->(f s x).lef<=n):∀(l:List α) (s:Ms),s.left<=n->(A0 f l s).lef<=n
 | [],_,h=>h
 | x :: l,s,h=>Mi (hf s x h) fun s' h'=>I4 hf l s' h'
theorem Mq {q:Ms->Except Int Vl} {b:Ms->Om} {n:Nat} (hb:∀s:Ms,s.left<=n->(b s).lef<=n):∀(k:Nat) (s:Ms),s.left<=n->(Dd q b k s).lef<=n
 | 0,_,h=>h
 | k+1,s,h=>Ev h fun v=>by
  split
  . exact Jf h fun s' h'=>Mi (hb s' h') fun s2 h2=>Mq hb k s2 h2
  . exact h
theorem N2 (F:List Fl):∀(m n:Nat) (s:Ms) (x:Sm),s.left<=n->(Ag F m s x).lef<=n
 | 0,_,_,_,h=>h
 | m+1,n,s,.mk k a t es b e,h=>by
  have hr:∀(l:List Sm) (s:Ms),s.left<=n->(A0 (Ag F m) l s).lef<=n:=I4 fun s x h=>N2 F m n s x h;unfold Ag;refine Jf h fun s h=>?_;split
  . exact Ev h fun v=>by split <;> exact hr _ _ h
  split
  . exact Mq (fun s h=>hr _ _ h) _ _ h
  split
  . exact I4 (f:=fun s (key:List UInt8)=>Az s fun s=>A0 (Ag F m) b (Dz s a (vS ⟨key.toArray⟩))) (fun s (key:List UInt8) h=>Jf (f:=fun s=>A0 (Ag F m) b (Dz s a (vS ⟨key.toArray⟩))) h fun s' h'=>hr b (Dz s' a (vS ⟨key.toArray⟩)) h') _ _ h
  split
  . exact h
  . exact lq0 (Tx _ _ _ _) h
theorem Zo (F:List Fl) (m n:Nat) (l:List Sm) (s:Ms) (h:s.left<=n):(A0 (Ag F m) l s).lef<=n:=I4 (fun s x h=>N2 F m n s x h) l s h
def Om.rec':Om->Nat
 | .go s _=>s.recs
 | .stop s _=>s.recs
theorem Mj {r:Om} {f:Ms->Om} {n:Nat} (h:r.rec'=n) (hf:∀s:Ms,s.recs=n->(f s).rec'=n):(r.then f).rec'=n:=by
 match r,h with
 | .go s true,h=>exact hf s h
 | .go s false,h=>exact h
 | .stop s e,h=>exact h
theorem Ee {α:Type} {s:Ms} {x:Except Int α} {f:α->Om} {n:Nat} (h:s.recs=n) (hf:∀v,(f v).rec'=n):(orM s x f).rec'=n:=by
 cases x with
 | ok v=>exact hf v
 | error e=>exact h
theorem Hj {s:Ms} {f:Ms->Om} {n:Nat} (h:s.recs=n) (hf:∀s':Ms,s'.recs=n->(f s').rec'=n):(Az s f).rec'=n:=by
 unfold Az;split
 . exact h
 . exact hf _ h
theorem Ry (s:Ms) (x:ByteArray) (k:List UInt8) (v:Vl):(Dl s x k v).rec'=s.recs:=by
 unfold Dl;split <;> rfl
theorem Us (s:Ms) (v:Vl) (t:ByteArray):(De s v t).rec'=s.recs:=by
 unfold De;split
 . rfl
 . split
   . rfl
   . split <;> rfl
theorem T2 (s:Ms) (l:List ByteArray):(Dx s l).rec'=s.recs:=by
 unfold Dx;split <;> rfl
theorem Ns (x:ByteArray):∀(l:List ByteArray) (i n:Nat) (s:Ms),s.recs=n->(Fu x l i s).rec'=n
 | [],_,_,_,h=>h
 | y :: l,i,n,s,h=>Mj ((Ry _ _ _ _).trans h) fun s' h'=>Ns x l (i+1) n s' h'
theorem Wg (F:List Fl) (s:Ms) (x t:ByteArray):(F4 F s x t).rec'=s.recs:=by
 unfold F4;split
 . rfl
 . exact Ns x _ 0 _ _ rfl
theorem Ty (F:List Fl) (m:Nat) (s:Ms) (x:Sm):(A2 F m s x).rec'=s.recs:=by
 obtain⟨k,a,t,es,b,e⟩:=x;unfold A2
 dsimp only
 by_cases h1:k=1
 . rw [if_pos h1];exact Ee (f:=fun v=> .go (Dz s a v) true) rfl fun v=>rfl
 rw [if_neg h1]
 by_cases h2:k=2
 . rw [if_pos h2];exact Ee rfl fun x=>Ee rfl fun v=>Ry _ _ _ _
 rw [if_neg h2]
 by_cases h3:k=3
 . rw [if_pos h3];exact Ee rfl fun x=>Ee rfl fun v=>Us _ _ _
 rw [if_neg h3]
 by_cases h4:k=4
 . rw [if_pos h4];exact Ee rfl fun vs=>T2 _ _
 rw [if_neg h4]
 by_cases h9:k=9
 . rw [if_pos h9];exact Ee (f:=fun x:Vl=> .go (Bm s a (Dy x.key (s.lists a))) true) rfl fun x=>rfl
 rw [if_neg h9]
 by_cases h10:k=10
 . rw [if_pos h10];exact Wg _ _ _ _
 . rw [if_neg h10];rfl
theorem Hg {α:Type} {f:Ms->α->Om} {n:Nat} (hf:∀(s:Ms) x,s.recs=n->(f s x).rec'=n):∀(l:List α) (s:Ms),s.recs=n->(A0 f l s).rec'=n
 | [],_,h=>h
 | x :: l,s,h=>Mj (hf s x h) fun s' h'=>Hg hf l s' h'
theorem Mr {q:Ms->Except Int Vl} {b:Ms->Om} {n:Nat} (hb:∀s:Ms,s.recs=n->(b s).rec'=n):∀(k:Nat) (s:Ms),s.recs=n->(Dd q b k s).rec'=n
 | 0,_,h=>h
 | k+1,s,h=>Ee h fun v=>by
  split
  . exact Hj h fun s' h'=>Mj (hb s' h') fun s2 h2=>Mr hb k s2 h2
  . exact h
theorem N3 (F:List Fl):∀(m n:Nat) (s:Ms) (x:Sm),s.recs=n->(Ag F m s x).rec'=n
 | 0,_,_,_,h=>h
 | m+1,n,s,.mk k a t es b e,h=>by
  have hr:∀(l:List Sm) (s:Ms),s.recs=n->(A0 (Ag F m) l s).rec'=n:=Hg fun s x h=>N3 F m n s x h;unfold Ag;refine Hj h fun s h=>?_;split
  . exact Ee h fun v=>by split <;> exact hr _ _ h
  split
  . exact Mr (fun s h=>hr _ _ h) _ _ h
  split
  . exact Hg (f:=fun s (key:List UInt8)=>Az s fun s=>A0 (Ag F m) b (Dz s a (vS ⟨key.toArray⟩))) (fun s (key:List UInt8) h=>Hj (f:=fun s=>A0 (Ag F m) b (Dz s a (vS ⟨key.toArray⟩))) h fun s' h'=>hr b (Dz s' a (vS ⟨key.toArray⟩)) h') _ _ h
  split
  . exact h
  . exact (Ty _ _ _ _).trans h
theorem Wr (F:List Fl) (m n:Nat) (s:Ms) (r:Ru) (h:s.recs=n):(Ep F m s r).rec'=n:=by
 have hr:∀(l:List Sm) (s:Ms),s.recs=n->(A0 (Ag F m) l s).rec'=n:=Hg fun s x h=>N3 F m n s x h;unfold Ep;refine Hj h fun s h=>?_;split
 . exact Ee h fun v=>by
    split
    . exact hr _ _ h
    . exact h
 . exact hr _ _ h
theorem Uc {F:List Fl} {m:Nat} {l:List Ru} {when:Int} {s s':Ms} {b:Bool} (h:Ci F m l when s = .go s' b):s'.recs=s.recs/\b=true:=by
 have hr:=Hg (f:=Ep F m) (n:=s.recs) (fun s x h=>Wr F m _ s x h) (l.filter fun r=>r.when == when) s rfl;unfold Ci at h;split at h
 . rename_i s2 b2 e;rw [e] at hr;cases h;exact⟨hr,rfl⟩
 . cases h
end Go.Proofs.YtppcohadoilpgaaGreatDoor
