/-
  A program done line by line (P3.2 to P3.5), as functions of data: values, lists, what a program knows; expressions asked, statements and rules done; how a run ends. No program is named here. / Fuel that is left never grows. / The number of lines that were begun is not changed by statements.
-/
import Derived.Test.YtodjbffhlklpkaaGreatDoorVal2
import Derived.Test.YtodjbffhlklpkaaGreatDoorGround
import Derived.Test.YtodjbffhlklpkaaGreatDoorWdMem
import Derived.Lib.FieldsP
namespace Go.Proofs.YtodjbffhlklpkaaGreatDoor
open Go.RowKit
structure Vl where
 t:Bool
 n:Int
 s:ByteArray
def vN (n:Int):Vl:=⟨false,n,⟨#[]⟩⟩
def vS (s:ByteArray):Vl:=⟨true,0,s⟩
def vB (b:Bool):Vl:=vN (b2i b)
def Vl.ok (v:Vl):Prop:=vf v.t v.n v.s=0
def Vl.str (v:Vl):ByteArray:=strOf v.t v.n v.s
def Vl.key (v:Vl):List UInt8:=v.str.data.toList
def Vl.so (v:Vl):Bool:=if v.t then decide (0<v.s.size) else v.n != 0
def Vl.num (v:Vl):Option Int:=if -1099511627776<=numOf v.t v.n v.s/\numOf v.t v.n v.s<=1099511627776 then some (numOf v.t v.n v.s) else none
abbrev Tab:=List (List UInt8 × Vl)
def tabAt (k:List UInt8) (t:Tab):Option Vl:=(t.find? fun p=>p.1 == k).map (·.2)
def tabIns (x:List UInt8 × Vl):Tab->Tab
 | []=> [x]
 | y :: r=>if bytesBefore x.1 y.1 then x :: y :: r else y :: tabIns x r
def tabDel (k:List UInt8) (t:Tab):Tab:=t.filter fun p=> !(p.1 == k)
def tabPut (k:List UInt8) (v:Vl) (t:Tab):Tab:=tabIns (k,v) (tabDel k t)
structure Ms where
 vars:ByteArray->Vl
 lists:ByteArray->Tab
 left:Nat
 whole:ByteArray
 flds:List ByteArray
 recs:Nat
 out:List ByteArray
def sureM (r:R4):Except Int Vl:=if r.2.2.2=0 then .ok ⟨r.1,r.2.1,r.2.2.1⟩ else .error r.2.2.2
def fieldM (s:Ms) (v:Vl):Except Int ByteArray :=
 match v.num with
 | none=> .error 4
 | some n=>if n<0 then .error 4 else if n=0 then .ok s.whole else .ok (s.flds.getD (n.toNat - 1) ⟨#[]⟩)
def callM (nm:ByteArray) (l:List Vl):R4 :=
 match l with
 | [a]=>if nm = ⟨#[108,101,110,103,116,104]⟩ then rN (a.str.size:Int) else rEnd 3
 | [a,b]=>if nm = ⟨#[105,110,100,101,120]⟩ then rN (Lib.index a.str.data.toList b.str.data.toList+1) else rEnd 3
 | [a,b,c]=>if nm = ⟨#[115,117,98,115,116,114]⟩ then pceR a.str b.t b.n b.s c.t c.n c.s else rEnd 3
 | _=>rEnd 3
def allM {α β:Type} (f:α->Except Int β):List α->Except Int (List β)
 | []=> .ok []
 | x :: l=>(f x).bind fun v=>(allM f l).bind fun r=> .ok (v :: r)
def opM (op:ByteArray) (a b:Except Int Vl):Except Int Vl :=
 if op = ⟨#[38,38]⟩ then a.bind fun x=>if x.so then b.bind fun y=> .ok (vB y.so) else .ok (vB false)
 else if op = ⟨#[124,124]⟩ then a.bind fun x=>if x.so then .ok (vB true) else b.bind fun y=> .ok (vB y.so)
 else a.bind fun x=>b.bind fun y=>sureM (opSpec op x.t x.n x.s y.t y.n y.s)
def askM (s:Ms):Nat->Ex->Except Int Vl
 | 0,_=> .ok (vN 0)
 | m+1,.mk k n t l =>
  if k=1 then .ok (vN n)
  else if k=2 then .ok (vS t)
  else if k=3 then .ok (s.vars t)
  else if k=4 then (askM s m (l.getD 0 default)).bind fun v=>(fieldM s v).bind fun x=> .ok (vS x)
  else if k=5 then (askM s m (l.getD 0 default)).bind fun v=> .ok ((tabAt v.key (s.lists t)).getD (vN 0))
  else if k=6 then opM t (askM s m (l.getD 0 default)) (askM s m (l.getD 1 default))
  else if k=7 then (askM s m (l.getD 0 default)).bind fun v=>sureM (opSpec ⟨#[45]⟩ false 0 ⟨#[]⟩ v.t v.n v.s)
  else if k=8 then (askM s m (l.getD 0 default)).bind fun v=> .ok (vB (!v.so))
  else if k=9 then (askM s m (l.getD 0 default)).bind fun v=> .ok (vB (tabAt v.key (s.lists t)).isSome)
  else if k=10 then (askM s m (l.getD 0 default)).bind fun v=>if v.so then askM s m (l.getD 1 default) else askM s m (l.getD 2 default)
  else if k=11 then (allM (askM s m) l).bind fun vs=>sureM (callM t vs)
  else .ok (vN (if t = ⟨#[78,82]⟩ then (s.recs:Int) else (s.flds.length:Int)))
inductive Om where
 | go (s:Ms) (b:Bool)
 | stop (s:Ms) (e:Int)
def Om.then (r:Om) (f:Ms->Om):Om:=match r with
 | .go s true=>f s
 | .go s false=> .go s false
 | .stop s e=> .stop s e
def orM {α:Type} (s:Ms) (x:Except Int α) (f:α->Om):Om:=match x with
 | .ok v=>f v
 | .error e=> .stop s e
def burnM (s:Ms) (f:Ms->Om):Om:=if s.left=0 then .stop s 1 else f { s with left:=s.left - 1 }
def setM (s:Ms) (nm:ByteArray) (v:Vl):Ms:={ s with vars:=fun x=>if x=nm then v else s.vars x }
def listM (s:Ms) (nm:ByteArray) (t:Tab):Ms:={ s with lists:=fun x=>if x=nm then t else s.lists x }
def putM (s:Ms) (nm:ByteArray) (k:List UInt8) (v:Vl):Om :=
 if 100<(tabPut k v (s.lists nm)).length then .stop s 3 else .go (listM s nm (tabPut k v (s.lists nm))) true
def blanksM (l:List ByteArray):List UInt8:=Lib.join (l.map (·.data.toList)) [32]
def wideM (l:List ByteArray) (n:Nat):List ByteArray:=l ++ List.replicate (n - l.length) ⟨#[]⟩
def writeM (s:Ms) (v:Vl) (t:ByteArray):Om :=
 match v.num with
 | none=> .stop s 4
 | some n =>
  if n<1\/100<n then .stop s 4
  else if 200<(blanksM ((wideM s.flds n.toNat).set (n.toNat - 1) t)).length then .stop s 3
  else .go { s with flds:=(wideM s.flds n.toNat).set (n.toNat - 1) t,whole:=⟨(blanksM ((wideM s.flds n.toNat).set (n.toNat - 1) t)).toArray⟩ } true
def printM (s:Ms) (l:List ByteArray):Om :=
 if 200<(blanksM l).length\/s.out.length=2000 then .stop s 3
 else .go { s with out:=s.out ++ [⟨(blanksM l).toArray⟩] } true
def loadL (nm:ByteArray):List ByteArray->Nat->Ms->Om
 | [],_,s=> .go s true
 | x :: l,i,s=>(putM s nm (Lib.itoa ((i+1:Nat):Int)) (vS x)).then (loadL nm l (i+1))
def loadM (F:List Fl) (s:Ms) (nm file:ByteArray):Om :=
 match F.find? (fun f=>f.name == file) with
 | none=> .stop s 5
 | some f=>loadL nm f.lines 0 (listM s nm [])
def plainM (F:List Fl) (m:Nat) (s:Ms):Sm->Om
 | .mk k a t es _ _ =>
  if k=1 then orM s (askM s m (es.getD 0 default)) fun v=> .go (setM s a v) true
  else if k=2 then orM s (askM s m (es.getD 0 default)) fun x=>orM s (askM s m (es.getD 1 default)) fun v=>putM s a x.key v
  else if k=3 then orM s (askM s m (es.getD 0 default)) fun x=>orM s (askM s m (es.getD 1 default)) fun v=>writeM s x v.str
  else if k=4 then orM s (allM (askM s m) es) fun vs=>printM s (vs.map Vl.str)
  else if k=9 then orM s (askM s m (es.getD 0 default)) fun x=> .go (listM s a (tabDel x.key (s.lists a))) true
  else if k=10 then loadM F s a t
  else .go s true
def runM {α:Type} (f:Ms->α->Om):List α->Ms->Om
 | [],s=> .go s true
 | x :: l,s=>(f s x).then (runM f l)
def whileM (q:Ms->Except Int Vl) (b:Ms->Om):Nat->Ms->Om
 | 0,s=> .stop s 1
 | n+1,s=>orM s (q s) fun v=>if v.so then burnM s fun s1=>(b s1).then (whileM q b n) else .go s true
def stmtM (F:List Fl):Nat->Ms->Sm->Om
 | 0,s,_=> .go s true
 | m+1,s,.mk k a t es b e=>burnM s fun s =>
  if k=5 then orM s (askM s m (es.getD 0 default)) fun v=>if v.so then runM (stmtM F m) b s else runM (stmtM F m) e s
  else if k=6 then whileM (fun s=>askM s m (es.getD 0 default)) (runM (stmtM F m) b) (s.left+1) s
  else if k=7 then runM (fun s key=>burnM s fun s=>runM (stmtM F m) b (setM s a (vS ⟨key.toArray⟩))) ((s.lists t).map (·.1)) s
  else if k=8 then .go s false
  else plainM F m s (.mk k a t es b e)
def ruleM (F:List Fl) (m:Nat) (s:Ms) (r:Ru):Om:=burnM s fun s =>
 if r.has then orM s (askM s m r.pat) fun v=>if v.so then runM (stmtM F m) r.body s else .go s true
 else runM (stmtM F m) r.body s
def rulesM (F:List Fl) (m:Nat) (l:List Ru) (when:Int) (s:Ms):Om :=
 match runM (ruleM F m) (l.filter fun r=>r.when == when) s with
 | .go s _=> .go s true
 | .stop s e=> .stop s e
def sepB (c:Nat):Bool:=c == 32 || c == 9
def takeM (s:Ms) (l:ByteArray):Ms:={ s with whole:=l,flds:=Lib.goFieldsP sepB l }
def finishM (F:List Fl) (m:Nat) (l:List Ru) (lines:List ByteArray) (s:Ms):Om :=
 (rulesM F m l 0 s).then fun s =>
  (runM (fun s x=>rulesM F m l 1 (takeM { s with recs:=s.recs+1 } x)) lines s).then fun s=>rulesM F m l 2 (takeM s ⟨#[]⟩)
def startM (fuel:Nat):Ms:=⟨fun _=>vN 0,fun _=> [],fuel,⟨#[]⟩,[],0,[]⟩
end Go.Proofs.YtodjbffhlklpkaaGreatDoor
namespace Go.Proofs.YtodjbffhlklpkaaGreatDoor
set_option linter.unusedVariables false
def Om.lef:Om->Nat
 | .go s _=>s.left
 | .stop s _=>s.left
theorem then_lef {r:Om} {f:Ms->Om} {n:Nat} (h:r.lef<=n) (hf:∀s:Ms,s.left<=n->(f s).lef<=n):(r.then f).lef<=n:=by
 match r,h with
 | .go s true,h=>exact hf s h
 | .go s false,h=>exact h
 | .stop s e,h=>exact h
theorem orM_lef {α:Type} {s:Ms} {x:Except Int α} {f:α->Om} {n:Nat} (h:s.left<=n) (hf:∀v,(f v).lef<=n):(orM s x f).lef<=n:=by
 cases x with
 | ok v=>exact hf v
 | error e=>exact h
theorem burnM_lef {s:Ms} {f:Ms->Om} {n:Nat} (h:s.left<=n) (hf:∀s':Ms,s'.left<=n->(f s').lef<=n):(burnM s f).lef<=n:=by
 unfold burnM
 split
 . exact h
 . exact hf _ (Nat.le_trans (Nat.sub_le _ _) h)
theorem putM_lef (s:Ms) (x:ByteArray) (k:List UInt8) (v:Vl):(putM s x k v).lef<=s.left:=by
 unfold putM
 split <;> exact Nat.le_refl _
theorem writeM_lef (s:Ms) (v:Vl) (t:ByteArray):(writeM s v t).lef<=s.left:=by
 unfold writeM
 split
 . exact Nat.le_refl _
 . split
   . exact Nat.le_refl _
   . split <;> exact Nat.le_refl _
theorem printM_lef (s:Ms) (l:List ByteArray):(printM s l).lef<=s.left:=by
 unfold printM
 split <;> exact Nat.le_refl _
theorem loadL_lef (x:ByteArray):∀(l:List ByteArray) (i n:Nat) (s:Ms),s.left<=n->(loadL x l i s).lef<=n
 | [],_,_,_,h=>h
 | y :: l,i,n,s,h=>then_lef (Nat.le_trans (putM_lef _ _ _ _) h) fun s' h'=>loadL_lef x l (i+1) n s' h'
theorem loadM_lef (F:List Fl) (s:Ms) (x t:ByteArray):(loadM F s x t).lef<=s.left:=by
 unfold loadM
 split
 . exact Nat.le_refl _
 . exact loadL_lef x _ 0 _ _ (Nat.le_refl _)
theorem plainM_lef (F:List Fl) (m:Nat) (s:Ms) (x:Sm):(plainM F m s x).lef<=s.left:=by
 obtain⟨k,a,t,es,b,e⟩:=x
 unfold plainM
 dsimp only
 by_cases h1:k=1
 . rw [if_pos h1];exact orM_lef (f:=fun v=> .go (setM s a v) true) (Nat.le_refl _) fun v=>Nat.le_refl s.left
 rw [if_neg h1]
 by_cases h2:k=2
 . rw [if_pos h2];exact orM_lef (Nat.le_refl _) fun x=>orM_lef (Nat.le_refl _) fun v=>putM_lef _ _ _ _
 rw [if_neg h2]
 by_cases h3:k=3
 . rw [if_pos h3];exact orM_lef (Nat.le_refl _) fun x=>orM_lef (Nat.le_refl _) fun v=>writeM_lef _ _ _
 rw [if_neg h3]
 by_cases h4:k=4
 . rw [if_pos h4];exact orM_lef (Nat.le_refl _) fun vs=>printM_lef _ _
 rw [if_neg h4]
 by_cases h9:k=9
 . rw [if_pos h9];exact orM_lef (f:=fun x:Vl=> .go (listM s a (tabDel x.key (s.lists a))) true) (Nat.le_refl _) fun x=>Nat.le_refl s.left
 rw [if_neg h9]
 by_cases h10:k=10
 . rw [if_pos h10];exact loadM_lef _ _ _ _
 . rw [if_neg h10];exact Nat.le_refl s.left
theorem runM_lef {α:Type} {f:Ms->α->Om} {n:Nat} (hf:∀(s:Ms) x,s.left<=n->(f s x).lef<=n):∀(l:List α) (s:Ms),s.left<=n->(runM f l s).lef<=n
 | [],_,h=>h
 | x :: l,s,h=>then_lef (hf s x h) fun s' h'=>runM_lef hf l s' h'
theorem whileM_lef {q:Ms->Except Int Vl} {b:Ms->Om} {n:Nat} (hb:∀s:Ms,s.left<=n->(b s).lef<=n):∀(k:Nat) (s:Ms),s.left<=n->(whileM q b k s).lef<=n
 | 0,_,h=>h
 | k+1,s,h=>orM_lef h fun v=>by
  split
  . exact burnM_lef h fun s' h'=>then_lef (hb s' h') fun s2 h2=>whileM_lef hb k s2 h2
  . exact h
theorem stmtM_lef (F:List Fl):∀(m n:Nat) (s:Ms) (x:Sm),s.left<=n->(stmtM F m s x).lef<=n
 | 0,_,_,_,h=>h
 | m+1,n,s,.mk k a t es b e,h=>by
  have hr:∀(l:List Sm) (s:Ms),s.left<=n->(runM (stmtM F m) l s).lef<=n:=runM_lef fun s x h=>stmtM_lef F m n s x h
  unfold stmtM
  refine burnM_lef h fun s h=>?_
  split
  . exact orM_lef h fun v=>by split <;> exact hr _ _ h
  split
  . exact whileM_lef (fun s h=>hr _ _ h) _ _ h
  split
  . exact runM_lef (f:=fun s (key:List UInt8)=>burnM s fun s=>runM (stmtM F m) b (setM s a (vS ⟨key.toArray⟩))) (fun s (key:List UInt8) h=>burnM_lef (f:=fun s=>runM (stmtM F m) b (setM s a (vS ⟨key.toArray⟩))) h fun s' h'=>hr b (setM s' a (vS ⟨key.toArray⟩)) h') _ _ h
  split
  . exact h
  . exact Nat.le_trans (plainM_lef _ _ _ _) h
theorem runS_lef (F:List Fl) (m n:Nat) (l:List Sm) (s:Ms) (h:s.left<=n):(runM (stmtM F m) l s).lef<=n:=runM_lef (fun s x h=>stmtM_lef F m n s x h) l s h
def Om.rec':Om->Nat
 | .go s _=>s.recs
 | .stop s _=>s.recs
theorem then_rec {r:Om} {f:Ms->Om} {n:Nat} (h:r.rec'=n) (hf:∀s:Ms,s.recs=n->(f s).rec'=n):(r.then f).rec'=n:=by
 match r,h with
 | .go s true,h=>exact hf s h
 | .go s false,h=>exact h
 | .stop s e,h=>exact h
theorem orM_rec {α:Type} {s:Ms} {x:Except Int α} {f:α->Om} {n:Nat} (h:s.recs=n) (hf:∀v,(f v).rec'=n):(orM s x f).rec'=n:=by
 cases x with
 | ok v=>exact hf v
 | error e=>exact h
theorem burnM_rec {s:Ms} {f:Ms->Om} {n:Nat} (h:s.recs=n) (hf:∀s':Ms,s'.recs=n->(f s').rec'=n):(burnM s f).rec'=n:=by
 unfold burnM
 split
 . exact h
 . exact hf _ h
theorem putM_rec (s:Ms) (x:ByteArray) (k:List UInt8) (v:Vl):(putM s x k v).rec'=s.recs:=by
 unfold putM
 split <;> rfl
theorem writeM_rec (s:Ms) (v:Vl) (t:ByteArray):(writeM s v t).rec'=s.recs:=by
 unfold writeM
 split
 . rfl
 . split
   . rfl
   . split <;> rfl
theorem printM_rec (s:Ms) (l:List ByteArray):(printM s l).rec'=s.recs:=by
 unfold printM
 split <;> rfl
theorem loadL_rec (x:ByteArray):∀(l:List ByteArray) (i n:Nat) (s:Ms),s.recs=n->(loadL x l i s).rec'=n
 | [],_,_,_,h=>h
 | y :: l,i,n,s,h=>then_rec ((putM_rec _ _ _ _).trans h) fun s' h'=>loadL_rec x l (i+1) n s' h'
theorem loadM_rec (F:List Fl) (s:Ms) (x t:ByteArray):(loadM F s x t).rec'=s.recs:=by
 unfold loadM
 split
 . rfl
 . exact loadL_rec x _ 0 _ _ rfl
theorem plainM_rec (F:List Fl) (m:Nat) (s:Ms) (x:Sm):(plainM F m s x).rec'=s.recs:=by
 obtain⟨k,a,t,es,b,e⟩:=x
 unfold plainM
 dsimp only
 by_cases h1:k=1
 . rw [if_pos h1];exact orM_rec (f:=fun v=> .go (setM s a v) true) rfl fun v=>rfl
 rw [if_neg h1]
 by_cases h2:k=2
 . rw [if_pos h2];exact orM_rec rfl fun x=>orM_rec rfl fun v=>putM_rec _ _ _ _
 rw [if_neg h2]
 by_cases h3:k=3
 . rw [if_pos h3];exact orM_rec rfl fun x=>orM_rec rfl fun v=>writeM_rec _ _ _
 rw [if_neg h3]
 by_cases h4:k=4
 . rw [if_pos h4];exact orM_rec rfl fun vs=>printM_rec _ _
 rw [if_neg h4]
 by_cases h9:k=9
 . rw [if_pos h9];exact orM_rec (f:=fun x:Vl=> .go (listM s a (tabDel x.key (s.lists a))) true) rfl fun x=>rfl
 rw [if_neg h9]
 by_cases h10:k=10
 . rw [if_pos h10];exact loadM_rec _ _ _ _
 . rw [if_neg h10];rfl
theorem runM_rec {α:Type} {f:Ms->α->Om} {n:Nat} (hf:∀(s:Ms) x,s.recs=n->(f s x).rec'=n):∀(l:List α) (s:Ms),s.recs=n->(runM f l s).rec'=n
 | [],_,h=>h
 | x :: l,s,h=>then_rec (hf s x h) fun s' h'=>runM_rec hf l s' h'
theorem whileM_rec {q:Ms->Except Int Vl} {b:Ms->Om} {n:Nat} (hb:∀s:Ms,s.recs=n->(b s).rec'=n):∀(k:Nat) (s:Ms),s.recs=n->(whileM q b k s).rec'=n
 | 0,_,h=>h
 | k+1,s,h=>orM_rec h fun v=>by
  split
  . exact burnM_rec h fun s' h'=>then_rec (hb s' h') fun s2 h2=>whileM_rec hb k s2 h2
  . exact h
theorem stmtM_rec (F:List Fl):∀(m n:Nat) (s:Ms) (x:Sm),s.recs=n->(stmtM F m s x).rec'=n
 | 0,_,_,_,h=>h
 | m+1,n,s,.mk k a t es b e,h=>by
  have hr:∀(l:List Sm) (s:Ms),s.recs=n->(runM (stmtM F m) l s).rec'=n:=runM_rec fun s x h=>stmtM_rec F m n s x h
  unfold stmtM
  refine burnM_rec h fun s h=>?_
  split
  . exact orM_rec h fun v=>by split <;> exact hr _ _ h
  split
  . exact whileM_rec (fun s h=>hr _ _ h) _ _ h
  split
  . exact runM_rec (f:=fun s (key:List UInt8)=>burnM s fun s=>runM (stmtM F m) b (setM s a (vS ⟨key.toArray⟩))) (fun s (key:List UInt8) h=>burnM_rec (f:=fun s=>runM (stmtM F m) b (setM s a (vS ⟨key.toArray⟩))) h fun s' h'=>hr b (setM s' a (vS ⟨key.toArray⟩)) h') _ _ h
  split
  . exact h
  . exact (plainM_rec _ _ _ _).trans h
theorem ruleM_rec (F:List Fl) (m n:Nat) (s:Ms) (r:Ru) (h:s.recs=n):(ruleM F m s r).rec'=n:=by
 have hr:∀(l:List Sm) (s:Ms),s.recs=n->(runM (stmtM F m) l s).rec'=n:=runM_rec fun s x h=>stmtM_rec F m n s x h
 unfold ruleM
 refine burnM_rec h fun s h=>?_
 split
 . exact orM_rec h fun v=>by
    split
    . exact hr _ _ h
    . exact h
 . exact hr _ _ h
theorem rulesM_rec {F:List Fl} {m:Nat} {l:List Ru} {when:Int} {s s':Ms} {b:Bool} (h:rulesM F m l when s = .go s' b):s'.recs=s.recs/\b=true:=by
 have hr:=runM_rec (f:=ruleM F m) (n:=s.recs) (fun s x h=>ruleM_rec F m _ s x h) (l.filter fun r=>r.when == when) s rfl
 unfold rulesM at h
 split at h
 . rename_i s2 b2 e
   rw [e] at hr
   cases h
   exact⟨hr,rfl⟩
 . cases h
end Go.Proofs.YtodjbffhlklpkaaGreatDoor
