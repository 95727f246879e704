/-
  Runs as data: what a statement that prints does, and rules, when fuel lasts. / A run prints more and more, and its fuel gets no more. Of data alone. / What lines that come later do changes nothing of what was printed ahead of them. Of data alone.
-/
import Derived.Test.YtodjbffhlklpkaaGreatDoorMSpec
import Derived.Test.YtodjbffhlklpkaaGreatDoorGround
namespace Go.Proofs.YtodjbffhlklpkaaGreatDoor
open Go.RowKit
set_option linter.unusedVariables false
set_option maxRecDepth 100000
end Go.Proofs.YtodjbffhlklpkaaGreatDoor
namespace Go.Proofs.YtodjbffhlklpkaaGreatDoor
open Go.RowKit
set_option linter.unusedVariables false
set_option linter.unusedSimpArgs false
set_option maxRecDepth 100000
def omOut:Om->List ByteArray
 | .go s _=>s.out
 | .stop s _=>s.out
def omLeft:Om->Nat
 | .go s _=>s.left
 | .stop s _=>s.left
def Gr0 (s:Ms) (r:Om):Prop:=s.out <+: omOut r/\omLeft r<=s.left
theorem Gr0.go (s:Ms) (b:Bool):Gr0 s (.go s b):=⟨List.prefix_refl _,Nat.le_refl _⟩
theorem Gr0.stop (s:Ms) (e:Int):Gr0 s (.stop s e):=⟨List.prefix_refl _,Nat.le_refl _⟩
theorem Gr0.then {s:Ms} {r:Om} {f:Ms->Om} (h:Gr0 s r) (hf:∀t,Gr0 t (f t)):Gr0 s (r.then f):=by
 cases r with
 | go t b =>
  cases b with
  | true=>exact⟨h.1.trans (hf t).1,Nat.le_trans (hf t).2 h.2⟩
  | false=>exact h
 | stop t e=>exact h
theorem Gr0.or {α:Type} {s:Ms} {x:Except Int α} {f:α->Om} (hf:∀v,Gr0 s (f v)):Gr0 s (orM s x f):=by
 cases x with
 | error e=>exact Gr0.stop s e
 | ok v=>exact hf v
theorem Gr0.burn {s:Ms} {f:Ms->Om} (hf:∀t,Gr0 t (f t)):Gr0 s (burnM s f):=by
 unfold burnM
 split
 . exact Gr0.stop s 1
 . have:=hf { s with left:=s.left - 1 }
   exact⟨this.1,Nat.le_trans this.2 (Nat.sub_le _ _)⟩
theorem Gr0.same {s t:Ms} {r:Om} (ho:t.out=s.out) (hl:t.left=s.left) (h:Gr0 t r):Gr0 s r:=⟨ho ▸ h.1,hl ▸ h.2⟩
theorem Gr0.run {α:Type} {f:Ms->α->Om} (hf:∀s x,Gr0 s (f s x)):∀(l:List α) (s:Ms),Gr0 s (runM f l s)
 | [],s=>Gr0.go s true
 | x :: l,s=>(hf s x).then (Gr0.run hf l)
theorem Gr0.put (s:Ms) (nm:ByteArray) (k:List UInt8) (v:Vl):Gr0 s (putM s nm k v):=by
 unfold putM
 split
 . exact Gr0.stop s 3
 . exact Gr0.same (t:=listM s nm (tabPut k v (s.lists nm))) rfl rfl (Gr0.go _ true)
theorem Gr0.load (nm:ByteArray):∀(l:List ByteArray) (i:Nat) (s:Ms),Gr0 s (loadL nm l i s)
 | [],_,s=>Gr0.go s true
 | x :: l,i,s=>(Gr0.put s nm _ _).then (Gr0.load nm l (i+1))
theorem Gr0.plain (F:List Fl) (m:Nat) (s:Ms) (x:Sm):Gr0 s (plainM F m s x):=by
 cases x with
 | mk k a t es b e =>
  simp only [plainM]
  split
  . exact Gr0.or fun v=>Gr0.same (t:=setM s a v) rfl rfl (Gr0.go _ true)
  split
  . exact Gr0.or fun v=>Gr0.or fun u=>Gr0.put s a _ u
  split
  . refine Gr0.or fun v=>Gr0.or fun u=>?_
    unfold writeM
    split
    . exact Gr0.stop s 4
    . split
      . exact Gr0.stop s 4
      . split
        . exact Gr0.stop s 3
        . exact⟨List.prefix_refl _,Nat.le_refl _⟩
  split
  . refine Gr0.or fun vs=>?_
    unfold printM
    split
    . exact Gr0.stop s 3
    . exact⟨List.prefix_append _ _,Nat.le_refl _⟩
  split
  . exact Gr0.or fun v=>Gr0.same (t:=listM s a (tabDel v.key (s.lists a))) rfl rfl (Gr0.go _ true)
  split
  . unfold loadM
    split
    . exact Gr0.stop s 5
    . rename_i f _
      exact Gr0.same (t:=listM s a []) rfl rfl (Gr0.load a f.lines 0 _)
  . exact Gr0.go s true
theorem Gr0.while {q:Ms->Except Int Vl} {b:Ms->Om} (hb:∀s,Gr0 s (b s)):∀(n:Nat) (s:Ms),Gr0 s (whileM q b n s)
 | 0,s=>Gr0.stop s 1
 | n+1,s=>by
  unfold whileM
  refine Gr0.or fun v=>?_
  split
  . exact Gr0.burn fun t=>(hb t).then (Gr0.while hb n)
  . exact Gr0.go s true
theorem Gr0.stmt (F:List Fl):∀(m:Nat) (s:Ms) (x:Sm),Gr0 s (stmtM F m s x)
 | 0,s,_=>Gr0.go s true
 | m+1,s,.mk k a t es b e=>by
  unfold stmtM
  refine Gr0.burn fun s=>?_
  split
  . refine Gr0.or fun v=>?_
    split
    . exact Gr0.run (Gr0.stmt F m) b s
    . exact Gr0.run (Gr0.stmt F m) e s
  split
  . exact Gr0.while (Gr0.run (Gr0.stmt F m) b) _ s
  split
  . exact Gr0.run (fun s key=>Gr0.burn fun s=>Gr0.same (t:=setM s a _) rfl rfl (Gr0.run (Gr0.stmt F m) b _)) _ s
  split
  . exact Gr0.go s false
  . exact Gr0.plain F m s _
theorem Gr0.rule (F:List Fl) (m:Nat) (s:Ms) (r:Ru):Gr0 s (ruleM F m s r):=by
 unfold ruleM
 refine Gr0.burn fun s=>?_
 split
 . refine Gr0.or fun v=>?_
   split
   . exact Gr0.run (Gr0.stmt F m) _ s
   . exact Gr0.go s true
 . exact Gr0.run (Gr0.stmt F m) _ s
theorem Gr0.rules (F:List Fl) (m:Nat) (l:List Ru) (when:Int) (s:Ms):Gr0 s (rulesM F m l when s):=by
 have h:=Gr0.run (Gr0.rule F m) (l.filter fun r=>r.when == when) s
 unfold rulesM
 cases e:runM (ruleM F m) (l.filter fun r=>r.when == when) s with
 | go t b=>rw [e] at h;exact h
 | stop t e=>rw [e] at h;exact h
theorem run_app {α:Type} (f:Ms->α->Om):∀(a b:List α) (s:Ms),runM f (a ++ b) s=(runM f a s).then (runM f b)
 | [],b,s=>rfl
 | x :: a,b,s=>by
  show (f s x).then (runM f (a ++ b))=((f s x).then (runM f a)).then (runM f b)
  cases f s x with
  | go t c =>
   cases c with
   | true=>exact run_app f a b t
   | false=>rfl
  | stop t e=>rfl
def omEnd:Om->Int
 | .go _ _=>0
 | .stop _ e=>e
theorem no_end {F:List Fl} {m:Nat} {l:List Ru} (h:∀r ∈ l,r.when ≠ 2) (s:Ms):rulesM F m l 2 s = .go s true:=by
 unfold rulesM
 have e:(l.filter fun r=>r.when == 2) = []:=by
  rw [List.filter_eq_nil_iff]
  intro r hr
  simpa using h r hr
 rw [e]
 rfl
theorem lines_more (F:List Fl) (m:Nat) (l:List Ru) (h:∀r ∈ l,r.when ≠ 2) (a b:List ByteArray) (s:Ms) :
 omOut (finishM F m l a s) <+: omOut (finishM F m l (a ++ b) s)/\(omEnd (finishM F m l a s)=0\/omEnd (finishM F m l a s)=omEnd (finishM F m l (a ++ b) s)):=by
 unfold finishM
 cases rulesM F m l 0 s with
 | stop t e=>exact⟨List.prefix_refl _,.inr rfl⟩
 | go t c =>
  cases c with
  | false=>exact⟨List.prefix_refl _,.inr rfl⟩
  | true =>
   show omOut ((runM _ a t).then _) <+: omOut ((runM _ (a ++ b) t).then _)/\(omEnd ((runM _ a t).then _)=0\/omEnd ((runM _ a t).then _)=omEnd ((runM _ (a ++ b) t).then _))
   rw [run_app]
   cases runM (fun s x=>rulesM F m l 1 (takeM { s with recs:=s.recs+1 } x)) a t with
   | stop u e=>exact⟨List.prefix_refl _,.inr rfl⟩
   | go u c =>
    cases c with
    | false=>exact⟨List.prefix_refl _,.inr rfl⟩
    | true =>
     show omOut (rulesM F m l 2 (takeM u ⟨#[]⟩)) <+: omOut ((runM _ b u).then _)/\(omEnd (rulesM F m l 2 (takeM u ⟨#[]⟩))=0\/_)
     rw [no_end h]
     refine⟨?_,.inl rfl⟩
     have gl:∀(s:Ms) (x:ByteArray),Gr0 s (rulesM F m l 1 (takeM { s with recs:=s.recs+1 } x)):=fun s x=>Gr0.same (t:=takeM { s with recs:=s.recs+1 } x) rfl rfl (Gr0.rules F m l 1 _)
     have ge:∀s:Ms,Gr0 s (rulesM F m l 2 (takeM s ⟨#[]⟩)):=fun s=>Gr0.same (t:=takeM s ⟨#[]⟩) rfl rfl (Gr0.rules F m l 2 _)
     exact ((Gr0.run gl b u).then ge).1
end Go.Proofs.YtodjbffhlklpkaaGreatDoor
