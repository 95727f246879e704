/-
  Runs as data: what a statement that prints does, and rules, when fuel lasts. / A run prints more and more, and its fuel gets no more. Of data alone. / With more fuel a run goes on from where it was. Of data alone.
-/
import Derived.Test.YtidfkccmpkmkcaaGreatDoorMSpec
import Derived.Test.YtidfkccmpkmkcaaGreatDoorGround
namespace Go.Proofs.YtidfkccmpkmkcaaGreatDoor
open Go.RowKit
set_option linter.unusedVariables false
set_option maxRecDepth 100000
theorem burn_some {s:Ms} {f:Ms->Om} (h:¬s.left=0):burnM s f=f { s with left:=s.left - 1 }:=by unfold burnM;rw [if_neg h]
theorem burn_none {s:Ms} {f:Ms->Om} (h:s.left=0):burnM s f = .stop s 1:=by unfold burnM;rw [if_pos h]
end Go.Proofs.YtidfkccmpkmkcaaGreatDoor
namespace Go.Proofs.YtidfkccmpkmkcaaGreatDoor
open Go.RowKit
set_option linter.unusedVariables false
set_option linter.unusedSimpArgs false
set_option maxRecDepth 100000
def omOut:Om->List ByteArray
 | .go s _=>s.out
 | .stop s _=>s.out
def omLeft:Om->Nat
 | .go s _=>s.left
 | .stop s _=>s.left
def Gr0 (s:Ms) (r:Om):Prop:=s.out <+: omOut r/\omLeft r<=s.left
theorem Gr0.go (s:Ms) (b:Bool):Gr0 s (.go s b):=⟨List.prefix_refl _,Nat.le_refl _⟩
theorem Gr0.stop (s:Ms) (e:Int):Gr0 s (.stop s e):=⟨List.prefix_refl _,Nat.le_refl _⟩
theorem Gr0.then {s:Ms} {r:Om} {f:Ms->Om} (h:Gr0 s r) (hf:∀t,Gr0 t (f t)):Gr0 s (r.then f):=by
 cases r with
 | go t b =>
  cases b with
  | true=>exact⟨h.1.trans (hf t).1,Nat.le_trans (hf t).2 h.2⟩
  | false=>exact h
 | stop t e=>exact h
theorem Gr0.or {α:Type} {s:Ms} {x:Except Int α} {f:α->Om} (hf:∀v,Gr0 s (f v)):Gr0 s (orM s x f):=by
 cases x with
 | error e=>exact Gr0.stop s e
 | ok v=>exact hf v
theorem Gr0.burn {s:Ms} {f:Ms->Om} (hf:∀t,Gr0 t (f t)):Gr0 s (burnM s f):=by
 unfold burnM
 split
 . exact Gr0.stop s 1
 . have:=hf { s with left:=s.left - 1 }
   exact⟨this.1,Nat.le_trans this.2 (Nat.sub_le _ _)⟩
theorem Gr0.same {s t:Ms} {r:Om} (ho:t.out=s.out) (hl:t.left=s.left) (h:Gr0 t r):Gr0 s r:=⟨ho ▸ h.1,hl ▸ h.2⟩
theorem Gr0.run {α:Type} {f:Ms->α->Om} (hf:∀s x,Gr0 s (f s x)):∀(l:List α) (s:Ms),Gr0 s (runM f l s)
 | [],s=>Gr0.go s true
 | x :: l,s=>(hf s x).then (Gr0.run hf l)
theorem Gr0.put (s:Ms) (nm:ByteArray) (k:List UInt8) (v:Vl):Gr0 s (putM s nm k v):=by
 unfold putM
 split
 . exact Gr0.stop s 3
 . exact Gr0.same (t:=listM s nm (tabPut k v (s.lists nm))) rfl rfl (Gr0.go _ true)
theorem Gr0.load (nm:ByteArray):∀(l:List ByteArray) (i:Nat) (s:Ms),Gr0 s (loadL nm l i s)
 | [],_,s=>Gr0.go s true
 | x :: l,i,s=>(Gr0.put s nm _ _).then (Gr0.load nm l (i+1))
theorem Gr0.plain (F:List Fl) (m:Nat) (s:Ms) (x:Sm):Gr0 s (plainM F m s x):=by
 cases x with
 | mk k a t es b e =>
  simp only [plainM]
  split
  . exact Gr0.or fun v=>Gr0.same (t:=setM s a v) rfl rfl (Gr0.go _ true)
  split
  . exact Gr0.or fun v=>Gr0.or fun u=>Gr0.put s a _ u
  split
  . refine Gr0.or fun v=>Gr0.or fun u=>?_
    unfold writeM
    split
    . exact Gr0.stop s 4
    . split
      . exact Gr0.stop s 4
      . split
        . exact Gr0.stop s 3
        . exact⟨List.prefix_refl _,Nat.le_refl _⟩
  split
  . refine Gr0.or fun vs=>?_
    unfold printM
    split
    . exact Gr0.stop s 3
    . exact⟨List.prefix_append _ _,Nat.le_refl _⟩
  split
  . exact Gr0.or fun v=>Gr0.same (t:=listM s a (tabDel v.key (s.lists a))) rfl rfl (Gr0.go _ true)
  split
  . unfold loadM
    split
    . exact Gr0.stop s 5
    . rename_i f _
      exact Gr0.same (t:=listM s a []) rfl rfl (Gr0.load a f.lines 0 _)
  . exact Gr0.go s true
theorem Gr0.while {q:Ms->Except Int Vl} {b:Ms->Om} (hb:∀s,Gr0 s (b s)):∀(n:Nat) (s:Ms),Gr0 s (whileM q b n s)
 | 0,s=>Gr0.stop s 1
 | n+1,s=>by
  unfold whileM
  refine Gr0.or fun v=>?_
  split
  . exact Gr0.burn fun t=>(hb t).then (Gr0.while hb n)
  . exact Gr0.go s true
theorem Gr0.stmt (F:List Fl):∀(m:Nat) (s:Ms) (x:Sm),Gr0 s (stmtM F m s x)
 | 0,s,_=>Gr0.go s true
 | m+1,s,.mk k a t es b e=>by
  unfold stmtM
  refine Gr0.burn fun s=>?_
  split
  . refine Gr0.or fun v=>?_
    split
    . exact Gr0.run (Gr0.stmt F m) b s
    . exact Gr0.run (Gr0.stmt F m) e s
  split
  . exact Gr0.while (Gr0.run (Gr0.stmt F m) b) _ s
  split
  . exact Gr0.run (fun s key=>Gr0.burn fun s=>Gr0.same (t:=setM s a _) rfl rfl (Gr0.run (Gr0.stmt F m) b _)) _ s
  split
  . exact Gr0.go s false
  . exact Gr0.plain F m s _
theorem Gr0.rule (F:List Fl) (m:Nat) (s:Ms) (r:Ru):Gr0 s (ruleM F m s r):=by
 unfold ruleM
 refine Gr0.burn fun s=>?_
 split
 . refine Gr0.or fun v=>?_
   split
   . exact Gr0.run (Gr0.stmt F m) _ s
   . exact Gr0.go s true
 . exact Gr0.run (Gr0.stmt F m) _ s
theorem Gr0.rules (F:List Fl) (m:Nat) (l:List Ru) (when:Int) (s:Ms):Gr0 s (rulesM F m l when s):=by
 have h:=Gr0.run (Gr0.rule F m) (l.filter fun r=>r.when == when) s
 unfold rulesM
 cases e:runM (ruleM F m) (l.filter fun r=>r.when == when) s with
 | go t b=>rw [e] at h;exact h
 | stop t e=>rw [e] at h;exact h
def up (k:Nat) (s:Ms):Ms:={ s with left:=s.left+k }
def upO (k:Nat):Om->Om
 | .go s b=> .go (up k s) b
 | .stop s e=> .stop (up k s) e
def Rl (k:Nat):Om->Om->Prop
 | .go s b,r=>r = .go (up k s) b
 | .stop s e,r=>(r = .stop (up k s) e/\e ≠ 1)\/(e=1/\s.left=0/\s.out <+: omOut r/\omLeft r<=k)
theorem Rl.same {k:Nat} {r:Om} (h:∀s,r ≠ .stop s 1):Rl k r (upO k r):=by
 cases r with
 | go s b=>exact rfl
 | stop s e=>exact .inl ⟨rfl,fun he=>h s (by rw [he])⟩
theorem Rl.then {k:Nat} {r r':Om} {f:Ms->Om} (h:Rl k r r') (hf:∀t,Rl k (f t) (f (up k t))) (hg:∀t,Gr0 t (f t)):Rl k (r.then f) (r'.then f):=by
 cases r with
 | go s b =>
  have e:r' = .go (up k s) b:=h
  subst e
  cases b with
  | true=>exact hf s
  | false=>exact rfl
 | stop s e =>
  rcases h with⟨rfl,he⟩ | ⟨rfl,h0,h1,h2⟩
  . exact .inl ⟨rfl,he⟩
  . refine .inr ⟨rfl,h0,?_⟩
    cases r' with
    | go t b =>
     cases b with
     | true=>exact⟨h1.trans (hg t).1,Nat.le_trans (hg t).2 h2⟩
     | false=>exact⟨h1,h2⟩
    | stop t e=>exact⟨h1,h2⟩
theorem Rl.or {k:Nat} {α:Type} {s:Ms} {x:Except Int α} {f g:α->Om} (hx:x ≠ .error 1) (hf:∀v,x = .ok v->Rl k (f v) (g v)):Rl k (orM s x f) (orM (up k s) x g):=by
 cases x with
 | error e=>exact .inl ⟨rfl,fun he=>hx (by rw [he])⟩
 | ok v=>exact hf v rfl
theorem Rl.burn {k:Nat} {s:Ms} {f:Ms->Om} (hf:∀t,Rl k (f t) (f (up k t))) (hg:∀t,Gr0 t (f t)):Rl k (burnM s f) (burnM (up k s) f):=by
 by_cases h0:s.left=0
 . rw [burn_none h0]
   refine .inr ⟨rfl,h0,?_⟩
   have h:=Gr0.burn (s:=up k s) hg
   exact⟨h.1,Nat.le_trans h.2 (by show s.left+k<=k;omega)⟩
 . have h1:¬(up k s).left=0:=by show ¬s.left+k=0;omega
   rw [burn_some h0,burn_some h1]
   have e:{ up k s with left:=(up k s).left - 1 }=up k { s with left:=s.left - 1 }:=by
    show (⟨_,_,s.left+k - 1,_,_,_,_⟩:Ms) = ⟨_,_,s.left - 1+k,_,_,_,_⟩
    rw [show s.left+k - 1=s.left - 1+k by omega]
    rfl
   rw [e]
   exact hf _
theorem Rl.run {k:Nat} {α:Type} {f:Ms->α->Om} (hf:∀s x,Rl k (f s x) (f (up k s) x)) (hg:∀s x,Gr0 s (f s x)):∀(l:List α) (s:Ms),Rl k (runM f l s) (runM f l (up k s))
 | [],s=>rfl
 | x :: l,s=>(hf s x).then (Rl.run hf hg l) (Gr0.run hg l)
theorem ask_up (k:Nat) (s:Ms):∀(m:Nat) (x:Ex),askM (up k s) m x=askM s m x
 | 0,_=>rfl
 | m+1,.mk c n t l=>by
  have ih:=ask_up k s m
  have ihf:askM (up k s) m=askM s m:=funext ih
  simp only [askM,ihf]
  rfl
theorem askf_up (k:Nat) (s:Ms) (m:Nat):askM (up k s) m=askM s m:=funext (ask_up k s m)
theorem put_up (k:Nat) (s:Ms) (nm:ByteArray) (x:List UInt8) (v:Vl):putM (up k s) nm x v=upO k (putM s nm x v):=by
 show (if 100<(tabPut x v (s.lists nm)).length then _ else _)=_
 unfold putM
 split <;> rfl
theorem upO_then (k:Nat) (r:Om) (f:Ms->Om) (hf:∀t,f (up k t)=upO k (f t)):(upO k r).then f=upO k (r.then f):=by
 cases r with
 | go s b=>cases b with
  | true=>exact hf s
  | false=>rfl
 | stop s e=>rfl
theorem load_up (k:Nat) (nm:ByteArray):∀(l:List ByteArray) (i:Nat) (s:Ms),loadL nm l i (up k s)=upO k (loadL nm l i s)
 | [],_,s=>rfl
 | x :: l,i,s=>by
  show (putM (up k s) nm _ _).then (loadL nm l (i+1))=upO k ((putM s nm _ _).then (loadL nm l (i+1)))
  rw [put_up]
  exact upO_then k _ _ (load_up k nm l (i+1))
theorem orM_up {α:Type} (k:Nat) (s:Ms) (x:Except Int α) (f g:α->Om) (h:∀v,g v=upO k (f v)):orM (up k s) x g=upO k (orM s x f):=by
 cases x with
 | error e=>rfl
 | ok v=>exact h v
theorem plain_up (F:List Fl) (k m:Nat) (s:Ms) (x:Sm):plainM F m (up k s) x=upO k (plainM F m s x):=by
 cases x with
 | mk c a t es b e =>
  simp only [plainM,askf_up]
  split
  . exact orM_up k s _ _ _ fun v=>rfl
  split
  . exact orM_up k s _ _ _ fun v=>orM_up k s _ _ _ fun u=>put_up k s a _ u
  split
  . refine orM_up k s _ _ _ fun v=>orM_up k s _ _ _ fun u=>?_
    unfold writeM
    split
    . rfl
    . split
      . rfl
      . show (if 200<(blanksM ((wideM s.flds _).set _ _)).length then _ else _)=_
        split <;> rfl
  split
  . refine orM_up k s _ _ _ fun vs=>?_
    show (if 200<(blanksM (vs.map Vl.str)).length\/s.out.length=2000 then _ else _)=_
    unfold printM
    split <;> rfl
  split
  . exact orM_up k s _ _ _ fun v=>rfl
  split
  . unfold loadM
    split
    . rfl
    . exact load_up k a _ 0 (listM s a [])
  . rfl
theorem sure_n1 {r:R4} (h:r.2.2.2 ≠ 1):sureM r ≠ .error 1:=by
 unfold sureM
 split
 . intro e;cases e
 . intro e;exact h (by injection e)
theorem bnd_n1 (x:Int):(bnd x).2.2.2 ≠ 1:=by unfold bnd;split <;> (simp [rN,rEnd])
theorem op_n1 (op:ByteArray) (t1:Bool) (n1:Int) (s1:ByteArray) (t2:Bool) (n2:Int) (s2:ByteArray):(opSpec op t1 n1 s1 t2 n2 s2).2.2.2 ≠ 1:=by
 unfold opSpec
 split
 . simp [rN]
 split
 . unfold joinR;split <;> simp [rEnd]
 split
 . unfold reck
   split
   . exact bnd_n1 _
   split
   . exact bnd_n1 _
   split
   . exact bnd_n1 _
   split
   . simp [rEnd]
   split <;> simp [rN]
 . simp [rEnd]
theorem call_n1 (nm:ByteArray) (l:List Vl):(callM nm l).2.2.2 ≠ 1:=by
 unfold callM
 split
 . split <;> simp [rN,rEnd]
 . split <;> simp [rN,rEnd]
 . split
   . unfold pceR
     split
     . unfold subR;(try split) <;> (try split) <;> simp [rN,rEnd]
     . simp [rEnd]
   . simp [rEnd]
 . simp [rEnd]
theorem bind_n1 {α β:Type} {x:Except Int α} {f:α->Except Int β} (hx:x ≠ .error 1) (hf:∀v,f v ≠ .error 1):x.bind f ≠ .error 1:=by
 cases x with
 | error e=>intro h;apply hx;injection h with h;rw [h]
 | ok v=>exact hf v
theorem all_n1 {α β:Type} {f:α->Except Int β} (hf:∀x,f x ≠ .error 1):∀l,allM f l ≠ .error 1
 | []=>by intro h;cases h
 | x :: l=>bind_n1 (hf x) fun v=>bind_n1 (all_n1 hf l) fun r=>by intro h;cases h
theorem ok_n1 {α:Type} (v:α):(.ok v:Except Int α) ≠ .error 1:=by intro h;cases h
theorem field_n1 (s:Ms) (v:Vl):fieldM s v ≠ .error 1:=by
 unfold fieldM
 split
 . intro h;cases h
 . split
   . intro h;cases h
   . split
     . exact ok_n1 _
     . exact ok_n1 _
theorem ite_n1 {α:Type} {c:Prop} [Decidable c] {x y:Except Int α} (hx:x ≠ .error 1) (hy:y ≠ .error 1):(if c then x else y) ≠ .error 1:=by
 by_cases h:c
 . rw [if_pos h];exact hx
 . rw [if_neg h];exact hy
theorem opM_n1 {op:ByteArray} {a b:Except Int Vl} (ha:a ≠ .error 1) (hb:b ≠ .error 1):opM op a b ≠ .error 1:=by
 unfold opM
 exact ite_n1 (bind_n1 ha fun v=>ite_n1 (bind_n1 hb fun y=>ok_n1 _) (ok_n1 _)) (ite_n1 (bind_n1 ha fun v=>ite_n1 (ok_n1 _) (bind_n1 hb fun y=>ok_n1 _)) (bind_n1 ha fun v=>bind_n1 hb fun y=>sure_n1 (op_n1 _ _ _ _ _ _ _)))
theorem ask_n1 (s:Ms):∀(m:Nat) (x:Ex),askM s m x ≠ .error 1
 | 0,_=>ok_n1 _
 | m+1,.mk c n t l=>by
  have ih:=ask_n1 s m
  unfold askM
  refine ite_n1 ?_ ?_
  . exact ok_n1 _
  refine ite_n1 ?_ ?_
  . exact ok_n1 _
  refine ite_n1 ?_ ?_
  . exact ok_n1 _
  refine ite_n1 ?_ ?_
  . exact bind_n1 (ih _) fun v=>bind_n1 (field_n1 s v) fun x=>ok_n1 _
  refine ite_n1 ?_ ?_
  . exact bind_n1 (ih _) fun v=>ok_n1 _
  refine ite_n1 ?_ ?_
  . exact opM_n1 (ih _) (ih _)
  refine ite_n1 ?_ ?_
  . exact bind_n1 (ih _) fun v=>sure_n1 (op_n1 _ _ _ _ _ _ _)
  refine ite_n1 ?_ ?_
  . exact bind_n1 (ih _) fun v=>ok_n1 _
  refine ite_n1 ?_ ?_
  . exact bind_n1 (ih _) fun v=>ok_n1 _
  refine ite_n1 ?_ ?_
  . exact bind_n1 (ih _) fun v=>ite_n1 (ih _) (ih _)
  refine ite_n1 ?_ ?_
  . exact bind_n1 (all_n1 ih l) fun v=>sure_n1 (call_n1 _ _)
  exact ok_n1 _
def NoS (r:Om):Prop:=∀s,r ≠ .stop s 1
theorem NoS.go (s:Ms) (b:Bool):NoS (.go s b):=fun _ h=>by cases h
theorem NoS.or {α:Type} {s:Ms} {x:Except Int α} {f:α->Om} (hx:x ≠ .error 1) (hf:∀v,NoS (f v)):NoS (orM s x f):=by
 cases x with
 | error e=>intro t h;apply hx;injection h with _ h;rw [h]
 | ok v=>exact hf v
theorem NoS.put (s:Ms) (nm:ByteArray) (x:List UInt8) (v:Vl):NoS (putM s nm x v):=by
 unfold putM
 split
 . intro t h;injection h with _ h;cases h
 . exact NoS.go _ _
theorem NoS.load (nm:ByteArray):∀(l:List ByteArray) (i:Nat) (s:Ms),NoS (loadL nm l i s)
 | [],_,s=>NoS.go _ _
 | x :: l,i,s=>by
  have h:=NoS.put s nm (Lib.itoa ((i+1:Nat):Int)) (vS x)
  unfold loadL
  cases e:putM s nm (Lib.itoa ((i+1:Nat):Int)) (vS x) with
  | go t b=>cases b with
   | true=>exact NoS.load nm l (i+1) t
   | false=>exact NoS.go _ _
  | stop t er=>rw [e] at h;exact h
theorem NoS.plain (F:List Fl) (m:Nat) (s:Ms) (x:Sm):NoS (plainM F m s x):=by
 cases x with
 | mk c a t es b e =>
  have n4:∀ {t:Ms} {e:Int},e ≠ 1->NoS (.stop t e):=fun he t' h=>he (by injection h)
  simp only [plainM]
  split
  . exact NoS.or (ask_n1 s m _) fun v=>NoS.go _ _
  split
  . exact NoS.or (ask_n1 s m _) fun v=>NoS.or (ask_n1 s m _) fun u=>NoS.put s a _ u
  split
  . refine NoS.or (ask_n1 s m _) fun v=>NoS.or (ask_n1 s m _) fun u=>?_
    unfold writeM
    split
    . exact n4 (by decide)
    . split
      . exact n4 (by decide)
      . split
        . exact n4 (by decide)
        . exact NoS.go _ _
  split
  . refine NoS.or (all_n1 (ask_n1 s m) _) fun vs=>?_
    unfold printM
    split
    . exact n4 (by decide)
    . exact NoS.go _ _
  split
  . exact NoS.or (ask_n1 s m _) fun v=>NoS.go _ _
  split
  . unfold loadM
    split
    . exact n4 (by decide)
    . exact NoS.load a _ 0 _
  . exact NoS.go _ _
theorem Rl.plain (F:List Fl) (k m:Nat) (s:Ms) (x:Sm):Rl k (plainM F m s x) (plainM F m (up k s) x):=by
 rw [plain_up]
 exact Rl.same (NoS.plain F m s x)
theorem Rl.while {k:Nat} {q:Ms->Except Int Vl} {b:Ms->Om} (hq:∀s,q (up k s)=q s) (hn:∀s,q s ≠ .error 1) (hb:∀s,Rl k (b s) (b (up k s))) (hg:∀s,Gr0 s (b s)):∀(n n':Nat) (s:Ms),s.left<n->s.left+k<n'->Rl k (whileM q b n s) (whileM q b n' (up k s))
 | 0,_,s,h,_=>absurd h (Nat.not_lt_zero _)
 | _+1,0,s,_,h=>absurd h (Nat.not_lt_zero _)
 | n+1,n'+1,s,h,h'=>by
  unfold whileM
  rw [hq]
  refine Rl.or (hn s) fun v hv=>?_
  by_cases hs:v.so=true
  . rw [if_pos hs,if_pos hs]
    have hg2:∀n t,Gr0 t ((b t).then (whileM q b n)):=fun n t=>(hg t).then (Gr0.while hg n)
    by_cases h0:s.left=0
    . rw [burn_none h0]
      refine .inr ⟨rfl,h0,?_⟩
      have hh:=Gr0.burn (s:=up k s) (hg2 n')
      exact⟨hh.1,Nat.le_trans hh.2 (by show s.left+k<=k;omega)⟩
    . have h1:¬(up k s).left=0:=by show ¬s.left+k=0;omega
      rw [burn_some h0,burn_some h1]
      obtain⟨s1,hs1⟩:∃s1:Ms,s1 = { s with left:=s.left - 1 }:=⟨_,rfl⟩
      have e:{ up k s with left:=(up k s).left - 1 }=up k s1:=by
       rw [hs1]
       show (⟨_,_,s.left+k - 1,_,_,_,_⟩:Ms) = ⟨_,_,s.left - 1+k,_,_,_,_⟩
       rw [show s.left+k - 1=s.left - 1+k by omega]
       rfl
      rw [e,<-hs1]
      have hl1:s1.left=s.left - 1:=by rw [hs1]
      have hbb:=hb s1
      have hgg:=hg s1
      cases eb:b s1 with
      | go t c =>
       rw [eb] at hbb hgg
       have e2:b (up k s1) = .go (up k t) c:=hbb
       rw [e2]
       cases c with
       | true =>
        have hl:t.left<=s1.left:=hgg.2
        exact Rl.while hq hn hb hg n n' t (by omega) (by omega)
       | false=>exact rfl
      | stop t er =>
       rw [eb] at hbb
       rcases hbb with⟨e2,he⟩ | ⟨rfl,h2,h3,h4⟩
       . rw [e2];exact .inl ⟨rfl,he⟩
       . refine .inr ⟨rfl,h2,?_⟩
         cases e3:b (up k s1) with
         | go u c =>
          rw [e3] at h3 h4
          cases c with
          | true =>
           have hw:=Gr0.while (q:=q) hg n' u
           exact⟨h3.trans hw.1,Nat.le_trans hw.2 h4⟩
          | false=>exact⟨h3,h4⟩
         | stop u er=>rw [e3] at h3 h4;exact⟨h3,h4⟩
  . rw [if_neg hs,if_neg hs]
    exact rfl
theorem Rl.stmt (F:List Fl) (k:Nat):∀(m:Nat) (s:Ms) (x:Sm),Rl k (stmtM F m s x) (stmtM F m (up k s) x)
 | 0,s,_=>rfl
 | m+1,s,.mk c a t es b e=>by
  have ih:=Rl.stmt F k m
  have ig:=Gr0.stmt F m
  have hgb:∀t',Gr0 t' (stmtM F (m+1) t' (.mk c a t es b e)):=fun t'=>Gr0.stmt F (m+1) t' _
  simp only [stmtM]
  refine Rl.burn (fun s=>?_) fun s=>?_
  . by_cases h5:c=5
    . rw [if_pos h5,if_pos h5,ask_up]
      refine Rl.or (ask_n1 s m _) fun v hv=>?_
      by_cases hs:v.so=true
      . rw [if_pos hs,if_pos hs];exact Rl.run ih ig b s
      . rw [if_neg hs,if_neg hs];exact Rl.run ih ig e s
    rw [if_neg h5,if_neg h5]
    by_cases h6:c=6
    . rw [if_pos h6,if_pos h6]
      exact Rl.while (fun s=>ask_up k s m _) (fun s=>ask_n1 s m _) (Rl.run ih ig b) (Gr0.run ig b) _ _ s (Nat.lt_succ_self _) (Nat.lt_succ_self _)
    rw [if_neg h6,if_neg h6]
    by_cases h7:c=7
    . rw [if_pos h7,if_pos h7]
      have hr:∀(s:Ms) (key:List UInt8),Gr0 s (burnM s fun s=>runM (stmtM F m) b (setM s a (vS ⟨key.toArray⟩))):=fun s key=>Gr0.burn fun s=>Gr0.same (t:=setM s a _) rfl rfl (Gr0.run ig b _)
      exact Rl.run (fun s key=>Rl.burn (fun s=>Rl.run ih ig b (setM s a _)) fun s=>Gr0.same (t:=setM s a _) rfl rfl (Gr0.run ig b _)) hr _ s
    rw [if_neg h7,if_neg h7]
    by_cases h8:c=8
    . rw [if_pos h8,if_pos h8];exact rfl
    rw [if_neg h8,if_neg h8]
    exact Rl.plain F k m s _
  . split
    . refine Gr0.or fun v=>?_
      split
      . exact Gr0.run ig b s
      . exact Gr0.run ig e s
    split
    . exact Gr0.while (Gr0.run ig b) _ s
    split
    . exact Gr0.run (fun s key=>Gr0.burn fun s=>Gr0.same (t:=setM s a _) rfl rfl (Gr0.run ig b _)) _ s
    split
    . exact Gr0.go s false
    . exact Gr0.plain F m s _
theorem Rl.rule (F:List Fl) (k m:Nat) (s:Ms) (r:Ru):Rl k (ruleM F m s r) (ruleM F m (up k s) r):=by
 unfold ruleM
 refine Rl.burn (fun s=>?_) fun s=>?_
 . split
   . rw [ask_up]
     refine Rl.or (ask_n1 s m _) fun v hv=>?_
     split
     . exact Rl.run (Rl.stmt F k m) (Gr0.stmt F m) _ s
     . exact rfl
   . exact Rl.run (Rl.stmt F k m) (Gr0.stmt F m) _ s
 . split
   . refine Gr0.or fun v=>?_
     split
     . exact Gr0.run (Gr0.stmt F m) _ s
     . exact Gr0.go s true
   . exact Gr0.run (Gr0.stmt F m) _ s
theorem Rl.rules (F:List Fl) (k m:Nat) (l:List Ru) (when:Int) (s:Ms):Rl k (rulesM F m l when s) (rulesM F m l when (up k s)):=by
 have h:=Rl.run (Rl.rule F k m) (Gr0.rule F m) (l.filter fun r=>r.when == when) s
 unfold rulesM
 cases e:runM (ruleM F m) (l.filter fun r=>r.when == when) s with
 | go t b =>
  rw [e] at h
  have h2:_=Om.go (up k t) b:=h
  rw [h2]
  exact rfl
 | stop t er =>
  rw [e] at h
  rcases h with⟨h1,h2⟩ | ⟨rfl,h1,h2,h3⟩
  . rw [h1];exact .inl ⟨rfl,h2⟩
  . refine .inr ⟨rfl,h1,?_⟩
    cases e2:runM (ruleM F m) (l.filter fun r=>r.when == when) (up k s) with
    | go u c=>rw [e2] at h2 h3;exact⟨h2,h3⟩
    | stop u er=>rw [e2] at h2 h3;exact⟨h2,h3⟩
theorem Rl.finish (F:List Fl) (k m:Nat) (l:List Ru) (lines:List ByteArray) (s:Ms):Rl k (finishM F m l lines s) (finishM F m l lines (up k s)):=by
 have gl:∀(s:Ms) (x:ByteArray),Gr0 s (rulesM F m l 1 (takeM { s with recs:=s.recs+1 } x)):=fun s x=>Gr0.same (t:=takeM { s with recs:=s.recs+1 } x) rfl rfl (Gr0.rules F m l 1 _)
 have ge:∀s:Ms,Gr0 s (rulesM F m l 2 (takeM s ⟨#[]⟩)):=fun s=>Gr0.same (t:=takeM s ⟨#[]⟩) rfl rfl (Gr0.rules F m l 2 _)
 unfold finishM
 exact (Rl.rules F k m l 0 s).then (fun s=>(Rl.run (fun s x=>Rl.rules F k m l 1 (takeM { s with recs:=s.recs+1 } x)) gl lines s).then (fun s=>Rl.rules F k m l 2 (takeM s ⟨#[]⟩)) ge) fun s=>(Gr0.run gl lines s).then ge
theorem fuel_more (F:List Fl) (m:Nat) (l:List Ru) (lines:List ByteArray) (k d:Nat):Rl d (finishM F m l lines (startM k)) (finishM F m l lines (startM (k+d))):=Rl.finish F d m l lines (startM k)
end Go.Proofs.YtidfkccmpkmkcaaGreatDoor
