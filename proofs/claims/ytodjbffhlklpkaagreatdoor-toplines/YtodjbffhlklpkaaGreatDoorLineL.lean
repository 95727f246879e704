/-
  What is read of a source without the sign D has no rule of End. Of data alone. / The maker's rules ahead of the last one do not hold the sign D. Of data alone. / What TopLines asks of its parts: the source cut ahead of its last rule, read; two runs; a row copied. / Runs and their outcomes in memory. / A row of texts appended to a row of the call's own, be it empty or not; as a step of a region that draws.
-/
import Derived.Test.YtodjbffhlklpkaaGreatDoorGround
import Derived.Test.YtodjbffhlklpkaaGreatDoorSrcSpec
import Derived.Test.YtodjbffhlklpkaaGreatDoorTopRq
import Derived.Test.YtodjbffhlklpkaaGreatDoorTopLn
import Derived.Test.YtodjbffhlklpkaaGreatDoorRunSpec
import Derived.Lib.LastIndexLaws
import Derived.Test.YtodjbffhlklpkaaGreatDoorTellsW
import Derived.Test.YtodjbffhlklpkaaGreatDoorRunC
import Derived.Deep.AppendLies
import Derived.Deep.Upon
namespace Go.Proofs.YtodjbffhlklpkaaGreatDoor
open Go.RowKit
set_option linter.unusedVariables false
set_option maxRecDepth 100000
theorem need_x {t:List UInt8} {ps r:List Pc} {u:Unit} (h:needR t ps = .ok (u,r)):r <:+ ps:=by
 unfold needR at h
 split at h
 . cases h
 . split at h
   . cases h;exact List.suffix_cons _ _
   . cases h
theorem nm_x {ps r:List Pc} {s:List UInt8} (h:nmR ps = .ok (s,r)):r <:+ ps:=by
 unfold nmR at h
 split at h
 . cases h
 . split at h
   . cases h;exact List.suffix_cons _ _
   . cases h
theorem exprs_x:∀m:Nat,
 (∀o ps x r,wholeR m o ps = .ok (x,r)->r <:+ ps)/\(∀d o ps x r,binR m d o ps = .ok (x,r)->r <:+ ps)/\(∀d o y ps x r,binL m d o y ps = .ok (x,r)->r <:+ ps) /\
 (∀o ps x r,opR m o ps = .ok (x,r)->r <:+ ps)/\(∀k o ps x r,preR m k o ps = .ok (x,r)->r <:+ ps)/\(∀o ps x r,sgnR m o ps = .ok (x,r)->r <:+ ps) /\
 (∀o s ps x r,wordR m o s ps = .ok (x,r)->r <:+ ps)/\(∀o ps x r,keyR m o ps = .ok (x,r)->r <:+ ps)/\(∀o ps x r,wholesR m o ps = .ok (x,r)->r <:+ ps)/\(∀o l ps x r,moreR m o l ps = .ok (x,r)->r <:+ ps)
 | 0=>by
  refine⟨?_,?_,?_,?_,?_,?_,?_,?_,?_,?_⟩
  all_goals intros
  all_goals rename_i h
  all_goals first | (unfold wholeR at h;cases h) | (unfold binR at h;cases h) | (unfold binL at h;cases h) | (unfold opR at h;cases h) | (unfold preR at h;cases h) | (unfold sgnR at h;cases h) | (unfold wordR at h;cases h) | (unfold keyR at h;cases h) | (unfold wholesR at h;cases h) | (unfold moreR at h;cases h)
 | m+1=>by
  obtain⟨i1,i2,i3,i4,i5,i6,i7,i8,i9,i10⟩:=exprs_x m
  have nx:=@need_x
  have mx:=@nm_x
  have tr:∀ {a b c:List Pc},a <:+ b->b <:+ c->a <:+ c:=fun h k=>h.trans k
  have tl:∀(l:List Pc),l.tail <:+ l:=fun l=>List.tail_suffix l
  have cn:∀(p:Pc) (l:List Pc),l <:+ p :: l:=fun p l=>List.suffix_cons p l
  refine⟨?_,?_,?_,?_,?_,?_,?_,?_,?_,?_⟩
  . intro o ps x r h
    unfold wholeR at h
    grind
  . intro d o ps x r h
    unfold binR at h
    grind
  . intro d o y ps x r h
    unfold binL at h
    grind
  . intro o ps x r h
    unfold opR at h
    grind
  . intro k o ps x r h
    unfold preR at h
    grind
  . intro o ps x r h
    unfold sgnR at h
    grind
  . intro o s ps x r h
    unfold wordR at h
    grind
  . intro o ps x r h
    unfold keyR at h
    grind
  . intro o ps x r h
    unfold wholesR at h
    grind
  . intro o l ps x r h
    unfold moreR at h
    grind
theorem simp_x {m:Nat} {o:Int} {ps r:List Pc} {x:Sm} (h:simpR m o ps = .ok (x,r)):r <:+ ps:=by
 obtain⟨i1,i2,i3,i4,i5,i6,i7,i8,i9,i10⟩:=exprs_x m
 have nx:=@need_x
 have mx:=@nm_x
 have tr:∀ {a b c:List Pc},a <:+ b->b <:+ c->a <:+ c:=fun h k=>h.trans k
 have tl:∀(l:List Pc),l.tail <:+ l:=fun l=>List.tail_suffix l
 have cn:∀(p:Pc) (l:List Pc),l <:+ p :: l:=fun p l=>List.suffix_cons p l
 have sx:∀ {ps r:List Pc} {x:Ex},setR m o ps = .ok (x,r)->r <:+ ps:=fun h=>by
  unfold setR at h
  grind
 have px:∀ {ps r:List Pc} {x:Sm},putR m o ps = .ok (x,r)->r <:+ ps:=fun h=>by
  unfold putR at h
  grind
 unfold simpR at h
 grind
theorem asked_x {m:Nat} {o:Int} {ps r:List Pc} {x:Ex} (h:askedR m o ps = .ok (x,r)):r <:+ ps:=by
 obtain⟨i1,i2,i3,i4,i5,i6,i7,i8,i9,i10⟩:=exprs_x m
 have nx:=@need_x
 have tr:∀ {a b c:List Pc},a <:+ b->b <:+ c->a <:+ c:=fun h k=>h.trans k
 unfold askedR at h
 grind
theorem stmts_x:∀m:Nat,(∀o ps x r,blockR m o ps = .ok (x,r)->r <:+ ps)/\(∀o l ps x r,stmtsR m o l ps = .ok (x,r)->r <:+ ps)/\(∀o ps x r,stmtR m o ps = .ok (x,r)->r <:+ ps)
 | 0=>by
  refine⟨?_,?_,?_⟩
  all_goals intros
  all_goals rename_i h
  all_goals first | (unfold blockR at h;cases h) | (unfold stmtsR at h;cases h) | (unfold stmtR at h;cases h)
 | m+1=>by
  obtain⟨i1,i2,i3⟩:=stmts_x m
  have nx:=@need_x
  have mx:=@nm_x
  have ax:=@asked_x m
  have sx:=@simp_x m
  have tr:∀ {a b c:List Pc},a <:+ b->b <:+ c->a <:+ c:=fun h k=>h.trans k
  have tl:∀(l:List Pc),l.tail <:+ l:=fun l=>List.tail_suffix l
  refine⟨?_,?_,?_⟩
  . intro o ps x r h
    unfold blockR at h
    grind
  . intro o l ps x r h
    unfold stmtsR at h
    grind
  . intro o ps x r h
    unfold stmtR at h
    split at h
    . grind
    . split at h
      . grind
      . split at h
        . split at h
          . cases h
          rename_i u1 p1 e1
          split at h
          . cases h
          rename_i s p2 e2
          split at h
          . cases h
          rename_i u2 p3 e3
          split at h
          . cases h
          rename_i t p4 e4
          split at h
          . cases h
          rename_i u3 p5 e5
          split at h
          . cases h
          rename_i b p6 e6
          cases h
          exact (i1 _ _ _ _ e6).trans ((nx e5).trans ((mx e4).trans ((nx e3).trans ((mx e2).trans ((nx e1).trans (tl ps))))))
        . grind
def NoD (ps:List Pc):Prop:=∀p ∈ ps,p.k ≠ 3->p.s ≠ [69,78,68]
theorem NoD.of {ps r:List Pc} (h:NoD ps) (k:r <:+ ps):NoD r:=fun p hp=>h p (k.subset hp)
theorem sees_d {ps:List Pc} (h:NoD ps):seesB [69,78,68] ps=false:=by
 cases ps with
 | nil=>rfl
 | cons p r =>
  have:=h p (List.mem_cons_self ..)
  unfold seesB
  by_cases hk:p.k=3
  . simp [hk]
  . simp [hk,this hk]
theorem rule_x {m:Nat} {o:Int} {ps r:List Pc} {x:Ru} (h:ruleR m o ps = .ok (x,r)) (hd:NoD ps):r <:+ ps/\x.when ≠ 2:=by
 obtain⟨i1,i2,i3⟩:=stmts_x m
 have j1:=(exprs_x m).1
 have tr:∀ {a b c:List Pc},a <:+ b->b <:+ c->a <:+ c:=fun h k=>h.trans k
 have tl:∀(l:List Pc),l.tail <:+ l:=fun l=>List.tail_suffix l
 have hs:=sees_d hd
 unfold ruleR at h
 grind
theorem rules_x {m:Nat}:∀(j:Nat) (l x:List Ru) (ps:List Pc),NoD ps->(∀r ∈ l,r.when ≠ 2)->rulesR m j l ps = .ok x->∀r ∈ x,r.when ≠ 2
 | 0,_,_,_,_,_,h=>by unfold rulesR at h;cases h
 | j+1,l,x,[],_,hl,h=>by unfold rulesR at h;cases h;exact hl
 | j+1,l,x,p :: r,hd,hl,h=>by
  unfold rulesR at h
  cases e:ruleR m 0 (p :: r) with
  | error er=>simp only [e] at h;cases h
  | ok y =>
   obtain⟨y,p1⟩:=y
   simp only [e] at h
   have h1:=rule_x e hd
   refine rules_x j _ x p1 (hd.of h1.1) (fun z hz=>?_) h
   rcases List.mem_append.1 hz with h2 | h2
   . exact hl z h2
   . rw [List.mem_singleton.1 h2];exact h1.2
theorem piece_d {l:List UInt8} {p:Pc} {i:Nat} (h:pieceR l = .ok (p,i)) (h3:p.k ≠ 3) (hs:p.s = [69,78,68]):68 ∈ l:=by
 unfold pieceR at h
 split at h
 . cases h
   have:(68:UInt8) ∈ l.takeWhile letterB:=by
    have e:l.takeWhile letterB = [69,78,68]:=hs
    rw [e];decide
   exact (List.takeWhile_prefix _).subset this
 . split at h
   . split at h
     . cases h
     . cases h;cases hs
   . split at h
     . split at h
       . cases h
       . cases h;exact absurd rfl h3
     . split at h
       . rename_i t ht
         cases h
         have hm:=List.mem_of_find?_eq_some ht
         have hs2:t = [69,78,68]:=hs
         rw [hs2] at hm
         exact absurd hm (by decide)
       . cases h
theorem cut_d:∀(m:Nat) (l:List UInt8) (ps:List Pc),cutR m l = .ok ps->68 ∉ l->NoD ps
 | 0,_,_,h,_=>by unfold cutR at h;cases h;intro p hp;cases hp
 | m+1,l,ps,h,hl=>by
  unfold cutR at h
  have hsub:∀c,c ∈ l.dropWhile blankB->c ∈ l:=fun c hc=>(List.dropWhile_suffix _).subset hc
  cases e:l.dropWhile blankB with
  | nil=>simp only [e] at h;cases h;intro p hp;cases hp
  | cons c r =>
   rw [e] at hsub
   simp only [e] at h
   cases e1:pieceR (c :: r) with
   | error er=>simp only [e1] at h;cases h
   | ok y =>
    obtain⟨p,i⟩:=y
    simp only [e1] at h
    cases e2:cutR m ((c :: r).drop i) with
    | error er=>simp only [e2] at h;cases h
    | ok qs =>
     simp only [e2] at h
     cases h
     intro q hq
     rcases List.mem_cons.1 hq with rfl | hq
     . exact fun h3 hs=>hl (hsub _ (piece_d e1 h3 hs))
     . exact cut_d m _ qs e2 (fun hc=>hl (hsub _ ((List.drop_suffix _ _).subset hc))) q hq
theorem read_d {s:List UInt8} {p:List Ru} (h:readR s = .ok p) (hs:68 ∉ s):∀r ∈ p,r.when ≠ 2:=by
 unfold readR at h
 split at h
 . cases h
 . cases e:cutR (s.length+1) s with
   | error er=>simp only [e] at h;cases h
   | ok ps =>
    simp only [e] at h
    cases e1:rulesR (20 * ps.length+40) (ps.length+1) [] ps with
    | error er=>simp only [e1] at h;cases h
    | ok l =>
     simp only [e1] at h
     split at h
     . cases h
       exact rules_x _ [] _ ps (cut_d _ _ _ e hs) (fun r hr=>by cases hr) e1
     . cases h
def dB (l:List UInt8):Bool:=l.all (· != 68)
theorem dB_app {a b:List UInt8} (ha:dB a=true) (hb:dB b=true):dB (a ++ b)=true:=by unfold dB at *;rw [List.all_append,ha,hb];rfl
theorem dB_no {l:List UInt8} (h:dB l=true):68 ∉ l:=fun hm=>by
 have:=List.all_eq_true.1 h _ hm
 simp at this
theorem dB_digs {n:Nat} (h:n<30):dB (digs n)=true:=by
 have h1:(List.range 30).all (fun n=>dB (digs n))=true:=by kernel_rfl
 exact List.all_eq_true.1 h1 n (List.mem_range.2 h)
theorem dB_in {L:List (List UInt8)} (hL:L.all dB=true) {v:List UInt8} (h:v ∈ L):dB v=true:=List.all_eq_true.1 hL v h
theorem GE.dB {d:Nat} {b:Bool} {s:List UInt8} (h:GE d b s):dB s=true:=by
 induction h with
 | num h=>exact dB_digs h
 | var h=>exact dB_in (by decide) h
 | st | st2 | nr | nf=>decide
 | elem h0 h=>exact dB_app (dB_app (by decide) (dB_digs (by omega))) (by decide)
 | field h=>exact dB_app (dB_app (by decide) (dB_digs (by omega))) (by decide)
 | op ho _ _ i1 i2=>exact dB_app (dB_app (dB_app (dB_app (by decide) i1) (dB_in (by decide) ho)) i2) (by decide)
 | cond _ _ _ i1 i2 i3=>exact dB_app (dB_app (dB_app (dB_app (dB_app (dB_app (by decide) i1) (by decide)) i2) (by decide)) i3) (by decide)
 | elemv ha _ i1=>exact dB_app (dB_app (dB_app (dB_in (by decide) ha) (by decide)) i1) (by decide)
 | isin ha _ i1=>exact dB_app (dB_app (dB_app (dB_app (by decide) i1) (by decide)) (dB_in (by decide) ha)) (by decide)
 | sub _ _ i1 i2=>exact dB_app (dB_app (dB_app (dB_app (by decide) i1) (by decide)) i2) (by decide)
 | lenf _ i1 | neg _ i1 | no _ i1 | index _ i1=>exact dB_app (dB_app (by decide) i1) (by decide)
theorem GS.dB {d:Nat} {b:Bool} {s:List UInt8} (h:GS d b s):dB s=true:=by
 induction h with
 | set hv hs=>exact dB_app (dB_app (dB_app (dB_in (by decide) hv) (by decide)) hs.dB) (by decide)
 | put hs ht=>exact dB_app (dB_app (dB_app (dB_app (by decide) hs.dB) (by decide)) ht.dB) (by decide)
 | print hs ht=>exact dB_app (dB_app (dB_app (dB_app (by decide) hs.dB) (by decide)) ht.dB) (by decide)
 | load | print2=>decide
 | write h0 h hs=>exact dB_app (dB_app (dB_app (dB_app (by decide) (dB_digs (by omega))) (by decide)) hs.dB) (by decide)
 | delete hs=>exact dB_app (dB_app (by decide) hs.dB) (by decide)
 | next hs=>exact dB_app (dB_app (by decide) hs.dB) (by decide)
 | branch hs _ _ i1 i2=>exact dB_app (dB_app (dB_app (dB_app (dB_app (dB_app (by decide) hs.dB) (by decide)) i1) (by decide)) i2) (by decide)
 | each hv ha _ ht i1=>exact dB_app (dB_app (dB_app (dB_app (dB_app (dB_app (dB_app (dB_app (by decide) (dB_in (by decide) hv)) (by decide)) (dB_in (by decide) ha)) (by decide)) i1) (by decide)) ht.dB) (by decide)
 | loop h0 h _ i1=>exact dB_app (dB_app (dB_app (dB_app (by decide) (dB_digs (by omega))) (by decide)) i1) (by decide)
theorem GL.dB {b:Bool} {n:Nat} {s:List UInt8} (h:GL b n s):dB s=true:=by
 induction h with
 | nil=>decide
 | snoc _ ht i=>exact dB_app i (dB_app ht.dB (by decide))
theorem GB.dB {b:Bool} {m:Nat} {s:List UInt8} (h:GB b m s):dB s=true:=by
 obtain⟨n,t,-,-,hl,rfl⟩:=h
 exact dB_app hl.dB (by decide)
theorem GR.dB {n:Nat} {s:List UInt8} (h:GR n s):dB s=true:=by
 induction h with
 | first=>decide
 | begin _ ht i=>exact dB_app i (dB_app (by decide) ht.dB)
 | main _ ht i=>exact dB_app i ht.dB
 | pat _ he ht i=>exact dB_app (dB_app i (dB_app he.dB (by decide))) ht.dB
theorem GR.noD {n:Nat} {s:List UInt8} (h:GR n s):68 ∉ s:=dB_no h.dB
end Go.Proofs.YtodjbffhlklpkaaGreatDoor
namespace Go.Proofs.YtodjbffhlklpkaaGreatDoor
open Go.ChangeShapes Go.WideShapes Go.ChangeAt Go.RowKit Go.Joins
set_option linter.unusedVariables false
set_option linter.unusedSimpArgs false
set_option maxRecDepth 100000
def outL (F:List Fl) (p:List Ru) (ls:List ByteArray):Int × List ByteArray × Nat:=endOf (finishM F 6000 p ls (startM 20000))
theorem endL_out (r:Om):(endOf r).2.1=omOut r:=by cases r <;> rfl
theorem endL_end (r:Om):(endOf r).1=omEnd r:=by cases r <;> rfl
theorem lines_ab (F:List Fl) (p:List Ru) (hp:∀r ∈ p,r.when ≠ 2) (a b:List ByteArray):(outL F p a).2.1 <+: (outL F p (a ++ b)).2.1/\((outL F p a).1=0\/(outL F p a).1=(outL F p (a ++ b)).1):=by
 have h:=lines_more F 6000 p hp a b (startM 20000)
 unfold outL
 rw [endL_out,endL_out,endL_end,endL_end]
 exact h
def ReadL (w:World) (e:Ending) (w':World):Prop:=Below w.heap.size w w'/\((∃p a cap,ckP 6000 p=0/\(∀r ∈ p,r.when ≠ 2)/\e = .returned (.tuple #[.agg #[.slice a p.length cap],.int .i64 0])/\∀W,Keeps w w' W->PrgA W (.slice a p.length cap) p)\/∃er:Int,er ≠ 0/\e = .returned (.tuple #[.agg #[.slice none 0 0],.int .i64 er]))
theorem readL_c (s:List UInt8) (w:World) (hd:68 ∉ s) (hs:s.length<=400000) (hK:Kr w):Calls Tryz.prog 6 #[.string (bs s)] w (ReadL w):=by
 cases hR:readR s with
 | ok p=>exact (read_g rfl hR (readR_len hR) hK).mono fun e w' ⟨a,cap,he,hb,hp⟩=>⟨hb,.inl ⟨p,a,cap,readR_ck hR,read_d hR hd,he,fun W h=>hp W h.1 h.2⟩⟩
 | error er =>
  refine (read_c (bs s) w (by rw [bs_size];unfold maxLen;omega) hK.tr).mono fun e w' hr=>?_
  obtain⟨hb,hr⟩:=hr
  rw [bs_list,hR] at hr
  by_cases h0:er=0
  . exact⟨hb,.inl ⟨[],none,0,rfl,(fun r hr=>by cases hr),by rw [hr,h0];rfl,fun W _=>⟨none,0,rfl,Nat.zero_le _,fun h=>absurd h (by simp)⟩⟩⟩
  . exact⟨hb,.inr ⟨er,h0,hr⟩⟩
theorem last_end (t:List UInt8):Lib.lastIndex (t ++ endL) [69,78,68,32]=(t.length:Int):=by
 have hlen:endL.length=61:=by decide
 have hocc:∀i,Lib.occAt (t ++ endL) [69,78,68,32] (t.length+i)=([69,78,68,32]:List UInt8).isPrefixOf (endL.drop i):=fun i=>by
  unfold Lib.occAt
  rw [List.drop_append,List.drop_eq_nil_of_le (by omega),List.nil_append,show t.length+i - t.length=i by omega]
 have key:∀n,n<=57->Lib.lastOcc (t ++ endL) [69,78,68,32] (t.length+n+1)=(t.length:Int):=by
  intro n
  induction n with
  | zero =>
   intro _
   exact Lib.lastOcc_hit _ _ _ (by have h:=hocc 0;rw [Nat.add_zero] at h;rw [h];decide)
  | succ n ih =>
   intro hn
   rw [show t.length+(n+1)+1=(t.length+(n+1))+1 by omega,Lib.lastOcc_miss _ _ _ ?_]
   . exact ih (by omega)
   . rw [hocc]
     have h1:(List.range 57).all (fun n=> !([69,78,68,32]:List UInt8).isPrefixOf (endL.drop (n+1)))=true:=by kernel_rfl
     have h2:=List.all_eq_true.1 h1 n (List.mem_range.2 (by omega))
     simpa using h2
 unfold Lib.lastIndex
 rw [if_pos (by simp [hlen]),List.length_append,hlen]
 exact key 57 (Nat.le_refl _)
theorem copy_c (l:List ByteArray) (v:Value) (w:World) (hv:TxsA w v l) (hf:v = .slice none 0 0\/∃b off n c,v = .slice (some ⟨b,off,none⟩) n c) (hbig:l.length * 16<=140737488355328):Calls Tryz.prog 11 #[v] w fun e w'=>∃v',e = .returned v'/\Own1 w w' v' l/\Below w.heap.size w w':=by
 obtain⟨a,cap,rfl,hm,hs⟩:=hv
 cases a with
 | none =>
  by_cases h0:0<l.length
  . obtain⟨_,_,h,_⟩:=hs h0
    cases h
  . have e:l = []:=List.length_eq_zero_iff.1 (by omega)
    subst e
    exact (Tryz.slices_Clone_nil 0 cap w).mono fun e w' ⟨h1,h2⟩=>⟨_,h1,Own1.nil _ _,h2 ▸ Below.refl _ _⟩
 | some ad =>
  obtain⟨i0,hi,hz0,hz1,hz2⟩:=info_parts infoTx
  have h1:∀(b off n c:Nat) (w:World) (xs:List ByteArray),xs.length=n->n<=maxLen->(∀i x,xs[i]? = some x->w.cell? ⟨b,off+i,none⟩=some (.string x))->n * 16<=140737488355328->Calls Tryz.prog 11 #[.slice (some ⟨b,off,none⟩) n c] w fun e w'=>∃v',e = .returned v'/\Own1 w w' v' xs/\Below w.heap.size w w':=fun b off n c w xs hn hm hc hb=>by
   refine (Tryz.slices_Clone i0 (.string ⟨#[]⟩) 1 16 hi hz0 hz1 hz2 rfl (by decide) (fun w=>by simp [go_sem]) b off n c (xs.map Value.string) w (by simp [hn]) hm hb (fun j u hu=>?_) (fun u hu=>?_)).mono fun e w' ⟨v',h1,h2,_,h3⟩=>⟨v',h1,?_,h3⟩
   . rw [List.getElem?_map] at hu
     cases hx:xs[j]? with
     | none=>rw [hx] at hu;cases hu
     | some x=>rw [hx] at hu;cases hu;exact hc j x hx
   . obtain⟨x,-,rfl⟩:=List.mem_map.1 hu
     rfl
   . unfold Own1
     rw [hn]
     exact h2
  by_cases h0:0<l.length
  . obtain⟨b,off,e,hb,hi⟩:=hs h0
    cases e
    refine h1 b off l.length cap w l rfl hm (fun i x hx=>?_) hbig
    have hil:i<l.length:=(List.getElem?_eq_some_iff.1 hx).1
    obtain⟨cs,-,h3,y,hy,rfl,-⟩:=hi i hil
    have:=h3 0 (by omega)
    rw [hx] at hy
    cases hy
    simpa using this
  . have e:l = []:=List.length_eq_zero_iff.1 (by omega)
    subst e
    rcases hf with h | ⟨b,off,n,c,h⟩
    . cases h
    . cases h
      exact h1 b off 0 cap w [] rfl (Nat.zero_le _) (fun i x hx=>by cases hx) (by omega)
theorem RwA.stays {w w':World} {v:Value} {l:List Rw} (h:RwA w w.heap.size v l) (hb:Below w.heap.size w w'):RwA w' w'.heap.size v l:=by
 have h2:=h.low fun k hk=>hb.block k hk
 obtain⟨a,cap,h1,h2,h3,h4⟩:=h2
 exact⟨a,cap,h1,h2,h3,fun h0=>by obtain⟨b,off,e1,e2,e3⟩:=h4 h0;exact⟨b,off,e1,Nat.lt_of_lt_of_le e2 hb.size,e3⟩⟩
def RunR (B:Nat) (w:World) (v:Value) (l:List ByteArray):Prop:=w.ownsRow 0 9 1 v l.length (l.map Value.string)/\(∀g,v.ownBlock=some g->B<=g)/\(∀x ∈ l,x.size<=200)/\l.length<=2000
theorem RunR.stays {B:Nat} {w w':World} {v:Value} {l:List ByteArray} (h:RunR B w v l) (hb:∀g,B<=g->g<w.heap.size->w'.heap[g]? = w.heap[g]?):RunR B w' v l :=
 ⟨ownsRow_block h.1 fun g hg=>hb g (h.2.1 g hg) (h.1.lt g hg).2,h.2⟩
theorem RunR.txs {B:Nat} {w:World} {v:Value} {l:List ByteArray} (h:RunR B w v l):TxsA w v l:=own_texts h.1 h.2.2.1 h.2.2.2
theorem run_g {p:List Ru} {v fv lv:Value} {F:List Fl} {ls:List ByteArray} {w:World} (hp:PrgA w v p) (hK:Kr w) (hF:FlsA w fv F) (hL:TxsA w lv ls) (hck:ckP 6000 p=0) (hw:worldR F ls=0) :
 Calls Tryz.prog 9 #[.agg #[v],fv,lv,.int .i64 20000] w fun e w'=>∃a cap,e = .returned (.tuple #[.agg #[.slice a (outL F p ls).2.1.length cap,.int .i64 (outL F p ls).1,.int .i64 (20000 - ((outL F p ls).2.2:Int))],.int .i64 0])/\Below w.heap.size w w'/\RunR w.heap.size w' (.slice a (outL F p ls).2.1.length cap) (outL F p ls).2.1/\(outL F p ls).2.1.length<=cap:=by
 refine (run_ck 6000 w.heap.size p F ls v fv lv 20000 w hp hF hL hK.tr.tb (PowB.of hK.pw) hK.mx (Nat.le_refl _) (by decide) (by decide)).mono fun e w' hr=>?_
 obtain⟨hb,hr⟩:=hr
 unfold runR at hr
 rw [hck,if_neg (by simp),hw,if_neg (by simp),if_neg (by decide)] at hr
 obtain⟨u,he,h1,h2,h3,h4,hc⟩:=hr
 have hu2:=own_texts h1 h3 h4
 obtain⟨a,cap,rfl,-⟩:=hu2
 exact⟨a,cap,he,hb,⟨h1,h2,h3,h4⟩,hc.le⟩
structure OutA (V W:World) (g:Nat) (x:Option Addr) (n cp:Nat) (E U:Int) (O:List ByteArray):Prop where
 low:Below V.heap.size V W
 c0:W.cell? ⟨g,0,none⟩=some (.slice x n cp)
 c1:W.cell? ⟨g,1,none⟩=some (.int .i64 E)
 c2:W.cell? ⟨g,2,none⟩=some (.int .i64 U)
 lt:g<W.heap.size
 ge:V.heap.size<=g
 txs:TxsA W (.slice x n cp) O
theorem OutA.stays {V W W':World} {g:Nat} {x:Option Addr} {n cp:Nat} {E U:Int} {O:List ByteArray} (h:OutA V W g x n cp E U O) (hb:Below W.heap.size W W'):OutA V W' g x n cp E U O :=
 ⟨bl_trans h.low hb,(hb.cell (p:=⟨g,0,none⟩) h.lt).trans h.c0,(hb.cell (p:=⟨g,1,none⟩) h.lt).trans h.c1,(hb.cell (p:=⟨g,2,none⟩) h.lt).trans h.c2,Nat.lt_of_lt_of_le h.lt hb.size,h.ge,h.txs.stays hb⟩
theorem out_new {V w8:World} {B:Nat} {x:Option Addr} {n cp t:Nat} {E U:Int} {O:List ByteArray} (hV:Below V.heap.size V w8) (hK:RunR B w8 (.slice x n cp) O) :
 OutA V (w8.alloc (.cells #[.slice x n cp,.int .i64 E,.int .i64 U] t)) w8.heap.size x n cp E U O :=
 ⟨hV.alloc hV.size _,(RowAt.new w8 _ t).cell 0,(RowAt.new w8 _ t).cell 1,(RowAt.new w8 _ t).cell 2,by simp,hV.size,(hK.stays fun b _ hb=>Below.heap_alloc _ _ _ hb).txs⟩
theorem out_set {V w7 w8:World} {g:Nat} {x:Option Addr} {n cp:Nat} {E U:Int} {O:List ByteArray} (hV:Below V.heap.size V w8) (h8:Below w7.heap.size w7 w8) (hK:RunR w7.heap.size w8 (.slice x n cp) O) (hg:V.heap.size<=g)
 (q0:w7.cell? ⟨g,0,none⟩=some (.slice none 0 0)) (q1:w7.cell? ⟨g,1,none⟩=some (.int .i64 0)) (q2:w7.cell? ⟨g,2,none⟩=some (.int .i64 0)) :
 OutA V (((w8.setCell ⟨g,0,none⟩ (.slice x n cp)).setCell ⟨g,1,none⟩ (.int .i64 E)).setCell ⟨g,2,none⟩ (.int .i64 U)) g x n cp E U O:=by
 have hlt:g<w7.heap.size:=World.block_lt_of_cell? w7 ⟨g,0,none⟩ q0
 have e0:=(h8.cell (p:=⟨g,0,none⟩) hlt).trans q0
 have e1:=(h8.cell (p:=⟨g,1,none⟩) hlt).trans q1
 have e2:=(h8.cell (p:=⟨g,2,none⟩) hlt).trans q2
 have hsz:=h8.size
 refine⟨((hV.setCell (p:=⟨g,0,none⟩) hg _).setCell (p:=⟨g,1,none⟩) hg _).setCell (p:=⟨g,2,none⟩) hg _,by simp [go_sem,e0],by simp [go_sem,e0,e1],by simp [go_sem,e0,e1,e2],by simp [World.setCell];omega,hg,(hK.stays fun b hb1 hb2=>?_).txs⟩
 have hne:b ≠ g:=by omega
 exact (setBlock_ne hne).trans ((setBlock_ne hne).trans (setBlock_ne hne))
theorem app_texts {w:World} {B:Nat} {v u:Value} {l m:List ByteArray} (hown:w.ownsRow B 9 1 v l.length (l.map Value.string)) (hu:TxsA w u m) (hf:u = .slice none 0 0\/∃b off n c,u = .slice (some ⟨b,off,none⟩) n c) (hl:l.length<=100) (hm:m.length<=100) (hB:B<=w.heap.size) :
 ∃v' w',(Builtin.append_ #[32,32] 32 #[v,u]).run Tryz.prog w = .ok v' w'/\w'.ownsRow B 9 1 v' (l ++ m).length ((l ++ m).map Value.string)/\w.grownBy w' v.ownBlock:=by
 obtain⟨i0,hi,hz0,hz1,hz2⟩:=info_parts infoTx
 obtain⟨a,c,rfl,-,hs⟩:=hu
 by_cases h0:0<m.length
 . obtain⟨b,off,rfl,-,hc⟩:=hs h0
   obtain⟨g,cp,w',r1,r2,r3,-,-⟩:=run_append_lies (P:=Tryz.prog) w 32 32 B 9 i0 (.string ⟨#[]⟩) 1 16 Tryz.underlying32 hi hz0 hz1 hz2 rfl (by decide) v l.length (l.map Value.string) hown ⟨b,off,none⟩ m.length c (m.map Value.string) (by simp) (fun j u hu=>by
    rw [List.getElem?_map] at hu
    cases hx:m[j]? with
    | none=>rw [hx] at hu;cases hu
    | some x =>
     rw [hx] at hu
     cases hu
     obtain⟨cs,-,h3,y,hy,rfl,-⟩:=hc j (List.getElem?_eq_some_iff.1 hx).1
     have h4:=h3 0 (by omega)
     rw [hx] at hy
     cases hy
     have e:(⟨b,off,none⟩:Addr).add j = ⟨b,off+j,none⟩:=by unfold Addr.add;split <;> simp_all
     rw [e]
     simpa using h4) (fun u hu=>by
    obtain⟨x,-,rfl⟩:=List.mem_map.1 hu
    rfl) h0 (by unfold maxLen;omega) (by omega) hB w.heap.size rfl
   refine⟨_,w',r1,?_,r3⟩
   rw [List.length_append,List.map_append]
   exact r2
 . have e:m = []:=List.length_eq_zero_iff.1 (by omega)
   subst e
   have hsrc:Src Tryz.prog i0.size 32 (.slice a 0 c) 0 [] w:=by
    rw [hz1]
    refine⟨.inl ⟨9,Tryz.underlying32⟩,fun w'=>?_,?_,?_,rfl,fun u hu=>by cases hu⟩
    . simp [go_sem]
    . rcases hf with h | ⟨_,_,_,_,h⟩ <;> cases h <;> simp [go_sem]
    . rcases hf with h | ⟨_,_,_,_,h⟩ <;> cases h <;> simp [go_sem]
   have hgr:w.grownBy w v.ownBlock:=⟨rfl,rfl,rfl,Nat.le_refl _,fun _ _ _=>rfl⟩
   rw [List.append_nil]
   rcases hown.2 with⟨rfl,h1⟩ | ⟨g,cp,cur,rfl,-,-,hn,-⟩
   . exact⟨_,w,run_append_nothing w _ _ _ _ i0 Tryz.underlying32 hi none 0 0 (Nat.le_refl _) _ hsrc,hown,hgr⟩
   . exact⟨_,w,run_append_nothing w _ _ _ _ i0 Tryz.underlying32 hi _ _ _ hn _ hsrc,hown,hgr⟩
theorem step_app {P:Program} {w:World} {ops:Array Oper} {o:Oper} {a:Act} {K:Act->World->Prop} {Q:Exit->Act->World->Prop} {E:Prop} {Φ:Value->World->Prop} {t:TypeId} {v u:Value} (hgd:o.guard=none) (s x:Operand)
 (ho:o.op = .call { callee:= .builtin .append,args:= #[s,x],argTypes:= #[t,t] }) (hs:a.eval s=v) (hx:a.eval x=u) (hr:∃v' w',(Builtin.append_ #[t,t] o.type #[v,u]).run P w = .ok v' w'/\Φ v' w') (h:∀v' w',Φ v' w'->K (a.put o.dst v') w') :
 if Region.wanted o (yielded ops a.tmps)=true then Oper.wp P o a w K Q else E:=by
 have hw:Region.wanted o (yielded ops a.tmps)=true:=by simp [Region.wanted,hgd]
 rw [if_pos hw]
 obtain⟨v',w',hr,hf⟩:=hr
 unfold Oper.wp execOp
 simp only [ho,resolve,invoke,builtin,Sem.run_bind,Sem.run_pure,Result.andThen_ok,List.map_toArray,List.map_cons,List.map_nil,hs,hx,hr]
 exact h v' w' hf
theorem le_at {w6 s5 w5:World} (hb:Below s5.heap.size s5 w5) (h:w6.heap.size<=s5.heap.size):w6.heap.size<=s5.heap.size:=h
theorem le_sz {w7 W w9:World} (hb:W.heap.size<=w9.heap.size) (h:w7.heap.size<=W.heap.size):w7.heap.size<=W.heap.size:=h
structure AppR (X w6 s5 w5 W:World) (v9:Value) (w9:World) (l:List ByteArray):Prop where
 txs:TxsA w9 v9 l
 shp:∃a n c,v9 = .slice a n c
 lowX:Below X.heap.size X w9
 low6:Below w6.heap.size w6 w9
 sz:W.heap.size<=w9.heap.size
 sz5:w5.heap.size<=w9.heap.size
 cA:∀g o,g<s5.heap.size->w9.cell? ⟨g,o,none⟩=W.cell? ⟨g,o,none⟩
 zA:∀g o,g<s5.heap.size->w9.frozen? ⟨g,o,none⟩=W.frozen? ⟨g,o,none⟩
 cB:∀g o,w5.heap.size<=g->g<W.heap.size->w9.cell? ⟨g,o,none⟩=W.cell? ⟨g,o,none⟩
 zB:∀g o,w5.heap.size<=g->g<W.heap.size->w9.frozen? ⟨g,o,none⟩=W.frozen? ⟨g,o,none⟩
theorem app_row {X w6 s5 w5 W:World} {v5 u:Value} {l m:List ByteArray} (ho:Own1 s5 w5 v5 l) (hX6:Below X.heap.size X w6) (h65:w6.heap.size<=s5.heap.size) (h55:s5.heap.size<=w5.heap.size) (h6W:Below w6.heap.size w6 W) (h5W:Below w5.heap.size w5 W) (hu:TxsA W u m) (hf:u = .slice none 0 0\/∃b off n c,u = .slice (some ⟨b,off,none⟩) n c) (hl:l.length<=8/\m.length<=8/\(∀x ∈ l,x.size<=20)/\∀x ∈ m,x.size<=20) :
 ∃v9 w9,(Builtin.append_ #[32,32] 32 #[v5,u]).run Tryz.prog W = .ok v9 w9/\AppR X w6 s5 w5 W v9 w9 (l ++ m):=by
 have hob:∀g,v5.ownBlock=some g->s5.heap.size<=g/\g<w5.heap.size:=fun g hg=>ho.lt g hg
 have hown:W.ownsRow s5.heap.size 9 1 v5 l.length (l.map Value.string):=ownsRow_block ho fun g hg=>h5W.block g (hob g hg).2
 have hsW:=h5W.size
 obtain⟨v9,w9,r1,r2,hg⟩:=app_texts hown hu hf (by omega) (by omega) (by omega)
 have r3:Own1 s5 w9 v9 (l ++ m):=r2
 obtain⟨a,c,rfl,-⟩:=r3.shape
 have hXW:Below X.heap.size X W:=bl_trans hX6 h6W
 have hs6:=hX6.size
 refine⟨_,w9,r1,⟨r3.texts (fun x hx=>?_) (by rw [List.length_append];unfold maxLen;omega),⟨_,_,_,rfl⟩,⟨hg.os.trans hXW.os,hg.tape.trans hXW.tape,hg.output.trans hXW.output,Nat.le_trans hXW.size hg.size,fun k hk=>(hg.block k (Nat.lt_of_lt_of_le hk hXW.size) fun e=>?_).trans (hXW.block k hk)⟩,⟨hg.os.trans h6W.os,hg.tape.trans h6W.tape,hg.output.trans h6W.output,Nat.le_trans h6W.size hg.size,fun k hk=>(hg.block k (Nat.lt_of_lt_of_le hk h6W.size) fun e=>?_).trans (h6W.block k hk)⟩,hg.size,Nat.le_trans hsW hg.size,fun g o h=>World.cell?_of_block (a:=⟨g,o,none⟩) (hg.block g (by omega) fun e=>?_),fun g o h=>World.frozen?_of_block (a:=⟨g,o,none⟩) (hg.block g (by omega) fun e=>?_),fun g o h1 h2=>World.cell?_of_block (a:=⟨g,o,none⟩) (hg.block g h2 fun e=>?_),fun g o h1 h2=>World.frozen?_of_block (a:=⟨g,o,none⟩) (hg.block g h2 fun e=>?_)⟩⟩
 . rcases List.mem_append.1 hx with h | h
   . have:=hl.2.2.1 x h;unfold maxLen;omega
   . have:=hl.2.2.2 x h;unfold maxLen;omega
 all_goals
  have:=hob _ e.symm
  omega
end Go.Proofs.YtodjbffhlklpkaaGreatDoor
