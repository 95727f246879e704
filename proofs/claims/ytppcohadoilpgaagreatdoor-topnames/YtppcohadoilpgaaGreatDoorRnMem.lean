/-
  Other names in memory: a name; a row of expressions, copied; what its elements become, one by one. / Other names in memory: an expression (the law's own expr).
-/
import Derived.Test.YtppcohadoilpgaaGreatDoorRdBl
import Derived.Test.YtppcohadoilpgaaGreatDoorMStep
import Derived.Test.YtppcohadoilpgaaGreatDoorRnSpec
import Derived.Deep.RegionHeld3
import Derived.OwnWalk
import Derived.Lib.SliceRun
import Derived.Test.YtppcohadoilpgaaGreatDoorMAskF
namespace Go.Proofs.YtppcohadoilpgaaGreatDoor
open Go.ChangeShapes Go.WideShapes Go.ChangeAt Go.RowKit Go.Joins Go.Maps Go.Proofs.Tryz
set_option maxHeartbeats 4000000
set_option linter.unusedVariables false
set_option linter.unusedSimpArgs false
set_option maxRecDepth 100000
theorem Pn (s:ByteArray) (w:World):Calls prog 14 #[.string s] w fun e w'=>e = .returned (.string (rho s))/\w'=w:=by
 by_cases h:4<s.size
 . have e:rho s=s:=if_pos h;rw [e];have h1:(4:Int)<(s.size:Int):=by omega
   clear e h;go_enter func14,ntmps14
   go_wp2_with fail
   go_ret
   exact⟨rfl,rfl⟩
 . have e:rho s=s ++ ⟨#[122,122]⟩:=if_neg h;rw [e];have h1:¬(4:Int)<(s.size:Int):=by omega
   have h2:s.size+2<=140737488355328:=by omega
   clear e h;go_enter func14,ntmps14
   go_wp2_with fail
   go_ret
   exact⟨rfl,rfl⟩
theorem Aeq:(prog.info? 31).map (fun i=>(i.zero,i.size,i.bytes))=some (some (.agg #[.int .i64 0,.int .i64 0,.string ⟨#[]⟩,.slice none 0 0]),4,56):=by kernel_rfl
theorem Abg {css:List (List Value)} {sz:Nat} (hsz:0<sz) (h:∀c ∈ css,c.length=sz) {j:Nat} {u:Value} (hj:css.flatten[j]? = some u):∃i c k,css[i]? = some c/\k<sz/\j=i * sz+k/\c[k]? = some u:=by
 induction css generalizing j with
 | nil=>simp at hj
 | cons d css ih =>
  have hd:d.length=sz:=h d (List.mem_cons_self ..);rw [List.flatten_cons] at hj
  by_cases hl:j<d.length
  . rw [List.getElem?_append_left hl] at hj;exact⟨0,d,j,rfl,by omega,by omega,hj⟩
  . rw [List.getElem?_append_right (by omega)] at hj;obtain⟨i,c,k,h1,h2,h3,h4⟩:=ih (fun c hc=>h c (List.mem_cons_of_mem _ hc)) hj;exact⟨i+1,c,k,by simpa using h1,h2,by rw [Nat.succ_mul];omega,h4⟩
theorem Acm {n sz b off:Nat} {w:World} {E:Nat->List Value->Prop} (h:∀i,i<n->∃cs:List Value,cs.length=sz/\(∀j,j<sz->w.cell? ⟨b,off+i * sz+j,none⟩=cs[j]?)/\E i cs) :
 ∃css:List (List Value),css.length=n/\(∀c ∈ css,c.length=sz)/\∀i c,css[i]? = some c->(∀j,j<sz->w.cell? ⟨b,off+i * sz+j,none⟩=c[j]?)/\E i c:=by
 induction n with
 | zero=>exact⟨[],rfl,(fun c hc=>by cases hc),fun i c hc=>by simp at hc⟩
 | succ n ih =>
  obtain⟨css,h1,h2,h3⟩:=ih fun i hi=>h i (by omega);obtain⟨cs,e1,e2,e3⟩:=h n (by omega);refine⟨css ++ [cs],by simp [h1],fun c hc=>?_,fun i c hc=>?_⟩
  . rcases List.mem_append.1 hc with hc | hc
    . exact h2 c hc
    . rw [List.mem_singleton.1 hc];exact e1
  . by_cases hi:i<css.length
    . rw [List.getElem?_append_left hi] at hc;exact h3 i c hc
    . rw [List.getElem?_append_right (by omega)] at hc;have hi2:i=n:=by
       rcases Nat.lt_or_ge (i - css.length) 1 with h5 | h5
       . omega
       . rw [List.getElem?_eq_none (by simpa using h5)] at hc;cases hc
      subst hi2;rw [h1,Nat.sub_self] at hc;cases hc;exact⟨e2,e3⟩
theorem Aa0 (a:Option Addr) (n c:Nat) (news:List Value) (w:World) (hl:news.length=n * 4) (hn:n<=4000) (h1:∀u ∈ news,u.oneCell'=true)
 (hs:0<n->∃b off,a=some ⟨b,off,none⟩/\∀j u,news[j]? = some u->w.cell? ⟨b,off+j,none⟩=some u) :
 Calls prog 15 #[.slice a n c] w fun e w'=>∃v',e = .returned v'/\w'.ownsRow w.heap.size 31 4 v' n news/\Below w.heap.size w w':=by
 have q22:∀(w:World) (a:Option Addr) (n c n' c':Nat),(binOp .eql 29 (.slice a n c) (.slice none n' c')).run prog w = .ok (.bool a.isNone) w:=fun w a n c n' c'=>Lib.run_eql_slice_nil w _ _ a n c n' c' underlying29;cases a with
 | none =>
  have h0:n=0:=by
   by_cases h:0<n
   . obtain⟨_,_,e,_⟩:=hs h;cases e
   . omega
  have h2:news = []:=List.eq_nil_of_length_eq_zero (by omega);clear hs h1;go_enter func15,ntmps15
  go_wp2_with fail
  go_ret
  exact⟨_,rfl,by rw [h0,h2];exact World.ownsRow_nil _ _ _ _,Below.refl _ _⟩
 | some ad =>
  obtain⟨i0,hi,hz0,hz1,hz2⟩:=info_parts Aeq;have A:Hid (∀j u,news[j]? = some u->w.cell? (ad.add j)=some u):=fun j u hj=>by
   obtain⟨b,off,e,h⟩:=hs (by have:=(List.getElem?_eq_some_iff.1 hj).1;omega);cases e;rw [Addr.add_lit];exact h j u hj
  clear hs;go_enter func15,ntmps15
  go_wp2_with (at_builtin;refine wpList_append_own _ rfl _ _ 29 rfl w.heap.size 31 i0 (.agg #[.int .i64 0,.int .i64 0,.string ⟨#[]⟩,.slice none 0 0]) 4 56 underlying29 hi hz0 hz1 hz2 rfl (by decide) _ _ _ rfl (World.ownsRow_made w #[] 0 lr0 (Nat.zero_le _) (by simp)) ad n c news rfl ?qc1 ?qc2 ?qc3 ?qc4 ?qc5 ?qc6 ?_)
  case qc1=>exact hl
  case qc2 =>
   intro j u hj;exact Lib.cell?_alloc_some _ (A.out j u hj)
  case qc3=>exact h1
  case qc4=>rw [Nat.zero_add];unfold maxLen;omega
  case qc5=>rw [Nat.zero_add];omega
  case qc6=>simp
  intro v' w1 hown hgrow hnil;go_wp2
  go_ret
  refine⟨v',rfl,by simpa using hown,?_⟩;exact ((Below.refl _ w).alloc lr0 _).grown hgrow (by simp) (by intro k hk;simp [Value.ownBlock] at hk;omega)
abbrev Vo (w:World) (g o:Nat) (a b c d:Value):World:=(((w.setCell ⟨g,o,none⟩ a).setCell ⟨g,o+1,none⟩ b).setCell ⟨g,o+2,none⟩ c).setCell ⟨g,o+3,none⟩ d
structure M0 (w0 wc wr:World) (g m:Nat) (l:List Ex) (k:Nat):Prop where
 but:But g g wc wr
 thaw:∀o,wr.frozen? ⟨g,o,none⟩=false
 row:∀i x,l[i]? = some x->∃p q s a len cap,wr.cell? ⟨g,i * 4,none⟩=some (.int .i64 p)/\wr.cell? ⟨g,i * 4+1,none⟩=some (.int .i64 q)/\wr.cell? ⟨g,i * 4+2,none⟩=some (.string s)/\wr.cell? ⟨g,i * 4+3,none⟩=some (.slice a len cap) /\
  (if i<k then ExP (fun b=>wc.heap.size<=b) wr m [.int .i64 p,.int .i64 q,.string s,.slice a len cap] (rnE m x) else ExA w0.heap.size w0 m [.int .i64 p,.int .i64 q,.string s,.slice a len cap] x)
theorem M0.next {w0 wc wr w1:World} {g m k:Nat} {l:List Ex} {x:Ex} {p q:Int} {s:ByteArray} {a:Option Addr} {len cap:Nat} (h:M0 w0 wc wr g m l k) (hg:g<wc.heap.size) (hx:l[k]? = some x) (hb:Below wr.heap.size wr w1)
 (he:ExP (fun b=>wr.heap.size<=b) w1 m [.int .i64 p,.int .i64 q,.string s,.slice a len cap] (rnE m x)):M0 w0 wc (Vo w1 g (k * 4) (.int .i64 p) (.int .i64 q) (.string s) (.slice a len cap)) g m l (k+1):=by
 have hsz:=h.but.size;obtain⟨hc1,hz1⟩:=Ar hb;have e0:∀b,wc.heap.size<=b->(Vo w1 g (k * 4) (.int .i64 p) (.int .i64 q) (.string s) (.slice a len cap)).heap[b]? = w1.heap[b]? := fun b hb=>by
  have:b ≠ g:=by omega
  rw [Ae this,Ae this,Ae this,Ae this]
 have hgr:g<wr.heap.size:=lle hg hsz;refine⟨((((h.but.more hb).set _ _).set _ _).set _ _).set _ _,fun o=>?_,fun i y hy=>?_⟩
 . have:=h.thaw o;rw [<-hz1 g o hgr] at this;simpa [go_sem] using this
 . obtain⟨p',q',s',a',len',cap',r0,r1,r2,r3,r4⟩:=h.row i y hy;rw [<-hc1 g _ hgr] at r0 r1 r2 r3
   by_cases hik:i=k
   . subst hik;refine⟨p,q,s,a,len,cap,?_,?_,?_,?_,?_⟩
     . rw [Ab (by omega),Ab (by omega),Ab (by omega)];exact World.cell?_setCell_same w1 ⟨g,i * 4,none⟩ _ r0
     . rw [Ab (by omega),Ab (by omega)];exact World.cell?_setCell_same _ ⟨g,i * 4+1,none⟩ _ ((Ab (by omega)).trans r1)
     . rw [Ab (by omega)];exact World.cell?_setCell_same _ ⟨g,i * 4+2,none⟩ _ ((Ab (by omega)).trans ((Ab (by omega)).trans r2))
     . exact World.cell?_setCell_same _ ⟨g,i * 4+3,none⟩ _ ((Ab (by omega)).trans ((Ab (by omega)).trans ((Ab (by omega)).trans r3)))
     . rw [if_pos (by omega)];rw [hx] at hy;cases hy;exact ExP.stays (fun b hb=>lq0 hsz hb) (fun b hb _=>e0 b (lq0 hsz hb)) he
   . refine⟨p',q',s',a',len',cap',?_,?_,?_,?_,?_⟩
     . rw [Ab (by omega),Ab (by omega),Ab (by omega),Ab (by omega)];exact r0
     . rw [Ab (by omega),Ab (by omega),Ab (by omega),Ab (by omega)];exact r1
     . rw [Ab (by omega),Ab (by omega),Ab (by omega),Ab (by omega)];exact r2
     . rw [Ab (by omega),Ab (by omega),Ab (by omega),Ab (by omega)];exact r3
     . by_cases hi:i<k
       . rw [if_pos hi] at r4;rw [if_pos (by omega)];exact ExP.stays (fun b h=>h) (fun b h5 h6=>(e0 b h5).trans (hb.block b h6)) r4
       . rw [if_neg hi] at r4;rw [if_neg (by omega)];exact r4
def ltE:Nat->Ex->Prop
 | 0,_=>True
 | m+1,.mk _ _ _ l=>l.length<=4000/\∀x ∈ l,ltE m x
def ltS:Nat->Sm->Prop
 | 0,_=>True
 | m+1,.mk _ _ _ es b e=>es.length<=4000/\(∀x ∈ es,ltE m x)/\b.length<=4000/\(∀x ∈ b,ltS m x)/\e.length<=4000/\∀x ∈ e,ltS m x
theorem Tk:∀ {m:Nat} {x:Ex},okE m x->ltE m x
 | 0,_,_=>trivial
 | m+1,.mk k n s l,h=>by
  obtain⟨-,-,hp,-,-,-,hl⟩:=h;have h1:=Da hp;refine⟨?_,fun x hx=>Tk (hl x hx)⟩;unfold D1 Dn at h1;split at h1
  . split at h1
    . omega
    . split at h1
      . omega
      . split at h1 <;> omega
  . split at h1
    . omega
    . split at h1
      . omega
      . split at h1 <;> omega
theorem Aaf {m:Nat} {x:Ex} (h:C5 x=true):ltE m x:=by
 cases m with
 | zero=>trivial
 | succ m =>
  cases x with
  | mk k n s l =>
   simp only [C5,Bool.and_eq_true,decide_eq_true_eq] at h;have h1:l = []:=List.eq_nil_of_length_eq_zero h.2;subst h1;exact⟨Nat.zero_le _,fun x hx=>by cases hx⟩
def LpX (w wc wr:World) (a:Option Addr) (m:Nat) (l:List Ex) (i:Nat):Prop :=
 Below w.heap.size w wc/\((wr=wc/\l = [])\/∃g,a=some ⟨g,0,none⟩/\g<wc.heap.size/\w.heap.size<=g/\M0 w wc wr g m l i)
theorem LpX.low {w wc wr:World} {a:Option Addr} {m i:Nat} {l:List Ex} (h:LpX w wc wr a m l i):Below w.heap.size w wr:=by
 obtain⟨h1,h | ⟨g,-,-,h2,h3⟩⟩:=h
 . rw [h.1];exact h1
 . exact h1.trans (h3.but.below h1.size h2 h2)
theorem LpX.low2 {B:Nat} {w wc wr:World} {a:Option Addr} {m i:Nat} {l:List Ex} (h:LpX w wc wr a m l i) (hB:B<=wc.heap.size) (hg:∀g,a=some ⟨g,0,none⟩->B<=g):Below B wc wr:=by
 obtain⟨h1,h | ⟨g,e,-,h2,h3⟩⟩:=h
 . rw [h.1];exact Below.refl _ _
 . exact h3.but.below hB (hg g e) (hg g e)
theorem LpX.keep {w wc wr:World} {a:Option Addr} {m i:Nat} {l:List Ex} (h:LpX w wc wr a m l i) {b:Nat} (hb:b<wc.heap.size) (hn:∀g,a=some ⟨g,0,none⟩->b ≠ g):wr.heap[b]? = wc.heap[b]? := by
 obtain⟨h1,h | ⟨g,e,h4,h2,h3⟩⟩:=h
 . rw [h.1]
 . exact h3.but.block b hb (hn g e) (hn g e)
theorem LpX.size {w wc wr:World} {a:Option Addr} {m i:Nat} {l:List Ex} (h:LpX w wc wr a m l i):wc.heap.size<=wr.heap.size:=by
 obtain⟨h1,h | ⟨g,e,h4,h2,h3⟩⟩:=h
 . rw [h.1];exact Nat.le_refl _
 . exact h3.but.size
theorem LpX.slp {B:Nat} {w wc wr W:World} {a:Option Addr} {m cap n:Nat} {l:List Ex} (h:LpX w wc wr a m l n) (hn:n=l.length) (hl:l.length<=maxLen) (hB:B<=wc.heap.size) (hg:∀g,a=some ⟨g,0,none⟩->B<=g) (hW:∀b,(a=some ⟨b,0,none⟩\/wc.heap.size<=b)->b<wr.heap.size->W.heap[b]? = wr.heap[b]?) :
 SlP (fun b=>B<=b) W 4 (.slice a n cap) (l.map (rnE m)).length (fun i c=>∃x,(l.map (rnE m))[i]? = some x/\ExP (fun b=>B<=b) W m c x):=by
 subst hn;rw [List.length_map];obtain⟨h1,h | ⟨g,e,h4,h2,h3⟩⟩:=h
 . rw [h.2];exact⟨a,cap,rfl,Nat.zero_le _,fun h=>absurd h (Nat.lt_irrefl 0)⟩
 . refine⟨a,cap,rfl,hl,fun h0=>⟨g,0,e,hg g e,fun i hi=>?_⟩⟩;obtain⟨p,q,s,a',len,cap',r0,r1,r2,r3,r4⟩:=h3.row i l[i] (gee hi);rw [if_pos hi] at r4;have hgc:∀o,W.cell? ⟨g,o,none⟩=wr.cell? ⟨g,o,none⟩:=fun o=>World.cell?_of_block (a:=⟨g,o,none⟩) (hW g (.inl e) (lle h4 h3.but.size));refine⟨_,rfl,fun j hj=>?_,rnE m l[i],by simp [hi],ExP.stays (fun b hb=>lq0 hB hb) (fun b hb hlt=>hW b (.inr hb) hlt) r4⟩;rw [hgc,Nat.zero_add];obtain rfl | rfl | rfl | rfl:j=0\/j=1\/j=2\/j=3:=by omega
   . exact r0
   . exact r1
   . exact r2
   . exact r3
theorem LpX.start {w wc:World} {B m n:Nat} {a:Option Addr} {cap:Nat} {l:List Ex} {css:List (List Value)} (hn:n=l.length) (hb:Below w.heap.size w wc) (hB:w.heap.size<=B) (hrow:wc.ownsRow B 31 4 (.slice a n cap) n css.flatten) (hlen:css.length=l.length) (h4:∀c ∈ css,c.length=4)
 (he:∀(i:Nat) (c:List Value),css[i]? = some c->∃x:Ex,l[i]? = some x/\ExA w.heap.size w m c x):LpX w wc wc a m l 0:=by
 refine⟨hb,?_⟩;rcases hrow.2 with⟨e,h0⟩ | ⟨g,cp,cur,e,h1,h2,h3,-,h5,h6⟩
 . exact .inl ⟨rfl,List.eq_nil_of_length_eq_zero (by omega)⟩
 . cases e;have hlt:g<wc.heap.size:=by
    rcases Nat.lt_or_ge g wc.heap.size with h' | h'
    . exact h'
    . rw [Array.getElem?_eq_none h'] at h2;cases h2
   refine .inr ⟨g,rfl,hlt,lq0 hB h1,But.refl _ _ _,fun o=>Lib.frozen_of_heap h2 o,fun i x hx=>?_⟩;have hi:i<l.length:=(List.getElem?_eq_some_iff.1 hx).1;obtain⟨c,hc⟩:∃c,css[i]? = some c:=⟨_,gee (by omega)⟩;obtain⟨y,hy,hxa⟩:=he i c hc;rw [hx] at hy;cases hy;obtain⟨p,q,s,a',len,cap',rfl⟩:=hxa.shape;have hcell:∀j,j<4->wc.cell? ⟨g,i * 4+j,none⟩ = [Value.int .i64 p,.int .i64 q,.string s,.slice a' len cap'][j]? := fun j hj=>by
    have hlt2:i * 4+j<l.length * 4:=by omega
    rw [show wc.cell? ⟨g,i * 4+j,none⟩=css.flatten[i * 4+j]? by simpa using World.ownsRow.cellAt hrow (i * 4+j) (by omega)];exact Pi h4 hc j hj
   refine⟨p,q,s,a',len,cap',hcell 0 (by omega),hcell 1 (by omega),hcell 2 (by omega),hcell 3 (by omega),?_⟩;rw [if_neg (Nat.not_lt_zero _)];exact hxa
theorem LpX.box {w w3:World} {a:Option Addr} {m bx:Nat} {l:List Ex} (h:LpX w w3 w3 a m l 0) (hb:w.heap.size<=bx) (hbx:∀g,a=some ⟨g,0,none⟩->bx ≠ g) (o:Nat) (v:Value):LpX w (w3.setCell ⟨bx,o,none⟩ v) (w3.setCell ⟨bx,o,none⟩ v) a m l 0:=by
 obtain⟨h1,h | ⟨g,e,h4,h2,h3⟩⟩:=h
 . exact⟨h1.setCell (p:=⟨bx,o,none⟩) hb v,.inl ⟨rfl,h.2⟩⟩
 . have hne:=hbx g e;have hc:∀p,(w3.setCell ⟨bx,o,none⟩ v).cell? ⟨g,p,none⟩=w3.cell? ⟨g,p,none⟩:=fun p=>World.cell?_of_block (a:=⟨g,p,none⟩) (Ae (fun e=>hne e.symm));refine⟨h1.setCell (p:=⟨bx,o,none⟩) hb v,.inr ⟨g,e,by simpa [World.setCell] using h4,h2,But.refl _ _ _,fun p=>by simpa using h3.thaw p,fun i x hx=>?_⟩⟩;obtain⟨p,q,s,a',len,cap',r0,r1,r2,r3,r4⟩:=h3.row i x hx;refine⟨p,q,s,a',len,cap',(hc _).trans r0,(hc _).trans r1,(hc _).trans r2,(hc _).trans r3,?_⟩;rw [if_neg (Nat.not_lt_zero _)] at r4 ⊢;exact r4
theorem Bx.far {g k o:Nat} {cs:List Value} {T:TypeId} {w:World} {v:Value} (h:Bx g cs T w) (hk:g ≠ k):Bx g cs T (w.setCell ⟨k,o,none⟩ v):=(Ae hk).trans h
theorem Bx.set {g:Nat} {cs:List Value} {T:TypeId} {w:World} (h:Bx g cs T w) (o:Nat) (v:Value):Bx g (cs.set o v) T (w.setCell ⟨g,o,none⟩ v):=by
 have h':w.heap[g]? = some (.cells cs.toArray T (0,0)):=h;simp [Bx,World.setCell,Array.getElem?_modify,h']
def Uy (m:Nat) (x:Ex) (w:World) (e:Ending) (w':World):Prop :=
 Below w.heap.size w w'/\∃p q s a len cap,e = .returned (.agg #[.int .i64 p,.int .i64 q,.string s,.slice a len cap])/\ExP (fun b=>w.heap.size<=b) w' m [.int .i64 p,.int .i64 q,.string s,.slice a len cap] (rnE m x)
def RnC (m:Nat):Prop:=∀(cs:List Value) (x:Ex) (w0 w:World),ExA w0.heap.size w0 m cs x->Below w0.heap.size w0 w->ltE m x->Calls prog 6 #[.agg cs.toArray] w (Uy m x w)
theorem Adc {m:Nat} {w0 w:World} {a:Option Addr} {cap:Nat} {l:List Ex} (hsl:Sl w0 w0.heap.size 4 (.slice a l.length cap) l.length (fun i c=>∃x,l[i]? = some x/\ExA w0.heap.size w0 m c x)) (hb:Below w0.heap.size w0 w) (hl:l.length<=4000) :
 Calls prog 15 #[.slice a l.length cap] w fun e w'=>∃a' cap',e = .returned (.slice a' l.length cap')/\Below w.heap.size w w'/\LpX w0 w' w' a' m l 0/\(∀g,a'=some ⟨g,0,none⟩->w.heap.size<=g):=by
 obtain⟨a1,cap1,e1,hmax,hs⟩:=hsl;cases e1;have key:∃css:List (List Value),css.length=l.length/\(∀c ∈ css,c.length=4)/\(0<l.length->∃b off,a=some ⟨b,off,none⟩/\b<w0.heap.size/\∀i c,css[i]? = some c->(∀j,j<4->w0.cell? ⟨b,off+i * 4+j,none⟩=c[j]?))/\∀(i:Nat) (c:List Value),css[i]? = some c->∃x:Ex,l[i]? = some x/\ExA w0.heap.size w0 m c x:=by
  by_cases h0:0<l.length
  . obtain⟨b,off,ha,hb',hi⟩:=hs h0;obtain⟨css,h1,h2,h3⟩:=Acm hi;exact⟨css,h1,h2,fun _=>⟨b,off,ha,hb',fun i c hc=>(h3 i c hc).1⟩,fun i c hc=>(h3 i c hc).2⟩
  . exact⟨[],by simp;omega,(fun c hc=>by cases hc),fun h=>absurd h h0,fun i c hc=>by simp at hc⟩
 obtain⟨css,h1,h2,h3,h4⟩:=key;have hfl:css.flatten.length=l.length * 4:=by
  have:∀(css:List (List Value)),(∀c ∈ css,c.length=4)->css.flatten.length=css.length * 4:=by
   intro css
   induction css with
   | nil=>intro _;rfl
   | cons c css ih=>intro h;rw [List.flatten_cons,lap,h c (List.mem_cons_self ..),ih fun d hd=>h d (List.mem_cons_of_mem _ hd),List.length_cons];omega
  rw [this css h2,h1]
 refine (Aa0 a l.length cap css.flatten w hfl hl (fun u hu=>?_) (fun h0=>?_)).mono fun e w' ⟨v',he,hrow,hb2⟩=>?_
 . obtain⟨c,hc,hu⟩:=List.mem_flatten.1 hu;obtain⟨i,hi⟩:=List.mem_iff_getElem?.1 hc;obtain⟨x,-,hx⟩:=h4 i c hi;obtain⟨p,q,s,a',len,cap',rfl⟩:=hx.shape;simp at hu;rcases hu with rfl | rfl | rfl | rfl <;> rfl
 . obtain⟨b,off,ha,hlt,hc⟩:=h3 h0;refine⟨b,off,ha,fun j u hj=>?_⟩;obtain⟨i,c,k,q1,q2,q3,q4⟩:=Abg (by decide) h2 hj;rw [q3,(hb.cell (p:=⟨b,off+(i * 4+k),none⟩) hlt),<-Nat.add_assoc,hc i c q1 k q2];exact q4
 . have hsh:∃a' cap',v' = .slice a' l.length cap'/\∀g,a'=some ⟨g,0,none⟩->w.heap.size<=g:=by
    rcases hrow.2 with⟨rfl,h0⟩ | ⟨g,cp,cur,rfl,hg,-⟩
    . exact⟨none,0,by rw [h0],fun g h=>by cases h⟩
    . exact⟨_,_,rfl,fun g h=>by cases h;exact hg⟩
   obtain⟨a',cap',rfl,hg⟩:=hsh;exact⟨a',cap',he,hb2,LpX.start rfl (hb.trans (hb2.mono hb.size)) hb.size hrow h1 h2 h4,hg⟩
theorem Lz {s:ByteArray} (h:s.size<=maxLen):(rho s).size<=maxLen:=by
 unfold rho;split
 . exact h
 . rw [ByteArray.size_append];have:(⟨#[122,122]⟩:ByteArray).size=2:=rfl;unfold maxLen;omega
theorem Aho {m:Nat} (hR:RnC m):RnC (m+1):=by
 intro cs x w0 w hx hw0 hlt;obtain⟨k,n,s,l⟩:=x;have HV0:Hid (Below w0.heap.size w0 w):=hw0;obtain⟨v,rfl,wk,wn,ws,a,cap,rfl,hmax,hsl⟩:=hx;have HX:Hid (∀x ∈ l,ltE m x):=hlt.2;have HR:Hid (RnC m):=hR;have HL:Hid (l.length<=4000):=hlt.1;have HLL:Hid (l.length<=4000):=hlt.1;have HW0:Hid ((Lit.int .i64 k).wf=true/\(Lit.int .i64 n).wf=true/\s.size<=maxLen):=⟨wk,wn,ws⟩;have HSL:Hid (Sl w0 w0.heap.size 4 (.slice a l.length cap) l.length (fun i c=>∃x,l[i]? = some x/\ExA w0.heap.size w0 m c x)):=⟨a,cap,rfl,hmax,hsl⟩;obtain⟨D,hD⟩:∃D:Bool,D=decide (k=3\/k=5\/k=9):=⟨_,rfl⟩;have HD:=hid hD;obtain⟨s2,hs2⟩:∃s2,s2=(if k=3\/k=5\/k=9 then rho s else s):=⟨_,rfl⟩;have HS2:=hid hs2;obtain⟨N,hN⟩:∃N,N=l.length:=⟨_,rfl⟩;have HN:=hid hN;obtain⟨W,hW⟩:∃W,W=(w.alloc (.cells #[.int .i64 k,.int .i64 n,.string s,.slice a N cap] 31)).alloc (.cells #[.int .i64 0,.int .i64 0,.string ⟨#[]⟩,.slice none 0 0] 31):=⟨_,rfl⟩
 have HB0:Hid (Below w.heap.size w W/\W.heap.size=w.heap.size+1+1/\Bx w.heap.size [.int .i64 k,.int .i64 n,.string s,.slice a N cap] 31 W/\Bx (w.heap.size+1) Su 31 W):=by
  have h1:=(Below.refl w.heap.size w).alloc lr0 (.cells #[.int .i64 k,.int .i64 n,.string s,.slice a N cap] 31);refine⟨by rw [hW];exact h1.alloc (by simp) _,by rw [hW];simp,?_,?_⟩
  . rw [hW];have h2:Bx w.heap.size [.int .i64 k,.int .i64 n,.string s,.slice a N cap] 31 (w.alloc (.cells #[.int .i64 k,.int .i64 n,.string s,.slice a N cap] 31)):=Bx.new w _ _;exact h2.below (br0.alloc lr0 _)
  . rw [hW];have h2:=Bx.new (w.alloc (.cells #[.int .i64 k,.int .i64 n,.string s,.slice a N cap] 31)) Su 31;simpa using h2
 have HWW:=hid hW;rw [<-hN];show Calls prog 6 #[.agg #[.int .i64 k,.int .i64 n,.string s,.slice a N cap]] w _;clear hsl hlt hR hD hs2 hN hW wk wn ws hmax hw0;go_enter func6,ntmps6
 go_upto_region 1 with fail
 rw [<-HWW.out];obtain⟨c0,c1,c2,c3,z0,z1,z2,z3⟩:=HB0.out.2.2.1.four
 go_cut [16] (fun v16 wx=>v16 = .bool D/\wx=W)
 case first =>
  by_cases h3:k=3
  . have hd:Hid (D=true):=by unfold Hid;rw [HD.out];simp [h3]
    subst h3;go_wp2_with fail
    go_meet
    exact⟨by rw [hd.out],rfl⟩
  by_cases h5:k=5
  . have hd:Hid (D=true):=by unfold Hid;rw [HD.out];simp [h5]
    subst h5;go_wp2_with fail
    go_meet
    exact⟨by rw [hd.out],rfl⟩
  by_cases h9:k=9
  . have hd:Hid (D=true):=by unfold Hid;rw [HD.out];simp [h9]
    subst h9;go_wp2_with fail
    go_meet
    exact⟨by rw [hd.out],rfl⟩
  have hd:D=false:=by rw [HD.out];simp [h3,h5,h9]
  have f3:(k == 3)=false:=by simpa using h3
  have f5:(k == 5)=false:=by simpa using h5
  have f9:(k == 9)=false:=by simpa using h9
  clear h3 h5 h9;have HDD:=hid hd;clear hd;go_wp2_with fail
  go_meet
  exact⟨by rw [HDD.out],rfl⟩
 obtain⟨rfl,hwc⟩:=hcut;rw [hwc];clear hwc wc
 go_upto_if 16 with fail
 go_cut [] (fun wx=>Hid (Below w.heap.size w wx/\wx.heap.size=w.heap.size+1+1/\Bx w.heap.size [.int .i64 k,.int .i64 n,.string s2,.slice a N cap] 31 wx/\Bx (w.heap.size+1) Su 31 wx))
 case first =>
  cases hDD:D with
  | true =>
   have he:Hid (s2=rho s):=by
    unfold Hid;rw [HS2.out];exact if_pos (of_decide_eq_true (HD.out.symm.trans hDD))
   have HC:=hid (Pn s W);clear hDD;go_wp2_with fail
   refine Calls.mono HC.out ?_;rintro e w1 ⟨rfl,rfl⟩;clear HC;go_wp2_with fail
   go_meet
   rw [he.out];exact⟨HB0.out.1.setCell (p:=⟨w.heap.size,2,none⟩) lr0 _,by simpa [World.setCell] using HB0.out.2.1,HB0.out.2.2.1.set 2 _,HB0.out.2.2.2.far (by omega)⟩
  | false =>
   have he:Hid (s2=s):=by
    unfold Hid;rw [HS2.out];exact if_neg (of_decide_eq_false (HD.out.symm.trans hDD))
   clear hDD;go_wp2_with fail
   go_meet
   rw [he.out];exact HB0.out
 obtain⟨X,hX⟩:∃X,X=wc:=⟨_,rfl⟩;rw [<-hX] at hcut ⊢;have HBX:=hid hcut.out;clear hX wc hcut c0 c1 c2 c3 z0 z1 z2 z3 HWW HB0 HD;obtain⟨c0,c1,c2,c3,z0,z1,z2,z3⟩:=HBX.out.2.2.1.four;have HC:Hid (Calls prog 15 #[.slice a N cap] X fun e w'=>∃a' cap',e = .returned (.slice a' N cap')/\Below X.heap.size X w'/\LpX w0 w' w' a' m l 0/\(∀g,a'=some ⟨g,0,none⟩->X.heap.size<=g)):=by
  unfold Hid;rw [HN.out];exact Adc HSL.out (HV0.out.trans (HBX.out.1.mono HV0.out.size)) HL.out
 have hxs:X.heap.size=w.heap.size+1+1:=HBX.out.2.1;go_wp2_with fail
 refine Calls.mono HC.out ?_;rintro e w3 ⟨a',cap',rfl,hb3,hlp,hg'⟩;obtain⟨Y,hY⟩:∃Y,Y=w3.setCell ⟨w.heap.size,3,none⟩ (.slice a' N cap'):=⟨_,rfl⟩;have hg2:∀g,a'=some ⟨g,0,none⟩->w.heap.size+1+1<=g:=fun g h=>by have:=hg' g h;omega
 have HLY:Hid (LpX w0 Y Y a' m l 0/\Bx w.heap.size [.int .i64 k,.int .i64 n,.string s2,.slice a' N cap'] 31 Y/\Bx (w.heap.size+1) Su 31 Y/\(∀g,a'=some ⟨g,0,none⟩->w.heap.size+1+1<=g)/\w.heap.size+1+1<=Y.heap.size/\Below w.heap.size w Y):=by
  unfold Hid;rw [hY];exact⟨hlp.box HV0.out.size (fun g h=>by have:=hg2 g h;omega) _ _,(HBX.out.2.2.1.below hb3).set 3 _,(HBX.out.2.2.2.below hb3).far (by omega),hg2,by have:=hb3.size;simp [World.setCell];omega,(HBX.out.1.trans (hb3.mono HBX.out.1.size)).setCell (p:=⟨w.heap.size,3,none⟩) lr0 _⟩
 obtain⟨hc3,hz3⟩:=Ar hb3;have hlt0:w.heap.size<X.heap.size:=by omega
 have d0:w3.cell? ⟨w.heap.size,0,none⟩=some (.int .i64 k):=(hc3 _ _ hlt0).trans c0;have d1:w3.cell? ⟨w.heap.size,1,none⟩=some (.int .i64 n):=(hc3 _ _ hlt0).trans c1;have d2:w3.cell? ⟨w.heap.size,2,none⟩=some (.string s2):=(hc3 _ _ hlt0).trans c2;have d3:w3.cell? ⟨w.heap.size,3,none⟩=some (.slice a N cap):=(hc3 _ _ hlt0).trans c3;have y3:w3.frozen? ⟨w.heap.size,3,none⟩=false:=(hz3 _ _ hlt0).trans z3;have HYY:=hid hY;clear hY hlp hg' hg2 hb3 hc3 hz3 c0 c1 c2 c3 z0 z1 z2 z3 HBX HC hxs hlt0 HSL HL;go_wp2_with fail
 rw [<-HYY.out];clear HYY d0 d1 d2 d3 y3
 go_loopw [28] (fun v wr=>∃i:Nat,i<=N/\v = .int .i64 i/\Hid (LpX w0 Y wr a' m l i)) (fun v _=>N - (intOf v).toNat)
 case atStart=>exact⟨0,Nat.zero_le _,rfl,HLY.out.1⟩
 case round =>
  obtain⟨i,hiN,rfl,HV⟩:=hrel;have hkp:wr.heap[w.heap.size]? = Y.heap[w.heap.size]? := HV.out.keep (by have:=HLY.out.2.2.2.2.1;omega) fun g h=>by have:=HLY.out.2.2.2.1 g h;omega
  have hkr:wr.heap[w.heap.size+1]? = Y.heap[w.heap.size+1]? := HV.out.keep (by have:=HLY.out.2.2.2.2.1;omega) fun g h=>by have:=HLY.out.2.2.2.1 g h;omega
  have HB:Hid (Bx w.heap.size [.int .i64 k,.int .i64 n,.string s2,.slice a' N cap'] 31 wr):=hkp.trans HLY.out.2.1;have HZ:Hid (Bx (w.heap.size+1) Su 31 wr):=hkr.trans HLY.out.2.2.1;obtain⟨c0,c1,c2,c3,z0,z1,z2,z3⟩:=HB.out.four
  by_cases hlt:i<N
  . have i1:(i:Int)<(N:Int):=by omega
    have i2:(0:Int)<=(i:Int):=by omega
    have i4: -9223372036854775808<=(i:Int)+1:=by omega
    have i5:(i:Int)+1<=9223372036854775807:=by have:=HLL.out;have:=HN.out;omega
    obtain⟨x,hx⟩:∃x,l[i]? = some x:=⟨_,gee (by have:=HN.out;omega)⟩;obtain⟨g,rfl,hgY,hgw,hrow⟩:∃g,a'=some ⟨g,0,none⟩/\g<Y.heap.size/\w0.heap.size<=g/\M0 w0 Y wr g m l i:=by
     rcases HV.out.2 with h | h
     . rw [h.2] at hx;simp at hx
     . exact h
    obtain⟨p,q,s1,a1,len1,cap1,r0,r1,r2,r3,r4⟩:=hrow.row i x hx;rw [if_neg (Nat.lt_irrefl i)] at r4;have t0:=hrow.thaw (i * 4);have t1:=hrow.thaw (i * 4+1);have t2:=hrow.thaw (i * 4+2);have t3:=hrow.thaw (i * 4+3);have hbw:w.heap.size<wr.heap.size:=HB.out.lt;have hgr:g<wr.heap.size:=World.block_lt_of_cell? wr ⟨g,i * 4,none⟩ r0;have HCA:Hid (∀V,Below wr.heap.size wr V->Calls prog 6 #[.agg #[.int .i64 p,.int .i64 q,.string s1,.slice a1 len1 cap1]] V (Uy m x V)):=fun V hV=>HR.out _ x w0 V r4 (HV.out.low.trans (hV.mono HV.out.low.size)) (HX.out x (List.mem_of_getElem? hx));have HRW:Hid (M0 w0 Y wr g m l i/\g<Y.heap.size/\l[i]? = some x/\Below w0.heap.size w0 Y/\w0.heap.size<=g):=⟨hrow,hgY,hx,HLY.out.1.1,hgw⟩;clear r4 hrow hx hgY hgw HV HLY hkp hkr c0 c1 c2 z0 z1 z2 z3;go_wp2_with fail
    go_region_with (
     with_reducible refine Calls.mono (HCA.out _ (Ad _)) ?_
     rintro e w6 ⟨hb6,p2,q2,s6,a6,len6,cap6,rfl,he6⟩;obtain⟨hc6,hz6⟩:=Ar hb6;have HNX:Hid (M0 w0 Y (Vo w6 g (i * 4) (.int .i64 p2) (.int .i64 q2) (.string s6) (.slice a6 len6 cap6)) g m l (i+1)):=HRW.out.1.next HRW.out.2.1 HRW.out.2.2.1 ⟨hb6.os,hb6.tape,hb6.output,hb6.size,hb6.block⟩ he6;have d3:w6.cell? ⟨w.heap.size,3,none⟩=some (.slice (some ⟨g,0,none⟩) N cap'):=(hc6 _ _ hbw).trans c3;have u0:w6.cell? ⟨g,i * 4,none⟩=some (.int .i64 p):=(hc6 _ _ hgr).trans r0;have u1:w6.cell? ⟨g,i * 4+1,none⟩=some (.int .i64 q):=(hc6 _ _ hgr).trans r1;have u2:w6.cell? ⟨g,i * 4+2,none⟩=some (.string s1):=(hc6 _ _ hgr).trans r2;have u3:w6.cell? ⟨g,i * 4+3,none⟩=some (.slice a1 len1 cap1):=(hc6 _ _ hgr).trans r3;have v0:w6.frozen? ⟨g,i * 4,none⟩=false:=(hz6 _ _ hgr).trans t0;have v1:w6.frozen? ⟨g,i * 4+1,none⟩=false:=(hz6 _ _ hgr).trans t1;have v2:w6.frozen? ⟨g,i * 4+2,none⟩=false:=(hz6 _ _ hgr).trans t2
     have v3:w6.frozen? ⟨g,i * 4+3,none⟩=false:=(hz6 _ _ hgr).trans t3;clear hb6 he6 hc6 hz6)
    all_goals go_wp2_with fail
    all_goals go_roundw
    all_goals first
     | (case rel=>exact⟨i+1,by omega,by simp,HRW.out.2.2.2.1,.inr ⟨g,rfl,HRW.out.2.1,HRW.out.2.2.2.2,HNX.out⟩⟩)
     | (case measure=>simp [intOf];omega)
  . have i1:¬(i:Int)<(N:Int):=by omega
    have hie:i=N:=by omega
    subst hie;obtain⟨y0,y1,y2,y3,x0,x1,x2,x3⟩:=HZ.out.four;have HF:Hid (Uy (m+1) (.mk k n s l) w (.returned (.agg #[.int .i64 k,.int .i64 n,.string s2,.slice a' i cap'])) (set4 wr (w.heap.size+1) (.int .i64 k) (.int .i64 n) (.string s2) (.slice a' i cap'))):=by
     have hsl:=HV.out.slp (B:=w.heap.size) (W:=set4 wr (w.heap.size+1) (.int .i64 k) (.int .i64 n) (.string s2) (.slice a' i cap')) (cap:=cap') HN.out (by have:=HLL.out;unfold maxLen;omega) (by have:=HLY.out.2.2.2.2.1;omega) (fun g h=>by have:=HLY.out.2.2.2.1 g h;omega) (fun b hb hlt=>by
      have hne:b ≠ w.heap.size+1:=by
       rcases hb with h | h
       . have:=HLY.out.2.2.2.1 b h;omega
       . have:=HLY.out.2.2.2.2.1;omega
      rw [Ae hne,Ae hne,Ae hne,Ae hne])
     refine⟨(HLY.out.2.2.2.2.2.trans (HV.out.low2 (by have:=HLY.out.2.2.2.2.1;omega) fun g h=>by have:=HLY.out.2.2.2.1 g h;omega)).trans (Below.set4 wr (Nat.le_succ _) _ _ _ _),k,n,s2,a',i,cap',rfl,?_⟩;unfold rnE;rw [<-HS2.out];exact⟨_,rfl,HW0.out.1,HW0.out.2.1,by rw [HS2.out];split <;> first | exact Lz HW0.out.2.2 | exact HW0.out.2.2,hsl⟩
    clear hkp hkr HV HB HLY HX HR HS2 HN HW0;go_wp2_with fail
    exact bodyPost_ret (v:= .agg #[.int .i64 k,.int .i64 n,.string s2,.slice a' i cap']) (by simp [results,results6,go_sem,y0,y1,y2,y3]) rfl HF.out
theorem Afm:∀m,RnC m
 | 0=>fun cs x w0 w hx _ _=>hx.elim
 | m+1=>Aho (Afm m)
end Go.Proofs.YtppcohadoilpgaaGreatDoor
