/-
  How a machine turns: a cell of its own is set, a map or a row of its own is turned. / A list of the machine's is turned: put, its contract. / A variable of the machine's is set. / The machine's stmts: one by one, while they go on.
-/
import Derived.Test.YtppcohadoilpgaaGreatDoorMAskF
import Derived.Deep.RegionHeld2
namespace Go.Proofs.YtppcohadoilpgaaGreatDoor
open Go.ChangeShapes Go.WideShapes Go.ChangeAt Go.RowKit Go.Joins Go.Maps Go.Proofs.Tryz
set_option maxHeartbeats 1000000
set_option linter.unusedVariables false
theorem Ae {w:World} {r o k:Nat} {v:Value} (h:k ≠ r):(w.setCell ⟨r,o,none⟩ v).heap[k]? = w.heap[k]? := Below.heap_setCell _ _ _ _ (by simpa using h)
theorem Ab {w:World} {r o p:Nat} {v:Value} (h:p ≠ o):(w.setCell ⟨r,o,none⟩ v).cell? ⟨r,p,none⟩=w.cell? ⟨r,p,none⟩:=World.cell?_setCell_other _ _ _ _ (fun e=>h (by cases e;rfl))
section
variable {r : Nat} {w : World} {bv bl : Nat} {rv fv fl ol : Value} {fuel used recs : Int} {whole : ByteArray}
theorem Ck.setUsed (h:Ck r w bv bl rv fv fl ol fuel used recs whole) (x:Int):Ck r (w.setCell ⟨r,10,none⟩ (.int .i64 x)) bv bl rv fv fl ol fuel x recs whole :=
 ⟨(Ab (by decide)).trans h.c0,(Ab (by decide)).trans h.c1,(Ab (by decide)).trans h.c2,(Ab (by decide)).trans h.c3,(Ab (by decide)).trans h.c4,(Ab (by decide)).trans h.c5,(Ab (by decide)).trans h.c6,(Ab (by decide)).trans h.c7,(Ab (by decide)).trans h.c8,(Ab (by decide)).trans h.c9,World.cell?_setCell_same _ _ _ h.c10,fun o=>by simp [h.thaw o]⟩
theorem Ck.setLines (h:Ck r w bv bl rv fv fl ol fuel used recs whole) (x:Value):Ck r (w.setCell ⟨r,8,none⟩ x) bv bl rv fv fl x fuel used recs whole :=
 ⟨(Ab (by decide)).trans h.c0,(Ab (by decide)).trans h.c1,(Ab (by decide)).trans h.c2,(Ab (by decide)).trans h.c3,(Ab (by decide)).trans h.c4,(Ab (by decide)).trans h.c5,(Ab (by decide)).trans h.c6,(Ab (by decide)).trans h.c7,World.cell?_setCell_same _ _ _ h.c8,(Ab (by decide)).trans h.c9,(Ab (by decide)).trans h.c10,fun o=>by simp [h.thaw o]⟩
theorem Ck.setRecs (h:Ck r w bv bl rv fv fl ol fuel used recs whole) (x:Int):Ck r (w.setCell ⟨r,7,none⟩ (.int .i64 x)) bv bl rv fv fl ol fuel used x whole :=
 ⟨(Ab (by decide)).trans h.c0,(Ab (by decide)).trans h.c1,(Ab (by decide)).trans h.c2,(Ab (by decide)).trans h.c3,(Ab (by decide)).trans h.c4,(Ab (by decide)).trans h.c5,(Ab (by decide)).trans h.c6,World.cell?_setCell_same _ _ _ h.c7,(Ab (by decide)).trans h.c8,(Ab (by decide)).trans h.c9,(Ab (by decide)).trans h.c10,fun o=>by simp [h.thaw o]⟩
theorem Ck.setFlds (h:Ck r w bv bl rv fv fl ol fuel used recs whole) (x:Value):Ck r (w.setCell ⟨r,6,none⟩ x) bv bl rv fv x ol fuel used recs whole :=
 ⟨(Ab (by decide)).trans h.c0,(Ab (by decide)).trans h.c1,(Ab (by decide)).trans h.c2,(Ab (by decide)).trans h.c3,(Ab (by decide)).trans h.c4,(Ab (by decide)).trans h.c5,World.cell?_setCell_same _ _ _ h.c6,(Ab (by decide)).trans h.c7,(Ab (by decide)).trans h.c8,(Ab (by decide)).trans h.c9,(Ab (by decide)).trans h.c10,fun o=>by simp [h.thaw o]⟩
theorem Ck.setWhole (h:Ck r w bv bl rv fv fl ol fuel used recs whole) (x:ByteArray):Ck r (w.setCell ⟨r,5,none⟩ (.string x)) bv bl rv fv fl ol fuel used recs x :=
 ⟨(Ab (by decide)).trans h.c0,(Ab (by decide)).trans h.c1,(Ab (by decide)).trans h.c2,(Ab (by decide)).trans h.c3,(Ab (by decide)).trans h.c4,World.cell?_setCell_same _ _ _ h.c5,(Ab (by decide)).trans h.c6,(Ab (by decide)).trans h.c7,(Ab (by decide)).trans h.c8,(Ab (by decide)).trans h.c9,(Ab (by decide)).trans h.c10,fun o=>by simp [h.thaw o]⟩
end
def Ak (c:Cx) (O:Own) (w:World) (j:Nat) (R:Om) (K:Bool->Value) (e:Ending) (w':World):Prop :=
 Bts O w w'/\match R with
  | .go s b=>e = .returned (K b)/\∃O',Gr w O O'/\Mc c O' w' s j
  | .stop s er=>e = .panicked [Fb er]/\∃O',Gr w O O'/\Ou c O' w' s.out s.left
abbrev Df (c:Cx) (O:Own) (w:World) (j:Nat) (R:Om):Ending->World->Prop:=Ak c O w j R fun _=> .tuple #[]
theorem Ak.go {c:Cx} {O O':Own} {w w':World} {j:Nat} {R:Om} {K:Bool->Value} {s:Ms} {b:Bool} (hb:Bts O w w') (hR:R = .go s b) (hG:Gr w O O') (hM:Mc c O' w' s j):Ak c O w j R K (.returned (K b)) w':=by
 refine⟨hb,?_⟩;rw [hR];exact⟨rfl,O',hG,hM⟩
theorem Ak.stop {c:Cx} {O O':Own} {w w':World} {j:Nat} {R:Om} {K:Bool->Value} {s:Ms} {er:Int} (hb:Bts O w w') (hR:R = .stop s er) (hG:Gr w O O') (hM:Ou c O' w' s.out s.left):Ak c O w j R K (.panicked [Fb er]) w':=by
 refine⟨hb,?_⟩;rw [hR];exact⟨rfl,O',hG,hM⟩
theorem Id {O:Own} {r k:Nat} {x:Ro} (hr:O r=some .mach) (hk:O k=some x) (hx:x ≠ .mach):k ≠ r:=fun e=>by
 rw [e,hr] at hk;cases hk;exact hx rfl
theorem Lo.set {c:Cx} {O:Own} {w:World} (h:Lo c w) (hr:O c.r=some .mach) (hl:∀b,b<c.B->O b=none) (o:Nat) (v:Value):Lo c (w.setCell ⟨c.r,o,none⟩ v) :=
 h.below ⟨rfl,rfl,rfl,by simp [World.setCell],fun k hk=>Ae fun e=>by rw [<-e,hl k hk] at hr;cases hr⟩
theorem Mc.less {c:Cx} {O:Own} {w:World} {s:Ms} {j:Nat} (h:Mc c O w s (j+1)):Mc c O w s j:=by
 obtain⟨bv,bl,fl,ol,h1,⟨v0,n,D,v1,v2⟩,⟨l0,n',D',l1,l2⟩,h4,h5⟩:=h.mem;have hj:=h.room;exact⟨h.own,h.low,h.top,h.lo,h.fit,h.left,⟨bv,bl,fl,ol,h1,⟨v0,n,D,by omega,v2⟩,⟨l0,n',D',by omega,l2⟩,h4,h5⟩,by omega⟩
theorem Mc.drop {c:Cx} {O:Own} {w:World} {s:Ms} {j:Nat} (h:Mc c O w s j):Mc c O w s 0:=by
 induction j with
 | zero=>exact h
 | succ j ih=>exact ih h.less
theorem Mc.burn {c:Cx} {O:Own} {w:World} {s:Ms} {j:Nat} (h:Mc c O w s j) (h0:¬s.left=0):Mc c O (w.setCell ⟨c.r,10,none⟩ (.int .i64 ((c.fuel:Int) - s.left+1))) { s with left:=s.left - 1 } (j+1):=by
 obtain⟨bv,bl,fl,ol,h1,h2,h3,h4,h5⟩:=h.mem;have hl:=h.left;have hj:=h.room;have ke:∀k x,O k=some x->x ≠ Ro.mach->k<w.heap.size->O k=some x/\(w.setCell ⟨c.r,10,none⟩ (.int .i64 ((c.fuel:Int) - s.left+1))).heap[k]? = w.heap[k]? := fun k x e hx _=>⟨e,Ae (Id h.own e hx)⟩;have e1:(c.fuel:Int) - s.left+1=(c.fuel:Int) - ((s.left - 1:Nat):Int):=by omega
 have e2:400000 - (j+1) - (s.left - 1)=400000 - j - s.left:=by omega
 refine⟨h.own,h.low,fun b hb=>h.top b (by simpa [World.setCell] using hb),h.lo.set h.own h.low _ _,⟨h.fit.vars,h.fit.lists,h.fit.few,h.fit.whole,h.fit.flds,h.fit.nf,h.fit.recs,h.fit.out,h.fit.outs⟩,by show s.left - 1<=_;omega,⟨bv,bl,fl,ol,?_,?_,?_,?_,?_⟩,by show j+1+(s.left - 1)<=_;omega⟩
 . have:=h1.setUsed ((c.fuel:Int) - s.left+1);rw [e1] at this ⊢;exact this
 . show Gz O _ bv s.vars (400000 - (j+1) - (s.left - 1));rw [e2];exact h2.stays fun k e l=>ke k _ e (by simp) l
 . show Fp O _ bl s.lists (400000 - (j+1) - (s.left - 1));rw [e2];exact h3.stays (fun k e l=>ke k _ e (by simp) l) fun k x e l=>ke k _ e (by simp) l
 . exact h4.stays fun k e l=>ke k _ e (by simp) l
 . exact h5.stays fun k e l=>ke k _ e (by simp) l
theorem D5 (c:Cx) (O:Own) (w:World) (s:Ms) (j:Nat) (hM:Mc c O w s j) (h0:¬s.left=0) :
 Calls prog 78 #[.pointer (some ⟨c.r,0,none⟩)] w fun e w'=>e = .returned (.tuple #[])/\Bts O w w'/\Mc c O w' { s with left:=s.left - 1 } (j+1):=by
 obtain⟨bv,bl,fl,ol,h1,-⟩:=hM.mem;have c4:=h1.c4;have c10:=h1.c10;have f10:=h1.thaw 10;have hl:=hM.left;have hf:=hM.lo.fuel;have hne:((c.fuel:Int) - (s.left:Int) == (c.fuel:Int))=false:=by simp;omega
 have b1: -9223372036854775808<=(c.fuel:Int) - (s.left:Int)+1:=by omega
 have b2:(c.fuel:Int) - (s.left:Int)+1<=9223372036854775807:=by omega
 have HN:Hid (Bts O w (w.drew.setCell ⟨c.r,10,none⟩ (.int .i64 ((c.fuel:Int) - s.left+1)))/\Mc c O (w.drew.setCell ⟨c.r,10,none⟩ (.int .i64 ((c.fuel:Int) - s.left+1))) { s with left:=s.left - 1 } (j+1)) :=
  ⟨(Bts.of_below (Ad w)).set hM.own _ _,(hM.below (Ad w)).burn h0⟩
 clear hM h1 hl hf;go_enter func78,ntmps78
 go_wp2_with fail
 go_region_held2 (fun w'=>w'.cell? ⟨c.r,4,none⟩=some (.int .i64 c.fuel)/\w'.cell? ⟨c.r,10,none⟩=some (.int .i64 ((c.fuel:Int) - s.left))) (go_keep) (first
  | (with_reducible refine Calls.mono (Do 1 w.drew) ?_
     rintro e w1 ⟨rfl,hw1⟩;rw [hw1];clear hw1 w1))
 go_wp2_with fail
 go_end0
 exact⟨rfl,HN.out⟩
theorem C0 (c:Cx) (O:Own) (w:World) (s:Ms) (j:Nat) (hM:Mc c O w s j) (h0:s.left=0) :
 Calls prog 78 #[.pointer (some ⟨c.r,0,none⟩)] w fun e w'=>e = .panicked [Fb 1]/\Below w.heap.size w w':=by
 obtain⟨bv,bl,fl,ol,h1,-⟩:=hM.mem;have c4:=h1.c4;have c10:w.cell? ⟨c.r,10,none⟩=some (.int .i64 c.fuel):=by have:=h1.c10;rw [h0] at this;simpa using this
 have HE:Hid (Calls prog 106 #[.bool true,.int .i64 1] w.drew fun e w'=>(e = .panicked [Fb 1]/\w'=w.drew)\/(e = .returned (.tuple #[])/\w'=w.drew/\Hid False)):=(C1 1 w.drew).mono fun _ _ h=> .inl h;have f10:=h1.thaw 10;clear hM h1;go_enter func78,ntmps78
 go_wp2_with fail
 go_region_held2 (fun w'=>w'.cell? ⟨c.r,4,none⟩=some (.int .i64 c.fuel)/\w'.cell? ⟨c.r,10,none⟩=some (.int .i64 c.fuel)) (go_keep) (first
  | (with_reducible refine Calls.mono HE.out ?_
     rintro e w1 (⟨rfl,hw1⟩ | ⟨rfl,hw1,HFF⟩)
     . rw [hw1];clear hw1 w1;go_wp2_with fail
       exact⟨rfl,rfl,Ad w⟩
     rw [hw1];clear hw1 w1))
 exact HFF.out.elim
end Go.Proofs.YtppcohadoilpgaaGreatDoor
namespace Go.Proofs.YtppcohadoilpgaaGreatDoor
open Go.ChangeShapes Go.WideShapes Go.ChangeAt Go.RowKit Go.Joins Go.Maps Go.Proofs.Tryz
set_option maxHeartbeats 4000000
set_option linter.unusedVariables false
set_option maxRecDepth 100000
structure One (O:Own) (g:Nat) (w w':World):Prop where
 os:w'.os=w.os
 tape:w'.tape=w.tape
 output:w'.output=w.output
 size:w.heap.size<=w'.heap.size
 block:∀k,k<w.heap.size->k ≠ g->w'.heap[k]? = w.heap[k]?
theorem One.of {O:Own} {g:Nat} {w w':World} (h:w.grownBy w' (some g)):One O g w w':=⟨h.os,h.tape,h.output,h.size,fun k hk hg=>h.block k hk (by simpa using hg)⟩
theorem One.bts {O:Own} {g:Nat} {x:Ro} {w w':World} (h:One O g w w') (hg:O g=some x):Bts O w w':=⟨h.os,h.tape,h.output,h.size,fun k hk h0=>h.block k hk fun e=>by rw [e,hg] at h0;cases h0⟩
theorem One.low {O:Own} {g B:Nat} {x:Ro} {w w':World} (h:One O g w w') (hg:O g=some x) (hB:∀b,b<B->O b=none) (hs:B<=w.heap.size):Below B w w':=(h.bts hg).below hs hB
theorem Mc.list {c:Cx} {O:Own} {w w':World} {s:Ms} {j:Nat} {x:ByteArray} {k:Nat} {t:Tab} (h:Mc c O w s j) (hk:O k=some (.lst x)) (h1:One O k w w') (hm:w'.ownsMap prog 9 Gh k t.length (Em t))
 (hat:∃bl,w.cell? ⟨c.r,1,none⟩=some (.map (some bl))/\∀w1,w1.heap[bl]? = w.heap[bl]? -> (Instr.lookup 84 (.map (some bl)) (.string x) false).run prog w1 = .ok (.map (some k)) w1)
 (hx:x.size<=maxLen) (hl:t.length<=100) (ht:∀p ∈ t,p.2.ok/\p.1.length<=200):Mc c O w' (Bm s x t) j:=by
 obtain⟨bv,bl,fl,ol,m1,m2,m3,m4,m5⟩:=h.mem;have ke:∀k' z,O k'=some z->z ≠ Ro.lst x->k'<w.heap.size->O k'=some z/\w'.heap[k']? = w.heap[k']? := fun k' z e hz hlt=>⟨e,h1.block k' hlt fun e2=>by rw [e2,hk] at e;cases e;exact hz rfl⟩;refine⟨h.own,h.low,fun b hb=>h.top b (lq0 h1.size hb),h.lo.below (h1.low hk h.low h.lo.size),⟨h.fit.vars,?_,?_,h.fit.whole,h.fit.flds,h.fit.nf,h.fit.recs,h.fit.out,h.fit.outs⟩,h.left,⟨bv,bl,fl,ol,?_,?_,?_,?_,?_⟩,h.room⟩
 . intro nm p hp;simp only [Bm] at hp;split at hp
   . exact ht p hp
   . exact h.fit.lists nm p hp
 . intro nm;simp only [Bm];split
   . exact hl
   . exact h.fit.few nm
 . exact m1.stays (ke _ _ h.own (by simp) m1.lt).2
 . exact m2.stays fun k' e l=>ke k' _ e (by simp) l
 . obtain⟨a0,n,D,a1,a2,a3⟩:=m3;have hb:=ke bl _ a0 (by simp) a2.lt;refine⟨a0,n,D,a1,Aq a2 hb.2,fun y=>?_⟩
   by_cases hy:y=x
   . subst hy;show Jc O w' D y (if y=y then t else s.lists y);rw [if_pos rfl];refine .inr ⟨k,?_,hk,hm⟩;obtain⟨bl',hc,hlk⟩:=hat;rw [m1.c1] at hc;cases hc;obtain⟨v,ps,hr,hv⟩:=a2.lookup Iy underlying84 (Uv w) rfl (Jj hx);rw [hlk w rfl] at hr;cases hr;exact (F2 hv).1
   . show Jc O w' D y (if y=x then t else s.lists y);rw [if_neg hy];refine (a3 y).imp id ?_;rintro ⟨k',b1,b2,b3⟩;exact⟨k',b1,b2,Aq b3 (ke k' _ b2 (by simpa using hy) b3.lt).2⟩
 . exact m4.stays fun k' e l=>ke k' _ e (by simp) l
 . exact m5.stays fun k' e l=>ke k' _ e (by simp) l
theorem Mc.ouOne {c:Cx} {O:Own} {w w':World} {s:Ms} {j:Nat} {x:ByteArray} {k:Nat} (h:Mc c O w s j) (hk:O k=some (.lst x)) (h1:One O k w w'):Ou c O w' s.out s.left:=by
 obtain⟨bv,bl,fl,ol,m1,m2,m3,m4,m5⟩:=h.mem;have ke:∀k' z,O k'=some z->z ≠ Ro.lst x->k'<w.heap.size->O k'=some z/\w'.heap[k']? = w.heap[k']? := fun k' z e hz hlt=>⟨e,h1.block k' hlt fun e2=>by rw [e2,hk] at e;cases e;exact hz rfl⟩;exact⟨h.own,h.low,h.left,bv,bl,fl,ol,_,_,m1.stays (ke _ _ h.own (by simp) m1.lt).2,m5.stays fun k' e l=>ke k' _ e (by simp) l,h.fit.out,h.fit.outs⟩
theorem Mc.newList {c:Cx} {O:Own} {w w':World} {s:Ms} {j:Nat} {x:ByteArray} {g bl n:Nat} {D:DataW Value} (h:Mc c O w s (j+1)) (hg:O g=none) (hgw:g<w.heap.size) (hgm:w.ownsMap prog 9 Gh g 0 (Em [])) (hgB:c.B<=g)
 (hc:w.cell? ⟨c.r,1,none⟩=some (.map (some bl))) (hD:n<=400000 - (j+1) - s.left/\w.ownsMap prog 9 Gh bl n D/\∀y,Jc O w D y (s.lists y)) (h1:One O bl w w') (hx:x.size<=maxLen)
 (hm:w'.ownsMap prog 9 Gh bl (n+1) (D.put (.string x.data.toList) (.held (.map (some g))))) :
 Mc c (fun b=>if b=g then some (.lst x) else O b) w' (Bm s x []) j:=by
 obtain⟨bv,bl',fl,ol,m1,m2,m3,m4,m5⟩:=h.mem;have hc2:=m1.c1;rw [hc] at hc2;cases hc2;have hbl:O bl=some .lists:=m3.1;have hne:∀k' z,O k'=some z->k' ≠ g:=fun k' z e e2=>by rw [e2,hg] at e;cases e
 have ke:∀k' z,O k'=some z->z ≠ Ro.lists->k'<w.heap.size->(if k'=g then some (Ro.lst x) else O k')=some z/\w'.heap[k']? = w.heap[k']? := fun k' z e hz hlt=>⟨by rw [if_neg (hne k' z e)];exact e,h1.block k' hlt fun e2=>by rw [e2,hbl] at e;cases e;exact hz rfl⟩;have hj:=h.room;have e2:400000 - (j+1) - s.left<=400000 - j - s.left:=by omega
 refine⟨(ke _ _ h.own (by simp) m1.lt).1,fun b hb=>by rw [if_neg (by omega)];exact h.low b hb,fun b hb=>by rw [if_neg (by have:=h1.size;omega)];exact h.top b (lq0 h1.size hb),h.lo.below (h1.low hbl h.low h.lo.size),⟨h.fit.vars,?_,?_,h.fit.whole,h.fit.flds,h.fit.nf,h.fit.recs,h.fit.out,h.fit.outs⟩,h.left,⟨bv,bl,fl,ol,?_,?_,?_,?_,?_⟩,by show j+s.left<=_;omega⟩
 . intro nm p hp;simp only [Bm] at hp;split at hp
   . cases hp
   . exact h.fit.lists nm p hp
 . intro nm;simp only [Bm];split
   . exact Nat.zero_le _
   . exact h.fit.few nm
 . exact m1.stays (ke _ _ h.own (by simp) m1.lt).2
 . obtain⟨b0,n0,D0,b1,b2,b3⟩:=m2;have hb:=ke bv _ b0 (by simp) b2.lt;exact⟨hb.1,n0,D0,by show n0<=400000 - j - s.left;omega,Aq b2 hb.2,b3⟩
 . refine⟨by simp only;rw [if_neg (hne bl _ hbl)];exact hbl,n+1,_,by show n+1<=400000 - j - s.left;omega,hm,fun y=>?_⟩;have hgk:w'.heap[g]? = w.heap[g]? := h1.block g hgw fun e=>hne bl _ hbl e.symm
   by_cases hy:y=x
   . subst hy;show Jc _ w' _ y (if y=y then [] else s.lists y);rw [if_pos rfl];refine .inr ⟨g,?_,by simp,Aq hgm hgk⟩;exact atKey_put_same (k:= .string y.data.toList) hD.2.1.isMap trivial _ _
   . show Jc _ w' _ y (if y=x then [] else s.lists y);rw [if_neg hy];have hne2:(Lit.string y.data.toList) ≠ .string x.data.toList:=fun e=>hy (by
      obtain⟨⟨y⟩⟩:=y;obtain⟨⟨x⟩⟩:=x;simp only [Lit.string.injEq] at e;rw [e])
     refine (hD.2.2 y).imp (fun⟨b1,b2⟩=>⟨by rw [atKey_put_other hne2];exact b1,b2⟩) ?_;rintro ⟨k',b1,b2,b3⟩;have hb:=ke k' _ b2 (by simp) b3.lt;exact⟨k',by rw [atKey_put_other hne2];exact b1,hb.1,Aq b3 hb.2⟩
 . exact m4.stays fun k' e l=>ke k' _ e (by simp) l
 . exact m5.stays fun k' e l=>ke k' _ e (by simp) l
theorem Ahf (w:World):(binOp BinOp.eql 83 (.map none) (.map none)).run prog w = .ok (.bool true) w:=by kernel_rfl
theorem Ahe (k:Nat) (w:World):(binOp BinOp.eql 83 (.map (some k)) (.map none)).run prog w = .ok (.bool false) w:=by kernel_rfl
structure Kg (c:Cx) (O:Own) (w W:World) (s:Ms) (j:Nat) (x:ByteArray) (k bl:Nat):Prop where
 mc:Mc c O W s j
 rol:O k=some (.lst x)
 map:W.ownsMap prog 9 Gh k (s.lists x).length (Em (s.lists x))
 c1:W.cell? ⟨c.r,1,none⟩=some (.map (some bl))
 look:∀w',w'.heap[bl]? = W.heap[bl]? -> (Instr.lookup 84 (.map (some bl)) (.string x) false).run prog w' = .ok (.map (some k)) w'
 neb:bl ≠ k
 ltb:bl<W.heap.size
theorem Kg.put {c:Cx} {O:Own} {w W:World} {s:Ms} {j:Nat} {x y:ByteArray} {k bl:Nat} {v:Vl} (h:Kg c O w W s j x k bl) (hx:x.size<=200) (hy:y.size<=200) (hv:v.ok) :
 ∃w2,(Instr.mapUpdate 83 (.map (some k)) (.string y) (.agg #[.bool v.t,.int .i64 v.n,.string v.s])).run prog W = .ok () w2/\One O k W w2 /\
  w2.cell? ⟨c.r,1,none⟩=some (.map (some bl))/\(Instr.lookup 84 (.map (some bl)) (.string x) false).run prog w2 = .ok (.map (some k)) w2 /\
  (Builtin.len_ #[83] 3 #[.map (some k)]).run prog w2 = .ok (.int .i64 ((En y.data.toList v (s.lists x)).length:Int)) w2 /\
  ((En y.data.toList v (s.lists x)).length<=100->Mc c O w2 (Bm s x (En y.data.toList v (s.lists x))) j)/\Ou c O w2 s.out s.left:=by
 have hf:=h.mc.fit.few x;obtain⟨w2,hr,ho,hg⟩:=h.map.update Iy underlying83 (by unfold maxLen;omega) (Jj (s:=y) (by unfold maxLen;omega)) (val:= .agg #[.bool v.t,.int .i64 v.n,.string v.s]) (d:= .held (vlV v)) (ps:= []) rfl;rw [Z6] at ho;have h1:One O k W w2:=One.of hg;have hcr:c.r ≠ k:=fun e=>by have:=h.rol;rw [<-e,h.mc.own] at this;cases this
 have hc:w2.cell? ⟨c.r,1,none⟩=some (.map (some bl)):=(World.cell?_of_block (a:=⟨c.r,1,none⟩) (h1.block _ h.mc.lt hcr)).trans h.c1;have hl:=ho.len underlying83 3;rw [Jz] at hl;refine⟨w2,hr,h1,hc,h.look w2 (h1.block _ h.ltb h.neb),hl,fun hle=>?_,h.mc.ouOne h.rol h1⟩;exact h.mc.list h.rol h1 (I1 ho) ⟨bl,h.c1,h.look⟩ (by unfold maxLen;omega) hle fun p hp=>by
  rcases Ul hp with rfl | hp
  . exact⟨hv,by have:y.data.toList.length=y.size:=by simp
                show y.data.toList.length<=200;omega⟩
  . exact h.mc.fit.lists x p hp
theorem R3 (c:Cx) (O:Own) (w:World) (s:Ms) (j:Nat) (x y:ByteArray) (v:Vl) {j0:Nat} (hM:Mc c O w s j0) (hx:x.size<=200) (hy:y.size<=200) (hv:v.ok) (bl k:Nat) (hP:∀W,Below w.heap.size w W->Kg c O w W s j x k bl) :
 Calls prog 174 #[.pointer (some ⟨c.r,0,none⟩),.string x,.string y,vlV v] w (Df c O w j (Dl s x y.data.toList v)):=by
 obtain⟨vt,vn,vs⟩:=v;unfold vlV;obtain⟨W,hW⟩:∃W,W=w.alloc (.cells #[.bool vt,.int .i64 vn,.string vs] 157):=⟨_,rfl⟩;have HBW:Hid (Below w.heap.size w W):=by rw [hW];exact br0.alloc lr0 _
 have HBD:Hid (Below w.heap.size w W.drew):=Aa HBW.out (Ad W);have c1:W.cell? ⟨c.r,1,none⟩=some (.map (some bl)):=(hP W HBW.out).c1;have hlk0:=(hP W HBW.out).look W rfl;have hlk1:=(hP W HBW.out).look W.drew rfl;have hkr:¬c.r=k:=fun e=>by have h2:=(hP W HBW.out).rol;rw [<-e,hM.own] at h2;cases h2
 have hkl:k<w.heap.size:=by
  rcases Nat.lt_or_ge k w.heap.size with h | h
  . exact h
  . have hm:=(hP w br0).map.lt;exact hm
 have hkn:¬w.heap.size=k:=by omega
 obtain⟨w2,hrun,h1,d1,hlk2,hlen,hmc,hou⟩:=(hP W.drew HBD.out).put (v:=⟨vt,vn,vs⟩) hx hy hv;simp only at hrun;obtain⟨T,hT⟩:∃T,T=En y.data.toList ⟨vt,vn,vs⟩ (s.lists x):=⟨_,rfl⟩;rw [<-hT] at hlen hmc;have HMC:Hid (T.length<=100->Mc c O w2 (Bm s x T) j):=hmc;have HOU:Hid (Ou c O w2 s.out s.left):=hou;have HBT:Hid (Bts O w w2):=(Bts.of_below (O:=O) HBD.out).trans (h1.bts (hP w br0).rol) (Gr.refl _ _);have HPM:Hid (Dl s x y.data.toList ⟨vt,vn,vs⟩=if 100<T.length then .stop s 3 else .go (Bm s x T) true):=by unfold Hid Dl;rw [hT]
 have e0:W.cell? ⟨w.heap.size,0,none⟩=some (.bool vt):=by rw [hW];simp [go_sem]
 have e1:W.cell? ⟨w.heap.size,1,none⟩=some (.int .i64 vn):=by rw [hW];simp [go_sem]
 have e2:W.cell? ⟨w.heap.size,2,none⟩=some (.string vs):=by rw [hW];simp [go_sem]
 have hws:w.heap.size<W.heap.size:=by rw [hW];simp
 have g0:w2.cell? ⟨w.heap.size,0,none⟩=some (.bool vt):=(World.cell?_of_block (a:=⟨w.heap.size,0,none⟩) (h1.block _ hws hkn)).trans e0;have g1:w2.cell? ⟨w.heap.size,1,none⟩=some (.int .i64 vn):=(World.cell?_of_block (a:=⟨w.heap.size,1,none⟩) (h1.block _ hws hkn)).trans e1;have g2:w2.cell? ⟨w.heap.size,2,none⟩=some (.string vs):=(World.cell?_of_block (a:=⟨w.heap.size,2,none⟩) (h1.block _ hws hkn)).trans e2;have hnf:=Ahe k W;have HWW:Hid (W=_):=hW;have hrw:c.r<w.heap.size:=hM.lt;have hrn:¬c.r=w.heap.size:=by omega
 have a1:(w.alloc (.cells #[.bool vt,.int .i64 vn,.string vs] 157)).cell? ⟨c.r,1,none⟩=some (.map (some bl)):=by rw [<-hW];exact c1
 have a2:=hlk0;have a3:=hnf;rw [hW] at a2 a3;clear hP hM hT hmc hou h1 hv hW;go_enter func174,ntmps174
 go_wp2_with fail
 rw [<-HWW.out];clear HWW a1 a2 a3
 go_region_held2 (fun w'=>w'.cell? ⟨c.r,1,none⟩=some (.map (some bl))/\w'.cell? ⟨w.heap.size,0,none⟩=some (.bool vt)/\w'.cell? ⟨w.heap.size,1,none⟩=some (.int .i64 vn)/\w'.cell? ⟨w.heap.size,2,none⟩=some (.string vs)) (go_keep) (fail)
 by_cases hbig:100<T.length
 . have HE:Hid (Dl s x y.data.toList ⟨vt,vn,vs⟩ = .stop s 3):=by rw [HPM.out,if_pos hbig];rfl
   have hbi:(100:Int)<(T.length:Int):=by omega
   go_wp2_with fail
   (try rw [decide_eq_true (show (100:Int)<(T.length:Int) by omega)])
   refine (C1 3 _).mono ?_;rintro e w3 ⟨rfl,hw3⟩;rw [hw3];clear hw3 w3;go_wp2_with fail
   exact⟨rfl,Ak.stop HBT.out HE.out (Gr.refl _ _) HOU.out⟩
 . have HE:Hid (Dl s x y.data.toList ⟨vt,vn,vs⟩ = .go (Bm s x T) true):=by rw [HPM.out,if_neg hbig];rfl
   have hbi:¬(100:Int)<(T.length:Int):=by omega
   go_wp2_with fail
   (try rw [decide_eq_false (show ¬(100:Int)<(T.length:Int) by omega)])
   refine (Do 3 _).mono ?_;rintro e w3 ⟨rfl,hw3⟩;rw [hw3];clear hw3 w3;go_wp2_with fail
   go_end0
   exact Ak.go (K:=fun _=> .tuple #[]) HBT.out HE.out (Gr.refl _ _) (HMC.out (by omega))
theorem Rk (s:Ms) (x:ByteArray) (a b:Tab):Bm (Bm s x a) x b=Bm s x b:=by
 unfold Bm;simp only
 congr 1
 funext y
 split <;> rfl
theorem Rz {c:Cx} {O:Own} {w W:World} {s:Ms} {j:Nat} {x:ByteArray} {bl:Nat} (hM:Mc c O W s (j+1)) (hx:x.size<=maxLen) (hc:W.cell? ⟨c.r,1,none⟩=some (.map (some bl))) :
 ∃w1,(Instr.mapUpdate 84 (.map (some bl)) (.string x) (.map (some W.heap.size))).run prog (W.alloc (.map #[] 0)) = .ok () w1/\One O bl (W.alloc (.map #[] 0)) w1 /\
  Kg c (fun b=>if b=W.heap.size then some (.lst x) else O b) w w1 (Bm s x []) j x W.heap.size bl:=by
 obtain⟨bv,bl',fl,ol,m1,m2,m3,m4,m5⟩:=(hM.alloc (.map #[] 0)).mem;have hc':(W.alloc (.map #[] 0)).cell? ⟨c.r,1,none⟩=some (.map (some bl)):=by rw [World.cell?_alloc_past _ _ _ hM.lt];exact hc
 have hcc:=m1.c1;rw [hc'] at hcc;cases hcc;obtain⟨a0,n,D,a1,a2,a3⟩:=m3;have hbl:bl<W.heap.size:=by
  rcases Nat.lt_or_ge bl W.heap.size with h | h
  . exact h
  . rw [hM.top bl h] at a0;cases a0
 have hj:=hM.room;obtain⟨w1,hr,ho,hg⟩:=a2.update Iy underlying84 (by unfold maxLen;omega) (Jj (s:=x) hx) (val:= .map (some W.heap.size)) (d:= .held (.map (some W.heap.size))) (ps:= []) rfl;have h1:One O bl (W.alloc (.map #[] 0)) w1:=One.of hg;have hgm:(W.alloc (.map #[] 0)).ownsMap prog 9 Gh W.heap.size 0 (Em []):=World.ownsMap_made W _ _ _;have hsz:(W.alloc (.map #[] 0)).heap.size=W.heap.size+1:=by simp
 have hMc:=(hM.alloc (.map #[] 0)).newList (x:=x) (hM.top _ lr0) (by rw [hsz];omega) hgm (by have:=hM.lo.size;omega) hc' ⟨a1,a2,a3⟩ h1 hx ho;have hne:W.heap.size ≠ bl:=by omega
 refine⟨w1,hr,h1,hMc,by simp,?_,?_,?_,by omega,?_⟩
 . have e:(Bm s x []).lists x = []:=by show (if x=x then _ else _)=_;rw [if_pos rfl]
   rw [e];exact Aq hgm (h1.block _ (by rw [hsz];omega) hne)
 . have hcr:c.r ≠ bl:=fun e=>by rw [<-e,hM.own] at a0;cases a0
   exact (World.cell?_of_block (a:=⟨c.r,1,none⟩) (h1.block _ (by rw [hsz];exact Nat.lt_succ_of_lt hM.lt) hcr)).trans hc'
 . intro w' hw';obtain⟨v,ps,hr2,hv⟩:=(Aq ho hw').lookup Iy underlying84 (Uv w') rfl (Jj hx);have e:=(F2 hv).1;rw [atKey_put_same (k:= .string x.data.toList) a2.isMap trivial] at e;cases e;exact hr2
 . have:=h1.size;rw [hsz] at this;omega
end Go.Proofs.YtppcohadoilpgaaGreatDoor
namespace Go.Proofs.YtppcohadoilpgaaGreatDoor
open Go.ChangeShapes Go.WideShapes Go.ChangeAt Go.RowKit Go.Joins Go.Maps Go.Proofs.Tryz
set_option linter.unusedVariables false
theorem Abi {x y:ByteArray} (h:¬y=x):(Lit.string y.data.toList) ≠ .string x.data.toList:=fun e=>h (by
 obtain⟨⟨y⟩⟩:=y;obtain⟨⟨x⟩⟩:=x;simp only [Lit.string.injEq] at e;rw [e])
theorem Mc.setVar {c:Cx} {O:Own} {w:World} {s:Ms} {j:Nat} (h:Mc c O w s (j+1)) {nm:ByteArray} (hn:nm.size<=maxLen) {v:Vl} (hv:v.ok) {bv:Nat} (hc:w.cell? ⟨c.r,0,none⟩=some (.map (some bv))) :
 ∃w',(Instr.mapUpdate 83 (.map (some bv)) (.string nm) (.agg #[.bool v.t,.int .i64 v.n,.string v.s])).run prog w = .ok () w'/\One O bv w w'/\O bv=some .vars/\Mc c O w' (Dz s nm v) j:=by
 obtain⟨bv',bl,fl,ol,m1,m2,m3,m4,m5⟩:=h.mem;have hcc:=m1.c0;rw [hc] at hcc;cases hcc;obtain⟨a0,n,D,a1,a2,a3⟩:=m2;have hj:=h.room;obtain⟨w',hr,ho,hg⟩:=a2.update Iy underlying83 (by unfold maxLen;omega) (Jj (s:=nm) hn) (val:= .agg #[.bool v.t,.int .i64 v.n,.string v.s]) (d:= .held (vlV v)) (ps:= []) rfl;have h1:One O bv w w':=One.of hg;have ke:∀k' z,O k'=some z->z ≠ Ro.vars->k'<w.heap.size->O k'=some z/\w'.heap[k']? = w.heap[k']? := fun k' z e hz hlt=>⟨e,h1.block k' hlt fun e2=>by rw [e2,a0] at e;cases e;exact hz rfl⟩;refine⟨w',hr,h1,a0,h.own,h.low,fun b hb=>h.top b (lq0 h1.size hb),h.lo.below (h1.low a0 h.low h.lo.size),⟨fun x=>?_,h.fit.lists,h.fit.few,h.fit.whole,h.fit.flds,h.fit.nf,h.fit.recs,h.fit.out,h.fit.outs⟩,h.left,⟨bv,bl,fl,ol,?_,?_,?_,?_,?_⟩,by show j+s.left<=_;omega⟩
 . show (if x=nm then v else s.vars x).ok;split
   . exact hv
   . exact h.fit.vars x
 . exact m1.stays (ke _ _ h.own (by simp) m1.lt).2
 . refine⟨a0,n+1,_,by show n+1<=400000 - j - s.left;omega,ho,fun x=>?_⟩;show _=DataW.held (vlV (if x=nm then v else s.vars x))
   by_cases hx:x=nm
   . subst hx;rw [if_pos rfl];exact atKey_put_same (k:= .string x.data.toList) a2.isMap trivial _ _
   . rw [if_neg hx,atKey_put_other (Abi hx)];exact a3 x
 . obtain⟨b0,n',D',b1,b2,b3⟩:=m3;have hb:=ke bl _ b0 (by simp) b2.lt;refine⟨b0,n',D',by show n'<=400000 - j - s.left;omega,Aq b2 hb.2,fun x=>(b3 x).imp id ?_⟩;rintro ⟨k,d1,d2,d3⟩;exact⟨k,d1,d2,Aq d3 (ke k _ d2 (by simp) d3.lt).2⟩
 . exact m4.stays fun k' e l=>ke k' _ e (by simp) l
 . exact m5.stays fun k' e l=>ke k' _ e (by simp) l
theorem Mc.maps {c:Cx} {O:Own} {w:World} {s:Ms} {j:Nat} (h:Mc c O w s j):∃bv bl,w.cell? ⟨c.r,0,none⟩=some (.map (some bv))/\w.cell? ⟨c.r,1,none⟩=some (.map (some bl))/\O bv=some .vars/\O bl=some .lists:=by
 obtain⟨bv,bl,fl,ol,m1,m2,m3,_⟩:=h.mem;exact⟨bv,bl,m1.c0,m1.c1,m2.1,m3.1⟩
theorem D9 {k:Int} {es b e:Nat} (h:Dw k es b e=true):Ek k es=true:=by
 unfold Dw at h;simp only [Bool.and_eq_true] at h;exact h.1.1
theorem Gr.after {w w':World} {O O':Own} (h:Gr w' O O') (hs:w.heap.size<=w'.heap.size):Gr w O O':=fun b hb h0=>h b (lle hb hs) h0
theorem J3 {α:Type} {c:Cx} {O:Own} {s:Ms} {j j':Nat} {f:FuncId} {args:Array Value} {w W:World} {R:Except Int α} {K:α->Value} {R0:Om} {K0:Bool->Value}
 (hc:Calls prog f args W (Bb W R K)) (hb:Below w.heap.size w W) (hM:Mc c O W s j) (herr:∀er,R = .error er->R0 = .stop s er) :
 Calls prog f args W fun e w'=>(∃er,e = .panicked [Fb er]/\Hid (Ak c O w j' R0 K0 (.panicked [Fb er]) w'))\/∃v,e = .returned (K v)/\Hid (R = .ok v)/\Hid (Below w.heap.size w w')/\Hid (Below W.heap.size W w')/\Hid (Mc c O w' s j):=by
 refine hc.mono ?_;rintro e w1 ⟨hb1,hr⟩;rcases Bf R with⟨er,hR⟩ | ⟨v,hR⟩
 . rw [hR] at hr;exact .inl ⟨er,hr,Ak.stop (Bts.of_below (Aa hb hb1)) (herr er hR) (Gr.refl _ _) (hM.below hb1).ou⟩
 . rw [hR] at hr;exact .inr ⟨v,hr,hR,Aa hb hb1,hb1,hM.below hb1⟩
theorem Ak.after {c:Cx} {O:Own} {w W w':World} {j:Nat} {R:Om} {K:Bool->Value} {e:Ending} (hb:Below w.heap.size w W) (h:Ak c O W j R K e w'):Ak c O w j R K e w':=by
 obtain⟨h1,h2⟩:=h;refine⟨(Bts.of_below (O:=O) hb).trans h1 (Gr.refl _ _),?_⟩;cases R with
 | go s b=>exact⟨h2.1,h2.2.imp fun O' h=>⟨fun b hb' h0=>h.1 b (lle hb' hb.size) h0,h.2⟩⟩
 | stop s er=>exact⟨h2.1,h2.2.imp fun O' h=>⟨fun b hb' h0=>h.1 b (lle hb' hb.size) h0,h.2⟩⟩
theorem Ak.same {c:Cx} {O:Own} {w w':World} {j:Nat} {R R':Om} {K:Bool->Value} {e:Ending} (h:Ak c O w j R K e w') (hR:R'=R):Ak c O w j R' K e w':=by rw [hR];exact h
theorem Ak.cases {c:Cx} {O:Own} {w w':World} {j:Nat} {R:Om} {K:Bool->Value} {e:Ending} (h:Ak c O w j R K e w'):(∃s er,R = .stop s er/\e = .panicked [Fb er])\/∃s b O',R = .go s b/\e = .returned (K b)/\Gr w O O'/\Mc c O' w' s j:=by
 obtain⟨h1,h2⟩:=h;cases R with
 | go s b=>exact .inr ⟨s,b,h2.2.choose,rfl,h2.1,h2.2.choose_spec.1,h2.2.choose_spec.2⟩
 | stop s er=>exact .inl ⟨s,er,rfl,h2.1⟩
theorem Ak.less {c:Cx} {O:Own} {w w':World} {j:Nat} {R:Om} {K:Bool->Value} {e:Ending} (h:Ak c O w (j+1) R K e w'):Ak c O w j R K e w':=by
 obtain⟨h1,h2⟩:=h;refine⟨h1,?_⟩;cases R with
 | go s b=>exact⟨h2.1,h2.2.imp fun O' h=>⟨h.1,h.2.less⟩⟩
 | stop s er=>exact h2
end Go.Proofs.YtppcohadoilpgaaGreatDoor
namespace Go.Proofs.YtppcohadoilpgaaGreatDoor
open Go.ChangeShapes Go.WideShapes Go.ChangeAt Go.RowKit Go.Joins Go.Maps Go.Proofs.Tryz
set_option maxHeartbeats 4000000
set_option linter.unusedVariables false
set_option maxRecDepth 100000
def C6:Nat->Sm->Prop
 | 0,_=>False
 | m+1,.mk _ _ _ es b e=>es.length<=4000/\(∀x ∈ b,C6 m x)/\∀x ∈ e,C6 m x
def DoC (m:Nat):Prop:=∀(c:Cx) (O:Own) (w:World) (s:Ms) (j:Nat) (x:Sm) (cs:List Value),Mc c O w s j->SmA c.B w m cs x->okS m x->C6 m x ->
 Calls prog 109 #[.pointer (some ⟨c.r,0,none⟩),.agg cs.toArray] w (Ak c O w j (Ag c.F m s x) Value.bool)
instance:Inhabited Sm:=⟨.mk 0 ⟨#[]⟩ ⟨#[]⟩ [] [] []⟩
theorem Ag9 {B m b off:Nat} {w:World} {l:List Sm} (hi:∀i,i<l.length->∃cs:List Value,cs.length=6/\(∀j,j<6->w.cell? ⟨b,off+i * 6+j,none⟩=cs[j]?)/\∃x,l[i]? = some x/\SmA B w m cs x) (i o:Nat) (ho:off+i * 6=o) (h:i<l.length) :
 ∃(k:Int) (s t:ByteArray) (a0:Option Addr) (len0 cap0:Nat) (a1:Option Addr) (len1 cap1:Nat) (a2:Option Addr) (len2 cap2:Nat),w.cell? ⟨b,o,none⟩=some (.int .i64 k)/\w.cell? ⟨b,o+1,none⟩=some (.string s)/\w.cell? ⟨b,o+2,none⟩=some (.string t)/\w.cell? ⟨b,o+3,none⟩=some (.slice a0 len0 cap0)/\w.cell? ⟨b,o+4,none⟩=some (.slice a1 len1 cap1)/\w.cell? ⟨b,o+5,none⟩=some (.slice a2 len2 cap2) /\
  Hid (SmA B w m [.int .i64 k,.string s,.string t,.slice a0 len0 cap0,.slice a1 len1 cap1,.slice a2 len2 cap2] l[i]):=by
 obtain⟨cs,hcl,hcell,x,hx,hex⟩:=hi i h;obtain⟨k,s,t,a0,len0,cap0,a1,len1,cap1,a2,len2,cap2,rfl⟩:=hex.shape;subst ho;rw [gee h] at hx;cases hx;exact⟨k,s,t,a0,len0,cap0,a1,len1,cap1,a2,len2,cap2,hcell 0 (by omega),hcell 1 (by omega),hcell 2 (by omega),hcell 3 (by omega),hcell 4 (by omega),hcell 5 (by omega),hex⟩
def SsI (c:Cx) (O:Own) (w wr:World) (j:Nat) (f:Ms->Sm->Om) (l:List Sm) (R:Om) (i:Nat):Prop:=∃O' s',Gr w O O'/\Bts O w wr/\Mc c O' wr s' j/\R=A0 f (l.drop i) s'
theorem I7 {r:Om} {f:Ms->Om} {s:Ms} (h:r = .go s true):r.then f=f s:=by rw [h];rfl
theorem Hq {r:Om} {f:Ms->Om} {s:Ms} (h:r = .go s false):r.then f = .go s false:=by rw [h];rfl
theorem Gd {r:Om} {f:Ms->Om} {s:Ms} {e:Int} (h:r = .stop s e):r.then f = .stop s e:=by rw [h];rfl
theorem D7 {m:Nat} (hS:DoC m) (c:Cx) (O:Own) (w:World) (s:Ms) (j:Nat) (l:List Sm) (v:Value) (hM:Mc c O w s j) (hv:Sl w c.B 6 v l.length (fun i c'=>∃x,l[i]? = some x/\SmA c.B w m c' x)) (hok:∀x ∈ l,okS m x) (hfe:∀x ∈ l,C6 m x) :
 Calls prog 80 #[.pointer (some ⟨c.r,0,none⟩),v] w (Ak c O w j (A0 (Ag c.F m) l s) Value.bool):=by
 obtain⟨R,hR⟩:∃R,R=A0 (Ag c.F m) l s:=⟨_,rfl⟩;rw [<-hR];obtain⟨a,cap,rfl,hmax,hsl⟩:=hv;have HSL:Hid (0<l.length->∃b off,a=some ⟨b,off,none⟩/\b<c.B/\∀i,i<l.length->∃cs:List Value,cs.length=6/\(∀j,j<6->w.cell? ⟨b,off+i * 6+j,none⟩=cs[j]?)/\∃x,l[i]? = some x/\SmA c.B w m cs x):=hsl;have HLO:Hid ((∀b,b<c.B->O b=none)/\c.B<=w.heap.size):=⟨hM.low,hM.lo.size⟩;have HS:Hid (DoC m):=hS;have HOK:Hid (∀x ∈ l,okS m x/\C6 m x):=fun x hx=>⟨hok x hx,hfe x hx⟩;have HI0:Hid (SsI c O w w j (Ag c.F m) l R 0):=⟨O,s,Gr.refl _ _,Bts.refl _ _,hM,hR⟩;have HMX:Hid ((l.length:Int)<=9223372036854775807):=by have h9:l.length<=maxLen:=hmax;unfold maxLen at h9;unfold Hid;omega
 clear hsl hM hS hok hfe hmax hR;go_enter func80,ntmps80
 go_wp2_with fail
 go_loopw [9] (fun v9 wr=>∃i:Nat,i<=l.length/\v9 = .int .i64 i/\Hid (SsI c O w wr j (Ag c.F m) l R i)) (fun v9 _=>l.length - (intOf v9).toNat)
 case atStart=>exact⟨0,Nat.zero_le _,rfl,HI0.out⟩
 case round =>
  obtain⟨i,hil,rfl,HV⟩:=hrel;obtain⟨O1,s1,hG,hbt,hM1,hR⟩:=HV.out;have HD:=hid (And.intro hG (And.intro hbt (And.intro hM1 hR)));clear HV HI0
  by_cases hlt:i<l.length
  . have i1:(i:Int)<(l.length:Int):=by omega
    have i2:(0:Int)<=(i:Int):=by omega
    have i3: -9223372036854775808<=(i:Int)+1:=by omega
    have i4:(i:Int)+1<=9223372036854775807:=by have:=HMX.out;omega
    obtain⟨b,off,rfl,hbB,hii⟩:=HSL.out (by omega);obtain⟨k0,s0,t0,a0,len0,cap0,a1,len1,cap1,a2,len2,cap2,p0,p1,p2,p3,p4,p5,hx0⟩:=Ag9 hii i (off+i * 6) rfl hlt;have hlow:Below c.B w wr:=hbt.below HLO.out.2 HLO.out.1;have q0:wr.cell? ⟨b,off+i * 6,none⟩=some (.int .i64 k0):=(hlow.cell (p:=⟨b,off+i * 6,none⟩) hbB).trans p0;have q1:wr.cell? ⟨b,off+i * 6+1,none⟩=some (.string s0):=(hlow.cell (p:=⟨b,off+i * 6+1,none⟩) hbB).trans p1;have q2:wr.cell? ⟨b,off+i * 6+2,none⟩=some (.string t0):=(hlow.cell (p:=⟨b,off+i * 6+2,none⟩) hbB).trans p2;have q3:wr.cell? ⟨b,off+i * 6+3,none⟩=some (.slice a0 len0 cap0):=(hlow.cell (p:=⟨b,off+i * 6+3,none⟩) hbB).trans p3;have q4:wr.cell? ⟨b,off+i * 6+4,none⟩=some (.slice a1 len1 cap1):=(hlow.cell (p:=⟨b,off+i * 6+4,none⟩) hbB).trans p4;have q5:wr.cell? ⟨b,off+i * 6+5,none⟩=some (.slice a2 len2 cap2):=(hlow.cell (p:=⟨b,off+i * 6+5,none⟩) hbB).trans p5
    obtain⟨W1,hW1⟩:∃W1,W1=wr.alloc (.cells #[.int .i64 k0,.string s0,.string t0,.slice a0 len0 cap0,.slice a1 len1 cap1,.slice a2 len2 cap2] 54):=⟨_,rfl⟩;have HB1:Hid (Below wr.heap.size wr W1):=by rw [hW1];exact br0.alloc lr0 _
    have HWW:Hid (W1=_):=hW1;obtain⟨X,hX⟩:∃X,X=l[i]:=⟨_,rfl⟩;have HRX:Hid (R=(Ag c.F m s1 X).then (A0 (Ag c.F m) (l.drop (i+1)))):=by
     unfold Hid;rw [hR,List.drop_eq_getElem_cons hlt,hX];rfl
    have hmem:=HOK.out X (by rw [hX];exact List.getElem_mem hlt);rw [<-hX] at hx0;have HCA:=hid (HS.out c O1 W1 s1 j X _ (hM1.below HB1.out) ((hx0.out.below hlow).below (HB1.out.mono (lq0 HLO.out.2 hlow.size))) hmem.1 hmem.2);clear p0 p1 p2 p3 p4 p5 hx0 hii hW1 HSL HS HOK hX hmem hlow hG hbt hM1 hR;go_wp2_with fail
    rw [<-HWW.out];clear HWW q0 q1 q2 q3 q4 q5;refine Calls.mono HCA.out ?_;intro e w2 hd;have hd2:=hd.after HB1.out;have HBT2:Hid (Bts O w w2):=HD.out.2.1.trans hd2.1 HD.out.1;rcases hd2.cases with⟨s9,er,h9,rfl⟩ | ⟨s9,b9,O9,h9,rfl,hG9,hMc9⟩
    . have hd3:=hd2.2;rw [h9] at hd3;obtain⟨-,O9,hG9,hou⟩:=hd3;have HE:Hid (R = .stop s9 er):=by unfold Hid;rw [HRX.out];exact Gd h9
      have HO9:=hid (And.intro hG9 hou);clear hd hd2 h9 hG9 hou HCA;go_wp2_with fail
      exact⟨rfl,Ak.stop HBT2.out HE.out (HD.out.1.trans HO9.out.1 HD.out.2.1.size) HO9.out.2⟩
    have HN9:=hid (And.intro hG9 hMc9);cases b9 with
    | false =>
     have HE:Hid (R = .go s9 false):=by unfold Hid;rw [HRX.out];exact Hq h9
     clear hd hd2 h9 hG9 hMc9 HCA;go_wp2_with fail
     go_ret
     exact Ak.go (K:=Value.bool) HBT2.out HE.out (HD.out.1.trans HN9.out.1 HD.out.2.1.size) HN9.out.2
    | true =>
     have HE:Hid (R=A0 (Ag c.F m) (l.drop (i+1)) s9):=by unfold Hid;rw [HRX.out];exact I7 h9
     have HNX:Hid (SsI c O w w2 j (Ag c.F m) l R (i+1)):=⟨O9,s9,HD.out.1.trans HN9.out.1 HD.out.2.1.size,HBT2.out,HN9.out.2,HE.out⟩;clear hd hd2 h9 hG9 hMc9 HCA HN9;go_wp2_with fail
     go_roundw
     case rel=>exact⟨i+1,by omega,by go_num,HNX.out⟩
     case measure=>simp [intOf];omega
  . have i1:¬(i:Int)<(l.length:Int):=by omega
    have HE:Hid (R = .go s1 true):=by unfold Hid;rw [hR,List.drop_eq_nil_of_le (by omega)];rfl
    clear hG hbt hM1 hR;go_wp2_with fail
    go_ret
    exact Ak.go (K:=Value.bool) HD.out.2.1 HE.out HD.out.1 HD.out.2.2.1
end Go.Proofs.YtppcohadoilpgaaGreatDoor
