/-
  The contracts of the reader's expressions, whatever the fuel. / What the walks of the reader's statements share: contracts, trees that stay, boxes of six and seven cells. / Contracts of the reader's question and assignment.
-/
import Derived.Test.YtppcohadoilpgaaGreatDoorRdBin
import Derived.Test.YtppcohadoilpgaaGreatDoorRdSg
import Derived.Test.YtppcohadoilpgaaGreatDoorRdNm
import Derived.Deep.RegionWith
import Derived.OwnWalk
namespace Go.Proofs.YtppcohadoilpgaaGreatDoor
open Go.ChangeShapes Go.WideShapes Go.ChangeAt Go.RowKit Go.Joins Go.Maps Go.Proofs.Tryz
structure Agh (m:Nat):Prop where
 whole:Ei m
 bin:Vw m
 op:OpC m
 sgn:Aaj m
 word:U1 m
 key:Aah m
 wholes:Kn m
theorem Im:∀m,Agh m:=by
 intro m
 induction m using Nat.strongRecOn with
 | ind m ih =>
  cases m with
  | zero =>
   exact⟨fun r o ps w h hm=>by omega,fun r d o ps w h h1 h2 hm=>by omega,fun r o ps w h hm=>by omega,fun r o ps w h hm=>by omega,fun r o s ps w h hs hm=>by omega,fun r o ps w h hm=>by omega,fun r o ps w h hm=>by omega⟩
  | succ m =>
   have a:=ih m (Nat.lt_succ_self m);have up:∀m',m'<=m->Agh m':=fun m' h=>ih m' (Nat.lt_succ_of_le h);exact⟨Aab a.whole a.bin,Vy a.op fun m' h=>(up m' h).bin,Tp (fun m' e=>(up m' (by omega)).sgn) a.word a.whole,Wx a.op,Ac4 a.key a.wholes,Aew a.whole,Xe fun m' h=>(up m' h).whole⟩
end Go.Proofs.YtppcohadoilpgaaGreatDoor
namespace Go.Proofs.YtppcohadoilpgaaGreatDoor
open Go.ChangeShapes Go.WideShapes Go.ChangeAt Go.RowKit Go.Joins Go.Maps Go.Proofs.Tryz
set_option maxHeartbeats 4000000
set_option linter.unusedVariables false
def LEx (lo:Nat) (w:World) (h:Nat) (v:Value) (l:List Ex):Prop:=SlP (fun b=>lo<=b) w 4 v l.length (fun i c=>∃x,l[i]? = some x/\ExP (fun b=>lo<=b) w h c x)
def LSm (lo:Nat) (w:World) (h:Nat) (v:Value) (l:List Sm):Prop:=SlP (fun b=>lo<=b) w 6 v l.length (fun i c=>∃x,l[i]? = some x/\SmP (fun b=>lo<=b) w h c x)
theorem SmP.same {lo lo' m m':Nat} {w w':World} {cs:List Value} {x:Sm} (h:SmP (fun b=>lo<=b) w m cs x) (hs:Ap lo w w') (hl:lo'<=lo) (hm:m<=m'):SmP (fun b=>lo'<=b) w' m' cs x :=
 (h.stays (fun b hb=>lq0 hl hb) hs.2).le hm
theorem LEx.same {lo lo' m m':Nat} {w w':World} {v:Value} {l:List Ex} (h:LEx lo w m v l) (hs:Ap lo w w') (hl:lo'<=lo) (hm:m<=m'):LEx lo' w' m' v l :=
 (SlP.stays h (by decide) hs.2 fun i c ⟨x,hx,he⟩=>⟨x,hx,he.same hs hl hm⟩).mono (fun b hb=>lq0 hl hb) fun _ _ h=>h
theorem LSm.same {lo lo' m m':Nat} {w w':World} {v:Value} {l:List Sm} (h:LSm lo w m v l) (hs:Ap lo w w') (hl:lo'<=lo) (hm:m<=m'):LSm lo' w' m' v l :=
 (SlP.stays h (by decide) hs.2 fun i c ⟨x,hx,he⟩=>⟨x,hx,he.same hs hl hm⟩).mono (fun b hb=>lq0 hl hb) fun _ _ h=>h
theorem LEx.nil (lo:Nat) (w:World) (h:Nat):LEx lo w h (.slice none 0 0) []:=SlP.none _ _ _ _
theorem LSm.nil (lo:Nat) (w:World) (h:Nat):LSm lo w h (.slice none 0 0) []:=SlP.none _ _ _ _
theorem LEx.shape {lo h:Nat} {w:World} {v:Value} {l:List Ex} (H:LEx lo w h v l):∃a len cap,v = .slice a len cap:=by obtain⟨a,cap,rfl,_⟩:=H;exact⟨_,_,_,rfl⟩
theorem LSm.shape {lo h:Nat} {w:World} {v:Value} {l:List Sm} (H:LSm lo w h v l):∃a len cap,v = .slice a len cap:=by obtain⟨a,cap,rfl,_⟩:=H;exact⟨_,_,_,rfl⟩
theorem SmP.shape {P:Nat->Prop} {w:World} {m:Nat} {cs:List Value} {x:Sm} (h:SmP P w m cs x):∃(k:Int) (s t:ByteArray) (a:Option Addr) (len cap:Nat) (b:Option Addr) (len2 cap2:Nat) (c:Option Addr) (len3 cap3:Nat),cs = [.int .i64 k,.string s,.string t,.slice a len cap,.slice b len2 cap2,.slice c len3 cap3]:=by
 cases m with
 | zero=>exact h.elim
 | succ m =>
  cases x with
  | mk k s t es b e =>
   obtain⟨v1,v2,v3,rfl,_,_,_,⟨a,cap,rfl,_⟩,⟨a2,cap2,rfl,_⟩,⟨a3,cap3,rfl,_⟩⟩:=h;exact⟨k,s,t,a,_,cap,a2,_,cap2,a3,_,cap3,rfl⟩
theorem SmP.node {lo:Nat} {w:World} {m:Nat} {k:Int} {s t:List UInt8} {v1 v2 v3:Value} {es:List Ex} {b e:List Sm} (hk:(Lit.int .i64 k).wf=true) (hs:s.length<=6000) (ht:t.length<=6000) (h1:LEx lo w m v1 es) (h2:LSm lo w m v2 b) (h3:LSm lo w m v3 e) :
 SmP (fun b=>lo<=b) w (m+1) [.int .i64 k,.string (bs s),.string (bs t),v1,v2,v3] (Bk k s t es b e):=⟨v1,v2,v3,rfl,hk,Iq hs,Iq ht,h1,h2,h3⟩
def KS (w:World) (n:Nat):Value->Sm->List Pc->World->Prop:=fun v x ps w'=>ps.length<n/\∃cs:List Value,v = .agg cs.toArray/\SmP (fun b=>w.heap.size<=b) w' (n - ps.length) cs x
def KB (w:World) (n:Nat):Value->List Sm->List Pc->World->Prop:=fun v l ps w'=>ps.length<n/\LSm w.heap.size w' (n - ps.length) v l
def KQ (w:World) (n:Nat):Value->Ex->List Pc->World->Prop:=fun v x ps w'=>ps.length<n/\LEx w.heap.size w' (n - ps.length) v [x]
def KR (w:World) (n:Nat):Value->Ru->List Pc->World->Prop:=fun v x ps w'=>ps.length<n/\∃cs:List Value,v = .agg cs.toArray/\RuP (fun b=>w.heap.size<=b) w' (n - ps.length) cs x
theorem pk {α β:Type} {r:Nat} {o:Int} {f:FuncId} {args:Array Value} {w W:World} {R:Rd α} {K:Value->α->List Pc->World->Prop} {R0:Rd β} {K0:Value->β->List Pc->World->Prop}
 (hc:Calls prog f args W (Ce r o W R K)) (hb:But r r w W) (herr:∀er,R = .error er->R0 = .error er) :
 Calls prog f args W fun e w'=>(∃er,e = .panicked [C2 er]/\Hid (Ce r o w R0 K0 (.panicked [C2 er]) w'))\/∃v x ps,e = .returned v/\Hid (R = .ok (x,ps)/\But r r W w'/\Rdr r w' o ps/\K v x ps w'):=by
 refine hc.mono ?_;rintro e w1 ⟨hb1,hr⟩;cases R with
 | error er =>
  obtain⟨rfl,hop⟩:=hr;refine .inl ⟨er,rfl,hb.trans hb1,?_⟩;rw [herr er rfl];exact⟨rfl,hop⟩
 | ok q =>
  obtain⟨x,ps⟩:=q;obtain⟨v,rfl,hrd,hk⟩:=hr;exact .inr ⟨v,x,ps,rfl,rfl,hb1,hrd,hk⟩
abbrev Uf (w:World) (g:Nat) (a b c d e f:Value):World:=(((((w.setCell ⟨g,0,none⟩ a).setCell ⟨g,1,none⟩ b).setCell ⟨g,2,none⟩ c).setCell ⟨g,3,none⟩ d).setCell ⟨g,4,none⟩ e).setCell ⟨g,5,none⟩ f
abbrev Ahs (w:World) (g:Nat) (a b c d e f h:Value):World:=(Uf w g a b c d e f).setCell ⟨g,6,none⟩ h
theorem Bx.six {g:Nat} {a b c d e f:Value} {T:TypeId} {w:World} (h:Bx g [a,b,c,d,e,f] T w):w.cell? ⟨g,0,none⟩=some a/\w.cell? ⟨g,1,none⟩=some b/\w.cell? ⟨g,2,none⟩=some c/\w.cell? ⟨g,3,none⟩=some d/\w.cell? ⟨g,4,none⟩=some e/\w.cell? ⟨g,5,none⟩=some f/\w.frozen? ⟨g,0,none⟩=false/\w.frozen? ⟨g,1,none⟩=false/\w.frozen? ⟨g,2,none⟩=false/\w.frozen? ⟨g,3,none⟩=false/\w.frozen? ⟨g,4,none⟩=false/\w.frozen? ⟨g,5,none⟩=false :=
 ⟨h.cell 0,h.cell 1,h.cell 2,h.cell 3,h.cell 4,h.cell 5,h.thaw 0,h.thaw 1,h.thaw 2,h.thaw 3,h.thaw 4,h.thaw 5⟩
theorem Bx.seven {g:Nat} {a b c d e f i:Value} {T:TypeId} {w:World} (h:Bx g [a,b,c,d,e,f,i] T w):w.cell? ⟨g,0,none⟩=some a/\w.cell? ⟨g,1,none⟩=some b/\w.cell? ⟨g,2,none⟩=some c/\w.cell? ⟨g,3,none⟩=some d/\w.cell? ⟨g,4,none⟩=some e/\w.cell? ⟨g,5,none⟩=some f/\w.cell? ⟨g,6,none⟩=some i/\w.frozen? ⟨g,0,none⟩=false/\w.frozen? ⟨g,1,none⟩=false/\w.frozen? ⟨g,2,none⟩=false/\w.frozen? ⟨g,3,none⟩=false/\w.frozen? ⟨g,4,none⟩=false/\w.frozen? ⟨g,5,none⟩=false/\w.frozen? ⟨g,6,none⟩=false :=
 ⟨h.cell 0,h.cell 1,h.cell 2,h.cell 3,h.cell 4,h.cell 5,h.cell 6,h.thaw 0,h.thaw 1,h.thaw 2,h.thaw 3,h.thaw 4,h.thaw 5,h.thaw 6⟩
structure Cb (g:Nat) (w w':World):Prop where
 os:w'.os=w.os
 tape:w'.tape=w.tape
 output:w'.output=w.output
 size:w'.heap.size=w.heap.size
 block:∀b,b ≠ g->w'.heap[b]? = w.heap[b]?
theorem Cb.refl (g:Nat) (w:World):Cb g w w:=⟨rfl,rfl,rfl,rfl,fun _ _=>rfl⟩
theorem Cb.set {g:Nat} {a w:World} (h:Cb g a w) (o:Nat) (v:Value):Cb g a (w.setCell ⟨g,o,none⟩ v) :=
 ⟨h.os,h.tape,h.output,(by simp [World.setCell,h.size]),fun b hb=>(Below.heap_setCell _ _ _ _ (by simpa using hb)).trans (h.block b hb)⟩
theorem Cb.six (w:World) (g:Nat) (a b c d e f:Value):Cb g w (Uf w g a b c d e f):=((((((Cb.refl g w).set 0 a).set 1 b).set 2 c).set 3 d).set 4 e).set 5 f
theorem Cb.seven (w:World) (g:Nat) (a b c d e f i:Value):Cb g w (Ahs w g a b c d e f i):=(Cb.six w g a b c d e f).set 6 i
theorem Cb.below {g B:Nat} {w w':World} (h:Cb g w w') (hg:B<=g):Below B w w':=⟨h.os,h.tape,h.output,Nat.le_of_eq h.size.symm,fun k hk=>h.block k (by omega)⟩
theorem Cb.same {g lo:Nat} {w w':World} (h:Cb g w w') (hg:g<lo):Ap lo w w':=⟨Nat.le_of_eq h.size.symm,fun b h1 _=>h.block b (by omega)⟩
theorem Cb.but {g r:Nat} {w w3 w':World} (h:Cb g w3 w') (hb:But r r w w3) (hg:w.heap.size<=g):But r r w w' :=
 ⟨h.os.trans hb.os,h.tape.trans hb.tape,h.output.trans hb.output,(by rw [h.size];exact hb.size),fun k hk h1 h2=>(h.block k (by omega)).trans (hb.block k hk h1 h2)⟩
theorem Ug (w:World) (ob:Obj) (g:Nat) (a b c d e f:Value) (hg:g<w.heap.size):Uf (w.alloc ob) g a b c d e f=(Uf w g a b c d e f).alloc ob:=by
 have z:∀(u:World) (i:Nat) (v:Value),(u.setCell ⟨g,i,none⟩ v).heap.size=u.heap.size:=fun u i v=>by simp [World.setCell]
 simp only [Uf];rw [World.setCell_alloc_past _ _ _ _ hg,World.setCell_alloc_past _ _ _ _ (by rw [z];exact hg),World.setCell_alloc_past _ _ _ _ (by rw [z,z];exact hg),World.setCell_alloc_past _ _ _ _ (by rw [z,z,z];exact hg),World.setCell_alloc_past _ _ _ _ (by rw [z,z,z,z];exact hg),World.setCell_alloc_past _ _ _ _ (by rw [z,z,z,z,z];exact hg)]
theorem Ki {r n h:Nat} {o:Int} {w w3:World} {R:Rd Sm} {x:Sm} {p3:List Pc} {a b c d e f:Value} (hR:R = .ok (x,p3)) (hb:But r r w w3) (hr:r<w.heap.size) (h3:Rdr r w3 o p3) (hl:p3.length<n) (hx:SmP (fun b=>w.heap.size+1<=b) w3 h [a,b,c,d,e,f] x) (hh:h<=n - p3.length) :
 Ce r o w R (KS w n) (.returned (.agg #[a,b,c,d,e,f])) (Uf w3 w.heap.size a b c d e f):=by
 have hw:=Cb.six w3 w.heap.size a b c d e f;refine⟨hw.but hb lr0,?_⟩;rw [hR];exact⟨_,rfl,h3.low (hw.below (by omega)),hl,[a,b,c,d,e,f],rfl,hx.same (hw.same (Nat.lt_succ_self _)) (Nat.le_succ _) hh⟩
theorem Vm {r n h:Nat} {o:Int} {w w3:World} {ob:Obj} {R:Rd Sm} {x:Sm} {p3:List Pc} {a b c d e f:Value} (hR:R = .ok (x,p3)) (hb:But r r w w3) (hr:r<w.heap.size) (hw:w.heap.size<w3.heap.size) (h3:Rdr r w3 o p3) (hl:p3.length<n) (hx:SmP (fun b=>w.heap.size+1<=b) (w3.alloc ob) h [a,b,c,d,e,f] x) (hh:h<=n - p3.length) :
 Ce r o w R (KS w n) (.returned (.agg #[a,b,c,d,e,f])) ((Uf w3 w.heap.size a b c d e f).alloc ob):=by
 rw [<-Ug _ _ _ _ _ _ _ _ _ hw];exact Ki hR (hb.alloc ob) hr (h3.alloc ob) hl hx hh
def Es (m:Nat):Prop:=∀(r:Nat) (o:Int) (ps:List Pc) (w:World),Rdr r w o ps->20 * ps.length+1<=m ->
 Calls prog 40 #[.pointer (some ⟨r,0,none⟩)] w (Ce r o w (A5 m o ps) (KB w ps.length))
def Ol (m:Nat):Prop:=∀(r:Nat) (o:Int) (ps:List Pc) (w:World),Rdr r w o ps->20 * ps.length+12<=m ->
 Calls prog 67 #[.pointer (some ⟨r,0,none⟩)] w (Ce r o w (Bn m o ps) (KS w ps.length))
theorem LEx.one {lo g m:Nat} {w:World} {a b c d:Value} {T:TypeId} {x:Ex} (hg:Bx g [a,b,c,d] T w) (hlo:lo<=g) (hx:ExP (fun b=>lo<=b) w m [a,b,c,d] x):LEx lo w m (.slice (some ⟨g,0,none⟩) 1 1) [x]:=SlP.one hg hlo hx
theorem LEx.two {lo g m:Nat} {w:World} {a b c d a' b' c' d':Value} {T:TypeId} {x y:Ex} (hg:Bx g [a,b,c,d,a',b',c',d'] T w) (hlo:lo<=g) (hx:ExP (fun b=>lo<=b) w m [a,b,c,d] x) (hy:ExP (fun b=>lo<=b) w m [a',b',c',d'] y):LEx lo w m (.slice (some ⟨g,0,none⟩) 2 2) [x,y]:=SlP.two hg hlo hx hy
theorem Bs {t:List UInt8} {ps:List Pc} (h:Aj t ps=true):ps.tail.length+1=ps.length:=by
 cases ps with
 | nil=>simp [Aj] at h
 | cons q p=>simp
theorem Rdr.short {r:Nat} {w:World} {o:Int} {ps:List Pc} (h:Rdr r w o ps):ps.length<=6000:=by obtain⟨v,_,a,cap,_,_,h3,_⟩:=h.pcs;exact h3
theorem Lu (m:Nat) (r:Nat) (o:Int) (ps:List Pc) (w:World) (h:Rdr r w o ps) (hm:20 * ps.length+1<=m) :
 Calls prog 93 #[.pointer (some ⟨r,0,none⟩)] w (Ce r o w (Cn m o ps) (KQ w ps.length)):=by
 have hlt:=h.lt;have lo:=h.lo;have hsh:=h.short;have HS0:Hid (w.heap.size<=w.heap.size):=Nat.le_refl _;have HB0:Hid (But r r w w):=But.refl _ _ _;have HR0:Hid (Rdr r w o ps):=h;clear h;go_enter func93,ntmps93
 have HC:Hid _:=pk (R0:=Cn m o ps) (K0:=KQ w ps.length) (Du r o [40] ps w HR0.out) HB0.out (fun er hN=>by rw [Cn];simp only [hN]);go_wp2_with fail
 refine Calls.mono HC.out ?_;rintro e w1 (⟨er,rfl,F⟩ | ⟨v,up1,p1,rfl,F⟩)
 . go_wp2_with fail
   exact⟨rfl,F.out⟩
 obtain⟨hN,hb,hrd,hk⟩:=F.out;have E1:Hid (A8 [40] ps = .ok (up1,p1)):=hN;have HB1:Hid (But r r w w1):=HB0.out.trans hb;have HS1:Hid (w.heap.size<=w1.heap.size):=lq0 HS0.out hb.size;have HR1:Hid (Rdr r w1 o p1):=hrd;have L1:Hid (p1.length+1=ps.length):=Br hN;obtain rfl:v = .tuple #[]:=hk;clear hN hb hrd F HC;have HC:Hid _:=pk (R0:=Cn m o ps) (K0:=KQ w ps.length) ((Im m).whole r o p1 w1 HR1.out (by have:=L1.out;omega)) HB1.out (fun er hN=>by rw [Cn];simp only [E1.out,hN]);go_wp2_with fail
 refine Calls.mono HC.out ?_;rintro e w2 (⟨er,rfl,F⟩ | ⟨v,x,p2,rfl,F⟩)
 . go_wp2_with fail
   exact⟨rfl,F.out⟩
 obtain⟨hN,hb,hrd,hk⟩:=F.out;have E2:Hid (Ax m o p1 = .ok (x,p2)):=hN;have HB2:Hid (But r r w w2):=HB1.out.trans hb;have HS2:Hid (w.heap.size<=w2.heap.size):=lq0 HS1.out hb.size;have HR2:Hid (Rdr r w2 o p2):=hrd;obtain⟨hl,cs,rfl,hx⟩:=hk;obtain⟨k2,n2,s2,a2,len2,cap2,rfl⟩:=hx.shape;have L2:Hid (p2.length<p1.length):=hl;have X2:Hid (ExP (fun b=>w.heap.size<=b) w2 (p1.length - p2.length) [.int .i64 k2,.int .i64 n2,.string s2,.slice a2 len2 cap2] x):=hx.same (Ap.refl _ _) (by have:=HS1.out;omega) lr0;clear hl hx;clear hN hb hrd F HC;obtain⟨W2,hW⟩:∃W',W'=w2.alloc (.cells #[.int .i64 k2,.int .i64 n2,.string s2,.slice a2 len2 cap2] 31):=⟨_,rfl⟩;have HA:Hid (Below w2.heap.size w2 W2):=by rw [hW];exact br0.alloc lr0 _
 have HGn2:Hid (Bx (w2.heap.size) [.int .i64 k2,.int .i64 n2,.string s2,.slice a2 len2 cap2] 31 W2):=by rw [hW];exact Bx.new w2 _ _
 have HBb2:Hid (But r r w W2):=HB2.out.more HA.out;have HSb2:Hid (w.heap.size<=W2.heap.size):=lq0 HS2.out HA.out.size;have HRb2:Hid (Rdr r W2 o p2):=HR2.out.below HA.out;have HWW:Hid (W2=_):=hW;have HQ2_0:Hid (ExP (fun b=>w.heap.size<=b) W2 (p1.length - p2.length) [.int .i64 k2,.int .i64 n2,.string s2,.slice a2 len2 cap2] x):=X2.out.same (Ap.below HA.out) lr0 lr0;clear hW HA;have HC:Hid _:=pk (R0:=Cn m o ps) (K0:=KQ w ps.length) (Du r o [41] p2 W2 HRb2.out) HBb2.out (fun er hN=>by rw [Cn];simp only [E1.out,E2.out,hN]);go_wp2_with fail
 rw [<-HWW.out];clear HWW;refine Calls.mono HC.out ?_;rintro e w3 (⟨er,rfl,F⟩ | ⟨v,up3,p3,rfl,F⟩)
 . go_wp2_with fail
   exact⟨rfl,F.out⟩
 obtain⟨hN,hb,hrd,hk⟩:=F.out;have E3:Hid (A8 [41] p2 = .ok (up3,p3)):=hN;have HB3:Hid (But r r w w3):=HBb2.out.trans hb;have HS3:Hid (w.heap.size<=w3.heap.size):=lq0 HSb2.out hb.size;have HP3_0:Hid (ExP (fun b=>w.heap.size<=b) w3 (p1.length - p2.length) [.int .i64 k2,.int .i64 n2,.string s2,.slice a2 len2 cap2] x):=HQ2_0.out.same (Ap.but hb (by omega)) lr0 lr0;have HP3_1:Hid (Bx (w2.heap.size) [.int .i64 k2,.int .i64 n2,.string s2,.slice a2 len2 cap2] 31 w3):=HGn2.out.but hb (by have:=HS2.out;omega);have HR3:Hid (Rdr r w3 o p3):=hrd;have L3:Hid (p3.length+1=p2.length):=Br hN;obtain rfl:v = .tuple #[]:=hk;clear hN hb hrd F HC;obtain⟨g0,g1,g2,g3,z0,z1,z2,z3⟩:=HP3_1.out.four;have HE:Hid (Cn m o ps = .ok (x,p3)):=by unfold Hid;rw [Cn];simp only [E1.out,E2.out,E3.out]
 have HF:Hid (Ce r o w (Cn m o ps) (KQ w ps.length) (.returned (.slice (some ⟨w3.heap.size,0,none⟩) 1 1)) (w3.alloc (.cells #[.int .i64 k2,.int .i64 n2,.string s2,.slice a2 len2 cap2] 31))):=by
  refine⟨HB3.out.alloc _,?_⟩;rw [HE.out];have hlen:p3.length<ps.length/\p1.length - p2.length<=ps.length - p3.length:=by have:=L1.out;have:=L2.out;have:=L3.out;omega
  exact⟨_,rfl,HR3.out.alloc _,hlen.1,LEx.one (Bx.new w3 _ _) HS3.out (HP3_0.out.same (Ap.below (br0.alloc lr0 _)) lr0 hlen.2)⟩
 go_wp2_with fail
 go_ret
 exact HF.out
theorem Ov (m:Nat) (r:Nat) (o:Int) (ps:List Pc) (w:World) (h:Rdr r w o ps) (hm:20 * ps.length+1<=m) :
 Calls prog 120 #[.pointer (some ⟨r,0,none⟩)] w (Ce r o w (Gp m o ps) (KS w ps.length)):=by
 have hlt:=h.lt;have lo:=h.lo;have hsh:=h.short;obtain⟨W,hW⟩:∃W,W=w.alloc (.cells #[.int .i64 0,.string ⟨#[]⟩,.string ⟨#[]⟩,.slice none 0 0,.slice none 0 0,.slice none 0 0] 54):=⟨_,rfl⟩;have HA0:Hid (Below w.heap.size w W):=by rw [hW];exact br0.alloc lr0 _
 have HG0:Hid (Bx (w.heap.size) [.int .i64 0,.string ⟨#[]⟩,.string ⟨#[]⟩,.slice none 0 0,.slice none 0 0,.slice none 0 0] 54 W):=by rw [hW];exact Bx.new w _ _
 have HS0:Hid (w.heap.size+1<=W.heap.size):=by rw [hW];simp [Hid]
 have HB0:Hid (But r r w W):=But.of_below HA0.out;have HR0:Hid (Rdr r W o ps):=h.below HA0.out;have HWW:Hid (W=_):=hW;clear hW h;go_enter func120,ntmps120
 have HC:Hid _:=pk (R0:=Gp m o ps) (K0:=KS w ps.length) (Ti r o ps W HR0.out) HB0.out (fun er hN=>by rw [Gp];simp only [hN]);go_wp2_with fail
 rw [<-HWW.out];clear HWW;refine Calls.mono HC.out ?_;rintro e w1 (⟨er,rfl,F⟩ | ⟨v,s,p1,rfl,F⟩)
 . go_wp2_with fail
   exact⟨rfl,F.out⟩
 obtain⟨hN,hb,hrd,hk⟩:=F.out;have E1:Hid (nmR ps = .ok (s,p1)):=hN;have HB1:Hid (But r r w w1):=HB0.out.trans hb;have HS1:Hid (w.heap.size+1<=w1.heap.size):=lq0 HS0.out hb.size;have HP1_0:Hid (Bx (w.heap.size) [.int .i64 0,.string ⟨#[]⟩,.string ⟨#[]⟩,.slice none 0 0,.slice none 0 0,.slice none 0 0] 54 w1):=HG0.out.but hb hlt;have HR1:Hid (Rdr r w1 o p1):=hrd;have L1:Hid (p1.length+1=ps.length/\Dt s=true):=Gm hN;obtain rfl:v = .string (bs s):=hk;clear hN hb hrd F HC;have HC:Hid _:=P5 r o [91] p1 w1 HR1.out;cases hS:Aj [91] p1 with
 | true =>
  rw [hS] at HC;have ES2:Hid (Aj [91] p1=true):=hS;have L2:Hid (p1.tail.length+1=p1.length):=Bs hS;clear hS;go_wp2_with fail
  refine Calls.mono HC.out ?_;rintro e w2 ⟨rfl,hbe0⟩;have hbe:Below w1.heap.size w1 w2:=by rw [hbe0];exact Below.refl _ _
  clear hbe0;have hb:But r r w1 w2:=But.of_below hbe;have hrd:Rdr r w2 o p1:=HR1.out.below hbe;clear hbe;have HB2:Hid (But r r w w2):=HB1.out.trans hb;have HS2:Hid (w.heap.size+1<=w2.heap.size):=lq0 HS1.out hb.size;have HP2_0:Hid (Bx (w.heap.size) [.int .i64 0,.string ⟨#[]⟩,.string ⟨#[]⟩,.slice none 0 0,.slice none 0 0,.slice none 0 0] 54 w2):=HP1_0.out.but hb hlt;have HR2:Hid (Rdr r w2 o p1):=hrd;clear hb hrd HC;have HC:Hid _:=pk (R0:=Gp m o ps) (K0:=KS w ps.length) ((Im m).key r o p1 w2 HR2.out (by have:=L1.out;have:=L2.out;omega)) HB2.out (fun er hN=>by rw [Gp];simp only [E1.out,ES2.out,hN,↓reduceIte]);go_wp2_with fail
  refine Calls.mono HC.out ?_;rintro e w3 (⟨er,rfl,F⟩ | ⟨v,x,p2,rfl,F⟩)
  . go_wp2_with fail
    exact⟨rfl,F.out⟩
  obtain⟨hN,hb,hrd,hk⟩:=F.out;have E3:Hid (Fo m o p1 = .ok (x,p2)):=hN;have HB3:Hid (But r r w w3):=HB2.out.trans hb;have HS3:Hid (w.heap.size+1<=w3.heap.size):=lq0 HS2.out hb.size;have HP3_0:Hid (Bx (w.heap.size) [.int .i64 0,.string ⟨#[]⟩,.string ⟨#[]⟩,.slice none 0 0,.slice none 0 0,.slice none 0 0] 54 w3):=HP2_0.out.but hb hlt;have HR3:Hid (Rdr r w3 o p2):=hrd;obtain⟨hl,cs,rfl,hx⟩:=hk;obtain⟨k3,n3,s3,a3,len3,cap3,rfl⟩:=hx.shape;have L3:Hid (p2.length<p1.length):=hl;have X3:Hid (ExP (fun b=>w.heap.size+1<=b) w3 (p1.length - p2.length) [.int .i64 k3,.int .i64 n3,.string s3,.slice a3 len3 cap3] x):=hx.same (Ap.refl _ _) (by have:=HS2.out;omega) lr0;clear hl hx;clear hN hb hrd F HC;obtain⟨W3,hW⟩:∃W',W'=w3.alloc (.cells #[.int .i64 k3,.int .i64 n3,.string s3,.slice a3 len3 cap3] 31):=⟨_,rfl⟩;have HA:Hid (Below w3.heap.size w3 W3):=by rw [hW];exact br0.alloc lr0 _
  have HGn3:Hid (Bx (w3.heap.size) [.int .i64 k3,.int .i64 n3,.string s3,.slice a3 len3 cap3] 31 W3):=by rw [hW];exact Bx.new w3 _ _
  have HBb3:Hid (But r r w W3):=HB3.out.more HA.out;have HSb3:Hid (w.heap.size+1<=W3.heap.size):=lq0 HS3.out HA.out.size;have HRb3:Hid (Rdr r W3 o p2):=HR3.out.below HA.out;have HWW:Hid (W3=_):=hW;have HQ3_0:Hid (Bx (w.heap.size) [.int .i64 0,.string ⟨#[]⟩,.string ⟨#[]⟩,.slice none 0 0,.slice none 0 0,.slice none 0 0] 54 W3):=HP3_0.out.below HA.out;have HQ3_1:Hid (ExP (fun b=>w.heap.size+1<=b) W3 (p1.length - p2.length) [.int .i64 k3,.int .i64 n3,.string s3,.slice a3 len3 cap3] x):=X3.out.same (Ap.below HA.out) lr0 lr0;clear hW HA;obtain⟨d10,d11,d12,d13,-⟩:=HGn3.out.four;have HC:Hid _:=pk (R0:=Gp m o ps) (K0:=KS w ps.length) (G1 (Im m).whole r o p2 W3.drew (HRb3.out.below (Ac _)) (by have:=L1.out;have:=L2.out;have:=L3.out;omega)) (HBb3.out.more (Ac _)) (fun er hN=>by rw [Gp];simp only [E1.out,ES2.out,E3.out,hN,↓reduceIte]);go_wp2_with fail
  rw [<-HWW.out];clear HWW
  go_region_with (
   refine Calls.mono HC.out ?_;rintro e w4 (⟨er,rfl,F⟩ | ⟨v,y,p3,rfl,F⟩)
   . go_wp2_with fail
     exact⟨rfl,F.out⟩
   obtain⟨hN,hb,hrd,hk⟩:=F.out;have E4:Hid (Hh m o p2 = .ok (y,p3)):=hN;have HB4:Hid (But r r w w4):=(HBb3.out.more (Ac _)).trans hb;have HS4:Hid (w.heap.size+1<=w4.heap.size):=lq0 HSb3.out hb.size;have HP4_0:Hid (Bx (w.heap.size) [.int .i64 0,.string ⟨#[]⟩,.string ⟨#[]⟩,.slice none 0 0,.slice none 0 0,.slice none 0 0] 54 w4):=(HQ3_0.out.below (Ac _)).but hb hlt;have HP4_1:Hid (ExP (fun b=>w.heap.size+1<=b) w4 (p1.length - p2.length) [.int .i64 k3,.int .i64 n3,.string s3,.slice a3 len3 cap3] x):=(HQ3_1.out.same (Ap.below (Ac _)) lr0 lr0).same (Ap.but hb (by omega)) lr0 lr0;have HP4_2:Hid (Bx (w3.heap.size) [.int .i64 k3,.int .i64 n3,.string s3,.slice a3 len3 cap3] 31 w4):=(HGn3.out.below (Ac _)).but hb (by have:=HS3.out;omega);have HR4:Hid (Rdr r w4 o p3):=hrd;obtain⟨hl,cs,rfl,hx⟩:=hk;obtain⟨k4,n4,s4,a4,len4,cap4,rfl⟩:=hx.shape;have L4:Hid (p3.length<p2.length):=hl
   have X4:Hid (ExP (fun b=>w.heap.size+1<=b) w4 (p2.length - p3.length) [.int .i64 k4,.int .i64 n4,.string s4,.slice a4 len4 cap4] y):=hx.same (Ap.refl _ _) (by have:=HSb3.out;have h3:W3.drew.heap.size=W3.heap.size:=rfl;omega) lr0;clear hl hx;clear hN hb hrd F HC;obtain⟨e0,e1,e2,e3,-⟩:=HP4_2.out.four;have hw8:w3.heap.size<w4.heap.size:=HP4_2.out.lt;have hv8:¬w3.heap.size=w4.heap.size:=by omega
   obtain⟨g0,g1,g2,g3,g4,g5,z0,z1,z2,z3,z4,z5⟩:=HP4_0.out.six;have HE:Hid (Gp m o ps = .ok (Bk 2 s [] [x,y] [] [],p3)):=by unfold Hid;rw [Gp];simp only [E1.out,ES2.out,E3.out,E4.out,↓reduceIte]
   have HX:Hid (SmP (fun b=>w.heap.size+1<=b) (w4.alloc (.cells #[.int .i64 k3,.int .i64 n3,.string s3,.slice a3 len3 cap3,.int .i64 k4,.int .i64 n4,.string s4,.slice a4 len4 cap4] 31)) ((p1.length - p2.length)+(p2.length - p3.length)+1) [.int .i64 2,.string (bs s),.string ⟨#[]⟩,.slice (some ⟨w4.heap.size,0,none⟩) 2 2,.slice none 0 0,.slice none 0 0] (Bk 2 s [] [x,y] [] [])):=SmP.node (s:=s) (t:= []) (by decide) (Dg L1.out.2) (by decide) (LEx.two (Bx.new w4 _ _) HS4.out (HP4_1.out.same (Ap.below (br0.alloc lr0 _)) lr0 (by omega)) (X4.out.same (Ap.below (br0.alloc lr0 _)) lr0 (by omega))) (LSm.nil _ _ _) (LSm.nil _ _ _);have HL:Hid (p3.length<ps.length/\(p1.length - p2.length)+(p2.length - p3.length)+1<=ps.length - p3.length):=by unfold Hid;have:=L1.out;have:=L2.out;have:=L3.out;have:=L4.out;omega
   have hw9:w.heap.size<w4.heap.size:=HS4.out;have hv9:¬w.heap.size=w4.heap.size:=by omega)
  all_goals go_wp2_with fail
  all_goals refine bodyPost_ret (v:= .agg #[.int .i64 2,.string (bs s),.string ⟨#[]⟩,.slice (some ⟨w4.heap.size,0,none⟩) 2 2,.slice none 0 0,.slice none 0 0]) (by simp [results,results120,go_sem,g0,g1,g2,g3,g4,g5,hw9]) rfl ?_
  all_goals exact Vm HE.out HB4.out hlt hw9 HR4.out HL.out.1 HX.out HL.out.2
 | false =>
  rw [hS] at HC;have ES2:Hid (Aj [91] p1=false):=hS;clear hS;go_wp2_with fail
  refine Calls.mono HC.out ?_;rintro e w2 ⟨rfl,hbe0⟩;have hbe:Below w1.heap.size w1 w2:=by rw [hbe0];exact Below.refl _ _
  clear hbe0;have hb:But r r w1 w2:=But.of_below hbe;have hrd:Rdr r w2 o p1:=HR1.out.below hbe;clear hbe;have HB2:Hid (But r r w w2):=HB1.out.trans hb;have HS2:Hid (w.heap.size+1<=w2.heap.size):=lq0 HS1.out hb.size;have HP2_0:Hid (Bx (w.heap.size) [.int .i64 0,.string ⟨#[]⟩,.string ⟨#[]⟩,.slice none 0 0,.slice none 0 0,.slice none 0 0] 54 w2):=HP1_0.out.but hb hlt;have HR2:Hid (Rdr r w2 o p1):=hrd;clear hb hrd HC;have HC:Hid _:=pk (R0:=Gp m o ps) (K0:=KS w ps.length) (G1 (Im m).whole r o p1 w2 HR2.out (by have:=L1.out;omega)) HB2.out (fun er hN=>by rw [Gp];simp only [E1.out,ES2.out,hN,Bool.false_eq_true,↓reduceIte]);go_wp2_with fail
  refine Calls.mono HC.out ?_;rintro e w3 (⟨er,rfl,F⟩ | ⟨v,y,p3,rfl,F⟩)
  . go_wp2_with fail
    exact⟨rfl,F.out⟩
  obtain⟨hN,hb,hrd,hk⟩:=F.out;have E3:Hid (Hh m o p1 = .ok (y,p3)):=hN;have HB3:Hid (But r r w w3):=HB2.out.trans hb;have HS3:Hid (w.heap.size+1<=w3.heap.size):=lq0 HS2.out hb.size;have HP3_0:Hid (Bx (w.heap.size) [.int .i64 0,.string ⟨#[]⟩,.string ⟨#[]⟩,.slice none 0 0,.slice none 0 0,.slice none 0 0] 54 w3):=HP2_0.out.but hb hlt;have HR3:Hid (Rdr r w3 o p3):=hrd;obtain⟨hl,cs,rfl,hx⟩:=hk;obtain⟨k3,n3,s3,a3,len3,cap3,rfl⟩:=hx.shape;have L3:Hid (p3.length<p1.length):=hl;have X3:Hid (ExP (fun b=>w.heap.size+1<=b) w3 (p1.length - p3.length) [.int .i64 k3,.int .i64 n3,.string s3,.slice a3 len3 cap3] y):=hx.same (Ap.refl _ _) (by have:=HS2.out;omega) lr0;clear hl hx;clear hN hb hrd F HC;obtain⟨g0,g1,g2,g3,g4,g5,z0,z1,z2,z3,z4,z5⟩:=HP3_0.out.six;have HE:Hid (Gp m o ps = .ok (Bk 1 s [] [y] [] [],p3)):=by unfold Hid;rw [Gp];simp only [E1.out,ES2.out,E3.out,Bool.false_eq_true,↓reduceIte]
  have HX:Hid (SmP (fun b=>w.heap.size+1<=b) (w3.alloc (.cells #[.int .i64 k3,.int .i64 n3,.string s3,.slice a3 len3 cap3] 31)) (p1.length - p3.length+1) [.int .i64 1,.string (bs s),.string ⟨#[]⟩,.slice (some ⟨w3.heap.size,0,none⟩) 1 1,.slice none 0 0,.slice none 0 0] (Bk 1 s [] [y] [] [])):=SmP.node (s:=s) (t:= []) (by decide) (Dg L1.out.2) (by decide) (LEx.one (Bx.new w3 _ _) HS3.out (X3.out.same (Ap.below (br0.alloc lr0 _)) lr0 lr0)) (LSm.nil _ _ _) (LSm.nil _ _ _);have HL:Hid (p3.length<ps.length/\p1.length - p3.length+1<=ps.length - p3.length):=by unfold Hid;have:=L1.out;have:=L3.out;omega
  have hw9:w.heap.size<w3.heap.size:=HS3.out;have hv9:¬w.heap.size=w3.heap.size:=by omega
  go_wp2_with fail
  refine bodyPost_ret (v:= .agg #[.int .i64 1,.string (bs s),.string ⟨#[]⟩,.slice (some ⟨w3.heap.size,0,none⟩) 1 1,.slice none 0 0,.slice none 0 0]) (by simp [results,results120,go_sem,g0,g1,g2,g3,g4,g5,hw9]) rfl ?_;exact Vm HE.out HB3.out hlt hw9 HR3.out HL.out.1 HX.out HL.out.2
end Go.Proofs.YtppcohadoilpgaaGreatDoor
