/-
  Contract of the reader's binary. / Contract of the reader's wholes.
-/
import Derived.Test.YtppcohadoilpgaaGreatDoorRdOp
import Derived.Deep.RegionWith
import Derived.Test.YtppcohadoilpgaaGreatDoorRdMem
namespace Go.Proofs.YtppcohadoilpgaaGreatDoor
open Go.ChangeShapes Go.WideShapes Go.ChangeAt Go.RowKit Go.Joins Go.Maps Go.Proofs.Tryz
set_option maxHeartbeats 16000000
set_option linter.unusedVariables false
theorem Abd (a b c:Value) (w:World):(Instr.field 91 (.agg #[a,b,c]) 1).run prog w = .ok b w:=by kernel_rfl
theorem Ng (f:Nat) (d o:Int) (x:Ex) (ps:List Pc):Fm (f+1) d o x ps=if G6 ps=d then
 match ps with
 | []=> .ok (x,ps)
 | p :: r =>
  if p.s = [105,110] then
   match nmR r with
   | .error e=> .error e
   | .ok (t,r1)=>Fm f d o (A3 9 0 t [x]) r1
  else match Cs f (d+1) o r with
   | .error e=> .error e
   | .ok (y,r1)=>Fm f d o (A3 6 0 p.s [x,y]) r1
 else .ok (x,ps):=by
 cases ps <;> rfl
structure Ku (r m:Nat) (d o:Int) (ps:List Pc) (w:World) (gx:Nat) (wr:World) (x:Ex) (p:List Pc) (f:Nat) (cs:List Value):Prop where
 eq:Cs (m+1) d o ps=Fm f d o x p
 fu:20 * p.length+9<=f+d.toNat
 le:p.length<ps.length
 but:But r r w wr
 rd:Rdr r wr o p
 res:Bx w.heap.size [.int .i64 0,.int .i64 0,.string ⟨#[]⟩,.slice none 0 0] 31 wr
 box:Bx gx cs 31 wr
 tree:ExP (fun b=>w.heap.size+1<=b/\b ≠ gx) wr (ps.length - p.length) cs x
 sz:w.heap.size+1<=wr.heap.size
theorem Dg {s:List UInt8} (h:Dt s=true):s.length<=6000:=by
 simp only [Dt,Bool.and_eq_true,decide_eq_true_eq] at h;have:=h.1.1.2;omega
abbrev Eb (w4:World) (gx:Nat) (a b c d:Value) (l:List Value):World:=(set4 w4 gx a b c d).alloc (.cells l.toArray 31)
theorem Ku.turn {r m f f' h:Nat} {d o:Int} {ps p p':List Pc} {w wr w4:World} {gx:Nat} {x x':Ex} {cs:List Value} {a b c e o0 o1 o2 o3:Value} {l:List Value} (hr:r<w.heap.size) (hgx:w.heap.size+1<=gx) (I:Ku r m d o ps w gx wr x p f cs)
 (heq:Cs (m+1) d o ps=Fm f' d o x' p') (hfu:20 * p'.length+9<=f'+d.toNat) (hle:p'.length<p.length) (hb:But r r w w4) (hrd:Rdr r w4 o p') (hres:Bx w.heap.size [.int .i64 0,.int .i64 0,.string ⟨#[]⟩,.slice none 0 0] 31 w4) (hbox:Bx gx [o0,o1,o2,o3] 31 w4)
 (htree:ExP (fun b=>w.heap.size+1<=b/\b ≠ gx) (Eb w4 gx a b c e l) h [a,b,c,e] x') (hh:h<=ps.length - p'.length) :
 Ku r m d o ps w gx (Eb w4 gx a b c e l) x' p' f' [a,b,c,e]/\left r (Eb w4 gx a b c e l)<left r wr:=by
 have hrd':Rdr r (Eb w4 gx a b c e l) o p':=(hrd.low (Below.set4 w4 (by omega) a b c e)).alloc _;refine⟨⟨heq,hfu,Nat.lt_trans hle I.le,?_,hrd',(hres.far4 (by omega) a b c e).below (br0.alloc lr0 _),(hbox.set4 a b c e).below (br0.alloc lr0 _),htree.le hh,?_⟩,?_⟩
 . exact ((((hb.setOther (by omega) 0 a).setOther (by omega) 1 b).setOther (by omega) 2 c).setOther (by omega) 3 e).alloc _
 . have:=hres.lt;simp [Eb];omega
 . rw [hrd'.left,I.rd.left];exact hle
theorem Ku.turn3 {r m f f' h:Nat} {d o:Int} {ps p p':List Pc} {w wr w4:World} {gx:Nat} {x x':Ex} {cs:List Value} {a b c e o0 o1 o2 o3:Value} (hr:r<w.heap.size) (hgx:w.heap.size+1<=gx) (I:Ku r m d o ps w gx wr x p f cs)
 (heq:Cs (m+1) d o ps=Fm f' d o x' p') (hfu:20 * p'.length+9<=f'+d.toNat) (hle:p'.length<p.length) (hb:But r r w w4) (hrd:Rdr r w4 o p') (hres:Bx w.heap.size [.int .i64 0,.int .i64 0,.string ⟨#[]⟩,.slice none 0 0] 31 w4) (hbox:Bx gx [o0,o1,o2,o3] 31 w4)
 (htree:ExP (fun b=>w.heap.size+1<=b/\b ≠ gx) w4 h [a,b,c,e] x') (hh:h<=ps.length - p'.length) :
 Ku r m d o ps w gx (set4 w4 gx a b c e) x' p' f' [a,b,c,e]/\left r (set4 w4 gx a b c e)<left r wr:=by
 have hrd':Rdr r (set4 w4 gx a b c e) o p':=hrd.low (Below.set4 w4 (by omega) a b c e);refine⟨⟨heq,hfu,Nat.lt_trans hle I.le,?_,hrd',hres.far4 (by omega) a b c e,hbox.set4 a b c e,(htree.stays (fun _ h=>h) fun i hi hlt=>Ji w4 gx i hi.2 a b c e).le hh,?_⟩,?_⟩
 . exact (((hb.setOther (by omega) 0 a).setOther (by omega) 1 b).setOther (by omega) 2 c).setOther (by omega) 3 e
 . have:=hres.lt;rw [Jx];omega
 . rw [hrd'.left,I.rd.left];exact hle
theorem J1 {w w4:World} {gx m:Nat} {cs:List Value} {x:Ex} (h:ExP (fun b=>w.heap.size+1<=b/\b ≠ gx) w4 m cs x) (a b c e:Value) (l:List Value):ExP (fun b=>w.heap.size+1<=b/\b ≠ gx) (Eb w4 gx a b c e l) m cs x :=
 h.stays (fun _ h=>h) fun i hi hlt=>((br0.alloc lr0 _).block i (by rw [Jx];exact hlt)).trans (Ji w4 gx i hi.2 a b c e)
theorem Qo {w4:World} {gx:Nat} (a b c e:Value) (l:List Value):Bx w4.heap.size l 31 (Eb w4 gx a b c e l):=by
 have:=Bx.new (set4 w4 gx a b c e) l 31;rw [Jx] at this;exact this
set_option maxRecDepth 100000 in
theorem Vy {m:Nat} (hO:OpC m) (hY:∀m',m'<=m->Vw m'):Vw (m+1):=by
 intro r d o ps w h hd1 hd7 hm;have hfd:∀(a b c:Value) (w:World),(Instr.field 91 (.agg #[a,b,c]) 1).run prog w = .ok b w:=Abd;have HO:Hid (OpC m):=hO;have HY:Hid (∀m',m'<=m->Vw m'):=hY;clear hO hY;have hlt:=h.lt;obtain⟨W,hW⟩:∃W,W=w.alloc (.cells #[.int .i64 0,.int .i64 0,.string ⟨#[]⟩,.slice none 0 0] 31):=⟨_,rfl⟩;have HA0:Hid (Below w.heap.size w W):=by rw [hW];exact br0.alloc lr0 _
 have HG0:Hid (Bx w.heap.size [.int .i64 0,.int .i64 0,.string ⟨#[]⟩,.slice none 0 0] 31 W):=by rw [hW];exact Bx.new w _ _
 have HS0:Hid (w.heap.size+1<=W.heap.size):=by rw [hW];simp [Hid]
 have HB0:Hid (But r r w W):=But.of_below HA0.out;have HR0:Hid (Rdr r W o ps):=h.below HA0.out;have HWW:Hid (W=_):=hW;clear hW h
 by_cases h6:6<d
 . have E0:Hid ((6<d)=True):=eq_true h6;go_enter func68,ntmps68
   have HC:Hid _:=HO.out r o ps W HR0.out (by omega);go_wp2_with fail
   rw [<-HWW.out];clear HWW;refine Calls.mono HC.out ?_;rintro e w1 ⟨hb,hr⟩;have HB1:Hid (But r r w w1):=HB0.out.trans hb;have HS1:Hid (w.heap.size+1<=w1.heap.size):=lq0 HS0.out hb.size;have HG1_0:Hid (Bx (w.heap.size) [.int .i64 0,.int .i64 0,.string ⟨#[]⟩,.slice none 0 0] 31 w1):=HG0.out.but hb (by have:=HS0.out;have:=hlt;omega);rcases A6 (opR m o ps) with⟨er,hN⟩ | ⟨x,p1,hN⟩
   . rw [hN] at hr;obtain⟨rfl,hop⟩:=hr;have HE:Hid (Cs (m+1) d o ps = .error er):=by unfold Hid;rw [Cs];simp only [E0.out,hN,↓reduceIte]
     have HO:Hid (Opn r w1 o):=hop;clear hb hop hN HC;go_wp2_with fail
     refine⟨rfl,HB1.out,?_⟩;rw [HE.out];exact⟨rfl,HO.out⟩
   have E1:Hid (opR m o ps = .ok (x,p1)):=hN;rw [hN] at hr;obtain⟨v,rfl,hrd,hk⟩:=hr;have HR1:Hid (Rdr r w1 o p1):=hrd;clear hrd hN HC;obtain⟨hl1,cs1,rfl,hx1⟩:=hk;obtain⟨k1,n1,s1,a1,len1,cap1,rfl⟩:=hx1.shape;have L1:Hid (p1.length<ps.length):=hl1;have X1:Hid (ExP (fun b=>w.heap.size+1<=b) w1 (ps.length - p1.length) [.int .i64 k1,.int .i64 n1,.string s1,.slice a1 len1 cap1] x):=hx1.same (Ap.refl _ _) (by have:=HS0.out;omega) lr0;clear hb hl1 hx1;obtain⟨g0,g1,g2,g3,z0,z1,z2,z3⟩:=HG1_0.out.four;have HE:Hid (Cs (m+1) d o ps = .ok (x,p1)):=by unfold Hid;rw [Cs];simp only [E0.out,E1.out,↓reduceIte]
   have HX:Hid (ExP (fun b=>w.heap.size+1<=b) w1 (ps.length - p1.length) [.int .i64 k1,.int .i64 n1,.string s1,.slice a1 len1 cap1] (x)):=X1.out;have HL:Hid (p1.length<ps.length/\ps.length - p1.length<=ps.length - p1.length):=by unfold Hid;have:=L1.out;omega
   go_wp2_with fail
   refine bodyPost_ret (v:= .agg #[.int .i64 k1,.int .i64 n1,.string s1,.slice a1 len1 cap1]) (by simp [results,results68,go_sem,g0,g1,g2,g3]) rfl ?_;exact Lr HE.out HB1.out hlt HR1.out HL.out.1 HX.out HL.out.2
 have E0:Hid ((6<d)=False):=eq_false h6;have i1:d+1<=9223372036854775807:=by omega
 have i2: -9223372036854775808<=d+1:=by omega
 go_enter func68,ntmps68
 have HC:Hid _:=HY.out m (Nat.le_refl m) r (d+1) o ps W HR0.out (by omega) (by omega) (by omega);go_wp2_with fail
 rw [<-HWW.out];clear HWW;refine Calls.mono HC.out ?_;rintro e w1 ⟨hb,hr⟩;have HB1:Hid (But r r w w1):=HB0.out.trans hb;have HS1:Hid (w.heap.size+1<=w1.heap.size):=lq0 HS0.out hb.size;have HG1_0:Hid (Bx (w.heap.size) [.int .i64 0,.int .i64 0,.string ⟨#[]⟩,.slice none 0 0] 31 w1):=HG0.out.but hb (by have:=HS0.out;have:=hlt;omega);rcases A6 (Cs m (d+1) o ps) with⟨er,hN⟩ | ⟨x,p1,hN⟩
 . rw [hN] at hr;obtain⟨rfl,hop⟩:=hr;have HE:Hid (Cs (m+1) d o ps = .error er):=by unfold Hid;rw [Cs];simp only [E0.out,hN,↓reduceIte]
   have HO:Hid (Opn r w1 o):=hop;clear hb hop hN HC;go_wp2_with fail
   refine⟨rfl,HB1.out,?_⟩;rw [HE.out];exact⟨rfl,HO.out⟩
 have E1:Hid (Cs m (d+1) o ps = .ok (x,p1)):=hN;rw [hN] at hr;obtain⟨v,rfl,hrd,hk⟩:=hr;have HR1:Hid (Rdr r w1 o p1):=hrd;clear hrd hN HC;obtain⟨hl1,cs1,rfl,hx1⟩:=hk;obtain⟨k1,n1,s1,a1,len1,cap1,rfl⟩:=hx1.shape;have L1:Hid (p1.length<ps.length):=hl1;have X1:Hid (ExP (fun b=>w.heap.size+1<=b) w1 (ps.length - p1.length) [.int .i64 k1,.int .i64 n1,.string s1,.slice a1 len1 cap1] x):=hx1.same (Ap.refl _ _) (by have:=HS0.out;omega) lr0;clear hb hl1 hx1;have XO:Hid (ExP (fun b=>w.heap.size+1<=b/\b ≠ w1.heap.size) w1 (ps.length - p1.length) [.int .i64 k1,.int .i64 n1,.string s1,.slice a1 len1 cap1] x):=X1.out.old.stays (fun b h=>⟨h.1,by have:=h.2;omega⟩) fun _ _ _=>rfl;obtain⟨W1,hW⟩:∃W',W'=w1.alloc (.cells #[.int .i64 k1,.int .i64 n1,.string s1,.slice a1 len1 cap1] 31):=⟨_,rfl⟩;have HA:Hid (Below w1.heap.size w1 W1):=by rw [hW];exact br0.alloc lr0 _
 have HGn1:Hid (Bx w1.heap.size [.int .i64 k1,.int .i64 n1,.string s1,.slice a1 len1 cap1] 31 W1):=by rw [hW];exact Bx.new w1 _ _
 have HBb1:Hid (But r r w W1):=HB1.out.more HA.out;have HSb1:Hid (w.heap.size+1<=W1.heap.size):=lq0 HS1.out HA.out.size;have HRb1:Hid (Rdr r W1 o p1):=HR1.out.below HA.out;have HWW:Hid (W1=_):=hW;have HGb1_0:Hid (Bx (w.heap.size) [.int .i64 0,.int .i64 0,.string ⟨#[]⟩,.slice none 0 0] 31 W1):=HG1_0.out.below HA.out;have HTb1_0:Hid (ExP (fun b=>w.heap.size+1<=b) W1 (ps.length - p1.length) [.int .i64 k1,.int .i64 n1,.string s1,.slice a1 len1 cap1] x):=X1.out.same (Ap.below HA.out) lr0 lr0;clear hW HA;have HGX:Hid (w.heap.size+1<=w1.heap.size):=HS1.out
 have HI0:Hid (Ku r m d o ps w w1.heap.size W1 x p1 m [.int .i64 k1,.int .i64 n1,.string s1,.slice a1 len1 cap1]):=⟨by rw [Cs];simp only [E0.out,E1.out,↓reduceIte],by have:=L1.out;omega,L1.out,HBb1.out,HRb1.out,HGb1_0.out,HGn1.out,XO.out.stays (fun _ h=>h) fun b hb hlt=>(by rw [HWW.out];exact ((Below.refl w1.heap.size w1).alloc lr0 _).block b hlt),HSb1.out⟩;go_wp2_with fail
 rw [<-HWW.out];clear HWW;clear HB0 HR0 HS0 HG0 HA0 HB1 HR1 HS1 HG1_0 X1 XO HGn1 HBb1 HSb1 HRb1 HGb1_0 HTb1_0 L1 E1;obtain⟨gx,hgx⟩:∃gx,gx=w1.heap.size:=⟨_,rfl⟩;rw [<-hgx] at HI0 HGX ⊢;clear hgx
 go_loopw [6] (fun _ wr=>∃(x:Ex) (p:List Pc) (f:Nat) (k n:Int) (s:ByteArray) (a:Option Addr) (len cap:Nat),Hid (Ku r m d o ps w gx wr x p f [.int .i64 k,.int .i64 n,.string s,.slice a len cap])/\Hid (f<=m)) (fun _ wr=>left r wr)
 case atStart=>exact⟨x,p1,m,k1,n1,s1,a1,len1,cap1,HI0.out,Nat.le_refl m⟩
 case round =>
  obtain⟨x,p,f,k0,n0,s0,a0,len0,cap0,HI,HFM⟩:=hrel;clear HI0;have HC:Hid _:=Abk r o p wr HI.out.rd;go_wp2_with fail
  refine Calls.mono HC.out ?_;rintro e w2 ⟨rfl,hbl⟩;have HB2:Hid (But r r w w2):=HI.out.but.more hbl;have HR2:Hid (Rdr r w2 o p):=HI.out.rd.below hbl;have HG2:Hid (Bx w.heap.size [.int .i64 0,.int .i64 0,.string ⟨#[]⟩,.slice none 0 0] 31 w2):=HI.out.res.below hbl;have HX2:Hid (Bx gx [.int .i64 k0,.int .i64 n0,.string s0,.slice a0 len0 cap0] 31 w2):=HI.out.box.below hbl;have HT2:Hid (ExP (fun b=>w.heap.size+1<=b/\b ≠ gx) w2 (ps.length - p.length) [.int .i64 k0,.int .i64 n0,.string s0,.slice a0 len0 cap0] x):=HI.out.tree.stays (fun _ h=>h) fun b _ hlt=>hbl.block b hlt;have HS2:Hid (w.heap.size+1<=w2.heap.size):=lq0 HI.out.sz hbl.size;obtain⟨L,hL⟩:∃L,L=G6 p:=⟨_,rfl⟩;rw [<-hL];obtain⟨f',rfl⟩:∃f',f=f'+1:=⟨f - 1,by have:=HI.out.fu;omega⟩
  by_cases hld:G6 p=d
  . have bL:(L == d)=true:=by simp [hL,hld]
    cases p with
    | nil=>exact absurd hld (by simp [G6];omega)
    | cons q r1 =>
     have HFT:Hid (q.s.length<=6000):=(HR2.out.fit q (List.mem_cons_self ..)).1;have HEQ:Hid (Cs (m+1) d o ps=if q.s = [105,110] then
      match nmR r1 with
      | .error e=> .error e
      | .ok (t,r2)=>Fm f' d o (A3 9 0 t [x]) r2
      else match Cs f' (d+1) o r1 with
       | .error e=> .error e
       | .ok (y,r2)=>Fm f' d o (A3 6 0 q.s [x,y]) r2):=by unfold Hid;rw [HI.out.eq,Ng,if_pos hld]
     have HN:Hid _:=Lp r o q r1 w2 HR2.out;clear hbl hL hld HC;go_wp2_with fail
     refine Calls.mono HN.out ?_;rintro e w3 ⟨rfl,hrd,hb⟩;have HB3:Hid (But r r w w3):=HB2.out.trans hb;have HR3:Hid (Rdr r w3 o r1):=hrd;have HG3:Hid (Bx w.heap.size [.int .i64 0,.int .i64 0,.string ⟨#[]⟩,.slice none 0 0] 31 w3):=HG2.out.but hb hlt;have HX3:Hid (Bx gx [.int .i64 k0,.int .i64 n0,.string s0,.slice a0 len0 cap0] 31 w3):=HX2.out.but hb (by have:=HGX.out;omega);have HT3:Hid (ExP (fun b=>w.heap.size+1<=b/\b ≠ gx) w3 (ps.length - (r1.length+1)) [.int .i64 k0,.int .i64 n0,.string s0,.slice a0 len0 cap0] x):=HT2.out.stays (fun _ h=>h) fun b h hl=>hb.block b hl (by omega) (by omega);have HS3:Hid (w.heap.size+1<=w3.heap.size):=lq0 HS2.out hb.size;obtain⟨S,hS⟩:∃S,S=bs q.s:=⟨_,rfl⟩;have HSB:Hid (S=bs q.s):=hS;have HST:Hid (S.toList=q.s):=by unfold Hid;rw [hS,B5]
     rw [<-hS];obtain⟨x0,x1,x2,x3,xz0,xz1,xz2,xz3⟩:=HX3.out.four;clear hS hrd hb HN
     by_cases hin:q.s = [105,110]
     . have bI:(S.toList == [105,110])=true:=by rw [HST.out,hin];rfl
       have HE1:Hid (Cs (m+1) d o ps=match nmR r1 with
        | .error e=> .error e
        | .ok (t,r2)=>Fm f' d o (A3 9 0 t [x]) r2):=by unfold Hid;rw [HEQ.out,if_pos hin]
       have HC:Hid (Calls prog 98 #[.pointer (some ⟨r,0,none⟩)] w3.drew fun e w4=>(∃er,e = .panicked [C2 er]/\Hid (Ce r o w (Cs (m+1) d o ps) (KE w ps.length) (.panicked [C2 er]) w4))\/∃TT r2,e = .returned (.string TT)/\Hid (Bx gx [.int .i64 k0,.int .i64 n0,.string s0,.slice a0 len0 cap0] 31 w4)/\Hid (∃x' f'',f''<=m/\Ku r m d o ps w gx (Eb w4 gx (.int .i64 9) (.int .i64 0) (.string TT) (.slice (some ⟨w4.heap.size,0,none⟩) 1 1) [.int .i64 k0,.int .i64 n0,.string s0,.slice a0 len0 cap0]) x' r2 f'' [.int .i64 9,.int .i64 0,.string TT,(.slice (some ⟨w4.heap.size,0,none⟩) 1 1)]/\left r (Eb w4 gx (.int .i64 9) (.int .i64 0) (.string TT) (.slice (some ⟨w4.heap.size,0,none⟩) 1 1) [.int .i64 k0,.int .i64 n0,.string s0,.slice a0 len0 cap0])<left r wr)):=by
        refine (Ti r o r1 w3.drew (HR3.out.below (Ac w3))).mono ?_;rintro e w4 ⟨hb,hr⟩;have hb4:But r r w w4:=(HB3.out.more (Ac w3)).trans hb;have hg4:Bx w.heap.size [.int .i64 0,.int .i64 0,.string ⟨#[]⟩,.slice none 0 0] 31 w4:=(HG3.out.below (Ac w3)).but hb hlt;have hx4:Bx gx [.int .i64 k0,.int .i64 n0,.string s0,.slice a0 len0 cap0] 31 w4:=(HX3.out.below (Ac w3)).but hb (by have:=HGX.out;omega);have ht4:ExP (fun b=>w.heap.size+1<=b/\b ≠ gx) w4 (ps.length - (r1.length+1)) [.int .i64 k0,.int .i64 n0,.string s0,.slice a0 len0 cap0] x:=ExP.stays (w:=w3) (fun _ h=>h) (fun b h hl=>hb.block b hl (by omega) (by omega)) HT3.out;have hs4:w.heap.size+1<=w4.heap.size:=lq0 HS3.out hb.size;rcases A6 (nmR r1) with⟨er,hN⟩ | ⟨t,r2,hN⟩
        . rw [hN] at hr;obtain⟨rfl,hop⟩:=hr;refine .inl ⟨er,rfl,hb4,?_⟩;rw [HE1.out,hN];exact⟨rfl,hop⟩
        have hE:Cs (m+1) d o ps=Fm f' d o (A3 9 0 t [x]) r2:=by rw [HE1.out,hN]
        have hnl:=Gm hN;rw [hN] at hr;obtain⟨v,rfl,hrd,rfl⟩:=hr;have hw9:gx<w4.heap.size:=hx4.lt;have hfu:=HI.out.fu;have hle:=HI.out.le;simp only [List.length_cons] at hfu hle;exact .inr ⟨bs t,r2,rfl,hx4,_,f',Nat.le_of_succ_le HFM.out,HI.out.turn hlt HGX.out hE (by omega) (by simp;omega) hb4 hrd hg4 hx4 (ExP.node (by decide) (by decide) (Dg hnl.2) (SlP.one (Qo _ _ _ _ _) ⟨hs4,by omega⟩ (J1 ht4 _ _ _ _ _))) (by omega)⟩
       have HC2:Hid (Calls prog 98 #[.pointer (some ⟨r,0,none⟩)] (w3.alloc (.cells #[.int .i64 k0,.int .i64 n0,.string s0,.slice a0 len0 cap0] 31)).drew fun e w4=>(∃er,e = .panicked [C2 er]/\Hid (Ce r o w (Cs (m+1) d o ps) (KE w ps.length) (.panicked [C2 er]) w4))\/∃TT r2,e = .returned (.string TT)/\Hid (Bx gx [.int .i64 k0,.int .i64 n0,.string s0,.slice a0 len0 cap0] 31 w4)/\Hid (∃x' f'',f''<=m/\Ku r m d o ps w gx (set4 w4 gx (.int .i64 9) (.int .i64 0) (.string TT) (.slice (some ⟨w3.heap.size,0,none⟩) 1 1)) x' r2 f'' [.int .i64 9,.int .i64 0,.string TT,(.slice (some ⟨w3.heap.size,0,none⟩) 1 1)]/\left r (set4 w4 gx (.int .i64 9) (.int .i64 0) (.string TT) (.slice (some ⟨w3.heap.size,0,none⟩) 1 1))<left r wr)):=by
        have hal:Below w3.drew.heap.size w3.drew (w3.drew.alloc (.cells #[.int .i64 k0,.int .i64 n0,.string s0,.slice a0 len0 cap0] 31)):=br0.alloc lr0 _;show Calls _ _ _ (w3.drew.alloc (.cells #[.int .i64 k0,.int .i64 n0,.string s0,.slice a0 len0 cap0] 31)) _;refine (Ti r o r1 _ ((HR3.out.below (Ac w3)).alloc _)).mono ?_;rintro e w4 ⟨hb,hr⟩;have hb4:But r r w w4:=((HB3.out.more (Ac w3)).alloc _).trans hb;have hg4:Bx w.heap.size [.int .i64 0,.int .i64 0,.string ⟨#[]⟩,.slice none 0 0] 31 w4:=((HG3.out.below (Ac w3)).below hal).but hb hlt;have hx4:Bx gx [.int .i64 k0,.int .i64 n0,.string s0,.slice a0 len0 cap0] 31 w4:=((HX3.out.below (Ac w3)).below hal).but hb (by have:=HGX.out;omega);have hl4:Bx w3.heap.size [.int .i64 k0,.int .i64 n0,.string s0,.slice a0 len0 cap0] 31 w4:=(Bx.new w3.drew _ _).but hb (by have:=HS3.out;have e:w3.drew.heap.size=w3.heap.size:=rfl;omega)
        have ht4:ExP (fun b=>w.heap.size+1<=b/\b ≠ gx) w4 (ps.length - (r1.length+1)) [.int .i64 k0,.int .i64 n0,.string s0,.slice a0 len0 cap0] x:=ExP.stays (w:=w3) (fun _ h=>h) (fun b h hl=>(hb.block b (lle hl hal.size) (by omega) (by omega)).trans (hal.block b hl)) HT3.out;have hgx3:gx<w3.heap.size:=HX3.out.lt;rcases A6 (nmR r1) with⟨er,hN⟩ | ⟨t,r2,hN⟩
        . rw [hN] at hr;obtain⟨rfl,hop⟩:=hr;refine .inl ⟨er,rfl,hb4,?_⟩;rw [HE1.out,hN];exact⟨rfl,hop⟩
        have hE:Cs (m+1) d o ps=Fm f' d o (A3 9 0 t [x]) r2:=by rw [HE1.out,hN]
        have hnl:=Gm hN;rw [hN] at hr;obtain⟨v,rfl,hrd,rfl⟩:=hr;have hfu:=HI.out.fu;have hle:=HI.out.le;simp only [List.length_cons] at hfu hle;exact .inr ⟨bs t,r2,rfl,hx4,_,f',Nat.le_of_succ_le HFM.out,HI.out.turn3 hlt HGX.out hE (by omega) (by simp;omega) hb4 hrd hg4 hx4 (ExP.node (by decide) (by decide) (Dg hnl.2) (SlP.one hl4 ⟨HS3.out,by omega⟩ ht4)) (by omega)⟩
       clear hin;go_wp2_with fail
       go_region_with (first
        | (with_reducible refine Calls.mono HC.out ?_
           rintro e w4 (⟨er,rfl,F⟩ | ⟨TT,r2,rfl,HX4,HNB⟩)
           . go_wp2_with fail
             exact⟨rfl,F.out⟩
           obtain⟨v0,v1,v2,v3,vz0,vz1,vz2,vz3⟩:=HX4.out.four;have hw9:gx<w4.heap.size:=HX4.out.lt;have hv9:¬gx=w4.heap.size:=by omega)
        | (with_reducible refine Calls.mono HC2.out ?_
           rintro e w4 (⟨er,rfl,F⟩ | ⟨TT,r2,rfl,HX4,HNB⟩)
           . go_wp2_with fail
             exact⟨rfl,F.out⟩
           obtain⟨v0,v1,v2,v3,vz0,vz1,vz2,vz3⟩:=HX4.out.four))
       all_goals (go_wp2_with fail;go_roundw;(case rel=>obtain⟨_,_,h1,h2,_⟩:=HNB.out;exact⟨_,_,_,_,_,_,_,_,_,h2,h1⟩);(case measure=>obtain⟨_,_,_,_,h3⟩:=HNB.out;exact h3))
     . have bI:(S.toList == [105,110])=false:=by rw [HST.out];simpa using hin
       have HE1:Hid (Cs (m+1) d o ps=match Cs f' (d+1) o r1 with
        | .error e=> .error e
        | .ok (y,r2)=>Fm f' d o (A3 6 0 q.s [x,y]) r2):=by unfold Hid;rw [HEQ.out,if_neg hin]
       have HC:Hid (Calls prog 68 #[.pointer (some ⟨r,0,none⟩),.int .i64 (d+1)] w3.drew fun e w4=>(∃er,e = .panicked [C2 er]/\Hid (Ce r o w (Cs (m+1) d o ps) (KE w ps.length) (.panicked [C2 er]) w4))\/∃k3 n3 s3 a3 len3 cap3 r2,e = .returned (.agg #[.int .i64 k3,.int .i64 n3,.string s3,.slice a3 len3 cap3])/\Hid (Bx gx [.int .i64 k0,.int .i64 n0,.string s0,.slice a0 len0 cap0] 31 w4)/\Hid (∃x' f'',f''<=m/\Ku r m d o ps w gx (Eb w4 gx (.int .i64 6) (.int .i64 0) (.string S) (.slice (some ⟨w4.heap.size,0,none⟩) 2 2) [.int .i64 k0,.int .i64 n0,.string s0,.slice a0 len0 cap0,.int .i64 k3,.int .i64 n3,.string s3,.slice a3 len3 cap3]) x' r2 f'' [.int .i64 6,.int .i64 0,.string S,(.slice (some ⟨w4.heap.size,0,none⟩) 2 2)]/\left r (Eb w4 gx (.int .i64 6) (.int .i64 0) (.string S) (.slice (some ⟨w4.heap.size,0,none⟩) 2 2) [.int .i64 k0,.int .i64 n0,.string s0,.slice a0 len0 cap0,.int .i64 k3,.int .i64 n3,.string s3,.slice a3 len3 cap3])<left r wr)):=by
        have hfu:=HI.out.fu;have hle:=HI.out.le;have hfm:=HFM.out;simp only [List.length_cons] at hfu hle;refine (HY.out f' (by omega) r (d+1) o r1 w3.drew (HR3.out.below (Ac w3)) (by omega) (by omega) (by omega)).mono ?_;rintro e w4 ⟨hb,hr⟩;have hb4:But r r w w4:=(HB3.out.more (Ac w3)).trans hb;have hg4:Bx w.heap.size [.int .i64 0,.int .i64 0,.string ⟨#[]⟩,.slice none 0 0] 31 w4:=(HG3.out.below (Ac w3)).but hb hlt;have hx4:Bx gx [.int .i64 k0,.int .i64 n0,.string s0,.slice a0 len0 cap0] 31 w4:=(HX3.out.below (Ac w3)).but hb (by have:=HGX.out;omega);have ht4:ExP (fun b=>w.heap.size+1<=b/\b ≠ gx) w4 (ps.length - (r1.length+1)) [.int .i64 k0,.int .i64 n0,.string s0,.slice a0 len0 cap0] x:=ExP.stays (w:=w3) (fun _ h=>h) (fun b h hl=>hb.block b hl (by omega) (by omega)) HT3.out;have hs4:w.heap.size+1<=w4.heap.size:=lq0 HS3.out hb.size;rcases A6 (Cs f' (d+1) o r1) with⟨er,hN⟩ | ⟨y,r2,hN⟩
        . rw [hN] at hr;obtain⟨rfl,hop⟩:=hr;refine .inl ⟨er,rfl,hb4,?_⟩;rw [HE1.out,hN];exact⟨rfl,hop⟩
        have hE:Cs (m+1) d o ps=Fm f' d o (A3 6 0 q.s [x,y]) r2:=by rw [HE1.out,hN]
        rw [hN] at hr;obtain⟨v,rfl,hrd,hl3,cs3,rfl,hx3⟩:=hr;obtain⟨k3,n3,s3,a3,len3,cap3,rfl⟩:=hx3.shape;have hgx3:gx<w3.heap.size:=HX3.out.lt;have hs3:=HS3.out;have hy4:ExP (fun b=>w.heap.size+1<=b/\b ≠ gx) w4 (r1.length - r2.length) [.int .i64 k3,.int .i64 n3,.string s3,.slice a3 len3 cap3] y:=ExP.stays (w:=w4) (fun b h=>by
         have h2:w3.heap.size<=b:=h;exact⟨by omega,by omega⟩) (fun _ _ _=>rfl) hx3
        have hw9:gx<w4.heap.size:=hx4.lt;have hsb:=HSB.out;refine .inr ⟨k3,n3,s3,a3,len3,cap3,r2,rfl,hx4,_,f',by omega,HI.out.turn (h:=(ps.length - (r1.length+1))+(r1.length - r2.length)+1) hlt HGX.out hE (by omega) (by simp;omega) hb4 hrd hg4 hx4 ?_ (by omega)⟩;rw [hsb];exact ExP.node (by decide) (by decide) HFT.out (SlP.two (Qo _ _ _ _ _) ⟨hs4,by omega⟩ ((J1 ht4 _ _ _ _ _).le (by omega)) ((J1 hy4 _ _ _ _ _).le (by omega)))
       have hwr:IntKind.i64.wrap (d+1)=d+1:=by rw [IntKind.wrap_i64];omega
       clear hin;go_wp2_with fail
       go_region_with (
        (try rw [hwr])
        with_reducible refine Calls.mono HC.out ?_
        rintro e w4 (⟨er,rfl,F⟩ | ⟨k3,n3,s3,a3,len3,cap3,r2,rfl,HX4,HNB⟩)
        . go_wp2_with fail
          exact⟨rfl,F.out⟩
        obtain⟨v0,v1,v2,v3,vz0,vz1,vz2,vz3⟩:=HX4.out.four;have hw9:gx<w4.heap.size:=HX4.out.lt;have hv9:¬gx=w4.heap.size:=by omega)
       all_goals (go_wp2_with fail;go_roundw;(case rel=>obtain⟨_,_,h1,h2,_⟩:=HNB.out;exact⟨_,_,_,_,_,_,_,_,_,h2,h1⟩);(case measure=>obtain⟨_,_,_,_,h3⟩:=HNB.out;exact h3))
  . have bL:(L == d)=false:=by simp [hL,hld]
    have HE:Hid (Cs (m+1) d o ps = .ok (x,p)):=by unfold Hid;rw [HI.out.eq,Ng,if_neg hld]
    have HX:Hid (ExP (fun b=>w.heap.size+1<=b) w2 (ps.length - p.length) [.int .i64 k0,.int .i64 n0,.string s0,.slice a0 len0 cap0] x):=HT2.out.stays (fun _ h=>h.1) fun _ _ _=>rfl;have HL:Hid (p.length<ps.length):=HI.out.le;obtain⟨g0,g1,g2,g3,z0,z1,z2,z3⟩:=HG2.out.four;obtain⟨x0,x1,x2,x3,-⟩:=HX2.out.four;clear hbl hL hld HC;go_wp2_with fail
    refine bodyPost_ret (v:= .agg #[.int .i64 k0,.int .i64 n0,.string s0,.slice a0 len0 cap0]) (by simp [results,results68,go_sem,g0,g1,g2,g3]) rfl ?_;exact Lr HE.out HB2.out hlt HR2.out HL.out HX.out lr0
theorem Ag4:(prog.info? 31).map (fun i=>(i.zero,i.size,i.bytes))=some (some (.agg #[.int .i64 0,.int .i64 0,.string ⟨#[]⟩,.slice none 0 0]),4,56):=by kernel_rfl
theorem Ll (f:Nat) (o:Int) (l:List Ex) (ps:List Pc):Fv (f+1) o l ps=if Aj [44] ps then
 match Ax f o ps.tail with
 | .error e=> .error e
 | .ok (x,p1)=>Fv f o (l ++ [x]) p1
 else .ok (l,ps):=by rw [Fv];rfl
structure WsI (r m:Nat) (o:Int) (ps:List Pc) (w wr:World) (v:Value) (l:List Ex) (css:List (List Value)) (p:List Pc) (f:Nat):Prop where
 eq:Bo (m+1) o ps=Fv f o l p
 fu:20 * p.length+10<=f
 fm:f<=m
 le:p.length<ps.length
 cnt:l.length+p.length<=ps.length
 l0:0<l.length
 but:But r r w wr
 rd:Rdr r wr o p
 gr:GrL Yd (ps.length - p.length) w.heap.size 31 4 wr v l css
theorem Ac7 {r m f f':Nat} {o:Int} {ps p p1:List Pc} {w wr w4 w5:World} {v v':Value} {l:List Ex} {css:List (List Value)} {x:Ex} {c:List Value} {ob:Obj} (hlt:r<w.heap.size) (hf:f=f'+1) (HW:WsI r m o ps w wr v l css p f) (hp:p.tail.length+1=p.length)
 (hE:Bo (m+1) o ps=match Ax f' o p.tail with
  | .error e=> .error e
  | .ok (x,p1)=>Fv f' o (l ++ [x]) p1)
 (F:Ax f' o p.tail = .ok (x,p1)/\p1.length<p.tail.length/\But r r w w4/\Rdr r w4 o p1/\GrL Yd (ps.length - p1.length) w.heap.size 31 4 w4 v l css/\ExP (fun b=>w.heap.size<=b/\some b ≠ v.ownBlock) w4 (ps.length - p1.length) c x)
 (hown:w5.ownsRow w.heap.size 31 4 v' (l.length+1) (css.flatten ++ c)) (hg:(w4.alloc ob).grownBy w5 v.ownBlock) (hat:v'.ownBlock=v.ownBlock\/v'.ownBlock=some (w4.alloc ob).heap.size) :
 (∃a len cap,v' = .slice a len cap/\Hid (∃l css p f,WsI r m o ps w w5 v' l css p f))/\left r w5<left r wr:=by
 obtain⟨hN,hl1,hb4,hr4,hg4,hx⟩:=F;have hal:Below w4.heap.size w4 (w4.alloc ob):=br0.alloc lr0 _;have hcl:c.length=4:=by obtain⟨k,n,s,a,len,cap,rfl⟩:=hx.shape;rfl
 have hgr:=hg4.push Nl hal hcl hx hown hg hat;have hrow:=fun k (hk:v.ownBlock=some k)=>hg4.row.lt k hk;have hlow:Below (r+1) w4 w5:=by
  refine⟨hg.os.trans hal.os,hg.tape.trans hal.tape,hg.output.trans hal.output,lq0 hal.size hg.size,fun k hk=>?_⟩;have:=hr4.lt;refine (hg.block k (lle (by omega) hal.size) (fun e=>?_)).trans (hal.block k (by omega));have:=(hrow k e.symm).1;omega
 have hb5:But r r w w5:=by
  refine⟨hg.os.trans (hal.os.trans hb4.os),hg.tape.trans (hal.tape.trans hb4.tape),hg.output.trans (hal.output.trans hb4.output),lq0 hb4.size (lq0 hal.size hg.size),fun k hk h1 h2=>?_⟩;have hk4:k<w4.heap.size:=lle hk hb4.size;refine ((hg.block k (lle hk4 hal.size) (fun e=>?_)).trans (hal.block k hk4)).trans (hb4.block k hk h1 h2);have:=(hrow k e.symm).1;omega
 have hr5:=hr4.low hlow;have h1:=HW.fu;have h2:=HW.fm;have h3:=HW.le;have h4:=HW.cnt;refine⟨?_,?_⟩
 . have hsh:∃a len cap,v' = .slice a len cap:=by
    rcases hown.2 with⟨rfl,_⟩ | ⟨g,cap,cur,rfl,_⟩
    . exact⟨_,_,_,rfl⟩
    . exact⟨_,_,_,rfl⟩
   obtain⟨a,len,cap,rfl⟩:=hsh;refine⟨a,len,cap,rfl,l ++ [x],css ++ [c],p1,f',?_⟩;exact⟨by rw [hE,hN],by omega,by omega,by omega,by simp;omega,by simp,hb5,hr5,hgr⟩
 . rw [hr5.left,HW.rd.left];omega
set_option maxRecDepth 100000 in
theorem Xe {m:Nat} (hY:∀m',m'<=m->Ei m'):Kn (m+1):=by
 intro r o ps w h hm;have HY:Hid (∀m',m'<=m->Ei m'):=hY;have hlt:=h.lt;obtain⟨i0,hi,hz0,hz1,hz2⟩:=info_parts Ag4;have HI:Hid (prog.info? 31=some i0/\i0.zero=some (.agg #[.int .i64 0,.int .i64 0,.string ⟨#[]⟩,.slice none 0 0])/\i0.size=4/\i0.bytes=56):=⟨hi,hz0,hz1,hz2⟩;clear hi hz0 hz1 hz2 hY;have hps:ps.length<=6000:=by obtain⟨v,_,a,cap,_,_,h3,_⟩:=h.pcs;exact h3
 have HC:Hid (Calls prog 42 #[.pointer (some ⟨r,0,none⟩)] w fun e w1=>(∃er,e = .panicked [C2 er]/\Hid (Ce r o w (Bo (m+1) o ps) (KL w ps.length) (.panicked [C2 er]) w1))\/∃k1 n1 s1 a1 len1 cap1,e = .returned (.agg #[.int .i64 k1,.int .i64 n1,.string s1,.slice a1 len1 cap1])/\Hid (∃l css p f,WsI r m o ps w (w1.alloc (.cells #[.int .i64 k1,.int .i64 n1,.string s1,.slice a1 len1 cap1] 31)) (.slice (some ⟨w1.heap.size,0,none⟩) 1 1) l css p f)):=by
  refine (HY.out m lr0 r o ps w h (by omega)).mono ?_;rintro e w1 ⟨hb,hr⟩;rcases A6 (Ax m o ps) with⟨er,hN⟩ | ⟨x,p1,hN⟩
  . rw [hN] at hr;obtain⟨rfl,hop⟩:=hr;refine .inl ⟨er,rfl,hb,?_⟩;rw [Bo,hN];exact⟨rfl,hop⟩
  . rw [hN] at hr;obtain⟨v,rfl,hrd,hl1,cs1,rfl,hx1⟩:=hr;obtain⟨k1,n1,s1,a1,len1,cap1,rfl⟩:=hx1.shape;have hal:Below w1.heap.size w1 (w1.alloc (.cells #[.int .i64 k1,.int .i64 n1,.string s1,.slice a1 len1 cap1] 31)):=br0.alloc lr0 _;refine .inr ⟨k1,n1,s1,a1,len1,cap1,rfl,[x],[[.int .i64 k1,.int .i64 n1,.string s1,.slice a1 len1 cap1]],p1,m,?_⟩;refine⟨by rw [Bo,hN],by omega,Nat.le_refl _,hl1,by simp;omega,by simp,hb.more hal,hrd.below hal,?_⟩;refine GrL.lit (Bx.new w1 _ _) hb.size rfl ?_ Nl;exact ExP.stays (fun b hb=>⟨hb.1,by have:=hb.2;omega⟩) (fun b _ hlt=>hal.block b hlt) hx1.old
 clear h;go_enter func116,ntmps116
 go_wp2_with fail
 refine Calls.mono HC.out ?_;rintro e w1 (⟨er,rfl,F⟩ | ⟨k1,n1,s1,a1,len1,cap1,rfl,HI0⟩)
 . go_wp2_with fail
   exact⟨rfl,F.out⟩
 clear HC;go_wp2_with fail
 go_loopw [3] (fun v wr=>∃a len cap,v = .slice a len cap/\Hid (∃l css p f,WsI r m o ps w wr v l css p f)) (fun _ wr=>left r wr)
 case atStart=>exact⟨_,_,_,rfl,HI0.out⟩
 case round =>
  obtain⟨a,len,cap,rfl,HI1⟩:=hrel;obtain⟨l,css,p,f,HW0⟩:=HI1.out;have HW:Hid (WsI r m o ps w wr _ l css p f):=HW0;have HC:Hid _:=C8 r o [44] p wr HW0.rd;clear HI0 HI1 HW0;obtain⟨f',hf'⟩:∃f',f=f'+1:=⟨f - 1,by have:=HW.out.fu;omega⟩;cases hb:Aj [44] p with
  | false =>
   rw [hb] at HC;have HE:Hid (Bo (m+1) o ps = .ok (l,p)):=by unfold Hid;rw [HW.out.eq,hf',Ll,hb];rfl
   clear hb;go_wp2_with fail
   refine Calls.mono HC.out ?_;rintro e w3 ⟨rfl,h1,h2⟩;have HF:Hid (Ce r o w (Bo (m+1) o ps) (KL w ps.length) (.returned (.slice a len cap)) w3):=by
    refine⟨HW.out.but.trans h2,?_⟩;rw [HE.out];have hg:=(HW.out.gr.but Nl lr0 h2 hlt).slp Nl (by decide) (by have:=HW.out.cnt;unfold maxLen;omega);exact⟨_,rfl,by simpa using h1,HW.out.le,HW.out.l0,hg⟩
   clear h1 h2;go_wp2_with fail
   go_ret
   exact HF.out
  | true =>
   rw [hb] at HC;have HE:Hid (Bo (m+1) o ps=match Ax f' o p.tail with
    | .error e=> .error e
    | .ok (x,p1)=>Fv f' o (l ++ [x]) p1):=by unfold Hid;rw [HW.out.eq,hf',Ll,hb];rfl
   have HP:Hid (p.tail.length+1=p.length):=by
    cases p with
    | nil=>simp [Aj] at hb
    | cons q p=>simp [Hid]
   clear hb;go_wp2_with fail
   refine Calls.mono HC.out ?_;rintro e w3 ⟨rfl,h1,h2⟩;have hr3:Rdr r w3 o p.tail:=by simpa using h1
   have HR3:Hid (Rdr r w3 o p.tail):=hr3;have HB3:Hid (But r r w w3):=HW.out.but.trans h2;have HG3:Hid (GrL Yd (ps.length - p.length) w.heap.size 31 4 w3 (.slice a len cap) l css):=HW.out.gr.but Nl lr0 h2 hlt;clear h1 h2 HC hr3;have HC:Hid (Calls prog 42 #[.pointer (some ⟨r,0,none⟩)] w3 fun e w4=>(∃er,e = .panicked [C2 er]/\Hid (Ce r o w (Bo (m+1) o ps) (KL w ps.length) (.panicked [C2 er]) w4))\/∃k1 n1 s1 a1 len1 cap1 x p1,e = .returned (.agg #[.int .i64 k1,.int .i64 n1,.string s1,.slice a1 len1 cap1])/\Hid (Ax f' o p.tail = .ok (x,p1)/\p1.length<p.tail.length/\But r r w w4/\Rdr r w4 o p1/\GrL Yd (ps.length - p1.length) w.heap.size 31 4 w4 (.slice a len cap) l css/\ExP (fun b=>w.heap.size<=b/\some b ≠ (Value.slice a len cap).ownBlock) w4 (ps.length - p1.length) [.int .i64 k1,.int .i64 n1,.string s1,.slice a1 len1 cap1] x)):=by
    have hfu:=HW.out.fu;have hfm:=HW.out.fm;have hp:=HP.out;have hple:=HW.out.le;refine (HY.out f' (by omega) r o p.tail w3 HR3.out (by omega)).mono ?_;rintro e w4 ⟨hb,hr⟩;rcases A6 (Ax f' o p.tail) with⟨er,hN⟩ | ⟨x,p1,hN⟩
    . rw [hN] at hr;obtain⟨rfl,hop⟩:=hr;refine .inl ⟨er,rfl,HB3.out.trans hb,?_⟩;rw [HE.out,hN];exact⟨rfl,hop⟩
    . rw [hN] at hr;obtain⟨v,rfl,hrd,hl1,cs1,rfl,hx1⟩:=hr;obtain⟨k1,n1,s1,a1,len1,cap1,rfl⟩:=hx1.shape;refine .inr ⟨k1,n1,s1,a1,len1,cap1,x,p1,rfl,hN,hl1,HB3.out.trans hb,hrd,HG3.out.but Nl (by omega) hb hlt,?_⟩;refine (ExP.stays (w:=w4) (fun b h=>⟨lq0 HB3.out.size h,fun e=>?_⟩) (fun _ _ _=>rfl) hx1).le (by omega);have:=(HG3.out.row.lt b e.symm).2;have h2:w3.heap.size<=b:=h;omega
   go_wp2_with fail
   refine Calls.mono HC.out ?_;rintro e w4 (⟨er,rfl,F⟩ | ⟨k1,n1,s1,a1,len1,cap1,x,p1,rfl,F⟩)
   . go_wp2_with fail
     exact⟨rfl,F.out⟩
   clear HC;have HLN:Hid (len=l.length):=by
    rcases F.out.2.2.2.2.1.row.2 with⟨h1,h2⟩ | ⟨_,_,_,h1,_⟩
    . cases h1;exact h2.symm
    . cases h1;rfl
   have HRW:Hid (w4.ownsRow w.heap.size 31 4 (.slice a len cap) l.length css.flatten):=F.out.2.2.2.2.1.row;have HCT:Hid (l.length<=6000):=by have:=HW.out.cnt;unfold Hid;omega
   have HSZ:Hid (w.heap.size<=w4.heap.size):=F.out.2.2.1.size
   go_wp2_with (first
    | (at_builtin;refine wpList_append_own_at _ rfl _ _ 29 rfl w.heap.size 31 i0 (.agg #[.int .i64 0,.int .i64 0,.string ⟨#[]⟩,.slice none 0 0]) 4 56 underlying29 HI.out.1 HI.out.2.1 HI.out.2.2.1 HI.out.2.2.2 rfl (by decide) (.slice a len cap) l.length css.flatten rfl (HRW.out.alloc _) ⟨w4.heap.size,0,none⟩ 1 1 [.int .i64 k1,.int .i64 n1,.string s1,.slice a1 len1 cap1] rfl rfl (D6 _ _ _) (by intro u hu;simp at hu;rcases hu with rfl | rfl | rfl | rfl <;> rfl) (by have:=HCT.out;unfold maxLen;omega) (by have:=HCT.out;omega) (by simp;exact Nat.le_succ_of_le HSZ.out) ?_;intro v' w5 hown hgrow _ hloc;have HOWN:Hid (World.ownsRow w5 _ _ _ v' _ _):=hown;have HGROW:Hid (World.grownBy _ w5 _):=hgrow;have HNX:Hid ((∃a len cap,v' = .slice a len cap/\Hid (∃l css p f,WsI r m o ps w w5 v' l css p f))/\left r w5<left r wr):=Ac7 hlt hf' HW.out HP.out HE.out F.out hown hgrow hloc;clear hown hgrow hloc))
   go_roundw
   case rel=>exact HNX.out.1
   case measure=>exact HNX.out.2
end Go.Proofs.YtppcohadoilpgaaGreatDoor
