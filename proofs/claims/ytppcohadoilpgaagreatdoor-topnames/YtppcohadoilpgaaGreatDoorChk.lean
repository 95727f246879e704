/-
  The checker of package syntax in memory: its three cells and its map of names; what a call may turn (those two blocks, and new ones); how a call that looks at a part ends. / Contracts of syntax.level, isOperator and argsOf: what the tables say of a text. / Contracts of the checker's node and name.
-/
import Derived.Test.YtppcohadoilpgaaGreatDoorCkMem
import Derived.Test.YtppcohadoilpgaaGreatDoorTabs
import Derived.Maps.OwnOps
import Derived.Maps.Views
import Derived.Maps.OwnSet
import Derived.WalkLawsBesides
import Derived.PlainAid
namespace Go.Proofs.YtppcohadoilpgaaGreatDoor
open Go.ChangeShapes Go.WideShapes Go.ChangeAt Go.RowKit Go.Joins Go.Maps Go.Proofs.Tryz
structure But (bc bm:Nat) (w w':World):Prop where
 os:w'.os=w.os
 tape:w'.tape=w.tape
 output:w'.output=w.output
 size:w.heap.size<=w'.heap.size
 block:∀k,k<w.heap.size->k ≠ bc->k ≠ bm->w'.heap[k]? = w.heap[k]?
theorem But.refl (bc bm:Nat) (w:World):But bc bm w w:=⟨rfl,rfl,rfl,Nat.le_refl _,fun _ _ _ _=>rfl⟩
theorem But.trans {bc bm:Nat} {a b c:World} (h:But bc bm a b) (k:But bc bm b c):But bc bm a c :=
 ⟨k.os.trans h.os,k.tape.trans h.tape,k.output.trans h.output,lq0 h.size k.size,fun i hi h1 h2=>(k.block i (lle hi h.size) h1 h2).trans (h.block i hi h1 h2)⟩
theorem But.of_below {bc bm:Nat} {w w':World} (h:Below w.heap.size w w'):But bc bm w w':=⟨h.os,h.tape,h.output,h.size,fun k hk _ _=>h.block k hk⟩
theorem But.more {bc bm:Nat} {a w w':World} (h:But bc bm a w) (k:Below w.heap.size w w'):But bc bm a w':=h.trans (But.of_below k)
theorem But.alloc {bc bm:Nat} {a w:World} (h:But bc bm a w) (o:Obj):But bc bm a (w.alloc o):=h.more (br0.alloc lr0 o)
theorem But.below {bc bm B:Nat} {w w':World} (h:But bc bm w w') (hs:B<=w.heap.size) (h1:B<=bc) (h2:B<=bm):Below B w w' :=
 ⟨h.os,h.tape,h.output,h.size,fun k hk=>h.block k (by omega) (by omega) (by omega)⟩
theorem But.cell {bc bm:Nat} {w w':World} (h:But bc bm w w') {b:Nat} (hb:b<w.heap.size) (h1:b ≠ bc) (h2:b ≠ bm) (o:Nat):w'.cell? ⟨b,o,none⟩=w.cell? ⟨b,o,none⟩ :=
 World.cell?_of_block (a:=⟨b,o,none⟩) (h.block b hb h1 h2)
theorem But.set {bc bm:Nat} {a w:World} (h:But bc bm a w) (o:Nat) (v:Value):But bc bm a (w.setCell ⟨bc,o,none⟩ v) :=
 h.trans ⟨rfl,rfl,rfl,by simp [World.setCell],fun k _ h1 _=>Below.heap_setCell _ _ _ _ (by simpa using h1)⟩
theorem But.grown {bc bm:Nat} {a w w':World} (h:But bc bm a w) (hg:w.grownBy w' (some bm)):But bc bm a w' :=
 h.trans ⟨hg.os,hg.tape,hg.output,hg.size,fun k hk _ h2=>hg.block k hk (by simpa using h2)⟩
structure Tb (B:Nat) (w:World):Prop where
 words:12<B/\Ao w 12 Ig
 levels:6<B/\Ao w 6 Ed
 funcs:3<B/\Ao w 3 Fd
 args:1<B/\Ao w 1 (J8 Hv)
 exprs:4<B/\Ao w 4 (J8 Fy)
theorem Tb.below {B:Nat} {w w':World} (h:Tb B w) (hb:Below B w w'):Tb B w' :=
 ⟨⟨h.words.1,h.words.2.stays (hb.block _ h.words.1)⟩,⟨h.levels.1,h.levels.2.stays (hb.block _ h.levels.1)⟩,⟨h.funcs.1,h.funcs.2.stays (hb.block _ h.funcs.1)⟩,⟨h.args.1,h.args.2.stays (hb.block _ h.args.1)⟩,⟨h.exprs.1,h.exprs.2.stays (hb.block _ h.exprs.1)⟩⟩
structure Chk (bc bm:Nat) (when:Int) (w:World) (st:St) (j:Nat):Prop where
 ne:bc ≠ bm
 c0:w.cell? ⟨bc,0,none⟩=some (.map (some bm))
 c1:w.cell? ⟨bc,1,none⟩=some (.int .i64 st.nodes)
 c2:w.cell? ⟨bc,2,none⟩=some (.int .i64 when)
 f1:w.frozen? ⟨bc,1,none⟩=false
 f2:w.frozen? ⟨bc,2,none⟩=false
 lo:0<=st.nodes
 hi:st.nodes<=4000
 map:∃(n:Nat) (D:DataW Unit),n+j<=2 * st.nodes.toNat/\w.ownsMap prog 9 (plainElem prog 3) bm n D/\∀s:ByteArray,D.atKey (.string s.data.toList) (.lit (.int .i64 0)) = .lit (.int .i64 (st.nm s))
theorem Chk.lt {bc bm:Nat} {when:Int} {w:World} {st:St} {j:Nat} (h:Chk bc bm when w st j):bc<w.heap.size/\bm<w.heap.size:=by
 obtain⟨n,D,_,hm,_⟩:=h.map;exact⟨World.block_lt_of_cell? w ⟨bc,0,none⟩ h.c0,hm.lt⟩
theorem Aq {H:Type} {w w':World} {P:Program} {k:TypeId} {R:Value->Option (DataW H × List MemPlace)} {b n:Nat} {D:DataW H} (h:w.ownsMap P k R b n D) (hb:w'.heap[b]? = w.heap[b]?):w'.ownsMap P k R b n D:=by
 obtain⟨es,clock,h1,r⟩:=h;exact⟨es,clock,hb.trans h1,r⟩
theorem Chk.blocks {bc bm:Nat} {when:Int} {w w':World} {st:St} {j:Nat} (h:Chk bc bm when w st j) (h1:w'.heap[bc]? = w.heap[bc]?) (h2:w'.heap[bm]? = w.heap[bm]?):Chk bc bm when w' st j:=by
 obtain⟨n,D,h3,h4,h5⟩:=h.map;exact⟨h.ne,(World.cell?_of_block (a:=⟨bc,0,none⟩) h1).trans h.c0,(World.cell?_of_block (a:=⟨bc,1,none⟩) h1).trans h.c1,(World.cell?_of_block (a:=⟨bc,2,none⟩) h1).trans h.c2,
  (World.frozen?_of_block (a:=⟨bc,1,none⟩) h1).trans h.f1,(World.frozen?_of_block (a:=⟨bc,2,none⟩) h1).trans h.f2,h.lo,h.hi,n,D,h3,Aq h4 h2,h5⟩
theorem Chk.below {bc bm:Nat} {when:Int} {w w':World} {st:St} {j:Nat} (h:Chk bc bm when w st j) (hb:Below w.heap.size w w'):Chk bc bm when w' st j :=
 h.blocks (hb.block _ h.lt.1) (hb.block _ h.lt.2)
theorem Chk.alloc {bc bm:Nat} {when:Int} {w:World} {st:St} {j:Nat} (h:Chk bc bm when w st j) (o:Obj):Chk bc bm when (w.alloc o) st j:=h.below (br0.alloc lr0 o)
theorem Chk.less {bc bm:Nat} {when:Int} {w:World} {st:St} {j i:Nat} (h:Chk bc bm when w st j) (hi:i<=j):Chk bc bm when w st i:=by
 obtain⟨n,D,h3,h4⟩:=h.map;exact { h with map:=⟨n,D,by omega,h4⟩ }
def C2 (e:Int):PanicEntry:={ v:= .iface 40 (.int .i64 e),recovered:=false }
def Out (bc bm:Nat) (when:Int) (j:Nat) (w:World) (R:Res) (r:Ending) (w':World):Prop :=
 But bc bm w w'/\match R with
  | .ok st=>r = .returned (.tuple #[])/\Chk bc bm when w' st j
  | .error e=>r = .panicked [C2 e]
theorem Af (e:Int) (w:World):Calls prog 22 #[.bool false,.int .i64 e] w fun r w'=>r = .returned (.tuple #[])/\w'=w:=by
 go_enter func22,ntmps22
 go_wp2
 go_end0
 exact⟨rfl,rfl⟩
theorem Al (e:Int) (w:World):Calls prog 22 #[.bool true,.int .i64 e] w fun r w'=>r = .panicked [C2 e]/\w'=w:=by
 go_enter func22,ntmps22
 go_wp2
 exact⟨rfl,rfl,rfl⟩
end Go.Proofs.YtppcohadoilpgaaGreatDoor
namespace Go.Proofs.YtppcohadoilpgaaGreatDoor
open Go.ChangeShapes Go.WideShapes Go.ChangeAt Go.RowKit Go.Joins Go.Proofs.Tryz
set_option maxHeartbeats 1000000
theorem Wa (l:List (List UInt8 × Int)) (k:Nat) (hk:k<l.length):((l.flatMap F8).drop (k * 2)).take 2=F8 l[k]:=by
 induction l generalizing k with
 | nil=>exact absurd hk (Nat.not_lt_zero _)
 | cons y l ih =>
  cases k with
  | zero=>simp [F8]
  | succ k =>
   rw [show (k+1) * 2=2+k * 2 by omega,<-List.drop_drop];simpa [F8] using ih k (by simpa using hk)
theorem Pt (l:List (List UInt8 × Int)) (k:Nat) (hk:k<l.length):(l.flatMap F8).toArray.toList.toArray.extract (k * 2) (k * 2+2) = #[.string ⟨(l.getD k ([],0)).1.toArray⟩,.int .i64 (l.getD k ([],0)).2]:=by
 have h:=Wa l k hk
 apply Array.ext'
 simp only [Array.toList_extract,List.extract_eq_take_drop];rw [show k * 2+2 - k * 2=2 by omega];simpa [F8,List.getD,gee hk] using h
def Fs (l:List (List UInt8 × Int)) (s:ByteArray):Int:=((l.find? fun p=>p.1 == s.toList).map (·.2)).getD 0
theorem Lb {l:List (List UInt8 × Int)} {s:ByteArray} (h:∀q,q<l.length->¬(l.getD q ([],0)).1=s.toList):Fs l s=0:=by
 have:l.find? (fun p=>p.1 == s.toList)=none:=by
  rw [List.find?_eq_none];intro p hp;obtain⟨q,hq,e⟩:=List.getElem_of_mem hp;have:=h q hq;simp only [List.getD,gee hq,Option.getD_some,e] at this;simpa using this
 simp [Fs,this]
theorem Q9 {l:List (List UInt8 × Int)} {s:ByteArray} {k:Nat} (hk:k<l.length) (he:(l.getD k ([],0)).1=s.toList) (h:∀q,q<k->¬(l.getD q ([],0)).1=s.toList):Fs l s=(l.getD k ([],0)).2:=by
 induction l generalizing k with
 | nil=>exact absurd hk (Nat.not_lt_zero _)
 | cons y l ih =>
  cases k with
  | zero =>
   have h1:(y.1 == s.toList)=true:=by simpa [List.getD] using he
   simp [Fs,h1,List.getD]
  | succ k =>
   have h0:(y.1 == s.toList)=false:=by simpa [List.getD] using h 0 (by omega)
   have:=ih (k:=k) (by simpa using hk) (by simpa [List.getD] using he) (fun q hq=>by simpa [List.getD] using h (q+1) (by omega));simp only [Fs,List.find?_cons,h0] at this ⊢;rw [this];simp [List.getD]
set_option maxRecDepth 4000 in
theorem Vf (s:ByteArray) (w:World) (hR:Ao w 6 Ed) :
 Calls prog 122 #[.string s] w fun e w'=>e = .returned (.int .i64 (Fs Cp s))/\Below w.heap.size w w':=by
 have hr:w.rangeAt 6 0 Ed.toList:=fun j v hv=>by rw [Nat.zero_add,hR.cell j];simpa using hv
 obtain⟨A,hA⟩:∃A,A=Ed.toList:=⟨_,rfl⟩;rw [<-hA] at hr;have hn:(prog.info? 204).map (·.size)=some A.length:=by rw [hA];kernel_rfl
 have HR:Hid (w.rangeAt 6 0 A):=hr;have HN:Hid ((prog.info? 204).map (·.size)=some A.length):=hn;have HA:Hid (A=Ed.toList):=hA;clear hA hr hn hR;go_enter func122,ntmps122
 go_wp2_with (refine wpList_load_mid rfl 204 _ rfl 6 0 rfl A _ HR.out underlying204 rfl HN.out ?_)
 go_loopw [6] (fun v wr=>∃k:Nat,k<=15/\v = .int .i64 k/\Hid (Below w.heap.size w wr/\∀q,q<k->¬(Cp.getD q ([],0)).1=s.toList)) (fun v _=>15 - (intOf v).toNat)
 case atStart=>exact⟨0,by omega,rfl,Below.refl _ _,fun q hq=>absurd hq (Nat.not_lt_zero _)⟩
 case round =>
  obtain⟨k,hk,rfl,HQ⟩:=hrel
  by_cases hk2:k<15
  . have i1:(k:Int)<15:=by omega
    obtain⟨x,hx⟩:∃x:ByteArray,x = ⟨(Cp.getD k ([],0)).1.toArray⟩:=⟨_,rfl⟩;obtain⟨y,hy⟩:∃y:Int,y=(Cp.getD k ([],0)).2:=⟨_,rfl⟩;have hxl:x.toList=(Cp.getD k ([],0)).1:=by rw [hx,ByteArray.toList_eq]
    have HX:Hid (x.toList=(Cp.getD k ([],0)).1):=hxl;have HY:Hid (y=(Cp.getD k ([],0)).2):=hy;have hix:=fun wr=>F1 (P:=prog) (cs:=A.toArray) (x:= .string x) (y:= .int .i64 y) wr underlying204 underlying203 rfl (by kernel_rfl) hk2 (by
     rw [HA.out,hx,hy];exact Pt Cp k hk2)
    clear hx hxl hy
    by_cases he:x.toList=s.toList
    . have hb:(x.toList == s.toList)=true:=by simp [he]
      have HE:Hid (Fs Cp s=y):=by
       rw [HY.out];exact Q9 hk2 (HX.out.symm.trans he) HQ.out.2
      clear he;go_wp2
      go_ret
      exact⟨A4 HE.out.symm,HQ.out.1.alloc HQ.out.1.size _⟩
    . have hb:(x.toList == s.toList)=false:=by simp [he]
      have HE:Hid (¬(Cp.getD k ([],0)).1=s.toList):=fun h=>he (HX.out.trans h);clear he;go_wp2
      go_roundw
      case rel=>exact⟨k+1,by omega,by go_num,HQ.out.1.alloc HQ.out.1.size _,fun q hq=>by
       by_cases e:q=k
       . subst e;exact HE.out
       . exact HQ.out.2 q (by omega)⟩
      case measure=>simp [intOf];omega
  . have i1:¬(k:Int)<15:=by omega
    go_wp2
    go_ret
    exact⟨A4 (Lb fun q hq=>HQ.out.2 q (by have:q<15:=hq;omega)).symm,HQ.out.1⟩
set_option maxRecDepth 4000 in
theorem Ip (s:ByteArray) (w:World) (hR:Ao w 3 Fd) :
 Calls prog 100 #[.string s] w fun e w'=>e = .returned (.int .i64 (Fs Dp s))/\Below w.heap.size w w':=by
 have hr:w.rangeAt 3 0 Fd.toList:=fun j v hv=>by rw [Nat.zero_add,hR.cell j];simpa using hv
 obtain⟨A,hA⟩:∃A,A=Fd.toList:=⟨_,rfl⟩;rw [<-hA] at hr;have hn:(prog.info? 174).map (·.size)=some A.length:=by rw [hA];kernel_rfl
 have HR:Hid (w.rangeAt 3 0 A):=hr;have HN:Hid ((prog.info? 174).map (·.size)=some A.length):=hn;have HA:Hid (A=Fd.toList):=hA;clear hA hr hn hR;go_enter func100,ntmps100
 go_wp2_with (refine wpList_load_mid rfl 174 _ rfl 3 0 rfl A _ HR.out underlying174 rfl HN.out ?_)
 go_loopw [6] (fun v wr=>∃k:Nat,k<=3/\v = .int .i64 k/\Hid (Below w.heap.size w wr/\∀q,q<k->¬(Dp.getD q ([],0)).1=s.toList)) (fun v _=>3 - (intOf v).toNat)
 case atStart=>exact⟨0,by omega,rfl,Below.refl _ _,fun q hq=>absurd hq (Nat.not_lt_zero _)⟩
 case round =>
  obtain⟨k,hk,rfl,HQ⟩:=hrel
  by_cases hk2:k<3
  . have i1:(k:Int)<3:=by omega
    obtain⟨x,hx⟩:∃x:ByteArray,x = ⟨(Dp.getD k ([],0)).1.toArray⟩:=⟨_,rfl⟩;obtain⟨y,hy⟩:∃y:Int,y=(Dp.getD k ([],0)).2:=⟨_,rfl⟩;have hxl:x.toList=(Dp.getD k ([],0)).1:=by rw [hx,ByteArray.toList_eq]
    have HX:Hid (x.toList=(Dp.getD k ([],0)).1):=hxl;have HY:Hid (y=(Dp.getD k ([],0)).2):=hy;have hix:=fun wr=>F1 (P:=prog) (cs:=A.toArray) (x:= .string x) (y:= .int .i64 y) wr underlying174 underlying173 rfl (by kernel_rfl) hk2 (by
     rw [HA.out,hx,hy];exact Pt Dp k hk2)
    clear hx hxl hy
    by_cases he:x.toList=s.toList
    . have hb:(x.toList == s.toList)=true:=by simp [he]
      have HE:Hid (Fs Dp s=y):=by
       rw [HY.out];exact Q9 hk2 (HX.out.symm.trans he) HQ.out.2
      clear he;go_wp2
      go_ret
      exact⟨A4 HE.out.symm,HQ.out.1.alloc HQ.out.1.size _⟩
    . have hb:(x.toList == s.toList)=false:=by simp [he]
      have HE:Hid (¬(Dp.getD k ([],0)).1=s.toList):=fun h=>he (HX.out.trans h);clear he;go_wp2
      go_roundw
      case rel=>exact⟨k+1,by omega,by go_num,HQ.out.1.alloc HQ.out.1.size _,fun q hq=>by
       by_cases e:q=k
       . subst e;exact HE.out
       . exact HQ.out.2 q (by omega)⟩
      case measure=>simp [intOf];omega
  . have i1:¬(k:Int)<3:=by omega
    go_wp2
    go_ret
    exact⟨A4 (Lb fun q hq=>HQ.out.2 q (by have:q<3:=hq;omega)).symm,HQ.out.1⟩
theorem Kp (s:ByteArray):Fs Dp s=Dn s:=by
 unfold Fs Dn Dp;generalize s.toList=l
 by_cases h1:l = [108,101,110,103,116,104]
 . subst h1;rfl
 by_cases h2:l = [105,110,100,101,120]
 . subst h2;rfl
 by_cases h3:l = [115,117,98,115,116,114]
 . subst h3;rfl
 have k1:([108,101,110,103,116,104] == l)=false:=by simpa using fun h=>h1 h.symm
 have k2:([105,110,100,101,120] == l)=false:=by simpa using fun h=>h2 h.symm
 have k3:([115,117,98,115,116,114] == l)=false:=by simpa using fun h=>h3 h.symm
 simp [k1,k2,k3,h1,h2,h3]
theorem Adf (s:ByteArray):Fs Cp s=if s.toList = [105,110] then 3 else lvl s:=by
 unfold Fs lvl Cp;generalize s.toList=l
 by_cases h0:l = [124,124]
 . subst h0;rfl
 by_cases h1:l = [38,38]
 . subst h1;rfl
 by_cases h2:l = [60]
 . subst h2;rfl
 by_cases h3:l = [60,61]
 . subst h3;rfl
 by_cases h4:l = [61,61]
 . subst h4;rfl
 by_cases h5:l = [33,61]
 . subst h5;rfl
 by_cases h6:l = [62]
 . subst h6;rfl
 by_cases h7:l = [62,61]
 . subst h7;rfl
 by_cases h8:l = [105,110]
 . subst h8;rfl
 by_cases h9:l = [46,46]
 . subst h9;rfl
 by_cases h10:l = [43]
 . subst h10;rfl
 by_cases h11:l = [45]
 . subst h11;rfl
 by_cases h12:l = [42]
 . subst h12;rfl
 by_cases h13:l = [47]
 . subst h13;rfl
 by_cases h14:l = [37]
 . subst h14;rfl
 have k0:([124,124] == l)=false:=by simpa using fun h=>h0 h.symm
 have k1:([38,38] == l)=false:=by simpa using fun h=>h1 h.symm
 have k2:([60] == l)=false:=by simpa using fun h=>h2 h.symm
 have k3:([60,61] == l)=false:=by simpa using fun h=>h3 h.symm
 have k4:([61,61] == l)=false:=by simpa using fun h=>h4 h.symm
 have k5:([33,61] == l)=false:=by simpa using fun h=>h5 h.symm
 have k6:([62] == l)=false:=by simpa using fun h=>h6 h.symm
 have k7:([62,61] == l)=false:=by simpa using fun h=>h7 h.symm
 have k8:([105,110] == l)=false:=by simpa using fun h=>h8 h.symm
 have k9:([46,46] == l)=false:=by simpa using fun h=>h9 h.symm
 have k10:([43] == l)=false:=by simpa using fun h=>h10 h.symm
 have k11:([45] == l)=false:=by simpa using fun h=>h11 h.symm
 have k12:([42] == l)=false:=by simpa using fun h=>h12 h.symm
 have k13:([47] == l)=false:=by simpa using fun h=>h13 h.symm
 have k14:([37] == l)=false:=by simpa using fun h=>h14 h.symm
 simp [k0,k1,k2,k3,k4,k5,k6,k7,k8,k9,k10,k11,k12,k13,k14,h0,h1,h2,h3,h4,h5,h6,h7,h8,h9,h10,h11,h12,h13,h14]
theorem Pk (s:ByteArray) (w:World) (hR:Ao w 6 Ed) :
 Calls prog 102 #[.string s] w fun e w'=>e = .returned (.bool (decide (0<lvl s)))/\Below w.heap.size w w':=by
 have HR:Hid (Ao w 6 Ed):=hR;clear hR
 by_cases h:s.toList = [105,110]
 . have hb:(s.toList == [105,110])=true:=by simp [h]
   have HL:Hid (lvl s=0):=by simp [Hid,lvl,h]
   clear h;go_enter func102,ntmps102
   go_wp2_with fail
   go_ret
   exact⟨Am (by rw [HL.out];rfl),Below.refl _ _⟩
 . have hb:(s.toList == [105,110])=false:=by simpa using h
   have HL:Hid (Fs Cp s=lvl s):=by rw [Adf,if_neg h];rfl
   clear h;go_enter func102,ntmps102
   go_wp2_with fail
   refine (Vf s _ HR.out).mono ?_;rintro e w1 ⟨rfl,hb1⟩;rw [HL.out];have HB:Hid (Below w.heap.size w w1):=hb1;clear hb1;go_wp2_with fail
   go_ret
   exact⟨rfl,HB.out⟩
end Go.Proofs.YtppcohadoilpgaaGreatDoor
namespace Go.Proofs.YtppcohadoilpgaaGreatDoor
open Go.ChangeShapes Go.WideShapes Go.ChangeAt Go.RowKit Go.Joins Go.Maps Go.WideMaps Go.Proofs.Tryz
set_option maxHeartbeats 2000000
theorem Yv (bc bm:Nat) (when d:Int) (st:St) (w:World) (h:Chk bc bm when w st 0) :
 Calls prog 71 #[.pointer (some ⟨bc,0,none⟩),.int .i64 d] w (Out bc bm when 2 w (B6 d st)):=by
 have c1:=h.c1;have f1:=h.f1;have l1:=h.lo;have l2:=h.hi;have H:Hid (Chk bc bm when w st 0):=h;clear h;have hw:wrap64 (st.nodes+1)=st.nodes+1:=by unfold wrap64;omega
 have hwr:IntKind.i64.wrap (st.nodes+1)=st.nodes+1:=by rw [Go.PlainAid.i64_is];exact hw
 have HO:Hid (But bc bm w (w.setCell ⟨bc,1,none⟩ (.int .i64 (st.nodes+1)))):=(But.refl _ _ _).set 1 _
 by_cases h1:4000<st.nodes+1
 . have HP:Hid (B6 d st = .error 1):=by simp [Hid,B6,h1]
   go_enter func71,ntmps71
   go_wp2_with fail
   refine (Al 1 _).mono ?_;rintro e w1 ⟨rfl,rfl⟩;go_wp2_with fail
   refine⟨rfl,?_⟩;rw [HP.out];exact⟨HO.out,rfl⟩
 . by_cases h2:20<d
   . have HP:Hid (B6 d st = .error 1):=by simp [Hid,B6,h2]
     go_enter func71,ntmps71
     go_wp2_with fail
     refine (Al 1 _).mono ?_;rintro e w1 ⟨rfl,rfl⟩;go_wp2_with fail
     refine⟨rfl,?_⟩;rw [HP.out];exact⟨HO.out,rfl⟩
   . have HP:Hid (B6 d st = .ok ⟨st.nm,st.nodes+1⟩):=by simp [Hid,B6,h1,h2]
     go_enter func71,ntmps71
     go_wp2_with fail
     refine (Af 1 _).mono ?_;rintro e w1 ⟨rfl,rfl⟩;go_wp2_with fail
     go_end0
     rw [HP.out];refine⟨HO.out,rfl,?_⟩;obtain⟨n,D,g1,g2,g3⟩:=H.out.map;have hb:=H.out.lt;exact⟨H.out.ne,(World.cell?_setCell_other _ _ _ _ (by simp)).trans H.out.c0,World.cell?_setCell_same _ _ _ H.out.c1,(World.cell?_setCell_other _ _ _ _ (by simp)).trans H.out.c2,by simp [H.out.f1],by simp [H.out.f2],by show 0<=st.nodes+1;omega,by show st.nodes+1<=4000;omega,n,D,by show n+2<=2 * (st.nodes+1).toNat;omega,
      Aq g2 (Below.heap_setCell _ _ _ _ (by simpa using H.out.ne.symm)),g3⟩
theorem law:Keyed prog 9:=string_keyed underlying9
theorem Vv (w:World):(zeroValue 3).run prog w = .ok (.int .i64 0) w:=by kernel_rfl
theorem Aev {s t:ByteArray} (h:t ≠ s):(Lit.string t.data.toList) ≠ .string s.data.toList:=fun e=>h (by
 simp only [Lit.string.injEq] at e;have:t.data=s.data:=Array.ext' e;cases t;cases s;simp_all)
theorem Ds (B bc bm j:Nat) (when:Int) (s:ByteArray) (kind:Int) (st:St) (w:World) (h:Chk bc bm when w st (j+1)) (hT:Tb B w) (hs:s.size<=maxLen) (hk:kind=1\/kind=2) :
 Calls prog 101 #[.pointer (some ⟨bc,0,none⟩),.string s,.int .i64 kind] w (Out bc bm when j w (Bh s kind st)):=by
 have c0:=h.c0;have H:Hid (Chk bc bm when w st (j+1)):=h;have HT:Hid (Tb B w):=hT;have HS:Hid (s.size<=maxLen):=hs;obtain⟨n,D,g1,g2,g3⟩:=h.map;have l2:=h.hi;have HM:Hid (w.ownsMap prog 9 (plainElem prog 3) bm n D):=g2;have HG:Hid (∀s:ByteArray,D.atKey (.string s.data.toList) (.lit (.int .i64 0)) = .lit (.int .i64 (st.nm s))):=g3;have hn:n<maxLen:=by unfold maxLen;omega
 have HN:Hid (n<maxLen):=hn;have HL:Hid (n+(j+1)<=2 * st.nodes.toNat):=g1;have HKD:Hid (kind=1\/kind=2):=hk;clear h hT g2 g3 g1 hn l2 hs hk;cases hb:Ct s
 . have HP:Hid (Bh s kind st = .error 4):=by simp [Hid,Bh,hb]
   go_enter func101,ntmps101
   go_wp2_with fail
   refine (Jo s _ HS.out HT.out.words.2).mono ?_;rintro e w1 ⟨rfl,rfl⟩;rw [hb];go_wp2_with fail
   refine (Al 4 _).mono ?_;rintro e w1 ⟨rfl,rfl⟩;go_wp2_with fail
   refine⟨rfl,?_⟩;rw [HP.out];exact⟨But.refl _ _ _,rfl⟩
 . by_cases hz:st.nm s=0
   . have HP:Hid (Bh s kind st = .ok ⟨fun t=>if t=s then kind else st.nm t,st.nodes⟩):=by simp [Hid,Bh,hb,hz]
     have HZ:Hid (st.nm s=0):=hz;have hne:bc ≠ bm:=H.out.ne;have HW:Hid ((Lit.int .i64 kind).wf=true):=(show (Lit.int .i64 kind).wf=true by rcases HKD.out with h | h <;> rw [h] <;> decide);have HI:Hid (IsMap D):=(World.ownsMap.tidy HM.out law).isMap;clear hz;go_enter func101,ntmps101
     go_wp2_with fail
     refine (Jo s _ HS.out HT.out.words.2).mono ?_;rintro e w1 ⟨rfl,rfl⟩;rw [hb];go_wp2_with fail
     refine (Af 4 _).mono ?_;rintro e w1 ⟨rfl,rfl⟩
     go_wp2_with (first
      | (at_lookup;refine wpList_lookup_own_int _ rfl _ _ 77 rfl 9 3 .i64 law underlying77 underlying3 (Vv _) bm n D rfl HM.out _ _ rfl (keyOf_string_mk underlying9 HS.out) ?_;intro c hat _;obtain rfl:c=0:=(by rw [HG.out s,HZ.out] at hat;simpa using hat.symm);clear hat)
      | (at_lookup;refine wpList_lookup_own_int _ rfl _ _ 77 rfl 9 3 .i64 law underlying77 underlying3 (Vv _) bm (n+1) (D.put _ _) rfl HO2.out _ _ rfl (keyOf_string_mk underlying9 HS.out) ?_;intro c hat _;obtain rfl:kind=c:=(by rw [atKey_put_same HI.out (by trivial)] at hat;simpa using hat);clear hat)
      | (at_mapUpdate;refine wpList_mapUpdate_own _ rfl _ _ _ 77 rfl 9 3 law underlying77 _ bm n D rfl HM.out HN.out _ _ _ rfl rfl (keyOf_string_mk underlying9 HS.out) _ [] (plainElem_int underlying3 HW.out) ?_;intro w2 hown hgrow;have HO2:Hid (World.ownsMap w2 _ _ _ _ _ _):=hown;have HG2:Hid (World.grownBy _ w2 _):=hgrow;have c02:=hgrow.cell c0 (by simpa using hne);clear hown hgrow))
     refine (Af 6 _).mono ?_;rintro e w3 ⟨rfl,rfl⟩;go_wp2_with fail
     go_end0
     rw [HP.out];refine⟨(But.refl _ _ _).grown HG2.out,rfl,?_⟩;have bb:=HG2.out.block bc H.out.lt.1 (by simpa using hne);exact⟨hne,c02,(World.cell?_of_block (a:=⟨bc,1,none⟩) bb).trans H.out.c1,(World.cell?_of_block (a:=⟨bc,2,none⟩) bb).trans H.out.c2,(World.frozen?_of_block (a:=⟨bc,1,none⟩) bb).trans H.out.f1,(World.frozen?_of_block (a:=⟨bc,2,none⟩) bb).trans H.out.f2,H.out.lo,H.out.hi,
      n+1,_,by have:=HL.out;show n+1+j<=2 * st.nodes.toNat;omega,HO2.out,fun t=>by
       by_cases ht:t=s
       . subst ht;rw [atKey_put_same HI.out (by trivial)];simp
       . rw [atKey_put_other (Aev ht),HG.out t];simp [ht]⟩
   . by_cases hq:st.nm s=kind
     . have HP:Hid (Bh s kind st = .ok st):=by unfold Hid Bh;rw [if_neg (by simp [hb]),if_neg hz,if_pos hq]
       have HZ:Hid (st.nm s=kind):=hq;have hk0:¬kind=0:=by rw [<-hq];exact hz
       clear hz hq;go_enter func101,ntmps101
       go_wp2_with fail
       refine (Jo s _ HS.out HT.out.words.2).mono ?_;rintro e w1 ⟨rfl,rfl⟩;rw [hb];go_wp2_with fail
       refine (Af 4 _).mono ?_;rintro e w1 ⟨rfl,rfl⟩;go_wp2_with (at_lookup;refine wpList_lookup_own_int _ rfl _ _ 77 rfl 9 3 .i64 law underlying77 underlying3 (Vv _) bm n D rfl HM.out _ _ rfl (keyOf_string_mk underlying9 HS.out) ?_;intro c hat _;obtain rfl:kind=c:=(by rw [HG.out s,HZ.out] at hat;simpa using hat);clear hat)
       refine (Af 6 _).mono ?_;rintro e w3 ⟨rfl,rfl⟩;go_wp2_with fail
       go_end0
       rw [HP.out];exact⟨But.refl _ _ _,rfl,H.out.less (by omega)⟩
     . have HP:Hid (Bh s kind st = .error 6):=by simp [Hid,Bh,hb,hz,hq]
       obtain⟨q,hq2⟩:∃q,st.nm s=q:=⟨_,rfl⟩;have HZ:Hid (st.nm s=q):=hq2;rw [hq2] at hz hq;have hn1:(q != kind)=true:=by simpa using hq
       clear hq2;go_enter func101,ntmps101
       go_wp2_with fail
       refine (Jo s _ HS.out HT.out.words.2).mono ?_;rintro e w1 ⟨rfl,rfl⟩;rw [hb];go_wp2_with fail
       refine (Af 4 _).mono ?_;rintro e w1 ⟨rfl,rfl⟩;go_wp2_with (at_lookup;refine wpList_lookup_own_int _ rfl _ _ 77 rfl 9 3 .i64 law underlying77 underlying3 (Vv _) bm n D rfl HM.out _ _ rfl (keyOf_string_mk underlying9 HS.out) ?_;intro c hat _;obtain rfl:q=c:=(by rw [HG.out s,HZ.out] at hat;simpa using hat);clear hat)
       refine (Al 6 _).mono ?_;rintro e w3 ⟨rfl,rfl⟩;go_wp2_with fail
       refine⟨rfl,?_⟩;rw [HP.out];exact⟨But.refl _ _ _,rfl⟩
end Go.Proofs.YtppcohadoilpgaaGreatDoor
