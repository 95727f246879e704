/-
  The checker of package syntax in memory: its three cells and its map of names; what a call may turn (those two blocks, and new ones); how a call that looks at a part ends. / Contracts of syntax.level, isOperator and argsOf: what the tables say of a text. / Contracts of the checker's node and name.
-/
import Derived.Test.YtodjbffhlklpkaaGreatDoorCkMem
import Derived.Test.YtodjbffhlklpkaaGreatDoorTabs
import Derived.Maps.OwnOps
import Derived.Maps.Views
import Derived.Maps.OwnSet
import Derived.WalkLawsBesides
import Derived.PlainAid
namespace Go.Proofs.YtodjbffhlklpkaaGreatDoor
open Go.ChangeShapes Go.WideShapes Go.ChangeAt Go.RowKit Go.Joins Go.Maps
structure But (bc bm:Nat) (w w':World):Prop where
 os:w'.os=w.os
 tape:w'.tape=w.tape
 output:w'.output=w.output
 size:w.heap.size<=w'.heap.size
 block:∀k,k<w.heap.size->k ≠ bc->k ≠ bm->w'.heap[k]? = w.heap[k]?
theorem But.refl (bc bm:Nat) (w:World):But bc bm w w:=⟨rfl,rfl,rfl,Nat.le_refl _,fun _ _ _ _=>rfl⟩
theorem But.trans {bc bm:Nat} {a b c:World} (h:But bc bm a b) (k:But bc bm b c):But bc bm a c :=
 ⟨k.os.trans h.os,k.tape.trans h.tape,k.output.trans h.output,Nat.le_trans h.size k.size,fun i hi h1 h2=>(k.block i (Nat.lt_of_lt_of_le hi h.size) h1 h2).trans (h.block i hi h1 h2)⟩
theorem But.of_below {bc bm:Nat} {w w':World} (h:Below w.heap.size w w'):But bc bm w w':=⟨h.os,h.tape,h.output,h.size,fun k hk _ _=>h.block k hk⟩
theorem But.more {bc bm:Nat} {a w w':World} (h:But bc bm a w) (k:Below w.heap.size w w'):But bc bm a w':=h.trans (But.of_below k)
theorem But.alloc {bc bm:Nat} {a w:World} (h:But bc bm a w) (o:Obj):But bc bm a (w.alloc o):=h.more ((Below.refl _ _).alloc (Nat.le_refl _) o)
theorem But.below {bc bm B:Nat} {w w':World} (h:But bc bm w w') (hs:B<=w.heap.size) (h1:B<=bc) (h2:B<=bm):Below B w w' :=
 ⟨h.os,h.tape,h.output,h.size,fun k hk=>h.block k (by omega) (by omega) (by omega)⟩
theorem But.cell {bc bm:Nat} {w w':World} (h:But bc bm w w') {b:Nat} (hb:b<w.heap.size) (h1:b ≠ bc) (h2:b ≠ bm) (o:Nat):w'.cell? ⟨b,o,none⟩=w.cell? ⟨b,o,none⟩ :=
 World.cell?_of_block (a:=⟨b,o,none⟩) (h.block b hb h1 h2)
theorem But.set {bc bm:Nat} {a w:World} (h:But bc bm a w) (o:Nat) (v:Value):But bc bm a (w.setCell ⟨bc,o,none⟩ v) :=
 h.trans ⟨rfl,rfl,rfl,by simp [World.setCell],fun k _ h1 _=>Below.heap_setCell _ _ _ _ (by simpa using h1)⟩
theorem But.grown {bc bm:Nat} {a w w':World} (h:But bc bm a w) (hg:w.grownBy w' (some bm)):But bc bm a w' :=
 h.trans ⟨hg.os,hg.tape,hg.output,hg.size,fun k hk _ h2=>hg.block k hk (by simpa using h2)⟩
structure Tb (B:Nat) (w:World):Prop where
 words:12<B/\RowAt w 12 wordsA
 levels:5<B/\RowAt w 5 levelsA
 funcs:6<B/\RowAt w 6 funcsA
 args:3<B/\RowAt w 3 (intsA argsL)
 exprs:7<B/\RowAt w 7 (intsA exprsL)
theorem Tb.below {B:Nat} {w w':World} (h:Tb B w) (hb:Below B w w'):Tb B w' :=
 ⟨⟨h.words.1,h.words.2.stays (hb.block _ h.words.1)⟩,⟨h.levels.1,h.levels.2.stays (hb.block _ h.levels.1)⟩,⟨h.funcs.1,h.funcs.2.stays (hb.block _ h.funcs.1)⟩,⟨h.args.1,h.args.2.stays (hb.block _ h.args.1)⟩,⟨h.exprs.1,h.exprs.2.stays (hb.block _ h.exprs.1)⟩⟩
structure Chk (bc bm:Nat) (when:Int) (w:World) (st:St) (j:Nat):Prop where
 ne:bc ≠ bm
 c0:w.cell? ⟨bc,0,none⟩=some (.map (some bm))
 c1:w.cell? ⟨bc,1,none⟩=some (.int .i64 st.nodes)
 c2:w.cell? ⟨bc,2,none⟩=some (.int .i64 when)
 f1:w.frozen? ⟨bc,1,none⟩=false
 f2:w.frozen? ⟨bc,2,none⟩=false
 lo:0<=st.nodes
 hi:st.nodes<=4000
 map:∃(n:Nat) (D:DataW Unit),n+j<=2 * st.nodes.toNat/\w.ownsMap Tryz.prog 9 (plainElem Tryz.prog 3) bm n D/\∀s:ByteArray,D.atKey (.string s.data.toList) (.lit (.int .i64 0)) = .lit (.int .i64 (st.nm s))
theorem Chk.lt {bc bm:Nat} {when:Int} {w:World} {st:St} {j:Nat} (h:Chk bc bm when w st j):bc<w.heap.size/\bm<w.heap.size:=by
 obtain⟨n,D,_,hm,_⟩:=h.map
 exact⟨World.block_lt_of_cell? w ⟨bc,0,none⟩ h.c0,hm.lt⟩
theorem ownsMap_block {H:Type} {w w':World} {P:Program} {k:TypeId} {R:Value->Option (DataW H × List MemPlace)} {b n:Nat} {D:DataW H} (h:w.ownsMap P k R b n D) (hb:w'.heap[b]? = w.heap[b]?):w'.ownsMap P k R b n D:=by
 obtain⟨es,clock,h1,r⟩:=h
 exact⟨es,clock,hb.trans h1,r⟩
theorem Chk.blocks {bc bm:Nat} {when:Int} {w w':World} {st:St} {j:Nat} (h:Chk bc bm when w st j) (h1:w'.heap[bc]? = w.heap[bc]?) (h2:w'.heap[bm]? = w.heap[bm]?):Chk bc bm when w' st j:=by
 obtain⟨n,D,h3,h4,h5⟩:=h.map
 exact⟨h.ne,(World.cell?_of_block (a:=⟨bc,0,none⟩) h1).trans h.c0,(World.cell?_of_block (a:=⟨bc,1,none⟩) h1).trans h.c1,(World.cell?_of_block (a:=⟨bc,2,none⟩) h1).trans h.c2,
  (World.frozen?_of_block (a:=⟨bc,1,none⟩) h1).trans h.f1,(World.frozen?_of_block (a:=⟨bc,2,none⟩) h1).trans h.f2,h.lo,h.hi,n,D,h3,ownsMap_block h4 h2,h5⟩
theorem Chk.below {bc bm:Nat} {when:Int} {w w':World} {st:St} {j:Nat} (h:Chk bc bm when w st j) (hb:Below w.heap.size w w'):Chk bc bm when w' st j :=
 h.blocks (hb.block _ h.lt.1) (hb.block _ h.lt.2)
theorem Chk.alloc {bc bm:Nat} {when:Int} {w:World} {st:St} {j:Nat} (h:Chk bc bm when w st j) (o:Obj):Chk bc bm when (w.alloc o) st j:=h.below ((Below.refl _ _).alloc (Nat.le_refl _) o)
theorem Chk.less {bc bm:Nat} {when:Int} {w:World} {st:St} {j i:Nat} (h:Chk bc bm when w st j) (hi:i<=j):Chk bc bm when w st i:=by
 obtain⟨n,D,h3,h4⟩:=h.map
 exact { h with map:=⟨n,D,by omega,h4⟩ }
def errP (e:Int):PanicEntry:={ v:= .iface 28 (.int .i64 e),recovered:=false }
def Out (bc bm:Nat) (when:Int) (j:Nat) (w:World) (R:Res) (r:Ending) (w':World):Prop :=
 But bc bm w w'/\match R with
  | .ok st=>r = .returned (.tuple #[])/\Chk bc bm when w' st j
  | .error e=>r = .panicked [errP e]
theorem refuse_f (e:Int) (w:World):Calls Tryz.prog 18 #[.bool false,.int .i64 e] w fun r w'=>r = .returned (.tuple #[])/\w'=w:=by
 go_enter Tryz.func18,Tryz.ntmps18
 go_wp2
 go_end0
 exact⟨rfl,rfl⟩
theorem refuse_t (e:Int) (w:World):Calls Tryz.prog 18 #[.bool true,.int .i64 e] w fun r w'=>r = .panicked [errP e]/\w'=w:=by
 go_enter Tryz.func18,Tryz.ntmps18
 go_wp2
 exact⟨rfl,rfl,rfl⟩
end Go.Proofs.YtodjbffhlklpkaaGreatDoor
namespace Go.Proofs.YtodjbffhlklpkaaGreatDoor
open Go.ChangeShapes Go.WideShapes Go.ChangeAt Go.RowKit Go.Joins
set_option maxHeartbeats 1000000
theorem flat_pair (l:List (List UInt8 × Int)) (k:Nat) (hk:k<l.length):((l.flatMap pairV).drop (k * 2)).take 2=pairV l[k]:=by
 induction l generalizing k with
 | nil=>exact absurd hk (Nat.not_lt_zero _)
 | cons y l ih =>
  cases k with
  | zero=>simp [pairV]
  | succ k =>
   rw [show (k+1) * 2=2+k * 2 by omega,<-List.drop_drop]
   simpa [pairV] using ih k (by simpa using hk)
theorem pair_at (l:List (List UInt8 × Int)) (k:Nat) (hk:k<l.length):(l.flatMap pairV).toArray.toList.toArray.extract (k * 2) (k * 2+2) = #[.string ⟨(l.getD k ([],0)).1.toArray⟩,.int .i64 (l.getD k ([],0)).2]:=by
 have h:=flat_pair l k hk
 apply Array.ext'
 simp only [Array.toList_extract,List.extract_eq_take_drop]
 rw [show k * 2+2 - k * 2=2 by omega]
 simpa [pairV,List.getD,List.getElem?_eq_getElem hk] using h
def findP (l:List (List UInt8 × Int)) (s:ByteArray):Int:=((l.find? fun p=>p.1 == s.toList).map (·.2)).getD 0
theorem findP_none {l:List (List UInt8 × Int)} {s:ByteArray} (h:∀q,q<l.length->¬(l.getD q ([],0)).1=s.toList):findP l s=0:=by
 have:l.find? (fun p=>p.1 == s.toList)=none:=by
  rw [List.find?_eq_none]
  intro p hp
  obtain⟨q,hq,e⟩:=List.getElem_of_mem hp
  have:=h q hq
  simp only [List.getD,List.getElem?_eq_getElem hq,Option.getD_some,e] at this
  simpa using this
 simp [findP,this]
theorem findP_at {l:List (List UInt8 × Int)} {s:ByteArray} {k:Nat} (hk:k<l.length) (he:(l.getD k ([],0)).1=s.toList) (h:∀q,q<k->¬(l.getD q ([],0)).1=s.toList):findP l s=(l.getD k ([],0)).2:=by
 induction l generalizing k with
 | nil=>exact absurd hk (Nat.not_lt_zero _)
 | cons y l ih =>
  cases k with
  | zero =>
   have h1:(y.1 == s.toList)=true:=by simpa [List.getD] using he
   simp [findP,h1,List.getD]
  | succ k =>
   have h0:(y.1 == s.toList)=false:=by simpa [List.getD] using h 0 (by omega)
   have:=ih (k:=k) (by simpa using hk) (by simpa [List.getD] using he) (fun q hq=>by simpa [List.getD] using h (q+1) (by omega))
   simp only [findP,List.find?_cons,h0] at this ⊢
   rw [this]
   simp [List.getD]
set_option maxRecDepth 4000 in
theorem level_c (s:ByteArray) (w:World) (hR:RowAt w 5 levelsA) :
 Calls Tryz.prog 116 #[.string s] w fun e w'=>e = .returned (.int .i64 (findP levelsL s))/\Below w.heap.size w w':=by
 have hr:w.rangeAt 5 0 levelsA.toList:=fun j v hv=>by rw [Nat.zero_add,hR.cell j];simpa using hv
 obtain⟨A,hA⟩:∃A,A=levelsA.toList:=⟨_,rfl⟩
 rw [<-hA] at hr
 have hn:(Tryz.prog.info? 190).map (·.size)=some A.length:=by rw [hA];kernel_rfl
 have HR:Hid (w.rangeAt 5 0 A):=hr
 have HN:Hid ((Tryz.prog.info? 190).map (·.size)=some A.length):=hn
 have HA:Hid (A=levelsA.toList):=hA
 clear hA hr hn hR
 go_enter Tryz.func116,Tryz.ntmps116
 go_wp2_with (refine wpList_load_mid rfl 190 _ rfl 5 0 rfl A _ HR.out Tryz.underlying190 rfl HN.out ?_)
 go_loopw [6] (fun v wr=>∃k:Nat,k<=15/\v = .int .i64 k/\Hid (Below w.heap.size w wr/\∀q,q<k->¬(levelsL.getD q ([],0)).1=s.toList)) (fun v _=>15 - (intOf v).toNat)
 case atStart=>exact⟨0,by omega,rfl,Below.refl _ _,fun q hq=>absurd hq (Nat.not_lt_zero _)⟩
 case round =>
  obtain⟨k,hk,rfl,HQ⟩:=hrel
  by_cases hk2:k<15
  . have i1:(k:Int)<15:=by omega
    obtain⟨x,hx⟩:∃x:ByteArray,x = ⟨(levelsL.getD k ([],0)).1.toArray⟩:=⟨_,rfl⟩
    obtain⟨y,hy⟩:∃y:Int,y=(levelsL.getD k ([],0)).2:=⟨_,rfl⟩
    have hxl:x.toList=(levelsL.getD k ([],0)).1:=by rw [hx,ByteArray.toList_eq]
    have HX:Hid (x.toList=(levelsL.getD k ([],0)).1):=hxl
    have HY:Hid (y=(levelsL.getD k ([],0)).2):=hy
    have hix:=fun wr=>run_index_two (P:=Tryz.prog) (cs:=A.toArray) (x:= .string x) (y:= .int .i64 y) wr Tryz.underlying190 Tryz.underlying189 rfl (by kernel_rfl) hk2 (by
     rw [HA.out,hx,hy]
     exact pair_at levelsL k hk2)
    clear hx hxl hy
    by_cases he:x.toList=s.toList
    . have hb:(x.toList == s.toList)=true:=by simp [he]
      have HE:Hid (findP levelsL s=y):=by
       rw [HY.out]
       exact findP_at hk2 (HX.out.symm.trans he) HQ.out.2
      clear he
      go_wp2
      go_ret
      exact⟨ret_int HE.out.symm,HQ.out.1.alloc HQ.out.1.size _⟩
    . have hb:(x.toList == s.toList)=false:=by simp [he]
      have HE:Hid (¬(levelsL.getD k ([],0)).1=s.toList):=fun h=>he (HX.out.trans h)
      clear he
      go_wp2
      go_roundw
      case rel=>exact⟨k+1,by omega,by go_num,HQ.out.1.alloc HQ.out.1.size _,fun q hq=>by
       by_cases e:q=k
       . subst e;exact HE.out
       . exact HQ.out.2 q (by omega)⟩
      case measure=>simp [intOf];omega
  . have i1:¬(k:Int)<15:=by omega
    go_wp2
    go_ret
    exact⟨ret_int (findP_none fun q hq=>HQ.out.2 q (by have:q<15:=hq;omega)).symm,HQ.out.1⟩
set_option maxRecDepth 4000 in
theorem argsOf_c (s:ByteArray) (w:World) (hR:RowAt w 6 funcsA) :
 Calls Tryz.prog 118 #[.string s] w fun e w'=>e = .returned (.int .i64 (findP funcsL s))/\Below w.heap.size w w':=by
 have hr:w.rangeAt 6 0 funcsA.toList:=fun j v hv=>by rw [Nat.zero_add,hR.cell j];simpa using hv
 obtain⟨A,hA⟩:∃A,A=funcsA.toList:=⟨_,rfl⟩
 rw [<-hA] at hr
 have hn:(Tryz.prog.info? 192).map (·.size)=some A.length:=by rw [hA];kernel_rfl
 have HR:Hid (w.rangeAt 6 0 A):=hr
 have HN:Hid ((Tryz.prog.info? 192).map (·.size)=some A.length):=hn
 have HA:Hid (A=funcsA.toList):=hA
 clear hA hr hn hR
 go_enter Tryz.func118,Tryz.ntmps118
 go_wp2_with (refine wpList_load_mid rfl 192 _ rfl 6 0 rfl A _ HR.out Tryz.underlying192 rfl HN.out ?_)
 go_loopw [6] (fun v wr=>∃k:Nat,k<=3/\v = .int .i64 k/\Hid (Below w.heap.size w wr/\∀q,q<k->¬(funcsL.getD q ([],0)).1=s.toList)) (fun v _=>3 - (intOf v).toNat)
 case atStart=>exact⟨0,by omega,rfl,Below.refl _ _,fun q hq=>absurd hq (Nat.not_lt_zero _)⟩
 case round =>
  obtain⟨k,hk,rfl,HQ⟩:=hrel
  by_cases hk2:k<3
  . have i1:(k:Int)<3:=by omega
    obtain⟨x,hx⟩:∃x:ByteArray,x = ⟨(funcsL.getD k ([],0)).1.toArray⟩:=⟨_,rfl⟩
    obtain⟨y,hy⟩:∃y:Int,y=(funcsL.getD k ([],0)).2:=⟨_,rfl⟩
    have hxl:x.toList=(funcsL.getD k ([],0)).1:=by rw [hx,ByteArray.toList_eq]
    have HX:Hid (x.toList=(funcsL.getD k ([],0)).1):=hxl
    have HY:Hid (y=(funcsL.getD k ([],0)).2):=hy
    have hix:=fun wr=>run_index_two (P:=Tryz.prog) (cs:=A.toArray) (x:= .string x) (y:= .int .i64 y) wr Tryz.underlying192 Tryz.underlying191 rfl (by kernel_rfl) hk2 (by
     rw [HA.out,hx,hy]
     exact pair_at funcsL k hk2)
    clear hx hxl hy
    by_cases he:x.toList=s.toList
    . have hb:(x.toList == s.toList)=true:=by simp [he]
      have HE:Hid (findP funcsL s=y):=by
       rw [HY.out]
       exact findP_at hk2 (HX.out.symm.trans he) HQ.out.2
      clear he
      go_wp2
      go_ret
      exact⟨ret_int HE.out.symm,HQ.out.1.alloc HQ.out.1.size _⟩
    . have hb:(x.toList == s.toList)=false:=by simp [he]
      have HE:Hid (¬(funcsL.getD k ([],0)).1=s.toList):=fun h=>he (HX.out.trans h)
      clear he
      go_wp2
      go_roundw
      case rel=>exact⟨k+1,by omega,by go_num,HQ.out.1.alloc HQ.out.1.size _,fun q hq=>by
       by_cases e:q=k
       . subst e;exact HE.out
       . exact HQ.out.2 q (by omega)⟩
      case measure=>simp [intOf];omega
  . have i1:¬(k:Int)<3:=by omega
    go_wp2
    go_ret
    exact⟨ret_int (findP_none fun q hq=>HQ.out.2 q (by have:q<3:=hq;omega)).symm,HQ.out.1⟩
theorem asks_is (s:ByteArray):findP funcsL s=asksN s:=by
 unfold findP asksN funcsL
 generalize s.toList=l
 by_cases h1:l = [108,101,110,103,116,104]
 . subst h1;rfl
 by_cases h2:l = [105,110,100,101,120]
 . subst h2;rfl
 by_cases h3:l = [115,117,98,115,116,114]
 . subst h3;rfl
 have k1:([108,101,110,103,116,104] == l)=false:=by simpa using fun h=>h1 h.symm
 have k2:([105,110,100,101,120] == l)=false:=by simpa using fun h=>h2 h.symm
 have k3:([115,117,98,115,116,114] == l)=false:=by simpa using fun h=>h3 h.symm
 simp [k1,k2,k3,h1,h2,h3]
theorem lv_is (s:ByteArray):findP levelsL s=if s.toList = [105,110] then 3 else lvl s:=by
 unfold findP lvl levelsL
 generalize s.toList=l
 by_cases h0:l = [124,124]
 . subst h0;rfl
 by_cases h1:l = [38,38]
 . subst h1;rfl
 by_cases h2:l = [60]
 . subst h2;rfl
 by_cases h3:l = [60,61]
 . subst h3;rfl
 by_cases h4:l = [61,61]
 . subst h4;rfl
 by_cases h5:l = [33,61]
 . subst h5;rfl
 by_cases h6:l = [62]
 . subst h6;rfl
 by_cases h7:l = [62,61]
 . subst h7;rfl
 by_cases h8:l = [105,110]
 . subst h8;rfl
 by_cases h9:l = [46,46]
 . subst h9;rfl
 by_cases h10:l = [43]
 . subst h10;rfl
 by_cases h11:l = [45]
 . subst h11;rfl
 by_cases h12:l = [42]
 . subst h12;rfl
 by_cases h13:l = [47]
 . subst h13;rfl
 by_cases h14:l = [37]
 . subst h14;rfl
 have k0:([124,124] == l)=false:=by simpa using fun h=>h0 h.symm
 have k1:([38,38] == l)=false:=by simpa using fun h=>h1 h.symm
 have k2:([60] == l)=false:=by simpa using fun h=>h2 h.symm
 have k3:([60,61] == l)=false:=by simpa using fun h=>h3 h.symm
 have k4:([61,61] == l)=false:=by simpa using fun h=>h4 h.symm
 have k5:([33,61] == l)=false:=by simpa using fun h=>h5 h.symm
 have k6:([62] == l)=false:=by simpa using fun h=>h6 h.symm
 have k7:([62,61] == l)=false:=by simpa using fun h=>h7 h.symm
 have k8:([105,110] == l)=false:=by simpa using fun h=>h8 h.symm
 have k9:([46,46] == l)=false:=by simpa using fun h=>h9 h.symm
 have k10:([43] == l)=false:=by simpa using fun h=>h10 h.symm
 have k11:([45] == l)=false:=by simpa using fun h=>h11 h.symm
 have k12:([42] == l)=false:=by simpa using fun h=>h12 h.symm
 have k13:([47] == l)=false:=by simpa using fun h=>h13 h.symm
 have k14:([37] == l)=false:=by simpa using fun h=>h14 h.symm
 simp [k0,k1,k2,k3,k4,k5,k6,k7,k8,k9,k10,k11,k12,k13,k14,h0,h1,h2,h3,h4,h5,h6,h7,h8,h9,h10,h11,h12,h13,h14]
theorem isOperator_c (s:ByteArray) (w:World) (hR:RowAt w 5 levelsA) :
 Calls Tryz.prog 120 #[.string s] w fun e w'=>e = .returned (.bool (decide (0<lvl s)))/\Below w.heap.size w w':=by
 have HR:Hid (RowAt w 5 levelsA):=hR
 clear hR
 by_cases h:s.toList = [105,110]
 . have hb:(s.toList == [105,110])=true:=by simp [h]
   have HL:Hid (lvl s=0):=by simp [Hid,lvl,h]
   clear h
   go_enter Tryz.func120,Tryz.ntmps120
   go_wp2_with fail
   go_ret
   exact⟨ret_bool (by rw [HL.out];rfl),Below.refl _ _⟩
 . have hb:(s.toList == [105,110])=false:=by simpa using h
   have HL:Hid (findP levelsL s=lvl s):=by rw [lv_is,if_neg h];rfl
   clear h
   go_enter Tryz.func120,Tryz.ntmps120
   go_wp2_with fail
   refine (level_c s _ HR.out).mono ?_
   rintro e w1 ⟨rfl,hb1⟩
   rw [HL.out]
   have HB:Hid (Below w.heap.size w w1):=hb1
   clear hb1
   go_wp2_with fail
   go_ret
   exact⟨rfl,HB.out⟩
end Go.Proofs.YtodjbffhlklpkaaGreatDoor
namespace Go.Proofs.YtodjbffhlklpkaaGreatDoor
open Go.ChangeShapes Go.WideShapes Go.ChangeAt Go.RowKit Go.Joins Go.Maps Go.WideMaps
set_option maxHeartbeats 2000000
theorem node_c (bc bm:Nat) (when d:Int) (st:St) (w:World) (h:Chk bc bm when w st 0) :
 Calls Tryz.prog 90 #[.pointer (some ⟨bc,0,none⟩),.int .i64 d] w (Out bc bm when 2 w (partR d st)):=by
 have c1:=h.c1
 have f1:=h.f1
 have l1:=h.lo
 have l2:=h.hi
 have H:Hid (Chk bc bm when w st 0):=h
 clear h
 have hw:wrap64 (st.nodes+1)=st.nodes+1:=by unfold wrap64;omega
 have hwr:IntKind.i64.wrap (st.nodes+1)=st.nodes+1:=by rw [Go.PlainAid.i64_is];exact hw
 have HO:Hid (But bc bm w (w.setCell ⟨bc,1,none⟩ (.int .i64 (st.nodes+1)))):=(But.refl _ _ _).set 1 _
 by_cases h1:4000<st.nodes+1
 . have HP:Hid (partR d st = .error 1):=by simp [Hid,partR,h1]
   go_enter Tryz.func90,Tryz.ntmps90
   go_wp2_with fail
   refine (refuse_t 1 _).mono ?_
   rintro e w1 ⟨rfl,rfl⟩
   go_wp2_with fail
   refine⟨rfl,?_⟩
   rw [HP.out]
   exact⟨HO.out,rfl⟩
 . by_cases h2:20<d
   . have HP:Hid (partR d st = .error 1):=by simp [Hid,partR,h2]
     go_enter Tryz.func90,Tryz.ntmps90
     go_wp2_with fail
     refine (refuse_t 1 _).mono ?_
     rintro e w1 ⟨rfl,rfl⟩
     go_wp2_with fail
     refine⟨rfl,?_⟩
     rw [HP.out]
     exact⟨HO.out,rfl⟩
   . have HP:Hid (partR d st = .ok ⟨st.nm,st.nodes+1⟩):=by simp [Hid,partR,h1,h2]
     go_enter Tryz.func90,Tryz.ntmps90
     go_wp2_with fail
     refine (refuse_f 1 _).mono ?_
     rintro e w1 ⟨rfl,rfl⟩
     go_wp2_with fail
     go_end0
     rw [HP.out]
     refine⟨HO.out,rfl,?_⟩
     obtain⟨n,D,g1,g2,g3⟩:=H.out.map
     have hb:=H.out.lt
     exact⟨H.out.ne,(World.cell?_setCell_other _ _ _ _ (by simp)).trans H.out.c0,World.cell?_setCell_same _ _ _ H.out.c1,(World.cell?_setCell_other _ _ _ _ (by simp)).trans H.out.c2,by simp [H.out.f1],by simp [H.out.f2],by show 0<=st.nodes+1;omega,by show st.nodes+1<=4000;omega,n,D,by show n+2<=2 * (st.nodes+1).toNat;omega,
      ownsMap_block g2 (Below.heap_setCell _ _ _ _ (by simpa using H.out.ne.symm)),g3⟩
theorem law:Keyed Tryz.prog 9:=string_keyed Tryz.underlying9
theorem zeroI (w:World):(zeroValue 3).run Tryz.prog w = .ok (.int .i64 0) w:=by kernel_rfl
theorem key_ne {s t:ByteArray} (h:t ≠ s):(Lit.string t.data.toList) ≠ .string s.data.toList:=fun e=>h (by
 simp only [Lit.string.injEq] at e
 have:t.data=s.data:=Array.ext' e
 cases t;cases s;simp_all)
theorem nameIs_c (B bc bm j:Nat) (when:Int) (s:ByteArray) (kind:Int) (st:St) (w:World) (h:Chk bc bm when w st (j+1)) (hT:Tb B w) (hs:s.size<=maxLen) (hk:kind=1\/kind=2) :
 Calls Tryz.prog 119 #[.pointer (some ⟨bc,0,none⟩),.string s,.int .i64 kind] w (Out bc bm when j w (nameR s kind st)):=by
 have c0:=h.c0
 have H:Hid (Chk bc bm when w st (j+1)):=h
 have HT:Hid (Tb B w):=hT
 have HS:Hid (s.size<=maxLen):=hs
 obtain⟨n,D,g1,g2,g3⟩:=h.map
 have l2:=h.hi
 have HM:Hid (w.ownsMap Tryz.prog 9 (plainElem Tryz.prog 3) bm n D):=g2
 have HG:Hid (∀s:ByteArray,D.atKey (.string s.data.toList) (.lit (.int .i64 0)) = .lit (.int .i64 (st.nm s))):=g3
 have hn:n<maxLen:=by unfold maxLen;omega
 have HN:Hid (n<maxLen):=hn
 have HL:Hid (n+(j+1)<=2 * st.nodes.toNat):=g1
 have HKD:Hid (kind=1\/kind=2):=hk
 clear h hT g2 g3 g1 hn l2 hs hk
 cases hb:nameB s
 . have HP:Hid (nameR s kind st = .error 4):=by simp [Hid,nameR,hb]
   go_enter Tryz.func119,Tryz.ntmps119
   go_wp2_with fail
   refine (name_c s _ HS.out HT.out.words.2).mono ?_
   rintro e w1 ⟨rfl,rfl⟩
   rw [hb]
   go_wp2_with fail
   refine (refuse_t 4 _).mono ?_
   rintro e w1 ⟨rfl,rfl⟩
   go_wp2_with fail
   refine⟨rfl,?_⟩
   rw [HP.out]
   exact⟨But.refl _ _ _,rfl⟩
 . by_cases hz:st.nm s=0
   . have HP:Hid (nameR s kind st = .ok ⟨fun t=>if t=s then kind else st.nm t,st.nodes⟩):=by simp [Hid,nameR,hb,hz]
     have HZ:Hid (st.nm s=0):=hz
     have hne:bc ≠ bm:=H.out.ne
     have HW:Hid ((Lit.int .i64 kind).wf=true):=(show (Lit.int .i64 kind).wf=true by rcases HKD.out with h | h <;> rw [h] <;> decide)
     have HI:Hid (IsMap D):=(World.ownsMap.tidy HM.out law).isMap
     clear hz
     go_enter Tryz.func119,Tryz.ntmps119
     go_wp2_with fail
     refine (name_c s _ HS.out HT.out.words.2).mono ?_
     rintro e w1 ⟨rfl,rfl⟩
     rw [hb]
     go_wp2_with fail
     refine (refuse_f 4 _).mono ?_
     rintro e w1 ⟨rfl,rfl⟩
     go_wp2_with (first
      | (at_lookup;refine wpList_lookup_own_int _ rfl _ _ 83 rfl 9 3 .i64 law Tryz.underlying83 Tryz.underlying3 (zeroI _) bm n D rfl HM.out _ _ rfl (keyOf_string_mk Tryz.underlying9 HS.out) ?_;intro c hat _;obtain rfl:c=0:=(by rw [HG.out s,HZ.out] at hat;simpa using hat.symm);clear hat)
      | (at_lookup;refine wpList_lookup_own_int _ rfl _ _ 83 rfl 9 3 .i64 law Tryz.underlying83 Tryz.underlying3 (zeroI _) bm (n+1) (D.put _ _) rfl HO2.out _ _ rfl (keyOf_string_mk Tryz.underlying9 HS.out) ?_;intro c hat _;obtain rfl:kind=c:=(by rw [atKey_put_same HI.out (by trivial)] at hat;simpa using hat);clear hat)
      | (at_mapUpdate;refine wpList_mapUpdate_own _ rfl _ _ _ 83 rfl 9 3 law Tryz.underlying83 _ bm n D rfl HM.out HN.out _ _ _ rfl rfl (keyOf_string_mk Tryz.underlying9 HS.out) _ [] (plainElem_int Tryz.underlying3 HW.out) ?_;intro w2 hown hgrow;have HO2:Hid (World.ownsMap w2 _ _ _ _ _ _):=hown;have HG2:Hid (World.grownBy _ w2 _):=hgrow;have c02:=hgrow.cell c0 (by simpa using hne);clear hown hgrow))
     refine (refuse_f 6 _).mono ?_
     rintro e w3 ⟨rfl,rfl⟩
     go_wp2_with fail
     go_end0
     rw [HP.out]
     refine⟨(But.refl _ _ _).grown HG2.out,rfl,?_⟩
     have bb:=HG2.out.block bc H.out.lt.1 (by simpa using hne)
     exact⟨hne,c02,(World.cell?_of_block (a:=⟨bc,1,none⟩) bb).trans H.out.c1,(World.cell?_of_block (a:=⟨bc,2,none⟩) bb).trans H.out.c2,(World.frozen?_of_block (a:=⟨bc,1,none⟩) bb).trans H.out.f1,(World.frozen?_of_block (a:=⟨bc,2,none⟩) bb).trans H.out.f2,H.out.lo,H.out.hi,
      n+1,_,by have:=HL.out;show n+1+j<=2 * st.nodes.toNat;omega,HO2.out,fun t=>by
       by_cases ht:t=s
       . subst ht
         rw [atKey_put_same HI.out (by trivial)]
         simp
       . rw [atKey_put_other (key_ne ht),HG.out t]
         simp [ht]⟩
   . by_cases hq:st.nm s=kind
     . have HP:Hid (nameR s kind st = .ok st):=by unfold Hid nameR;rw [if_neg (by simp [hb]),if_neg hz,if_pos hq]
       have HZ:Hid (st.nm s=kind):=hq
       have hk0:¬kind=0:=by rw [<-hq];exact hz
       clear hz hq
       go_enter Tryz.func119,Tryz.ntmps119
       go_wp2_with fail
       refine (name_c s _ HS.out HT.out.words.2).mono ?_
       rintro e w1 ⟨rfl,rfl⟩
       rw [hb]
       go_wp2_with fail
       refine (refuse_f 4 _).mono ?_
       rintro e w1 ⟨rfl,rfl⟩
       go_wp2_with (at_lookup;refine wpList_lookup_own_int _ rfl _ _ 83 rfl 9 3 .i64 law Tryz.underlying83 Tryz.underlying3 (zeroI _) bm n D rfl HM.out _ _ rfl (keyOf_string_mk Tryz.underlying9 HS.out) ?_;intro c hat _;obtain rfl:kind=c:=(by rw [HG.out s,HZ.out] at hat;simpa using hat);clear hat)
       refine (refuse_f 6 _).mono ?_
       rintro e w3 ⟨rfl,rfl⟩
       go_wp2_with fail
       go_end0
       rw [HP.out]
       exact⟨But.refl _ _ _,rfl,H.out.less (by omega)⟩
     . have HP:Hid (nameR s kind st = .error 6):=by simp [Hid,nameR,hb,hz,hq]
       obtain⟨q,hq2⟩:∃q,st.nm s=q:=⟨_,rfl⟩
       have HZ:Hid (st.nm s=q):=hq2
       rw [hq2] at hz hq
       have hn1:(q != kind)=true:=by simpa using hq
       clear hq2
       go_enter Tryz.func119,Tryz.ntmps119
       go_wp2_with fail
       refine (name_c s _ HS.out HT.out.words.2).mono ?_
       rintro e w1 ⟨rfl,rfl⟩
       rw [hb]
       go_wp2_with fail
       refine (refuse_f 4 _).mono ?_
       rintro e w1 ⟨rfl,rfl⟩
       go_wp2_with (at_lookup;refine wpList_lookup_own_int _ rfl _ _ 83 rfl 9 3 .i64 law Tryz.underlying83 Tryz.underlying3 (zeroI _) bm n D rfl HM.out _ _ rfl (keyOf_string_mk Tryz.underlying9 HS.out) ?_;intro c hat _;obtain rfl:q=c:=(by rw [HG.out s,HZ.out] at hat;simpa using hat);clear hat)
       refine (refuse_t 6 _).mono ?_
       rintro e w3 ⟨rfl,rfl⟩
       go_wp2_with fail
       refine⟨rfl,?_⟩
       rw [HP.out]
       exact⟨But.refl _ _ _,rfl⟩
end Go.Proofs.YtodjbffhlklpkaaGreatDoor
