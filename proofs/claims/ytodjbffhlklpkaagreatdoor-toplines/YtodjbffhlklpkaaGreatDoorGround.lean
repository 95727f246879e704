/-
  Ground for the seats of stage 2 on: worlds that only grow; closed facts on the program; small facts on texts. / What is wrong with a program, as a function of data (P2.1 to P2.4): expressions, statements and rules as trees; the state of the look (what names are, how many parts were met); the first thing that is wrong, or the state behind it. No program is named here. / A program as text (P2.5), as a function of data: expressions, statements, rules; and how long it may be. No program is named here. / A text read as a program (P2.6), as functions of data: pieces of a text; expressions, statements, rules read from pieces; what is wrong, where it can't be read. No program is named here.
-/
import Derived.Test.YtodjbffhlklpkaaGreatDoorRows
import Derived.WalkKit
import Derived.ProofKit
import Derived.OpenShut
import Derived.ShutString
import Derived.ChangeOld
import Derived.Below
import Derived.Lib.SmallJoins
import Derived.Lib.ItoaNum
import Derived.Lib.ItoaLen
namespace Go.Proofs.YtodjbffhlklpkaaGreatDoor
open Go.ChangeShapes Go.WideShapes Go.ChangeAt Go.RowKit Go.Joins
theorem bl_trans {a b c:World} (h:Below a.heap.size a b) (k:Below b.heap.size b c):Below a.heap.size a c:=h.trans (k.mono h.size)
theorem bcell {W w1:World} (hb:Below W.heap.size W w1):(∀b o,b<W.heap.size->w1.cell? ⟨b,o,none⟩=W.cell? ⟨b,o,none⟩)/\(∀b o,b<W.heap.size->w1.frozen? ⟨b,o,none⟩=W.frozen? ⟨b,o,none⟩) :=
 ⟨fun b o h=>hb.cell (p:=⟨b,o,none⟩) h,fun b o h=>hb.frozen (p:=⟨b,o,none⟩) h⟩
theorem ret_bool {a b:Bool} (h:a=b):Ending.returned (.bool a) = .returned (.bool b):=by rw [h]
theorem ret_int {k:IntKind} {a b:Int} (h:a=b):Ending.returned (.int k a) = .returned (.int k b):=by rw [h]
theorem ise_f {s:ByteArray} (h:0<s.size):s.toList.isEmpty=false:=by
 rw [ByteArray.toList_eq,List.isEmpty_eq_false_iff_exists_mem]
 have:0<s.data.toList.length:=by simpa using h
 exact⟨_,List.getElem_mem this⟩
theorem ise_t {s:ByteArray} (h:¬0<s.size):s.toList.isEmpty=true:=by
 rw [ByteArray.toList_eq,List.isEmpty_iff]
 have e:s.data.toList.length=s.size:=by simp
 have:s.data.toList.length=0:=by omega
 exact List.eq_nil_of_length_eq_zero this
theorem own:ownKnob Tryz.prog.godebug=none:=by kernel_rfl
theorem laidOut:laidOutB Tryz.prog=true:=by kernel_rfl
end Go.Proofs.YtodjbffhlklpkaaGreatDoor
namespace Go.Proofs.YtodjbffhlklpkaaGreatDoor
open Go.RowKit
inductive Ex where
 | mk (k n:Int) (s:ByteArray) (l:List Ex)
inductive Sm where
 | mk (k:Int) (s t:ByteArray) (es:List Ex) (b e:List Sm)
structure Ru where
 when:Int
 has:Bool
 pat:Ex
 body:List Sm
structure St where
 nm:ByteArray->Int
 nodes:Int
abbrev Res:=Except Int St
def runL {α:Type} (f:α->St->Res):List α->St->Res
 | [],st=> .ok st
 | x :: l,st=>match f x st with
  | .error e=> .error e
  | .ok st'=>runL f l st'
theorem runL_snoc {α:Type} {f:α->St->Res} {l:List α} {x:α} {st st1:St} (h:runL f l st = .ok st1):runL f (l ++ [x]) st=f x st1:=by
 induction l generalizing st with
 | nil =>
  simp only [runL,Except.ok.injEq] at h
  subst h
  simp only [List.nil_append,runL]
  cases f x st <;> rfl
 | cons y l ih =>
  simp only [runL,List.cons_append] at h ⊢
  cases hy:f y st with
  | error e=>rw [hy] at h;cases h
  | ok s2=>rw [hy] at h;exact ih h
theorem runL_err {α:Type} {f:α->St->Res} {l r:List α} {st:St} {e:Int} (h:runL f l st = .error e):runL f (l ++ r) st = .error e:=by
 induction l generalizing st with
 | nil=>simp only [runL] at h;cases h
 | cons y l ih =>
  simp only [runL,List.cons_append] at h ⊢
  cases hy:f y st with
  | error e'=>rw [hy] at h;exact h
  | ok s2=>rw [hy] at h;exact ih h
theorem runL_step {α:Type} {f:α->St->Res} {l:List α} {st st1 st2:St} {i:Nat} (hi:i<l.length) (h:runL f (l.take i) st = .ok st1) (h2:f l[i] st1 = .ok st2):runL f (l.take (i+1)) st = .ok st2:=by
 rw [List.take_succ_eq_append_getElem hi,runL_snoc h,h2]
theorem runL_stop {α:Type} {f:α->St->Res} {l:List α} {st st1:St} {i:Nat} {e:Int} (hi:i<l.length) (h:runL f (l.take i) st = .ok st1) (h2:f l[i] st1 = .error e):runL f l st = .error e:=by
 have h3:runL f (l.take (i+1)) st = .error e:=by rw [List.take_succ_eq_append_getElem hi,runL_snoc h,h2]
 have h4:=runL_err (r:=l.drop (i+1)) h3
 rwa [List.take_append_drop] at h4
theorem runL_all {α:Type} {f:α->St->Res} {l:List α} {st st1:St} {i:Nat} (hi:¬i<l.length) (h:runL f (l.take i) st = .ok st1):runL f l st = .ok st1:=by
 rwa [List.take_of_length_le (by omega)] at h
def wordsL:List (List UInt8):= [[66,69,71,73,78],[69,78,68],[112,114,105,110,116],[105,102],[101,108,115,101],[119,104,105,108,101],[102,111,114],[105,110],[110,101,120,116],[100,101,108,101,116,101],[108,111,97,100],[108,101,110,103,116,104],[115,117,98,115,116,114],[105,110,100,101,120],[78,82],[78,70]]
def isWordB (s:ByteArray):Bool:=wordsL.contains s.toList
def lettersB (s:ByteArray):Bool:=s.toList.all fun c=>decide (97<=c.toNat/\c.toNat<=122)
def nameB (s:ByteArray):Bool:=decide (1<=s.size) && decide (s.size<=8) && !isWordB s && lettersB s
def lvl (s:ByteArray):Int :=
 if s.toList = [124,124] then 1
 else if s.toList = [38,38] then 2
 else if s.toList = [60]\/s.toList = [60,61]\/s.toList = [61,61]\/s.toList = [33,61]\/s.toList = [62]\/s.toList = [62,61] then 3
 else if s.toList = [46,46] then 4
 else if s.toList = [43]\/s.toList = [45] then 5
 else if s.toList = [42]\/s.toList = [47]\/s.toList = [37] then 6 else 0
def asksN (s:ByteArray):Int :=
 if s.toList = [108,101,110,103,116,104] then 1
 else if s.toList = [105,110,100,101,120] then 2
 else if s.toList = [115,117,98,115,116,114] then 3 else 0
def partR (d:Int) (st:St):Res:=if 4000<st.nodes+1\/20<d then .error 1 else .ok ⟨st.nm,st.nodes+1⟩
def nameR (s:ByteArray) (kind:Int) (st:St):Res :=
 if nameB s=false then .error 4
 else if st.nm s=0 then .ok ⟨fun t=>if t=s then kind else st.nm t,st.nodes⟩
 else if st.nm s=kind then .ok st else .error 6
def argsN (k:Int) (s:ByteArray):Int :=
 if k=11 then asksN s
 else if k=4\/k=5\/k=7\/k=8\/k=9 then 1
 else if k=6 then 2 else if k=10 then 3 else 0
def partsE (k n:Int) (s:ByteArray) (len:Nat):Bool:=decide (k=1\/n=0) && decide ((len:Int)=argsN k s) && decide (k=11->0<asksN s)
def textsE (k:Int) (s:ByteArray) (st:St):Res :=
 if k=2 then (if 200<s.size then .error 1 else .ok st)
 else if k=3 then nameR s 1 st
 else if k=5\/k=9 then nameR s 2 st
 else if k=6 then (if 0<lvl s then .ok st else .error 4)
 else if k=12 then (if s.toList = [78,82]\/s.toList = [78,70] then .ok st else .error 4)
 else if k=11 then .ok st
 else if 0<s.size then .error 4 else .ok st
def ckE:Nat->Ex->Int->St->Res
 | 0,_,_,st=> .ok st
 | m+1,.mk k n s l,d,st =>
  match partR d st with
  | .error e=> .error e
  | .ok st1 =>
   if k<1\/12<k then .error 3
   else if partsE k n s l.length=false then .error 4
   else match textsE k s st1 with
    | .error e=> .error e
    | .ok st2=>if n<0\/1099511627776<n then .error 2 else runL (fun x=>ckE m x (d+1)) l st2
def exprsN (k:Int) (len:Nat):Bool :=
 if k=1\/k=5\/k=6\/k=9 then decide (len=1)
 else if k=2\/k=3 then decide (len=2)
 else if k=4 then decide (1<=len) else decide (len=0)
def partsS (k:Int) (es b e:Nat):Bool:=exprsN k es && decide (b=0\/(5<=k/\k<=7)) && decide (e=0\/k=5)
def textsS1 (k:Int) (s:ByteArray) (st:St):Res :=
 if k=1\/k=7 then nameR s 1 st
 else if k=2\/k=9\/k=10 then nameR s 2 st
 else if 0<s.size then .error 4 else .ok st
def textsS2 (k:Int) (t:ByteArray) (st:St):Res :=
 if k=7 then nameR t 2 st
 else if k=10 then (if 200<t.size then .error 1 else .ok st)
 else if 0<t.size then .error 4 else .ok st
def textsS (when k:Int) (s t:ByteArray) (st:St):Res :=
 match textsS1 k s st with
 | .error e=> .error e
 | .ok st1=>if k=10/\when ≠ 0 then .error 7 else textsS2 k t st1
def ckS (when:Int):Nat->Sm->Int->St->Res
 | 0,_,_,st=> .ok st
 | m+1,.mk k s t es b e,d,st =>
  match partR d st with
  | .error r=> .error r
  | .ok st1 =>
   if k<1\/10<k then .error 3
   else if partsS k es.length b.length e.length=false then .error 4
   else match textsS when k s t st1 with
    | .error r=> .error r
    | .ok st2 =>
     if k=8/\when ≠ 1 then .error 7
     else match runL (fun x=>ckE m x (d+1)) es st2 with
      | .error r=> .error r
      | .ok st3=>match runL (fun x=>ckS when m x (d+1)) b st3 with
       | .error r=> .error r
       | .ok st4=>runL (fun x=>ckS when m x (d+1)) e st4
def zeroE:Ex->Bool
 | .mk k n s l=>decide (k=0) && decide (n=0) && decide (s.size=0) && decide (l.length=0)
def ckR (m:Nat) (r:Ru) (st:St):Res :=
 if r.when<0\/2<r.when then .error 3
 else if r.has=true/\r.when ≠ 1 then .error 4
 else match (if r.has then ckE m r.pat 1 st else .ok st) with
  | .error e=> .error e
  | .ok st1=>if r.has=false/\zeroE r.pat=false then .error 4 else runL (fun x=>ckS r.when m x 1) r.body st1
def ckP (m:Nat) (l:List Ru):Int :=
 if 20<l.length then 1
 else match runL (ckR m) l ⟨fun _=>0,0⟩ with
  | .error e=>e
  | .ok _=>0
instance:Inhabited Ex:=⟨.mk 0 0 ⟨#[]⟩ []⟩
def bs (l:List UInt8):ByteArray:=⟨l.toArray⟩
theorem bs_app (a b:List UInt8):bs a ++ bs b=bs (a ++ b):=by
 apply ByteArray.ext
 simp [bs,ByteArray.data_append]
theorem bs_toList (s:ByteArray):bs s.toList=s:=by
 rw [ByteArray.toList_eq]
 apply ByteArray.ext
 simp [bs]
theorem bs_size (l:List UInt8):(bs l).size=l.length:=by simp [bs,ByteArray.size]
theorem bs_list (l:List UInt8):(bs l).toList=l:=by rw [ByteArray.toList_eq];simp [bs]
theorem toL_len (s:ByteArray):s.toList.length=s.size:=by rw [ByteArray.toList_eq];simp
def quoteB (c:UInt8):List UInt8:=if c=34\/c=92 then [92,c] else if c=10 then [92,110] else [c]
def quoteL (s:List UInt8):List UInt8:= [34] ++ s.flatMap quoteB ++ [34]
theorem quoteB_len (c:UInt8):(quoteB c).length<=2:=by unfold quoteB;split <;> (try split) <;> simp
theorem quoteF_len (s:List UInt8):(s.flatMap quoteB).length<=2 * s.length:=by
 induction s with
 | nil=>simp
 | cons c s ih=>have:=quoteB_len c;simp only [List.flatMap_cons,List.length_append,List.length_cons];omega
theorem quoteL_len (s:List UInt8):(quoteL s).length<=2 * s.length+2:=by
 have:=quoteF_len s
 simp only [quoteL,List.length_append,List.length_cons,List.length_nil];omega
def joinL:List (List UInt8)->List UInt8
 | []=> []
 | [x]=>x
 | x :: y :: l=>x ++ [44,32] ++ joinL (y :: l)
def exT:Nat->Ex->List UInt8
 | 0,_=> []
 | m+1,.mk k n s l =>
  if k=1 then Lib.itoa n
  else if k=2 then quoteL s.toList
  else if k=4 then [40,36] ++ exT m (l.getD 0 default) ++ [41]
  else if k=5 then s.toList ++ [91] ++ exT m (l.getD 0 default) ++ [93]
  else if k=6 then [40] ++ exT m (l.getD 0 default) ++ [32] ++ s.toList ++ [32] ++ exT m (l.getD 1 default) ++ [41]
  else if k=7 then [40,45] ++ exT m (l.getD 0 default) ++ [41]
  else if k=8 then [40,33] ++ exT m (l.getD 0 default) ++ [41]
  else if k=9 then [40] ++ exT m (l.getD 0 default) ++ [32,105,110,32] ++ s.toList ++ [41]
  else if k=10 then [40] ++ exT m (l.getD 0 default) ++ [32,63,32] ++ exT m (l.getD 1 default) ++ [32,58,32] ++ exT m (l.getD 2 default) ++ [41]
  else if k=11 then s.toList ++ [40] ++ joinL (l.map (exT m)) ++ [41]
  else s.toList
def blL (f:Sm->List UInt8) (l:List Sm):List UInt8:= [123,32] ++ l.flatMap (fun x=>f x ++ [32]) ++ [125]
def smT:Nat->Sm->List UInt8
 | 0,_=> []
 | m+1,.mk k s t es b e =>
  if k=1 then s.toList ++ [32,61,32] ++ exT m (es.getD 0 default) ++ [59]
  else if k=2 then s.toList ++ [91] ++ exT m (es.getD 0 default) ++ [93] ++ [32,61,32] ++ exT m (es.getD 1 default) ++ [59]
  else if k=3 then [36] ++ exT m (es.getD 0 default) ++ [32,61,32] ++ exT m (es.getD 1 default) ++ [59]
  else if k=4 then [112,114,105,110,116,32] ++ joinL (es.map (exT m)) ++ [59]
  else if k=5 then [105,102,32,40] ++ exT m (es.getD 0 default) ++ [41,32] ++ blL (smT m) b ++ [32,101,108,115,101,32] ++ blL (smT m) e
  else if k=6 then [119,104,105,108,101,32,40] ++ exT m (es.getD 0 default) ++ [41,32] ++ blL (smT m) b
  else if k=7 then [102,111,114,32,40] ++ s.toList ++ [32,105,110,32] ++ t.toList ++ [41,32] ++ blL (smT m) b
  else if k=8 then [110,101,120,116,59]
  else if k=9 then [100,101,108,101,116,101,32] ++ s.toList ++ [91] ++ exT m (es.getD 0 default) ++ [93] ++ [59]
  else [108,111,97,100,32] ++ quoteL t.toList ++ [32] ++ s.toList ++ [59]
def ruT (m:Nat) (r:Ru):List UInt8 :=
 (if r.when=0 then [66,69,71,73,78,32] else if r.when=2 then [69,78,68,32] else if r.has then exT m r.pat ++ [32] else []) ++ blL (smT m) r.body
def prT (m:Nat) (l:List Ru):List UInt8:=l.flatMap fun r=>ruT m r ++ [10]
def okE:Nat->Ex->Prop
 | 0,_=>False
 | m+1,.mk k n s l=>1<=k/\k<=12/\partsE k n s l.length=true/\s.size<=200/\0<=n/\n<=1099511627776/\∀x ∈ l,okE m x
def okS:Nat->Sm->Prop
 | 0,_=>False
 | m+1,.mk k s t es b e=>1<=k/\k<=10/\partsS k es.length b.length e.length=true/\s.size<=200/\t.size<=200/\(∀x ∈ es,okE m x)/\(∀x ∈ b,okS m x)/\∀x ∈ e,okS m x
def okR (m:Nat) (r:Ru):Prop:=0<=r.when/\r.when<=2/\(r.has=true->r.when=1/\okE m r.pat)/\∀x ∈ r.body,okS m x
theorem argsN_of {k n:Int} {s:ByteArray} {len:Nat} (h:partsE k n s len=true):(len:Int)=argsN k s:=by
 simp only [partsE,Bool.and_eq_true,decide_eq_true_eq] at h
 exact h.1.2
structure Pc where
 k:Int
 s:List UInt8
 n:Int
def letterB (c:UInt8):Bool:=decide ((97<=c.toNat/\c.toNat<=122)\/(65<=c.toNat/\c.toNat<=90))
def digitB (c:UInt8):Bool:=decide (48<=c.toNat/\c.toNat<=57)
def blankB (c:UInt8):Bool:=decide (c.toNat=32\/c.toNat=9\/c.toNat=10)
def decV (l:List UInt8):Nat:=l.foldl (fun a c=>10 * a+(c.toNat - 48)) 0
def numR (l:List UInt8):Except Int Int :=
 if 1<l.length/\l.head? = some 48 then .error 4 else if 1099511627776<decV l then .error 2 else .ok (decV l)
def txtR:List UInt8->List UInt8->Nat->Except Int (List UInt8 × Nat)
 | [],_,_=> .error 5
 | c :: r,acc,i =>
  if c.toNat=34 then .ok (acc,i+1)
  else if c.toNat=10 then .error 4
  else if c.toNat=92 then
   match r with
   | []=> .error 5
   | d :: r'=>if d.toNat=34\/d.toNat=92 then txtR r' (acc ++ [d]) (i+2) else if d.toNat=110 then txtR r' (acc ++ [10]) (i+2) else .error 4
  else txtR r (acc ++ [c]) (i+1)
def signsL:List (List UInt8):= [[60,61],[61,61],[33,61],[62,61],[38,38],[124,124],[46,46],[43],[45],[42],[47],[37],[60],[62],[33],[36],[40],[41],[123],[125],[91],[93],[44],[59],[61],[63],[58]]
def pieceR (l:List UInt8):Except Int (Pc × Nat) :=
 if 0<(l.takeWhile letterB).length then .ok (⟨1,l.takeWhile letterB,0⟩,(l.takeWhile letterB).length)
 else if 0<(l.takeWhile digitB).length then
  match numR (l.takeWhile digitB) with
  | .error e=> .error e
  | .ok n=> .ok (⟨2,[],n⟩,(l.takeWhile digitB).length)
 else if l.head? = some 34 then
  match txtR l.tail [] 1 with
  | .error e=> .error e
  | .ok (t,i)=> .ok (⟨3,t,0⟩,i)
 else match signsL.find? (fun t=>t.isPrefixOf l) with
  | some t=> .ok (⟨4,t,0⟩,t.length)
  | none=> .error 4
def cutR:Nat->List UInt8->Except Int (List Pc)
 | 0,_=> .ok []
 | m+1,l =>
  match l.dropWhile blankB with
  | []=> .ok []
  | c :: r=>match pieceR (c :: r) with
   | .error e=> .error e
   | .ok (p,i)=>match cutR m ((c :: r).drop i) with
    | .error e=> .error e
    | .ok ps=> .ok (p :: ps)
abbrev Rd (α:Type):=Except Int (α × List Pc)
def seesB (t:List UInt8):List Pc->Bool
 | []=>false
 | p :: _=>decide (p.k ≠ 3) && decide (p.s=t)
def needR (t:List UInt8) (ps:List Pc):Rd Unit:=match ps with
 | []=> .error 5
 | p :: r=>if seesB t (p :: r) then .ok ((),r) else .error 4
def nameL (l:List UInt8):Bool:=decide (1<=l.length) && decide (l.length<=8) && !wordsL.contains l && l.all (fun c=>decide (97<=c.toNat/\c.toNat<=122))
def nmR (ps:List Pc):Rd (List UInt8):=match ps with
 | []=> .error 5
 | p :: r=>if p.k=1/\nameL p.s=true then .ok (p.s,r) else .error 4
def lvlL (l:List UInt8):Int :=
 if l = [124,124] then 1
 else if l = [38,38] then 2
 else if l = [60]\/l = [60,61]\/l = [61,61]\/l = [33,61]\/l = [62]\/l = [62,61]\/l = [105,110] then 3
 else if l = [46,46] then 4
 else if l = [43]\/l = [45] then 5
 else if l = [42]\/l = [47]\/l = [37] then 6 else 0
def levelR:List Pc->Int
 | []=>0
 | p :: _=>if p.k=3 then 0 else lvlL p.s
def asksL (l:List UInt8):Int:=if l = [108,101,110,103,116,104] then 1 else if l = [105,110,100,101,120] then 2 else if l = [115,117,98,115,116,114] then 3 else 0
def leafE (k n:Int) (s:List UInt8) (l:List Ex):Ex:= .mk k n (bs s) l
mutual
def wholeR:Nat->Int->List Pc->Rd Ex
 | 0,_,_=> .error 0
 | m+1,o,ps =>
  if 40<o+1 then .error 1
  else match binR m 1 (o+1) ps with
   | .error e=> .error e
   | .ok (x,ps1)=>if seesB [63] ps1 then
    match wholeR m (o+1) ps1.tail with
    | .error e=> .error e
    | .ok (y,ps2)=>match needR [58] ps2 with
     | .error e=> .error e
     | .ok (_,ps3)=>match wholeR m (o+1) ps3 with
      | .error e=> .error e
      | .ok (z,ps4)=> .ok (leafE 10 0 [] [x,y,z],ps4)
    else .ok (x,ps1)
def binR:Nat->Int->Int->List Pc->Rd Ex
 | 0,_,_,_=> .error 0
 | m+1,d,o,ps =>
  if 6<d then opR m o ps
  else match binR m (d+1) o ps with
   | .error e=> .error e
   | .ok (x,ps1)=>binL m d o x ps1
def binL:Nat->Int->Int->Ex->List Pc->Rd Ex
 | 0,_,_,_,_=> .error 0
 | m+1,d,o,x,ps =>
  if levelR ps=d then
   match ps with
   | []=> .ok (x,ps)
   | p :: r =>
    if p.s = [105,110] then
     match nmR r with
     | .error e=> .error e
     | .ok (t,r1)=>binL m d o (leafE 9 0 t [x]) r1
    else match binR m (d+1) o r with
     | .error e=> .error e
     | .ok (y,r1)=>binL m d o (leafE 6 0 p.s [x,y]) r1
  else .ok (x,ps)
def opR:Nat->Int->List Pc->Rd Ex
 | 0,_,_=> .error 0
 | m+1,o,ps =>
  if seesB [45] ps then preR m 7 o ps.tail
  else if seesB [33] ps then preR m 8 o ps.tail
  else if seesB [36] ps then preR m 4 o ps.tail
  else match ps with
   | []=> .error 5
   | p :: r =>
    if p.k=2 then .ok (leafE 1 p.n [] [],r)
    else if p.k=3 then .ok (leafE 2 0 p.s [],r)
    else if p.k=1 then wordR m o p.s r
    else if p.s = [40] then
     match wholeR m o r with
     | .error e=> .error e
     | .ok (x,r1)=>match needR [41] r1 with
      | .error e=> .error e
      | .ok (_,r2)=> .ok (x,r2)
    else .error 4
def preR:Nat->Int->Int->List Pc->Rd Ex
 | 0,_,_,_=> .error 0
 | m+1,k,o,ps=>match sgnR m o ps with
  | .error e=> .error e
  | .ok (x,r)=> .ok (leafE k 0 [] [x],r)
def sgnR:Nat->Int->List Pc->Rd Ex
 | 0,_,_=> .error 0
 | m+1,o,ps=>if 40<o+1 then .error 1 else opR m (o+1) ps
def wordR:Nat->Int->List UInt8->List Pc->Rd Ex
 | 0,_,_,_=> .error 0
 | m+1,o,s,ps =>
  if s = [78,82]\/s = [78,70] then .ok (leafE 12 0 s [],ps)
  else if 0<asksL s then
   match needR [40] ps with
   | .error e=> .error e
   | .ok (_,p1)=>match wholesR m o p1 with
    | .error e=> .error e
    | .ok (l,p2)=>match needR [41] p2 with
     | .error e=> .error e
     | .ok (_,p3)=> .ok (leafE 11 0 s l,p3)
  else if nameL s=false then .error 4
  else if seesB [91] ps then
   match keyR m o ps with
   | .error e=> .error e
   | .ok (x,p1)=> .ok (leafE 5 0 s [x],p1)
  else .ok (leafE 3 0 s [],ps)
def keyR:Nat->Int->List Pc->Rd Ex
 | 0,_,_=> .error 0
 | m+1,o,ps=>match needR [91] ps with
  | .error e=> .error e
  | .ok (_,p1)=>match wholeR m o p1 with
   | .error e=> .error e
   | .ok (x,p2)=>match needR [93] p2 with
    | .error e=> .error e
    | .ok (_,p3)=> .ok (x,p3)
def wholesR:Nat->Int->List Pc->Rd (List Ex)
 | 0,_,_=> .error 0
 | m+1,o,ps=>match wholeR m o ps with
  | .error e=> .error e
  | .ok (x,p1)=>moreR m o [x] p1
def moreR:Nat->Int->List Ex->List Pc->Rd (List Ex)
 | 0,_,_,_=> .error 0
 | m+1,o,l,ps=>if seesB [44] ps then
  match wholeR m o ps.tail with
  | .error e=> .error e
  | .ok (x,p1)=>moreR m o (l ++ [x]) p1
  else .ok (l,ps)
end
def askedR (m:Nat) (o:Int) (ps:List Pc):Rd Ex:=match needR [40] ps with
 | .error e=> .error e
 | .ok (_,p1)=>match wholeR m o p1 with
  | .error e=> .error e
  | .ok (x,p2)=>match needR [41] p2 with
   | .error e=> .error e
   | .ok (_,p3)=> .ok (x,p3)
def setR (m:Nat) (o:Int) (ps:List Pc):Rd Ex:=match needR [61] ps with
 | .error e=> .error e
 | .ok (_,p1)=>wholeR m o p1
def leafS (k:Int) (s t:List UInt8) (es:List Ex) (b e:List Sm):Sm:= .mk k (bs s) (bs t) es b e
def putR (m:Nat) (o:Int) (ps:List Pc):Rd Sm:=match nmR ps with
 | .error e=> .error e
 | .ok (s,p1)=>if seesB [91] p1 then
  match keyR m o p1 with
  | .error e=> .error e
  | .ok (x,p2)=>match setR m o p2 with
   | .error e=> .error e
   | .ok (y,p3)=> .ok (leafS 2 s [] [x,y] [] [],p3)
  else match setR m o p1 with
   | .error e=> .error e
   | .ok (y,p3)=> .ok (leafS 1 s [] [y] [] [],p3)
def simpR (m:Nat) (o:Int) (ps:List Pc):Rd Sm :=
 if seesB [112,114,105,110,116] ps then
  match wholesR m o ps.tail with
  | .error e=> .error e
  | .ok (l,p1)=> .ok (leafS 4 [] [] l [] [],p1)
 else if seesB [110,101,120,116] ps then .ok (leafS 8 [] [] [] [] [],ps.tail)
 else if seesB [100,101,108,101,116,101] ps then
  match nmR ps.tail with
  | .error e=> .error e
  | .ok (s,p1)=>match keyR m o p1 with
   | .error e=> .error e
   | .ok (x,p2)=> .ok (leafS 9 s [] [x] [] [],p2)
 else if seesB [108,111,97,100] ps then
  match ps.tail with
  | []=> .error 5
  | f :: p1=>if f.k ≠ 3 then .error 4
   else match nmR p1 with
    | .error e=> .error e
    | .ok (s,p2)=> .ok (leafS 10 s f.s [] [] [],p2)
 else if seesB [36] ps then
  match sgnR m o ps.tail with
  | .error e=> .error e
  | .ok (x,p1)=>match setR m o p1 with
   | .error e=> .error e
   | .ok (y,p2)=> .ok (leafS 3 [] [] [x,y] [] [],p2)
 else putR m o ps
mutual
def blockR:Nat->Int->List Pc->Rd (List Sm)
 | 0,_,_=> .error 0
 | m+1,o,ps =>
  if 40<o+1 then .error 1
  else match needR [123] ps with
   | .error e=> .error e
   | .ok (_,p1)=>stmtsR m (o+1) [] p1
def stmtsR:Nat->Int->List Sm->List Pc->Rd (List Sm)
 | 0,_,_,_=> .error 0
 | m+1,o,l,ps =>
  if seesB [125] ps then .ok (l,ps.tail)
  else match stmtR m o ps with
   | .error e=> .error e
   | .ok (x,p1)=>stmtsR m o (l ++ [x]) p1
def stmtR:Nat->Int->List Pc->Rd Sm
 | 0,_,_=> .error 0
 | m+1,o,ps =>
  if seesB [105,102] ps then
   match askedR m o ps.tail with
   | .error e=> .error e
   | .ok (x,p1)=>match blockR m o p1 with
    | .error e=> .error e
    | .ok (b,p2)=>if seesB [101,108,115,101] p2 then
     match blockR m o p2.tail with
     | .error e=> .error e
     | .ok (c,p3)=> .ok (leafS 5 [] [] [x] b c,p3)
     else .ok (leafS 5 [] [] [x] b [],p2)
  else if seesB [119,104,105,108,101] ps then
   match askedR m o ps.tail with
   | .error e=> .error e
   | .ok (x,p1)=>match blockR m o p1 with
    | .error e=> .error e
    | .ok (b,p2)=> .ok (leafS 6 [] [] [x] b [],p2)
  else if seesB [102,111,114] ps then
   match needR [40] ps.tail with
   | .error e=> .error e
   | .ok (_,p1)=>match nmR p1 with
    | .error e=> .error e
    | .ok (s,p2)=>match needR [105,110] p2 with
     | .error e=> .error e
     | .ok (_,p3)=>match nmR p3 with
      | .error e=> .error e
      | .ok (t,p4)=>match needR [41] p4 with
       | .error e=> .error e
       | .ok (_,p5)=>match blockR m o p5 with
        | .error e=> .error e
        | .ok (b,p6)=> .ok (leafS 7 s t [] b [],p6)
  else match simpR m o ps with
   | .error e=> .error e
   | .ok (x,p1)=>match needR [59] p1 with
    | .error e=> .error e
    | .ok (_,p2)=> .ok (x,p2)
end
def ruleR (m:Nat) (o:Int) (ps:List Pc):Rd Ru :=
 if seesB [66,69,71,73,78] ps then
  match blockR m o ps.tail with
  | .error e=> .error e
  | .ok (b,p1)=> .ok (⟨0,false,leafE 0 0 [] [],b⟩,p1)
 else if seesB [69,78,68] ps then
  match blockR m o ps.tail with
  | .error e=> .error e
  | .ok (b,p1)=> .ok (⟨2,false,leafE 0 0 [] [],b⟩,p1)
 else if seesB [123] ps then
  match blockR m o ps with
  | .error e=> .error e
  | .ok (b,p1)=> .ok (⟨1,false,leafE 0 0 [] [],b⟩,p1)
 else match wholeR m o ps with
  | .error e=> .error e
  | .ok (x,p1)=>match blockR m o p1 with
   | .error e=> .error e
   | .ok (b,p2)=> .ok (⟨1,true,x,b⟩,p2)
def rulesR (m:Nat):Nat->List Ru->List Pc->Except Int (List Ru)
 | 0,_,_=> .error 0
 | j+1,l,ps=>match ps with
  | []=> .ok l
  | p :: r=>match ruleR m 0 (p :: r) with
   | .error e=> .error e
   | .ok (x,p1)=>rulesR m j (l ++ [x]) p1
def readR (s:List UInt8):Except Int (List Ru) :=
 if 6000<s.length then .error 1
 else match cutR (s.length+1) s with
  | .error e=> .error e
  | .ok ps=>match rulesR (20 * ps.length+40) (ps.length+1) [] ps with
   | .error e=> .error e
   | .ok l=>if ckP (20 * ps.length+40) l=0 then .ok l else .error (ckP (20 * ps.length+40) l)
end Go.Proofs.YtodjbffhlklpkaaGreatDoor
