/-
  Ground for the seats of stage 2 on: worlds that only grow; closed facts on the program; small facts on texts. / What is wrong with a program, as a function of data (P2.1 to P2.4): expressions, statements and rules as trees; the state of the look (what names are, how many parts were met); the first thing that is wrong, or the state behind it. No program is named here. / A program as text (P2.5), as a function of data: expressions, statements, rules; and how long it may be. No program is named here. / A text read as a program (P2.6), as functions of data: pieces of a text; expressions, statements, rules read from pieces; what is wrong, where it can't be read. No program is named here.
-/
import Derived.Test.YtppcohadoilpgaaGreatDoorRows
import Derived.WalkKit
import Derived.ProofKit
import Derived.OpenShut
import Derived.ShutString
import Derived.ChangeOld
import Derived.Below
import Derived.Lib.SmallJoins
import Derived.Lib.ItoaNum
import Derived.Lib.ItoaLen
namespace Go.Proofs.YtppcohadoilpgaaGreatDoor
open Go.ChangeShapes Go.WideShapes Go.ChangeAt Go.RowKit Go.Joins Go.Proofs.Tryz
theorem lr0 {n:Nat}:n<=n:=Nat.le_refl n
theorem br0 {B:Nat} {w:World}:Below B w w:=Below.refl _ _
theorem lle {a b c:Nat} (h:a<b) (k:b<=c):a<c:=Nat.lt_of_lt_of_le h k
theorem lq0 {a b c:Nat} (h:a<=b) (k:b<=c):a<=c:=Nat.le_trans h k
theorem gee {α:Type _} {l:List α} {i:Nat} (h:i<l.length):l[i]? = some l[i]:=List.getElem?_eq_getElem h
theorem lap {α:Type _} {a b:List α}:(a++b).length = a.length+b.length:=List.length_append
theorem Aa {a b c:World} (h:Below a.heap.size a b) (k:Below b.heap.size b c):Below a.heap.size a c:=h.trans (k.mono h.size)
theorem Ar {W w1:World} (hb:Below W.heap.size W w1):(∀b o,b<W.heap.size->w1.cell? ⟨b,o,none⟩=W.cell? ⟨b,o,none⟩)/\(∀b o,b<W.heap.size->w1.frozen? ⟨b,o,none⟩=W.frozen? ⟨b,o,none⟩) :=
 ⟨fun b o h=>hb.cell (p:=⟨b,o,none⟩) h,fun b o h=>hb.frozen (p:=⟨b,o,none⟩) h⟩
theorem Am {a b:Bool} (h:a=b):Ending.returned (.bool a) = .returned (.bool b):=by rw [h]
theorem A4 {k:IntKind} {a b:Int} (h:a=b):Ending.returned (.int k a) = .returned (.int k b):=by rw [h]
theorem Hz {s:ByteArray} (h:0<s.size):s.toList.isEmpty=false:=by
 rw [ByteArray.toList_eq,List.isEmpty_eq_false_iff_exists_mem];have:0<s.data.toList.length:=by simpa using h
 exact⟨_,List.getElem_mem this⟩
theorem H0 {s:ByteArray} (h:¬0<s.size):s.toList.isEmpty=true:=by
 rw [ByteArray.toList_eq,List.isEmpty_iff];have e:s.data.toList.length=s.size:=by simp
 have:s.data.toList.length=0:=by omega
 exact List.eq_nil_of_length_eq_zero this
theorem own:ownKnob prog.godebug=none:=by kernel_rfl
theorem Pl:laidOutB prog=true:=by kernel_rfl
end Go.Proofs.YtppcohadoilpgaaGreatDoor
namespace Go.Proofs.YtppcohadoilpgaaGreatDoor
open Go.RowKit Go.Proofs.Tryz
inductive Ex where
 | mk (k n:Int) (s:ByteArray) (l:List Ex)
inductive Sm where
 | mk (k:Int) (s t:ByteArray) (es:List Ex) (b e:List Sm)
structure Ru where
 when:Int
 has:Bool
 pat:Ex
 body:List Sm
structure St where
 nm:ByteArray->Int
 nodes:Int
abbrev Res:=Except Int St
def Au {α:Type} (f:α->St->Res):List α->St->Res
 | [],st=> .ok st
 | x :: l,st=>match f x st with
  | .error e=> .error e
  | .ok st'=>Au f l st'
theorem Ny {α:Type} {f:α->St->Res} {l:List α} {x:α} {st st1:St} (h:Au f l st = .ok st1):Au f (l ++ [x]) st=f x st1:=by
 induction l generalizing st with
 | nil =>
  simp only [Au,Except.ok.injEq] at h;subst h;simp only [List.nil_append,Au];cases f x st <;> rfl
 | cons y l ih =>
  simp only [Au,List.cons_append] at h ⊢;cases hy:f y st with
  | error e=>rw [hy] at h;cases h
  | ok s2=>rw [hy] at h;exact ih h
theorem Zn {α:Type} {f:α->St->Res} {l r:List α} {st:St} {e:Int} (h:Au f l st = .error e):Au f (l ++ r) st = .error e:=by
 induction l generalizing st with
 | nil=>simp only [Au] at h;cases h
 | cons y l ih =>
  simp only [Au,List.cons_append] at h ⊢;cases hy:f y st with
  | error e'=>rw [hy] at h;exact h
  | ok s2=>rw [hy] at h;exact ih h
theorem Ju {α:Type} {f:α->St->Res} {l:List α} {st st1 st2:St} {i:Nat} (hi:i<l.length) (h:Au f (l.take i) st = .ok st1) (h2:f l[i] st1 = .ok st2):Au f (l.take (i+1)) st = .ok st2:=by
 rw [List.take_succ_eq_append_getElem hi,Ny h,h2]
theorem Jv {α:Type} {f:α->St->Res} {l:List α} {st st1:St} {i:Nat} {e:Int} (hi:i<l.length) (h:Au f (l.take i) st = .ok st1) (h2:f l[i] st1 = .error e):Au f l st = .error e:=by
 have h3:Au f (l.take (i+1)) st = .error e:=by rw [List.take_succ_eq_append_getElem hi,Ny h,h2]
 have h4:=Zn (r:=l.drop (i+1)) h3
 rwa [List.take_append_drop] at h4
theorem L0 {α:Type} {f:α->St->Res} {l:List α} {st st1:St} {i:Nat} (hi:¬i<l.length) (h:Au f (l.take i) st = .ok st1):Au f l st = .ok st1:=by
 rwa [List.take_of_length_le (by omega)] at h
def C9:List (List UInt8):= [[66,69,71,73,78],[69,78,68],[112,114,105,110,116],[105,102],[101,108,115,101],[119,104,105,108,101],[102,111,114],[105,110],[110,101,120,116],[100,101,108,101,116,101],[108,111,97,100],[108,101,110,103,116,104],[115,117,98,115,116,114],[105,110,100,101,120],[78,82],[78,70]]
def Eu (s:ByteArray):Bool:=C9.contains s.toList
def Dr (s:ByteArray):Bool:=s.toList.all fun c=>decide (97<=c.toNat/\c.toNat<=122)
def Ct (s:ByteArray):Bool:=decide (1<=s.size) && decide (s.size<=8) && !Eu s && Dr s
def lvl (s:ByteArray):Int :=
 if s.toList = [124,124] then 1
 else if s.toList = [38,38] then 2
 else if s.toList = [60]\/s.toList = [60,61]\/s.toList = [61,61]\/s.toList = [33,61]\/s.toList = [62]\/s.toList = [62,61] then 3
 else if s.toList = [46,46] then 4
 else if s.toList = [43]\/s.toList = [45] then 5
 else if s.toList = [42]\/s.toList = [47]\/s.toList = [37] then 6 else 0
def Dn (s:ByteArray):Int :=
 if s.toList = [108,101,110,103,116,104] then 1
 else if s.toList = [105,110,100,101,120] then 2
 else if s.toList = [115,117,98,115,116,114] then 3 else 0
def B6 (d:Int) (st:St):Res:=if 4000<st.nodes+1\/20<d then .error 1 else .ok ⟨st.nm,st.nodes+1⟩
def Bh (s:ByteArray) (kind:Int) (st:St):Res :=
 if Ct s=false then .error 4
 else if st.nm s=0 then .ok ⟨fun t=>if t=s then kind else st.nm t,st.nodes⟩
 else if st.nm s=kind then .ok st else .error 6
def D1 (k:Int) (s:ByteArray):Int :=
 if k=11 then Dn s
 else if k=4\/k=5\/k=7\/k=8\/k=9 then 1
 else if k=6 then 2 else if k=10 then 3 else 0
def Bt (k n:Int) (s:ByteArray) (len:Nat):Bool:=decide (k=1\/n=0) && decide ((len:Int)=D1 k s) && decide (k=11->0<Dn s)
def Ay (k:Int) (s:ByteArray) (st:St):Res :=
 if k=2 then (if 200<s.size then .error 1 else .ok st)
 else if k=3 then Bh s 1 st
 else if k=5\/k=9 then Bh s 2 st
 else if k=6 then (if 0<lvl s then .ok st else .error 4)
 else if k=12 then (if s.toList = [78,82]\/s.toList = [78,70] then .ok st else .error 4)
 else if k=11 then .ok st
 else if 0<s.size then .error 4 else .ok st
def ckE:Nat->Ex->Int->St->Res
 | 0,_,_,st=> .ok st
 | m+1,.mk k n s l,d,st =>
  match B6 d st with
  | .error e=> .error e
  | .ok st1 =>
   if k<1\/12<k then .error 3
   else if Bt k n s l.length=false then .error 4
   else match Ay k s st1 with
    | .error e=> .error e
    | .ok st2=>if n<0\/1099511627776<n then .error 2 else Au (fun x=>ckE m x (d+1)) l st2
def Ek (k:Int) (len:Nat):Bool :=
 if k=1\/k=5\/k=6\/k=9 then decide (len=1)
 else if k=2\/k=3 then decide (len=2)
 else if k=4 then decide (1<=len) else decide (len=0)
def Dw (k:Int) (es b e:Nat):Bool:=Ek k es && decide (b=0\/(5<=k/\k<=7)) && decide (e=0\/k=5)
def Bi (k:Int) (s:ByteArray) (st:St):Res :=
 if k=1\/k=7 then Bh s 1 st
 else if k=2\/k=9\/k=10 then Bh s 2 st
 else if 0<s.size then .error 4 else .ok st
def Bc (k:Int) (t:ByteArray) (st:St):Res :=
 if k=7 then Bh t 2 st
 else if k=10 then (if 200<t.size then .error 1 else .ok st)
 else if 0<t.size then .error 4 else .ok st
def As (when k:Int) (s t:ByteArray) (st:St):Res :=
 match Bi k s st with
 | .error e=> .error e
 | .ok st1=>if k=10/\when ≠ 0 then .error 7 else Bc k t st1
def ckS (when:Int):Nat->Sm->Int->St->Res
 | 0,_,_,st=> .ok st
 | m+1,.mk k s t es b e,d,st =>
  match B6 d st with
  | .error r=> .error r
  | .ok st1 =>
   if k<1\/10<k then .error 3
   else if Dw k es.length b.length e.length=false then .error 4
   else match As when k s t st1 with
    | .error r=> .error r
    | .ok st2 =>
     if k=8/\when ≠ 1 then .error 7
     else match Au (fun x=>ckE m x (d+1)) es st2 with
      | .error r=> .error r
      | .ok st3=>match Au (fun x=>ckS when m x (d+1)) b st3 with
       | .error r=> .error r
       | .ok st4=>Au (fun x=>ckS when m x (d+1)) e st4
def C5:Ex->Bool
 | .mk k n s l=>decide (k=0) && decide (n=0) && decide (s.size=0) && decide (l.length=0)
def ckR (m:Nat) (r:Ru) (st:St):Res :=
 if r.when<0\/2<r.when then .error 3
 else if r.has=true/\r.when ≠ 1 then .error 4
 else match (if r.has then ckE m r.pat 1 st else .ok st) with
  | .error e=> .error e
  | .ok st1=>if r.has=false/\C5 r.pat=false then .error 4 else Au (fun x=>ckS r.when m x 1) r.body st1
def ckP (m:Nat) (l:List Ru):Int :=
 if 20<l.length then 1
 else match Au (ckR m) l ⟨fun _=>0,0⟩ with
  | .error e=>e
  | .ok _=>0
instance:Inhabited Ex:=⟨.mk 0 0 ⟨#[]⟩ []⟩
def bs (l:List UInt8):ByteArray:=⟨l.toArray⟩
theorem Fa (a b:List UInt8):bs a ++ bs b=bs (a ++ b):=by
 apply ByteArray.ext
 simp [bs,ByteArray.data_append]
theorem Nj (s:ByteArray):bs s.toList=s:=by
 rw [ByteArray.toList_eq]
 apply ByteArray.ext
 simp [bs]
theorem Ba (l:List UInt8):(bs l).size=l.length:=by simp [bs,ByteArray.size]
theorem B5 (l:List UInt8):(bs l).toList=l:=by rw [ByteArray.toList_eq];simp [bs]
theorem Ml (a b:ByteArray):(a ++ b).toList=a.toList ++ b.toList:=by
 rw [ByteArray.toList_eq,ByteArray.toList_eq,ByteArray.toList_eq,ByteArray.data_append,Array.toList_append]
theorem Hr (s:ByteArray):s.toList.length=s.size:=by rw [ByteArray.toList_eq];simp
theorem Z9 (l:List UInt8):(⟨l.toArray⟩:ByteArray).toList=l:=B5 l
def Pv (c:UInt8):List UInt8:=if c=34\/c=92 then [92,c] else if c=10 then [92,110] else [c]
def Pw (s:List UInt8):List UInt8:= [34] ++ s.flatMap Pv ++ [34]
theorem T3 (c:UInt8):(Pv c).length<=2:=by unfold Pv;split <;> (try split) <;> simp
theorem T4 (s:List UInt8):(s.flatMap Pv).length<=2 * s.length:=by
 induction s with
 | nil=>simp
 | cons c s ih=>have:=T3 c;simp only [List.flatMap_cons,lap,List.length_cons];omega
theorem Lw (s:List UInt8):(Pw s).length<=2 * s.length+2:=by
 have:=T4 s;simp only [Pw,lap,List.length_cons,List.length_nil];omega
def Ld:List (List UInt8)->List UInt8
 | []=> []
 | [x]=>x
 | x :: y :: l=>x ++ [44,32] ++ Ld (y :: l)
def exT:Nat->Ex->List UInt8
 | 0,_=> []
 | m+1,.mk k n s l =>
  if k=1 then Lib.itoa n
  else if k=2 then Pw s.toList
  else if k=4 then [40,36] ++ exT m (l.getD 0 default) ++ [41]
  else if k=5 then s.toList ++ [91] ++ exT m (l.getD 0 default) ++ [93]
  else if k=6 then [40] ++ exT m (l.getD 0 default) ++ [32] ++ s.toList ++ [32] ++ exT m (l.getD 1 default) ++ [41]
  else if k=7 then [40,45] ++ exT m (l.getD 0 default) ++ [41]
  else if k=8 then [40,33] ++ exT m (l.getD 0 default) ++ [41]
  else if k=9 then [40] ++ exT m (l.getD 0 default) ++ [32,105,110,32] ++ s.toList ++ [41]
  else if k=10 then [40] ++ exT m (l.getD 0 default) ++ [32,63,32] ++ exT m (l.getD 1 default) ++ [32,58,32] ++ exT m (l.getD 2 default) ++ [41]
  else if k=11 then s.toList ++ [40] ++ Ld (l.map (exT m)) ++ [41]
  else s.toList
def blL (f:Sm->List UInt8) (l:List Sm):List UInt8:= [123,32] ++ l.flatMap (fun x=>f x ++ [32]) ++ [125]
def smT:Nat->Sm->List UInt8
 | 0,_=> []
 | m+1,.mk k s t es b e =>
  if k=1 then s.toList ++ [32,61,32] ++ exT m (es.getD 0 default) ++ [59]
  else if k=2 then s.toList ++ [91] ++ exT m (es.getD 0 default) ++ [93] ++ [32,61,32] ++ exT m (es.getD 1 default) ++ [59]
  else if k=3 then [36] ++ exT m (es.getD 0 default) ++ [32,61,32] ++ exT m (es.getD 1 default) ++ [59]
  else if k=4 then [112,114,105,110,116,32] ++ Ld (es.map (exT m)) ++ [59]
  else if k=5 then [105,102,32,40] ++ exT m (es.getD 0 default) ++ [41,32] ++ blL (smT m) b ++ [32,101,108,115,101,32] ++ blL (smT m) e
  else if k=6 then [119,104,105,108,101,32,40] ++ exT m (es.getD 0 default) ++ [41,32] ++ blL (smT m) b
  else if k=7 then [102,111,114,32,40] ++ s.toList ++ [32,105,110,32] ++ t.toList ++ [41,32] ++ blL (smT m) b
  else if k=8 then [110,101,120,116,59]
  else if k=9 then [100,101,108,101,116,101,32] ++ s.toList ++ [91] ++ exT m (es.getD 0 default) ++ [93] ++ [59]
  else [108,111,97,100,32] ++ Pw t.toList ++ [32] ++ s.toList ++ [59]
def ruT (m:Nat) (r:Ru):List UInt8 :=
 (if r.when=0 then [66,69,71,73,78,32] else if r.when=2 then [69,78,68,32] else if r.has then exT m r.pat ++ [32] else []) ++ blL (smT m) r.body
def prT (m:Nat) (l:List Ru):List UInt8:=l.flatMap fun r=>ruT m r ++ [10]
def okE:Nat->Ex->Prop
 | 0,_=>False
 | m+1,.mk k n s l=>1<=k/\k<=12/\Bt k n s l.length=true/\s.size<=200/\0<=n/\n<=1099511627776/\∀x ∈ l,okE m x
def okS:Nat->Sm->Prop
 | 0,_=>False
 | m+1,.mk k s t es b e=>1<=k/\k<=10/\Dw k es.length b.length e.length=true/\s.size<=200/\t.size<=200/\(∀x ∈ es,okE m x)/\(∀x ∈ b,okS m x)/\∀x ∈ e,okS m x
def okR (m:Nat) (r:Ru):Prop:=0<=r.when/\r.when<=2/\(r.has=true->r.when=1/\okE m r.pat)/\∀x ∈ r.body,okS m x
theorem Da {k n:Int} {s:ByteArray} {len:Nat} (h:Bt k n s len=true):(len:Int)=D1 k s:=by
 simp only [Bt,Bool.and_eq_true,decide_eq_true_eq] at h;exact h.1.2
structure Pc where
 k:Int
 s:List UInt8
 n:Int
def Bw (c:UInt8):Bool:=decide ((97<=c.toNat/\c.toNat<=122)\/(65<=c.toNat/\c.toNat<=90))
def Bv (c:UInt8):Bool:=decide (48<=c.toNat/\c.toNat<=57)
def Cf (c:UInt8):Bool:=decide (c.toNat=32\/c.toNat=9\/c.toNat=10)
def M2 (l:List UInt8):Nat:=l.foldl (fun a c=>10 * a+(c.toNat - 48)) 0
def Jp (l:List UInt8):Except Int Int :=
 if 1<l.length/\l.head? = some 48 then .error 4 else if 1099511627776<M2 l then .error 2 else .ok (M2 l)
def C3:List UInt8->List UInt8->Nat->Except Int (List UInt8 × Nat)
 | [],_,_=> .error 5
 | c :: r,acc,i =>
  if c.toNat=34 then .ok (acc,i+1)
  else if c.toNat=10 then .error 4
  else if c.toNat=92 then
   match r with
   | []=> .error 5
   | d :: r'=>if d.toNat=34\/d.toNat=92 then C3 r' (acc ++ [d]) (i+2) else if d.toNat=110 then C3 r' (acc ++ [10]) (i+2) else .error 4
  else C3 r (acc ++ [c]) (i+1)
def Bp:List (List UInt8):= [[60,61],[61,61],[33,61],[62,61],[38,38],[124,124],[46,46],[43],[45],[42],[47],[37],[60],[62],[33],[36],[40],[41],[123],[125],[91],[93],[44],[59],[61],[63],[58]]
def B9 (l:List UInt8):Except Int (Pc × Nat) :=
 if 0<(l.takeWhile Bw).length then .ok (⟨1,l.takeWhile Bw,0⟩,(l.takeWhile Bw).length)
 else if 0<(l.takeWhile Bv).length then
  match Jp (l.takeWhile Bv) with
  | .error e=> .error e
  | .ok n=> .ok (⟨2,[],n⟩,(l.takeWhile Bv).length)
 else if l.head? = some 34 then
  match C3 l.tail [] 1 with
  | .error e=> .error e
  | .ok (t,i)=> .ok (⟨3,t,0⟩,i)
 else match Bp.find? (fun t=>t.isPrefixOf l) with
  | some t=> .ok (⟨4,t,0⟩,t.length)
  | none=> .error 4
def Gi:Nat->List UInt8->Except Int (List Pc)
 | 0,_=> .ok []
 | m+1,l =>
  match l.dropWhile Cf with
  | []=> .ok []
  | c :: r=>match B9 (c :: r) with
   | .error e=> .error e
   | .ok (p,i)=>match Gi m ((c :: r).drop i) with
    | .error e=> .error e
    | .ok ps=> .ok (p :: ps)
abbrev Rd (α:Type):=Except Int (α × List Pc)
def Aj (t:List UInt8):List Pc->Bool
 | []=>false
 | p :: _=>decide (p.k ≠ 3) && decide (p.s=t)
def A8 (t:List UInt8) (ps:List Pc):Rd Unit:=match ps with
 | []=> .error 5
 | p :: r=>if Aj t (p :: r) then .ok ((),r) else .error 4
def Dt (l:List UInt8):Bool:=decide (1<=l.length) && decide (l.length<=8) && !C9.contains l && l.all (fun c=>decide (97<=c.toNat/\c.toNat<=122))
def nmR (ps:List Pc):Rd (List UInt8):=match ps with
 | []=> .error 5
 | p :: r=>if p.k=1/\Dt p.s=true then .ok (p.s,r) else .error 4
def Ys (l:List UInt8):Int :=
 if l = [124,124] then 1
 else if l = [38,38] then 2
 else if l = [60]\/l = [60,61]\/l = [61,61]\/l = [33,61]\/l = [62]\/l = [62,61]\/l = [105,110] then 3
 else if l = [46,46] then 4
 else if l = [43]\/l = [45] then 5
 else if l = [42]\/l = [47]\/l = [37] then 6 else 0
def G6:List Pc->Int
 | []=>0
 | p :: _=>if p.k=3 then 0 else Ys p.s
def J4 (l:List UInt8):Int:=if l = [108,101,110,103,116,104] then 1 else if l = [105,110,100,101,120] then 2 else if l = [115,117,98,115,116,114] then 3 else 0
def A3 (k n:Int) (s:List UInt8) (l:List Ex):Ex:= .mk k n (bs s) l
mutual
def Ax:Nat->Int->List Pc->Rd Ex
 | 0,_,_=> .error 0
 | m+1,o,ps =>
  if 40<o+1 then .error 1
  else match Cs m 1 (o+1) ps with
   | .error e=> .error e
   | .ok (x,ps1)=>if Aj [63] ps1 then
    match Ax m (o+1) ps1.tail with
    | .error e=> .error e
    | .ok (y,ps2)=>match A8 [58] ps2 with
     | .error e=> .error e
     | .ok (_,ps3)=>match Ax m (o+1) ps3 with
      | .error e=> .error e
      | .ok (z,ps4)=> .ok (A3 10 0 [] [x,y,z],ps4)
    else .ok (x,ps1)
def Cs:Nat->Int->Int->List Pc->Rd Ex
 | 0,_,_,_=> .error 0
 | m+1,d,o,ps =>
  if 6<d then opR m o ps
  else match Cs m (d+1) o ps with
   | .error e=> .error e
   | .ok (x,ps1)=>Fm m d o x ps1
def Fm:Nat->Int->Int->Ex->List Pc->Rd Ex
 | 0,_,_,_,_=> .error 0
 | m+1,d,o,x,ps =>
  if G6 ps=d then
   match ps with
   | []=> .ok (x,ps)
   | p :: r =>
    if p.s = [105,110] then
     match nmR r with
     | .error e=> .error e
     | .ok (t,r1)=>Fm m d o (A3 9 0 t [x]) r1
    else match Cs m (d+1) o r with
     | .error e=> .error e
     | .ok (y,r1)=>Fm m d o (A3 6 0 p.s [x,y]) r1
  else .ok (x,ps)
def opR:Nat->Int->List Pc->Rd Ex
 | 0,_,_=> .error 0
 | m+1,o,ps =>
  if Aj [45] ps then Hs m 7 o ps.tail
  else if Aj [33] ps then Hs m 8 o ps.tail
  else if Aj [36] ps then Hs m 4 o ps.tail
  else match ps with
   | []=> .error 5
   | p :: r =>
    if p.k=2 then .ok (A3 1 p.n [] [],r)
    else if p.k=3 then .ok (A3 2 0 p.s [],r)
    else if p.k=1 then B7 m o p.s r
    else if p.s = [40] then
     match Ax m o r with
     | .error e=> .error e
     | .ok (x,r1)=>match A8 [41] r1 with
      | .error e=> .error e
      | .ok (_,r2)=> .ok (x,r2)
    else .error 4
def Hs:Nat->Int->Int->List Pc->Rd Ex
 | 0,_,_,_=> .error 0
 | m+1,k,o,ps=>match Ht m o ps with
  | .error e=> .error e
  | .ok (x,r)=> .ok (A3 k 0 [] [x],r)
def Ht:Nat->Int->List Pc->Rd Ex
 | 0,_,_=> .error 0
 | m+1,o,ps=>if 40<o+1 then .error 1 else opR m (o+1) ps
def B7:Nat->Int->List UInt8->List Pc->Rd Ex
 | 0,_,_,_=> .error 0
 | m+1,o,s,ps =>
  if s = [78,82]\/s = [78,70] then .ok (A3 12 0 s [],ps)
  else if 0<J4 s then
   match A8 [40] ps with
   | .error e=> .error e
   | .ok (_,p1)=>match Bo m o p1 with
    | .error e=> .error e
    | .ok (l,p2)=>match A8 [41] p2 with
     | .error e=> .error e
     | .ok (_,p3)=> .ok (A3 11 0 s l,p3)
  else if Dt s=false then .error 4
  else if Aj [91] ps then
   match Fo m o ps with
   | .error e=> .error e
   | .ok (x,p1)=> .ok (A3 5 0 s [x],p1)
  else .ok (A3 3 0 s [],ps)
def Fo:Nat->Int->List Pc->Rd Ex
 | 0,_,_=> .error 0
 | m+1,o,ps=>match A8 [91] ps with
  | .error e=> .error e
  | .ok (_,p1)=>match Ax m o p1 with
   | .error e=> .error e
   | .ok (x,p2)=>match A8 [93] p2 with
    | .error e=> .error e
    | .ok (_,p3)=> .ok (x,p3)
def Bo:Nat->Int->List Pc->Rd (List Ex)
 | 0,_,_=> .error 0
 | m+1,o,ps=>match Ax m o ps with
  | .error e=> .error e
  | .ok (x,p1)=>Fv m o [x] p1
def Fv:Nat->Int->List Ex->List Pc->Rd (List Ex)
 | 0,_,_,_=> .error 0
 | m+1,o,l,ps=>if Aj [44] ps then
  match Ax m o ps.tail with
  | .error e=> .error e
  | .ok (x,p1)=>Fv m o (l ++ [x]) p1
  else .ok (l,ps)
end
def Cn (m:Nat) (o:Int) (ps:List Pc):Rd Ex:=match A8 [40] ps with
 | .error e=> .error e
 | .ok (_,p1)=>match Ax m o p1 with
  | .error e=> .error e
  | .ok (x,p2)=>match A8 [41] p2 with
   | .error e=> .error e
   | .ok (_,p3)=> .ok (x,p3)
def Hh (m:Nat) (o:Int) (ps:List Pc):Rd Ex:=match A8 [61] ps with
 | .error e=> .error e
 | .ok (_,p1)=>Ax m o p1
def Bk (k:Int) (s t:List UInt8) (es:List Ex) (b e:List Sm):Sm:= .mk k (bs s) (bs t) es b e
def Gp (m:Nat) (o:Int) (ps:List Pc):Rd Sm:=match nmR ps with
 | .error e=> .error e
 | .ok (s,p1)=>if Aj [91] p1 then
  match Fo m o p1 with
  | .error e=> .error e
  | .ok (x,p2)=>match Hh m o p2 with
   | .error e=> .error e
   | .ok (y,p3)=> .ok (Bk 2 s [] [x,y] [] [],p3)
  else match Hh m o p1 with
   | .error e=> .error e
   | .ok (y,p3)=> .ok (Bk 1 s [] [y] [] [],p3)
def Bl (m:Nat) (o:Int) (ps:List Pc):Rd Sm :=
 if Aj [112,114,105,110,116] ps then
  match Bo m o ps.tail with
  | .error e=> .error e
  | .ok (l,p1)=> .ok (Bk 4 [] [] l [] [],p1)
 else if Aj [110,101,120,116] ps then .ok (Bk 8 [] [] [] [] [],ps.tail)
 else if Aj [100,101,108,101,116,101] ps then
  match nmR ps.tail with
  | .error e=> .error e
  | .ok (s,p1)=>match Fo m o p1 with
   | .error e=> .error e
   | .ok (x,p2)=> .ok (Bk 9 s [] [x] [] [],p2)
 else if Aj [108,111,97,100] ps then
  match ps.tail with
  | []=> .error 5
  | f :: p1=>if f.k ≠ 3 then .error 4
   else match nmR p1 with
    | .error e=> .error e
    | .ok (s,p2)=> .ok (Bk 10 s f.s [] [] [],p2)
 else if Aj [36] ps then
  match Ht m o ps.tail with
  | .error e=> .error e
  | .ok (x,p1)=>match Hh m o p1 with
   | .error e=> .error e
   | .ok (y,p2)=> .ok (Bk 3 [] [] [x,y] [] [],p2)
 else Gp m o ps
mutual
def A5:Nat->Int->List Pc->Rd (List Sm)
 | 0,_,_=> .error 0
 | m+1,o,ps =>
  if 40<o+1 then .error 1
  else match A8 [123] ps with
   | .error e=> .error e
   | .ok (_,p1)=>Dc m (o+1) [] p1
def Dc:Nat->Int->List Sm->List Pc->Rd (List Sm)
 | 0,_,_,_=> .error 0
 | m+1,o,l,ps =>
  if Aj [125] ps then .ok (l,ps.tail)
  else match Bn m o ps with
   | .error e=> .error e
   | .ok (x,p1)=>Dc m o (l ++ [x]) p1
def Bn:Nat->Int->List Pc->Rd Sm
 | 0,_,_=> .error 0
 | m+1,o,ps =>
  if Aj [105,102] ps then
   match Cn m o ps.tail with
   | .error e=> .error e
   | .ok (x,p1)=>match A5 m o p1 with
    | .error e=> .error e
    | .ok (b,p2)=>if Aj [101,108,115,101] p2 then
     match A5 m o p2.tail with
     | .error e=> .error e
     | .ok (c,p3)=> .ok (Bk 5 [] [] [x] b c,p3)
     else .ok (Bk 5 [] [] [x] b [],p2)
  else if Aj [119,104,105,108,101] ps then
   match Cn m o ps.tail with
   | .error e=> .error e
   | .ok (x,p1)=>match A5 m o p1 with
    | .error e=> .error e
    | .ok (b,p2)=> .ok (Bk 6 [] [] [x] b [],p2)
  else if Aj [102,111,114] ps then
   match A8 [40] ps.tail with
   | .error e=> .error e
   | .ok (_,p1)=>match nmR p1 with
    | .error e=> .error e
    | .ok (s,p2)=>match A8 [105,110] p2 with
     | .error e=> .error e
     | .ok (_,p3)=>match nmR p3 with
      | .error e=> .error e
      | .ok (t,p4)=>match A8 [41] p4 with
       | .error e=> .error e
       | .ok (_,p5)=>match A5 m o p5 with
        | .error e=> .error e
        | .ok (b,p6)=> .ok (Bk 7 s t [] b [],p6)
  else match Bl m o ps with
   | .error e=> .error e
   | .ok (x,p1)=>match A8 [59] p1 with
    | .error e=> .error e
    | .ok (_,p2)=> .ok (x,p2)
end
def Cl (m:Nat) (o:Int) (ps:List Pc):Rd Ru :=
 if Aj [66,69,71,73,78] ps then
  match A5 m o ps.tail with
  | .error e=> .error e
  | .ok (b,p1)=> .ok (⟨0,false,A3 0 0 [] [],b⟩,p1)
 else if Aj [69,78,68] ps then
  match A5 m o ps.tail with
  | .error e=> .error e
  | .ok (b,p1)=> .ok (⟨2,false,A3 0 0 [] [],b⟩,p1)
 else if Aj [123] ps then
  match A5 m o ps with
  | .error e=> .error e
  | .ok (b,p1)=> .ok (⟨1,false,A3 0 0 [] [],b⟩,p1)
 else match Ax m o ps with
  | .error e=> .error e
  | .ok (x,p1)=>match A5 m o p1 with
   | .error e=> .error e
   | .ok (b,p2)=> .ok (⟨1,true,x,b⟩,p2)
def Ca (m:Nat):Nat->List Ru->List Pc->Except Int (List Ru)
 | 0,_,_=> .error 0
 | j+1,l,ps=>match ps with
  | []=> .ok l
  | p :: r=>match Cl m 0 (p :: r) with
   | .error e=> .error e
   | .ok (x,p1)=>Ca m j (l ++ [x]) p1
def Ch (s:List UInt8):Except Int (List Ru) :=
 if 6000<s.length then .error 1
 else match Gi (s.length+1) s with
  | .error e=> .error e
  | .ok ps=>match Ca (20 * ps.length+40) (ps.length+1) [] ps with
   | .error e=> .error e
   | .ok l=>if ckP (20 * ps.length+40) l=0 then .ok l else .error (ckP (20 * ps.length+40) l)
end Go.Proofs.YtppcohadoilpgaaGreatDoor
