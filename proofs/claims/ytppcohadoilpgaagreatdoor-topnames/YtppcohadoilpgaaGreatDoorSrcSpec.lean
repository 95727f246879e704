/-
  What the maker of sources draws: raw numbers, and the texts of expressions, statements, blocks and sources as a grammar. / The maker of sources in memory; what it draws next.
-/
import Derived.Test.YtppcohadoilpgaaGreatDoorGround
import Derived.Lib.ItoaLen
import Derived.WalkKit
import Derived.Test.YtppcohadoilpgaaGreatDoorRdRead
import Derived.Test.YtppcohadoilpgaaGreatDoorPrShelf
namespace Go.Proofs.YtppcohadoilpgaaGreatDoor
open Go.RowKit Go.Proofs.Tryz
set_option maxRecDepth 100000
structure Rw where
 kind:Int
 a:Int
 b:Int
 c:Int
deriving Inhabited
def Rw.ok (x:Rw):Prop:=(Lit.int .i64 x.kind).wf=true/\(Lit.int .i64 x.a).wf=true/\(Lit.int .i64 x.b).wf=true/\(Lit.int .i64 x.c).wf=true
def Fi (n:Int) (m:Nat):Nat:=((if n<0 then -(n+1) else n) % (m:Int)).toNat
theorem Eh (n:Int) {m:Nat} (hm:0<m):Fi n m<m:=by
 unfold Fi;have:=Int.emod_lt_of_pos (if n<0 then -(n+1) else n) (show (0:Int)<m by omega);have:=Int.emod_nonneg (if n<0 then -(n+1) else n) (show (m:Int) ≠ 0 by omega);omega
def Hb (l:List Rw) (i:Nat):Rw :=
 if l.length=0 then ⟨0,0,0,0⟩ else
 let r:=l.getD (i % l.length) default
 ⟨r.kind,wrap64 (r.a+(((i+1) / l.length:Nat):Int)),r.b,r.c⟩
def Oa:List (List UInt8):= [[120],[121],[122],[115,101,101,100]]
def Abx:List (List UInt8):= [[32,43,32],[32,45,32],[32,42,32],[32,46,46,32],[32,47,32],[32,37,32],[32,60,32],[32,60,61,32],[32,61,61,32],[32,33,61,32],[32,62,32],[32,62,61,32],[32,38,38,32],[32,124,124,32]]
def G7:List (List UInt8):= [[97],[98]]
def Gj (n:Nat):List UInt8:=Lib.itoa (n:Int)
inductive GE:Nat->Bool->List UInt8->Prop
 | num {d:Nat} {b:Bool} {n:Nat} (h:n<30):GE d b (Gj n)
 | var {d:Nat} {b:Bool} {v:List UInt8} (h:v ∈ Oa):GE d b v
 | st {d:Nat} {b:Bool}:GE d b [34,116,34]
 | st2 {d:Nat} {b:Bool}:GE d b [34,49,50,32,98,34]
 | elem {d:Nat} {b:Bool} {n:Nat} (h0:0<n) (h:n<5):GE d b ([97,91] ++ Gj n ++ [93])
 | op {d:Nat} {b:Bool} {s t o:List UInt8} (ho:o ∈ Abx) (hs:GE d b s) (ht:GE d b t):GE (d+1) b ([40] ++ s ++ o ++ t ++ [41])
 | cond {d:Nat} {b:Bool} {s t u:List UInt8} (hs:GE d b s) (ht:GE d b t) (hu:GE d b u):GE (d+1) b ([40] ++ s ++ [32,63,32] ++ t ++ [32,58,32] ++ u ++ [41])
 | elemv {d:Nat} {b:Bool} {s a:List UInt8} (ha:a ∈ G7) (hs:GE d b s):GE (d+1) b (a ++ [91] ++ s ++ [93])
 | isin {d:Nat} {b:Bool} {s a:List UInt8} (ha:a ∈ G7) (hs:GE d b s):GE (d+1) b ([40] ++ s ++ [32,105,110,32] ++ a ++ [41])
 | lenf {d:Nat} {b:Bool} {s:List UInt8} (hs:GE d b s):GE (d+1) b ([108,101,110,103,116,104,40] ++ s ++ [41])
 | sub {d:Nat} {b:Bool} {s t:List UInt8} (hs:GE d b s) (ht:GE d b t):GE (d+1) b ([115,117,98,115,116,114,40] ++ s ++ [44,32] ++ t ++ [44,32,50,41])
 | neg {d:Nat} {b:Bool} {s:List UInt8} (hs:GE d b s):GE (d+1) b ([40,45] ++ s ++ [41])
 | no {d:Nat} {b:Bool} {s:List UInt8} (hs:GE d b s):GE (d+1) b ([40,33] ++ s ++ [41])
 | index {d:Nat} {s:List UInt8} (hs:GE d true s):GE (d+1) true ([105,110,100,101,120,40] ++ s ++ [44,32,34,116,34,41])
 | nr {d:Nat}:GE d false [78,82]
 | nf {d:Nat}:GE d false [78,70]
 | field {d n:Nat} (h:n<4):GE d false ([40,36] ++ Gj n ++ [41])
inductive GS:Nat->Bool->List UInt8->Prop
 | set {d:Nat} {b:Bool} {v s:List UInt8} (hv:v ∈ Oa) (hs:GE 2 b s):GS d b (v ++ [32,61,32] ++ s ++ [59])
 | put {d:Nat} {b:Bool} {s t:List UInt8} (hs:GE 1 b s) (ht:GE 2 b t):GS d b ([98,91] ++ s ++ [93,32,61,32] ++ t ++ [59])
 | print {d:Nat} {b:Bool} {s t:List UInt8} (hs:GE 2 b s) (ht:GE 1 b t):GS d b ([112,114,105,110,116,32] ++ s ++ [44,32] ++ t ++ [59])
 | load {d:Nat}:GS d true [108,111,97,100,32,34,116,97,98,34,32,97,59]
 | write {d n:Nat} {s:List UInt8} (h0:0<n) (h:n<4) (hs:GE 1 false s):GS d false ([36] ++ Gj n ++ [32,61,32] ++ s ++ [59])
 | delete {d:Nat} {b:Bool} {s:List UInt8} (hs:GE 1 b s):GS d b ([100,101,108,101,116,101,32,98,91] ++ s ++ [93,59])
 | next {d:Nat} {s:List UInt8} (hs:GE 1 false s):GS d false ([105,102,32,40] ++ s ++ [41,32,123,32,110,101,120,116,59,32,125])
 | print2 {d:Nat} {b:Bool}:GS d b [112,114,105,110,116,32,120,44,32,121,59]
 | branch {d:Nat} {b:Bool} {s t u:List UInt8} (hs:GE 2 b s) (ht:GS d b t) (hu:GS d b u):GS (d+1) b ([105,102,32,40] ++ s ++ [41,32,123,32] ++ t ++ [32,125,32,101,108,115,101,32,123,32] ++ u ++ [32,125])
 | each {d:Nat} {b:Bool} {v a s t:List UInt8} (hv:v ∈ [[107],[120],[106]]) (ha:a ∈ G7) (hs:GS d b s) (ht:GE 1 b t):GS (d+1) b ([102,111,114,32,40] ++ v ++ [32,105,110,32] ++ a ++ [41,32,123,32] ++ s ++ [32,112,114,105,110,116,32] ++ t ++ [59,32,125])
 | loop {d n:Nat} {b:Bool} {s:List UInt8} (h0:0<n) (h:n<5) (hs:GS 0 b s):GS (d+1) b ([122,32,61,32,48,59,32,119,104,105,108,101,32,40,122,32,60,32] ++ Gj n ++ [41,32,123,32,122,32,61,32,122,32,43,32,49,59,32] ++ s ++ [32,125])
inductive GL:Bool->Nat->List UInt8->Prop
 | nil {b:Bool}:GL b 0 [123,32]
 | snoc {b:Bool} {n:Nat} {s t:List UInt8} (hs:GL b n s) (ht:GS 2 b t):GL b (n+1) (s ++ (t ++ [32]))
def GB (b:Bool) (m:Nat) (s:List UInt8):Prop:=∃n t,0<n/\n<=m/\GL b n t/\s=t ++ [125,10]
inductive GR:Nat->List UInt8->Prop
 | first:GR 0 [66,69,71,73,78,32,123,32,108,111,97,100,32,34,116,97,98,34,32,97,59,32,115,101,101,100,32,61,32,51,59,32,125,10]
 | begin {n:Nat} {s t:List UInt8} (hs:GR n s) (ht:GB true 4 t):GR (n+1) (s ++ ([66,69,71,73,78,32] ++ t))
 | main {n:Nat} {s t:List UInt8} (hs:GR n s) (ht:GB false 3 t):GR (n+1) (s ++ t)
 | pat {n:Nat} {s e t:List UInt8} (hs:GR n s) (he:GE 2 false e) (ht:GB false 3 t):GR (n+1) (s ++ (e ++ [32]) ++ t)
def Aed:List UInt8:= [69,78,68,32,123,32,112,114,105,110,116,32,120,44,32,121,44,32,122,44,32,115,101,101,100,59,32,102,111,114,32,40,107,32,105,110,32,98,41,32,123,32,112,114,105,110,116,32,107,44,32,98,91,107,93,59,32,125,32,125,10]
def Ok (s:List UInt8):Prop:=∃n t,n<=5/\GR n t/\s=t ++ Aed
theorem F3 {n:Nat} (h:n<30):(Gj n).length<=2:=by
 have h1:(List.range 30).all (fun n=>decide ((Gj n).length<=2))=true:=by kernel_rfl
 exact of_decide_eq_true (List.all_eq_true.1 h1 n (List.mem_range.2 h))
theorem Sp {v:List UInt8} (h:v ∈ Oa):v.length<=4:=by
 have:∀v ∈ Oa,v.length<=4:=by decide
 exact this v h
theorem Aby {v:List UInt8} (h:v ∈ Abx):v.length<=4:=by
 have:∀v ∈ Abx,v.length<=4:=by decide
 exact this v h
theorem Jm {v:List UInt8} (h:v ∈ G7):v.length<=1:=by
 have:∀v ∈ G7,v.length<=1:=by decide
 exact this v h
theorem GE.short {d:Nat} {b:Bool} {s:List UInt8} (h:GE d b s):s.length<=20 * 4 ^ d:=by
 have p:∀d,1<=4 ^ d:=fun d=>Nat.one_le_pow _ _ (by omega)
 induction h with
 | @num d b n h=>have:=F3 h;have:=p d;omega
 | @var d b v h=>have:=Sp h;have:=p d;omega
 | @elem d b n h0 h=>have:=F3 (show n<30 by omega);have:=p d;simp only [lap,List.length_cons,List.length_nil];omega
 | @field d n h=>have:=F3 (show n<30 by omega);have:=p d;simp only [lap,List.length_cons,List.length_nil];omega
 | @op d b s t o ho hs ht i1 i2=>have:=Aby ho;have:=p d;rw [Nat.pow_succ];simp only [lap,List.length_cons,List.length_nil];omega
 | @elemv d b s a ha hs i1=>have:=Jm ha;have:=p d;rw [Nat.pow_succ];simp only [lap,List.length_cons,List.length_nil];omega
 | @isin d b s a ha hs i1=>have:=Jm ha;have:=p d;rw [Nat.pow_succ];simp only [lap,List.length_cons,List.length_nil];omega
 | @st d b | @st2 d b | @nr d | @nf d=>have:=p d;simp only [List.length_cons,List.length_nil];omega
 | @cond d b s t u hs ht hu i1 i2 i3=>have:=p d;rw [Nat.pow_succ];simp only [lap,List.length_cons,List.length_nil];omega
 | @sub d b s t hs ht i1 i2=>have:=p d;rw [Nat.pow_succ];simp only [lap,List.length_cons,List.length_nil];omega
 | @lenf d b s hs i1 | @neg d b s hs i1 | @no d b s hs i1 | @index d s hs i1=>have:=p d;rw [Nat.pow_succ];simp only [lap,List.length_cons,List.length_nil];omega
theorem GE.len1 {b:Bool} {s:List UInt8} (h:GE 1 b s):s.length<=80:=h.short
theorem GE.len2 {b:Bool} {s:List UInt8} (h:GE 2 b s):s.length<=320:=h.short
theorem GS.short {d:Nat} {b:Bool} {s:List UInt8} (h:GS d b s):s.length<=800 * 4 ^ d:=by
 have p:∀d,1<=4 ^ d:=fun d=>Nat.one_le_pow _ _ (by omega)
 induction h with
 | @set d b v s hv hs=>have:=Sp hv;have:=hs.len2;have:=p d;simp only [lap,List.length_cons,List.length_nil];omega
 | @put d b s t hs ht=>have:=hs.len1;have:=ht.len2;have:=p d;simp only [lap,List.length_cons,List.length_nil];omega
 | @print d b s t hs ht=>have:=hs.len2;have:=ht.len1;have:=p d;simp only [lap,List.length_cons,List.length_nil];omega
 | @load d | @print2 d b=>have:=p d;simp only [List.length_cons,List.length_nil];omega
 | @write d n s h0 h hs=>have:=F3 (show n<30 by omega);have:=hs.len1;have:=p d;simp only [lap,List.length_cons,List.length_nil];omega
 | @delete d b s hs=>have:=hs.len1;have:=p d;simp only [lap,List.length_cons,List.length_nil];omega
 | @next d s hs=>have:=hs.len1;have:=p d;simp only [lap,List.length_cons,List.length_nil];omega
 | @branch d b s t u hs ht hu i1 i2=>have:=hs.len2;have:=p d;rw [Nat.pow_succ];simp only [lap,List.length_cons,List.length_nil];omega
 | @each d b v a s t hv ha hs ht i1 =>
  have h1:v.length<=1:=by
   have:∀v ∈ ([[107],[120],[106]]:List (List UInt8)),v.length<=1:=by decide
   exact this v hv
  have:=Jm ha;have:=ht.len1;have:=p d;rw [Nat.pow_succ];simp only [lap,List.length_cons,List.length_nil];omega
 | @loop d n b s h0 h hs i1=>have:=F3 (show n<30 by omega);have:=p d;rw [Nat.pow_zero] at i1;rw [Nat.pow_succ];simp only [lap,List.length_cons,List.length_nil];omega
theorem GS.len2 {b:Bool} {s:List UInt8} (h:GS 2 b s):s.length<=12800:=h.short
theorem GL.len {b:Bool} {n:Nat} {s:List UInt8} (h:GL b n s):s.length<=2+n * 12801:=by
 induction h with
 | nil=>simp
 | snoc hs ht i=>have:=ht.len2;simp only [lap,List.length_cons,List.length_nil];omega
theorem GB.len {b:Bool} {m:Nat} {s:List UInt8} (h:GB b m s):s.length<=4+m * 12801:=by
 obtain⟨n,t,h0,hn,hl,rfl⟩:=h;have:=hl.len;simp only [lap,List.length_cons,List.length_nil];omega
theorem GR.len {n:Nat} {s:List UInt8} (h:GR n s):s.length<=100+n * 60000:=by
 induction h with
 | first=>simp
 | begin hs ht i=>have:=ht.len;simp only [lap,List.length_cons,List.length_nil];omega
 | main hs ht i=>have:=ht.len;simp only [lap];omega
 | pat hs he ht i=>have:=he.len2;have:=ht.len;simp only [lap,List.length_cons,List.length_nil];omega
theorem Ok.len {s:List UInt8} (h:Ok s):s.length<=400000:=by
 obtain⟨n,t,hn,hr,rfl⟩:=h;have:=hr.len;have e:Aed.length=61:=by decide
 rw [lap,e];omega
end Go.Proofs.YtppcohadoilpgaaGreatDoor
namespace Go.Proofs.YtppcohadoilpgaaGreatDoor
open Go.ChangeShapes Go.WideShapes Go.ChangeAt Go.RowKit Go.Joins Go.Proofs.Tryz
set_option maxHeartbeats 2000000
set_option linter.unusedVariables false
set_option maxRecDepth 100000
def RwA (w:World) (r:Nat) (v:Value) (l:List Rw):Prop :=
 ∃(a:Option Addr) (cap:Nat),v = .slice a l.length cap/\l.length<=maxLen/\(∀x ∈ l,x.ok)/\(0<l.length->∃b off,a=some ⟨b,off,none⟩/\b<r/\∀(i:Nat) (x:Rw),l[i]? = some x ->
  w.cell? ⟨b,off+i * 4,none⟩=some (.int .i64 x.kind)/\w.cell? ⟨b,off+i * 4+1,none⟩=some (.int .i64 x.a)/\w.cell? ⟨b,off+i * 4+2,none⟩=some (.int .i64 x.b)/\w.cell? ⟨b,off+i * 4+3,none⟩=some (.int .i64 x.c))
theorem RwA.low {w w':World} {r:Nat} {v:Value} {l:List Rw} (h:RwA w r v l) (hw:∀k,k<r->w'.heap[k]? = w.heap[k]?):RwA w' r v l:=by
 obtain⟨a,cap,h1,h2,h3,h4⟩:=h;refine⟨a,cap,h1,h2,h3,fun h0=>?_⟩;obtain⟨b,off,ha,hb,hi⟩:=h4 h0;refine⟨b,off,ha,hb,fun i p hp=>?_⟩;have:=hi i p hp;have e:∀j,w'.cell? ⟨b,j,none⟩=w.cell? ⟨b,j,none⟩:=fun j=>World.cell?_of_block (a:=⟨b,j,none⟩) (hw b hb);rw [e,e,e,e];exact this
structure Mk (r:Nat) (w:World) (l:List Rw) (i:Nat):Prop where
 raws:∃v,w.cell? ⟨r,0,none⟩=some v/\RwA w r v l
 ci:w.cell? ⟨r,1,none⟩=some (.int .i64 i)
 cn:∃n:Int,w.cell? ⟨r,2,none⟩=some (.int .i64 n)
 fi:w.frozen? ⟨r,1,none⟩=false
 fn:w.frozen? ⟨r,2,none⟩=false
 pw:D4 r w
theorem Mk.lt {r:Nat} {w:World} {l:List Rw} {i:Nat} (h:Mk r w l i):r<w.heap.size:=World.block_lt_of_cell? w ⟨r,1,none⟩ h.ci
theorem Mk.low {r:Nat} {w w':World} {l:List Rw} {i:Nat} (h:Mk r w l i) (hb:Below (r+1) w w'):Mk r w' l i:=by
 obtain⟨v,h1,h2⟩:=h.raws;obtain⟨n,hn⟩:=h.cn;exact⟨⟨v,(hb.cell (p:=⟨r,0,none⟩) (Nat.lt_succ_self r)).trans h1,h2.low fun k hk=>hb.block k (by omega)⟩,(hb.cell (p:=⟨r,1,none⟩) (Nat.lt_succ_self r)).trans h.ci,⟨n,(hb.cell (p:=⟨r,2,none⟩) (Nat.lt_succ_self r)).trans hn⟩,(hb.frozen (p:=⟨r,1,none⟩) (Nat.lt_succ_self r)).trans h.fi,(hb.frozen (p:=⟨r,2,none⟩) (Nat.lt_succ_self r)).trans h.fn,h.pw.low fun k hk=>hb.block k (by omega)⟩
theorem Mk.below {r:Nat} {w w':World} {l:List Rw} {i:Nat} (h:Mk r w l i) (hb:Below w.heap.size w w'):Mk r w' l i:=h.low (hb.mono h.lt)
theorem Mk.alloc {r:Nat} {w:World} {l:List Rw} {i:Nat} (h:Mk r w l i) (ob:Obj):Mk r (w.alloc ob) l i:=h.below (br0.alloc lr0 ob)
theorem Mk.set {r:Nat} {w:World} {l:List Rw} {i:Nat} (h:Mk r w l i) (j:Nat):Mk r (w.setCell ⟨r,1,none⟩ (.int .i64 (j:Int))) l j:=by
 obtain⟨v,h1,h2⟩:=h.raws;obtain⟨n,hn⟩:=h.cn;refine⟨⟨v,(World.cell?_setCell_other _ _ _ _ (by simp)).trans h1,h2.low fun k hk=>Below.heap_setCell _ _ _ _ (by simp;omega)⟩,World.cell?_setCell_same _ _ _ h.ci,⟨n,(World.cell?_setCell_other _ _ _ _ (by simp)).trans hn⟩,by simp [h.fi],by simp [h.fn],h.pw.low fun k hk=>Below.heap_setCell _ _ _ _ (by simp;omega)⟩
theorem Mk.setn {r:Nat} {w:World} {l:List Rw} {i:Nat} (h:Mk r w l i) (j:Int):Mk r (w.setCell ⟨r,2,none⟩ (.int .i64 j)) l i:=by
 obtain⟨v,h1,h2⟩:=h.raws;obtain⟨n,hn⟩:=h.cn;refine⟨⟨v,(World.cell?_setCell_other _ _ _ _ (by simp)).trans h1,h2.low fun k hk=>Below.heap_setCell _ _ _ _ (by simp;omega)⟩,(World.cell?_setCell_other _ _ _ _ (by simp)).trans h.ci,⟨j,World.cell?_setCell_same _ _ _ hn⟩,by simp [h.fi],by simp [h.fn],h.pw.low fun k hk=>Below.heap_setCell _ _ _ _ (by simp;omega)⟩
def rwV (x:Rw):Value:= .agg #[.int .i64 x.kind,.int .i64 x.a,.int .i64 x.b,.int .i64 x.c]
theorem Od (n:Int):(Lit.int .i64 (wrap64 n)).wf=true:=by
 have h1:(-9223372036854775808:Int)<=wrap64 n/\wrap64 n<=9223372036854775807:=by unfold wrap64;omega
 simp only [Lit.wf,Bool.and_eq_true,decide_eq_true_eq];exact h1
theorem Ac3 {n:Int} (h:(Lit.int .i64 n).wf=true):(Lit.int .i64 (n.tdiv 4)).wf=true:=by
 simp only [Lit.wf,Bool.and_eq_true,decide_eq_true_eq] at h ⊢;have h1:(-9223372036854775808:Int)<=n:=h.1;have h2:n<=9223372036854775807:=h.2;have h4:(n.tdiv 4).natAbs=n.natAbs / 4:=by rw [Int.natAbs_tdiv];rfl
 have h3:(-9223372036854775808:Int)<=n.tdiv 4/\n.tdiv 4<=9223372036854775807:=by omega
 exact h3
theorem Mk.ok {r:Nat} {w:World} {l:List Rw} {i:Nat} (h:Mk r w l i) (j:Nat):(Hb l j).ok:=by
 obtain⟨v,_,a,cap,_,_,hok,_⟩:=h.raws;unfold Hb;split
 . exact⟨by decide,by decide,by decide,by decide⟩
 . rename_i h0;have hlt:j % l.length<l.length:=Nat.mod_lt _ (by omega);have e:l.getD (j % l.length) default=l[j % l.length]:=by simp [List.getD,gee hlt]
   obtain⟨h1,h2,h3,h4⟩:=hok _ (List.getElem_mem hlt);simp only [e];exact⟨h1,Od _,h3,h4⟩
theorem Fj (n:Int) (m:Nat) (w:World) (hn:(Lit.int .i64 n).wf=true) (hm:0<m) (hm2:m<=1000000) :
 Calls prog 20 #[.int .i64 n,.int .i64 m] w fun e w'=>e = .returned (.int .i64 (Fi n m:Nat))/\w'=w:=by
 simp only [Lit.wf,Bool.and_eq_true,decide_eq_true_eq] at hn;have h1:(-9223372036854775808:Int)<=n:=hn.1;have h2:n<=9223372036854775807:=hn.2;clear hn;have hm0:¬(m:Int)=0:=by omega
 have hm1:¬(m:Int) = -1:=by omega
 by_cases h0:n<0
 . have i1: -9223372036854775808<=n+1:=by omega
   have i2:n+1<=9223372036854775807:=by omega
   have i3: -9223372036854775808 <= -(n+1):=by omega
   have i4: -(n+1)<=9223372036854775807:=by omega
   have HK:Hid (((Fi n m:Nat):Int) = -(Int.tmod (n+1) m)):=by
    unfold Hid Fi;rw [if_pos h0,<-Int.neg_tmod,Int.tmod_eq_emod_of_nonneg (show 0 <= -(n+1) by omega)];have:=Int.emod_nonneg (-(n+1)) hm0;omega
   go_enter func20,ntmps20
   go_wp2_with fail
   go_ret
   exact⟨A4 HK.out.symm,rfl⟩
 . have HK:Hid (((Fi n m:Nat):Int)=n % m):=by
    unfold Hid Fi;rw [if_neg h0];have:=Int.emod_nonneg n hm0;omega
   go_enter func20,ntmps20
   go_wp2_with fail
   go_ret
   exact⟨A4 HK.out.symm,rfl⟩
theorem K8 (r:Nat) (l:List Rw) (i:Nat) (w:World) (hM:Mk r w l i) (hi:i<1000000) :
 Calls prog 26 #[.pointer (some ⟨r,0,none⟩)] w fun e w'=>e = .returned (rwV (Hb l i))/\Mk r w' l (i+1)/\But r r w w':=by
 have HM:Hid (Mk r w l i):=hM;have HS:Hid (∀o,Mk r ((w.setCell ⟨r,1,none⟩ (.int .i64 ((i+1:Nat):Int))).alloc o) l (i+1)):=fun o=>(hM.set _).alloc o;have HB:Hid (∀o,But r r w ((w.setCell ⟨r,1,none⟩ (.int .i64 ((i+1:Nat):Int))).alloc o)):=fun o=>((But.refl _ _ _).set _ _).alloc o;have rl:r<w.heap.size:=hM.lt;have rn:¬r=w.heap.size:=by omega
 have nr:¬w.heap.size=r:=by omega
 obtain⟨z,hz⟩:∃z:Int,z=(i:Int):=⟨_,rfl⟩;have HZ:Hid (((i+1:Nat):Int)=z+1):=by unfold Hid;omega
 rw [HZ.out] at HS HB;obtain⟨v,c0,a,cap,rfl,hlen,hok,hin⟩:=hM.raws;have c1:=hM.ci;rw [<-hz] at c1;have f1:=hM.fi;have i1:(-9223372036854775808:Int)<=z+1:=by omega
 have i2:z+1<=9223372036854775807:=by omega
 by_cases h0:l.length=0
 . have HN:Hid (Hb l i = ⟨0,0,0,0⟩):=by unfold Hid Hb;rw [if_pos h0]
   rw [h0] at c0;clear hM hin hok hlen hz hi HM;go_enter func26,ntmps26
   go_wp2_with fail
   refine bodyPost_ret (v:= .agg #[.int .i64 0,.int .i64 0,.int .i64 0,.int .i64 0]) (by simp [results,results26,go_sem]) rfl ?_;rw [HN.out];exact⟨rfl,HS.out _,HB.out _⟩
 . obtain⟨b,off,rfl,hb,hin⟩:=hin (by omega);have hlt:i % l.length<l.length:=Nat.mod_lt _ (by omega);obtain⟨x,hx⟩:∃x,l[i % l.length]? = some x:=⟨_,gee hlt⟩;obtain⟨d0,d1,d2,d3⟩:=hin _ x hx;obtain⟨j,hj⟩:∃j,j=i % l.length:=⟨_,rfl⟩;obtain⟨q,hq⟩:∃q,q=(i+1) / l.length:=⟨_,rfl⟩;have HN:Hid (Hb l i = ⟨x.kind,wrap64 (x.a+((q:Nat):Int)),x.b,x.c⟩):=by
    unfold Hid Hb;rw [if_neg h0,hq,show l.getD (i % l.length) default=x by simp [List.getD,hx]]
   obtain⟨n,hn⟩:∃n,n=l.length:=⟨_,rfl⟩;have bl:b<w.heap.size:=by omega
   have bn:¬b=w.heap.size:=by omega
   have nb:¬w.heap.size=b:=by omega
   have hbr:¬b=r:=by omega
   have hrb:¬r=b:=by omega
   have j1:(n:Int)<=9223372036854775807:=by rw [hn];unfold maxLen at hlen;omega
   have j0:¬(n:Int)=0:=by omega
   have j2:¬(n:Int) = -1:=by omega
   have z0:¬z<0:=by omega
   have z3:(-9223372036854775808:Int)<=z:=by omega
   have z4:z<=9223372036854775807:=by omega
   have jz:(0:Int)<=(j:Int):=by omega
   have jn:(j:Int)<(n:Int):=by omega
   have q1:z % (n:Int)=(j:Int):=by rw [hz,hj,hn];rfl
   have q2:z.tmod (n:Int)=(j:Int):=by rw [Int.tmod_eq_emod_of_nonneg (by omega)];exact q1
   have q3:(z+1) / (n:Int)=(q:Int):=by rw [hz,hq,hn];rfl
   have q4:(z+1).tdiv (n:Int)=(q:Int):=by rw [Int.tdiv_eq_ediv_of_nonneg (by omega)];exact q3
   have q5:(-9223372036854775808:Int)<=(q:Int):=by omega
   have q6:(q:Int)<=9223372036854775807:=by
    have:q<=i+1:=by rw [hq];exact Nat.div_le_self _ _
    omega
   rw [<-hj] at d0 d1 d2 d3;rw [<-hn] at c0;have hx4:x.ok:=hok x (List.mem_of_getElem? hx);clear hM hin hok hlen hx hlt hi hb HM hz hj hq h0 hn;obtain⟨xk,xa,xb,xc⟩:=x;simp only at d0 d1 d2 d3 HN;go_enter func26,ntmps26
   go_wp2_with fail
   go_region
   go_wp2_with fail
   go_region
   go_wp2_with fail
   refine bodyPost_ret (v:= .agg #[.int .i64 xk,.int .i64 (wrap64 (xa+(q:Int))),.int .i64 xb,.int .i64 xc]) (by simp [results,results26,go_sem]) rfl ?_;rw [HN.out];refine⟨rfl,?_⟩;exact⟨((((HS.out _).alloc _).below (Ac _)).below (Ac _)),(((HB.out _).alloc _).more (Ac _)).more (Ac _)⟩
end Go.Proofs.YtppcohadoilpgaaGreatDoor
