/-
  Files and lines (P3.1): what is wrong with them, as a function of data; how they lie in memory, below a block's number B. / Contracts of eval.checkLines, checkFile and CheckWorld: they answer what is wrong with files and lines. / Contract of eval.CheckWorld.
-/
import Derived.Test.YtppcohadoilpgaaGreatDoorCkMem
import Derived.Lib.Bytealg
import Derived.Test.YtppcohadoilpgaaGreatDoorShelf
import Derived.Handy
import Derived.BigQuiet
import Derived.Lib.QuietBelow
namespace Go.Proofs.YtppcohadoilpgaaGreatDoor
open Go.ChangeShapes Go.WideShapes Go.ChangeAt Go.RowKit Go.Joins Go.Proofs.Tryz
set_option maxRecDepth 100000
structure Fl where
 name:ByteArray
 lines:List ByteArray
 deriving Inhabited
def C4 (s:ByteArray):Bool:=decide (s.size<=200) && !s.data.toList.contains 10
def Cq (l:List ByteArray):Int:=if l.all C4 then 0 else 4
def Cd (x:Fl) (ahead:List Fl):Int :=
 if 100<x.lines.length\/200<x.name.size then 1 else if ahead.any (fun g=>g.name.toList == x.name.toList) then 9 else Cq x.lines
def B3 (fs:List Fl) (ls:List ByteArray):Int :=
 if 8<fs.length\/200<ls.length then 1
 else (((List.range fs.length).map fun i=>Cd (fs.getD i default) (fs.take i)).find? (· != 0)).getD (Cq ls)
theorem M3 (l:List UInt8) (c:UInt8):decide (0<=Lib.indexByte l c)=l.contains c:=by
 induction l with
 | nil=>rfl
 | cons b l ih =>
  have hg:=Lib.indexByte_ge l c;unfold Lib.indexByte
  by_cases h:b=c
  . simp [h]
  . have h2:(b == c)=false:=by simpa using h
    have h3:(c == b)=false:=by simpa using fun e=>h e.symm
    rw [h2];simp only [Bool.false_eq_true,if_false,List.contains_cons,h3,Bool.false_or];rw [<-ih]
    by_cases h4:Lib.indexByte l c = -1
    . rw [h4];rfl
    . have h5:(Lib.indexByte l c == -1)=false:=by simpa using h4
      rw [h5];simp only [Bool.false_eq_true,if_false];rw [decide_eq_true (by omega),decide_eq_true (by omega)]
theorem Abl {s:ByteArray} (h1:s.size<=200) (h2:s.data.toList.contains 10=false):C4 s=true:=by simp only [C4,h2,decide_eq_true h1];rfl
theorem Tc {s:ByteArray} (h1:¬s.size<=200):C4 s=false:=by simp [C4,h1]
theorem Wd {s:ByteArray} (h2:s.data.toList.contains 10=true):C4 s=false:=by simp only [C4,h2];simp
theorem We {l:List ByteArray} (h:∀q,q<l.length->C4 (l.getD q default)=true):Cq l=0:=by
 have:l.all C4=true:=by
  rw [List.all_eq_true];intro x hx;obtain⟨q,hq,e⟩:=List.getElem_of_mem hx;have:=h q hq
  rwa [List.getD_eq_getElem?_getD,gee hq,Option.getD_some,e] at this
 simp [Cq,this]
theorem Lh {l:List ByteArray} {q:Nat} (hq:q<l.length) (h:C4 (l.getD q default)=false):Cq l=4:=by
 have:l.all C4=false:=by
  rw [List.all_eq_false];refine⟨l[q],List.getElem_mem hq,?_⟩;rw [List.getD_eq_getElem?_getD,gee hq,Option.getD_some] at h;simp [h]
 simp [Cq,this]
theorem S6 {f:Nat->Int} {n k:Nat} {d:Int} (hk:k<n) (h:∀q,q<k->f q=0) (h2:f k ≠ 0):(((List.range n).map f).find? (· != 0)).getD d=f k:=by
 have:((List.range n).map f).find? (· != 0)=some (f k):=by
  rw [List.find?_eq_some_iff_getElem];refine⟨by simpa using h2,k,by simpa using hk,by simp,fun j hj=>?_⟩;have:=h j hj;simp [this]
 rw [this];rfl
theorem V9 {f:Nat->Int} {n:Nat} {d:Int} (h:∀q,q<n->f q=0):(((List.range n).map f).find? (· != 0)).getD d=d:=by
 have:((List.range n).map f).find? (· != 0)=none:=by
  rw [List.find?_eq_none];intro x hx;simp only [List.mem_map,List.mem_range] at hx;obtain⟨q,hq,rfl⟩:=hx;simp [h q hq]
 rw [this];rfl
theorem Mt {fs:List Fl} {ls:List ByteArray} (h:8<fs.length\/200<ls.length):B3 fs ls=1:=by simp [B3,h]
theorem Up {fs:List Fl} {ls:List ByteArray} (h:¬(8<fs.length\/200<ls.length)) {k:Nat} (hk:k<fs.length) (h1:∀q,q<k->Cd (fs.getD q default) (fs.take q)=0) (h2:Cd (fs.getD k default) (fs.take k) ≠ 0):B3 fs ls=Cd (fs.getD k default) (fs.take k):=by
 rw [B3,if_neg h];exact S6 (f:=fun i=>Cd (fs.getD i default) (fs.take i)) hk h1 h2
theorem Xf {fs:List Fl} {ls:List ByteArray} (h:¬(8<fs.length\/200<ls.length)) (h1:∀q,q<fs.length->Cd (fs.getD q default) (fs.take q)=0):B3 fs ls=Cq ls:=by
 rw [B3,if_neg h];exact V9 (f:=fun i=>Cd (fs.getD i default) (fs.take i)) h1
def TxA (c:List Value) (s:ByteArray):Prop:=c = [.string s]/\s.size<=maxLen
def TxL (w:World) (B:Nat) (v:Value) (l:List ByteArray):Prop:=Sl w B 1 v l.length (fun i c=>∃s,l[i]? = some s/\TxA c s)
def FlA (B:Nat) (w:World) (c:List Value) (x:Fl):Prop:=∃v,c = [.string x.name,v]/\x.name.size<=maxLen/\TxL w B v x.lines
def FlL (w:World) (B:Nat) (v:Value) (l:List Fl):Prop:=(∃a len cap,v = .slice a len cap/\len<=cap)/\Sl w B 2 v l.length (fun i c=>∃x,l[i]? = some x/\FlA B w c x)
theorem TxL.below {w w':World} {B:Nat} {v:Value} {l:List ByteArray} (h:TxL w B v l) (hw:Below B w w'):TxL w' B v l:=Sl.below h hw fun _ _ h=>h
theorem FlA.below {w w':World} {B:Nat} {c:List Value} {x:Fl} (h:FlA B w c x) (hw:Below B w w'):FlA B w' c x:=by
 obtain⟨v,h1,h2,h3⟩:=h;exact⟨v,h1,h2,h3.below hw⟩
theorem FlL.below {w w':World} {B:Nat} {v:Value} {l:List Fl} (h:FlL w B v l) (hw:Below B w w'):FlL w' B v l:=⟨h.1,Sl.below h.2 hw fun _ _ ⟨x,hx,he⟩=>⟨x,hx,he.below hw⟩⟩
theorem Ahy {w:World} {b off:Nat} {l:List ByteArray} (hi:∀i,i<l.length->∃cs:List Value,cs.length=1/\(∀j,j<1->w.cell? ⟨b,off+i * 1+j,none⟩=cs[j]?)/\∃s,l[i]? = some s/\TxA cs s) (i:Nat) (h:i<l.length) :
 w.cell? ⟨b,off+i,none⟩=some (.string (l.getD i default))/\(l.getD i default).size<=maxLen:=by
 obtain⟨cs,_,hc,s,hs,rfl,hz⟩:=hi i h;have:=hc 0 (by omega);have e:l.getD i default=s:=by simp [List.getD_eq_getElem?_getD,hs]
 rw [e];exact⟨by simpa using this,hz⟩
theorem Abf {w:World} {B b off:Nat} {l:List Fl} (hi:∀i,i<l.length->∃cs:List Value,cs.length=2/\(∀j,j<2->w.cell? ⟨b,off+i * 2+j,none⟩=cs[j]?)/\∃x,l[i]? = some x/\FlA B w cs x) (i o:Nat) (ho:off+i * 2=o) (h:i<l.length) :
 ∃(a:Option Addr) (cap:Nat),w.cell? ⟨b,o,none⟩=some (.string (l.getD i default).name)/\w.cell? ⟨b,o+1,none⟩=some (.slice a (l.getD i default).lines.length cap)/\(l.getD i default).name.size<=maxLen/\(l.getD i default).lines.length<=maxLen/\Hid (TxL w B (.slice a (l.getD i default).lines.length cap) (l.getD i default).lines):=by
 obtain⟨cs,_,hc,x,hx,v,rfl,hz,ht⟩:=hi i h;have e:l.getD i default=x:=by simp [List.getD_eq_getElem?_getD,hx]
 subst ho;rw [e];have ht':=ht;obtain⟨a,cap,rfl,hl,_⟩:=ht;exact⟨a,cap,hc 0 (by omega),hc 1 (by omega),hz,hl,ht'⟩
section
variable {H : Type} {enc : TypeId × Value -> H} {w : World} {base : Nat} {spare : Nat -> Bool} {held : Bool}
end
end Go.Proofs.YtppcohadoilpgaaGreatDoor
namespace Go.Proofs.YtppcohadoilpgaaGreatDoor
open Go.ChangeShapes Go.WideShapes Go.ChangeAt Go.RowKit Go.Joins Go.Proofs.Tryz
set_option maxHeartbeats 1000000
set_option linter.unusedVariables false
set_option maxRecDepth 100000
theorem Is (B:Nat) (l:List ByteArray) (v:Value) (w:World) (hv:TxL w B v l) :
 Calls prog 32 #[v] w fun e w'=>e = .returned (.int .i64 (Cq l))/\w'=w:=by
 obtain⟨a,cap,rfl,hl,hsl⟩:=hv;unfold maxLen at hl;go_enter func32,ntmps32
 go_wp2_with fail
 go_loop [7] (fun v=>∃k:Nat,k<=l.length/\v = .int .i64 k/\Hid (∀q,q<k->C4 (l.getD q default)=true)) (fun v=>l.length - (intOf v).toNat)
 case atStart=>exact⟨0,by omega,rfl,fun q hq=>absurd hq (Nat.not_lt_zero _)⟩
 case round =>
  obtain⟨k,hk,rfl,HQ⟩:=hrel
  by_cases hlt:k<l.length
  . obtain⟨b,off,rfl,hb,hi⟩:=hsl (by omega);obtain⟨c0,z0⟩:=Ahy hi k hlt;have i1:(k:Int)<(l.length:Int):=by omega
    have i2:(0:Int)<=(k:Int):=by omega
    obtain⟨x,hx⟩:∃x,x=l.getD k default:=⟨_,rfl⟩;rw [<-hx] at c0 z0;have HX:Hid (x=l.getD k default):=hx;clear hx hi hsl
    by_cases h200:x.size<=200
    . have j1:¬200<(x.size:Int):=by omega
      have hcc:=fun w=>Tryz.strings_Contains_one x 10 w;simp only [M3] at hcc;cases hct:x.data.toList.contains 10 with
      | false =>
       rw [hct] at hcc;have R2:Hid (∀q,q<k+1->C4 (l.getD q default)=true):=fun q hq=>by
        by_cases e:q=k
        . subst e;rw [<-HX.out];exact Abl h200 hct
        . exact HQ.out q (by omega)
       have HC:Hid _:=hcc;clear hcc hct HQ h200;go_wp2_with (refine (HC.out _).mono ?_;rintro e w1 ⟨rfl,rfl⟩)
       go_round
       case rel=>exact⟨k+1,by omega,by go_num,R2⟩
       case measure=>simp [intOf];omega
      | true =>
       rw [hct] at hcc;have HL:Hid (Cq l=4):=Lh hlt (by rw [<-HX.out];exact Wd hct);have HC:Hid _:=hcc;clear hcc hct HQ h200;go_wp2_with (refine (HC.out _).mono ?_;rintro e w1 ⟨rfl,rfl⟩)
       go_ret
       exact⟨A4 HL.out.symm,rfl⟩
    . have j1:200<(x.size:Int):=by omega
      have HL:Hid (Cq l=4):=Lh hlt (by rw [<-HX.out];exact Tc h200);clear HQ h200;go_wp2_with fail
      go_ret
      exact⟨A4 HL.out.symm,rfl⟩
  . have i1:¬(k:Int)<(l.length:Int):=by omega
    have HL:Hid (Cq l=0):=We fun q hq=>HQ.out q (by omega);clear HQ hsl;go_wp2_with fail
    go_ret
    exact⟨A4 HL.out.symm,rfl⟩
theorem Ud (c:Addr) (s t:ByteArray) (v:Value) (w:World) (hc:w.cell? c=some (.string t)) :
 Calls prog 50 #[.agg #[.string s,v],.pointer (some c)] w fun e w'=>e = .returned (.bool (s.toList == t.toList))/\Below w.heap.size w w':=by
 obtain⟨b,o,sp⟩:=c;obtain rfl:sp=none:=World.cell?_spot hc;have hlt:=World.block_lt_of_cell? w _ hc;simp only at hlt;go_enter func50,ntmps50
 go_wp2_with fail
 go_ret
 exact⟨Am rfl,br0.alloc lr0 _⟩
def K1 (l:List Fl) (n:Nat) (t:ByteArray):Bool:=(l.take n).any (fun g=>g.name.toList == t.toList)
theorem Adv {l:List Fl} {n:Nat} {t:ByteArray} (hn:n<=l.length) (h:∀q,q<n->((l.getD q default).name.toList == t.toList)=false):K1 l n t=false:=by
 rw [K1,List.any_eq_false];intro x hx;obtain⟨q,hq,rfl⟩:=List.getElem_of_mem hx;rw [List.length_take] at hq;have:=h q (by omega);rw [List.getD_eq_getElem?_getD,gee (by omega),Option.getD_some] at this;simp [this]
theorem Adw {l:List Fl} {n q:Nat} {t:ByteArray} (hn:n<=l.length) (hq:q<n) (h:((l.getD q default).name.toList == t.toList)=true):K1 l n t=true:=by
 rw [K1,List.any_eq_true];rw [List.getD_eq_getElem?_getD,gee (by omega),Option.getD_some] at h;refine⟨l[q],?_,h⟩;have h2:(l.take n)[q]? = some l[q]:=by rw [List.getElem?_take,if_pos hq,gee]
 exact List.mem_of_getElem? h2
theorem Re (B:Nat) (l:List Fl) (n:Nat) (a:Option Addr) (cap cap':Nat) (c:Addr) (t:ByteArray) (w:World) (hv:FlL w B (.slice a l.length cap) l) (hB:B<=w.heap.size) (hn:n<=l.length) (hc:w.cell? c=some (.string t)) :
 Calls prog 76 #[.slice a n cap',.func (.func 50) #[] #[.pointer (some c)]] w fun e w'=>∃k:Int,e = .returned (.int .i64 k)/\decide (0<=k)=K1 l n t/\Below w.heap.size w w':=by
 obtain⟨-,a,cap,hvv,hl,hsl⟩:=hv;cases hvv;unfold maxLen at hl;have hcl:=World.block_lt_of_cell? w _ hc;have HC:Hid (w.cell? c=some (.string t)):=hc;have HCL:Hid (c.block<w.heap.size):=hcl;clear hc hcl;go_enter func76,ntmps76
 go_wp2_with fail
 go_loopw [8] (fun v wr=>∃k:Nat,k<=n/\v = .int .i64 k/\Hid (Below w.heap.size w wr/\∀q,q<k->((l.getD q default).name.toList == t.toList)=false)) (fun v _=>n - (intOf v).toNat)
 case atStart=>exact⟨0,by omega,rfl,Below.refl _ _,fun q hq=>absurd hq (Nat.not_lt_zero _)⟩
 case round =>
  obtain⟨k,hk,rfl,HQ⟩:=hrel
  by_cases hlt:k<n
  . obtain⟨b,off,rfl,hb,hi⟩:=hsl (by omega);obtain⟨a1,cap1,c0,c1,z0,z1,ht⟩:=Abf hi k _ rfl (by omega);obtain⟨x,hx⟩:∃x,x=l.getD k default:=⟨_,rfl⟩;rw [<-hx] at c0 c1;have hbw:b<w.heap.size:=by omega
    have d0:=(HQ.out.1.cell (p:=⟨b,off+k * 2,none⟩) hbw).trans c0;have d1:=(HQ.out.1.cell (p:=⟨b,off+k * 2+1,none⟩) hbw).trans c1;have i1:(k:Int)<(n:Int):=by omega
    have i2:(0:Int)<=(k:Int):=by omega
    have hcc:=fun v=>Ud c x.name t v _ ((HQ.out.1.cell HCL.out).trans HC.out);cases hs:(x.name.toList == t.toList) with
    | false =>
     have HN:Hid (∀q,q<k+1->((l.getD q default).name.toList == t.toList)=false):=fun q hq=>by
      by_cases e:q=k
      . subst e;rw [<-hx];exact hs
      . exact HQ.out.2 q (by omega)
     rw [hs] at hcc;have HCC:Hid _:=hcc;clear hcc hs hx c0 c1 hi hsl ht z0 z1;go_wp2_with fail
     refine (HCC.out _).mono ?_;rintro e w1 ⟨rfl,hb1⟩;have R2:Hid (Below w.heap.size w w1):=Aa HQ.out.1 hb1;clear hb1 HQ;go_wp2_with fail
     go_roundw
     case rel=>exact⟨k+1,by omega,by go_num,R2.out,HN.out⟩
     case measure=>simp [intOf];omega
    | true =>
     have HN:Hid (K1 l n t=true):=Adw hn hlt (by rw [<-hx];exact hs);rw [hs] at hcc;have HCC:Hid _:=hcc;clear hcc hs hx c0 c1 hi hsl ht z0 z1;go_wp2_with fail
     refine (HCC.out _).mono ?_;rintro e w1 ⟨rfl,hb1⟩;have R2:Hid (Below w.heap.size w w1):=Aa HQ.out.1 hb1;clear hb1 HQ;go_wp2_with fail
     go_ret
     exact⟨k,rfl,by rw [HN.out];simp,R2.out⟩
  . have i1:¬(k:Int)<(n:Int):=by omega
    have HN:Hid (K1 l n t=false):=Adv hn fun q hq=>HQ.out.2 q (by omega);have R2:Hid (Below w.heap.size w _):=HQ.out.1;clear HQ hsl;go_wp2_with fail
    go_ret
    exact⟨-1,rfl,by rw [HN.out];rfl,R2.out⟩
theorem K5 (B:Nat) (l:List Fl) (n:Nat) (a:Option Addr) (cap cap':Nat) (c:Addr) (t:ByteArray) (w:World) (hv:FlL w B (.slice a l.length cap) l) (hB:B<=w.heap.size) (hn:n<=l.length) (hc:w.cell? c=some (.string t)) :
 Calls prog 49 #[.slice a n cap',.func (.func 50) #[] #[.pointer (some c)]] w fun e w'=>e = .returned (.bool (K1 l n t))/\Below w.heap.size w w':=by
 have H:=Re B l n a cap cap' c t w hv hB hn hc;have HI:Hid _:=H;clear H hv hc;go_enter func49,ntmps49
 go_wp2_with fail
 refine Calls.mono HI.out ?_;rintro e w1 ⟨k,rfl,hk,hb⟩;have HK:Hid _:=hk;have HB:Hid _:=hb;clear hk hb;go_wp2_with fail
 go_ret
 exact⟨Am HK.out,HB.out⟩
theorem Qu (B:Nat) (l:List Fl) (n:Nat) (a:Option Addr) (cap cap':Nat) (cs:List Value) (x:Fl) (w:World) (hv:FlL w B (.slice a l.length cap) l) (hB:B<=w.heap.size) (hn:n<=l.length) (hx:FlA B w cs x) :
 Calls prog 31 #[.agg cs.toArray,.slice a n cap'] w fun e w'=>e = .returned (.int .i64 (Cd x (l.take n)))/\Below w.heap.size w w':=by
 obtain⟨v,rfl,hz,ht⟩:=hx;have HT:Hid (TxL w B v x.lines):=ht;obtain⟨a1,cap1,rfl,hl1,_⟩:=ht;unfold maxLen at hl1 hz;obtain⟨nm,hnm⟩:∃nm,nm=x.name:=⟨_,rfl⟩;obtain⟨k,hk⟩:∃k,k=x.lines.length:=⟨_,rfl⟩;rw [<-hnm] at hz;rw [<-hk] at HT hl1;obtain⟨o,ho⟩:∃o,o=Obj.cells #[Value.string nm,Value.slice a1 k cap1] 61:=⟨_,rfl⟩;have HA:Hid (Below w.heap.size w (w.alloc o)):=br0.alloc lr0 o;have hcell:(w.alloc o).cell? ⟨w.heap.size,0,none⟩=some (.string nm)/\(w.alloc o).cell? ⟨w.heap.size,1,none⟩=some (.slice a1 k cap1):=by
  rw [ho];exact⟨by simp [go_sem],by simp [go_sem]⟩
 obtain⟨hc0,hc1⟩:=hcell;have HV:Hid (FlL (w.alloc o) B (.slice a l.length cap) l):=hv.below (HA.out.mono hB);show Calls prog 31 #[.agg #[.string x.name,.slice a1 x.lines.length cap1],.slice a n cap'] w _;rw [<-hnm,<-hk]
 by_cases h100:100<x.lines.length
 . have HF:Hid (Cd x (l.take n)=1):=by simp [Cd,h100,Hid]
   have i1:100<(k:Int):=by omega
   clear h100 hk hnm hc0 hc1;go_enter func31,ntmps31
   go_wp2_with fail
   rw [<-ho];go_ret
   exact⟨A4 HF.out.symm,HA.out⟩
 by_cases h200:200<x.name.size
 . have HF:Hid (Cd x (l.take n)=1):=by simp [Cd,h200,Hid]
   have i1:¬100<(k:Int):=by omega
   have i2:200<(nm.size:Int):=by rw [hnm];omega
   clear h100 hk hnm hc0 hc1 h200;go_enter func31,ntmps31
   go_wp2_with fail
   rw [<-ho];go_ret
   exact⟨A4 HF.out.symm,HA.out⟩
 have hF:Cd x (l.take n)=if K1 l n nm=true then 9 else Cq x.lines:=by rw [Cd,if_neg (by omega),K1,hnm]
 have i1:¬100<(k:Int):=by omega
 have i2:¬200<(nm.size:Int):=by rw [hnm];omega
 have hcf:=K5 B l n a cap cap' ⟨w.heap.size,0,none⟩ nm (w.alloc o) HV.out (lq0 hB HA.out.size) hn hc0;have HCF:Hid _:=hcf;have HTA:Hid (TxL (w.alloc o) B (.slice a1 k cap1) x.lines):=HT.out.below (HA.out.mono hB);have hsz:w.heap.size<(w.alloc o).heap.size:=by simp [go_sem]
 have HSZ:Hid _:=hsz;have HC1:Hid _:=hc1;clear hcf hsz h100 h200 hk hnm hc0 hc1 HV HT hv;cases hany:K1 l n nm with
 | true =>
  rw [hany] at HCF;have HF:Hid (Cd x (l.take n)=9):=by rw [hF,hany];rfl
  clear hF hany;go_enter func31,ntmps31
  go_wp2_with fail
  rw [<-ho];refine Calls.mono HCF.out ?_;rintro e w1 ⟨rfl,hb⟩;have HB:Hid (Below w.heap.size w w1):=Aa HA.out hb;clear hb;go_wp2_with fail
  go_ret
  exact⟨A4 HF.out.symm,HB.out⟩
 | false =>
  rw [hany] at HCF;have HF:Hid (Cd x (l.take n)=Cq x.lines):=by rw [hF,hany];rfl
  clear hF hany;go_enter func31,ntmps31
  go_wp2_with fail
  rw [<-ho];refine Calls.mono HCF.out ?_;rintro e w1 ⟨rfl,hb⟩;have HB:Hid (Below w.heap.size w w1):=Aa HA.out hb;have q1:=(hb.cell (p:=⟨w.heap.size,1,none⟩) HSZ.out).trans HC1.out;have HCL:Hid _:=Is B x.lines _ w1 (HTA.out.below (hb.mono (lq0 hB HA.out.size)));clear hb;go_wp2_with fail
  refine Calls.mono HCL.out ?_;rintro e w2 ⟨rfl,rfl⟩;go_wp2_with fail
  go_ret
  exact⟨A4 HF.out.symm,HB.out⟩
theorem O8 (B:Nat) (fs:List Fl) (ls:List ByteArray) (v u:Value) (w:World) (hv:FlL w B v fs) (hu:TxL w B u ls) (hB:B<=w.heap.size) :
 Calls prog 17 #[v,u] w fun e w'=>e = .returned (.int .i64 (B3 fs ls))/\Below w.heap.size w w':=by
 have HV:Hid (FlL w B v fs):=hv;have HU:Hid (TxL w B u ls):=hu;obtain⟨⟨a,n0,cap,rfl,hcap⟩,a',cap',h0,hl,hsl⟩:=hv;simp only [Value.slice.injEq] at h0;obtain⟨rfl,rfl,rfl⟩:=h0;obtain⟨a2,cap2,rfl,hl2,_⟩:=hu;unfold maxLen at hl hl2
 by_cases h8:8<fs.length
 . have HF:Hid (B3 fs ls=1):=Mt (.inl h8);have i1:8<(fs.length:Int):=by omega
   clear h8;go_enter func17,ntmps17
   go_wp2_with fail
   go_ret
   exact⟨A4 HF.out.symm,Below.refl _ _⟩
 by_cases h200:200<ls.length
 . have HF:Hid (B3 fs ls=1):=Mt (.inr h200);have i1:¬8<(fs.length:Int):=by omega
   have i2:200<(ls.length:Int):=by omega
   clear h8 h200;go_enter func17,ntmps17
   go_wp2_with fail
   go_ret
   exact⟨A4 HF.out.symm,Below.refl _ _⟩
 have HW:Hid (¬(8<fs.length\/200<ls.length)):=by intro h;omega
 have i1:¬8<(fs.length:Int):=by omega
 have i2:¬200<(ls.length:Int):=by omega
 clear h8 h200;go_enter func17,ntmps17
 go_wp2_with fail
 go_loopw [18] (fun v wr=>∃k:Nat,k<=fs.length/\v = .int .i64 k/\Hid (Below w.heap.size w wr/\∀q,q<k->Cd (fs.getD q default) (fs.take q)=0)) (fun v _=>fs.length - (intOf v).toNat)
 case atStart=>exact⟨0,by omega,rfl,Below.refl _ _,fun q hq=>absurd hq (Nat.not_lt_zero _)⟩
 case round =>
  obtain⟨k,hk,rfl,HQ⟩:=hrel
  by_cases hlt:k<fs.length
  . obtain⟨b,off,rfl,hb,hi⟩:=hsl (by omega);obtain⟨a1,cap1,c0,c1,z0,z1,ht⟩:=Abf hi k _ rfl hlt;obtain⟨x,hx⟩:∃x,x=fs.getD k default:=⟨_,rfl⟩;rw [<-hx] at c0 c1;have hbw:b<w.heap.size:=by omega
    have d0:=(HQ.out.1.cell (p:=⟨b,off+k * 2,none⟩) hbw).trans c0;have d1:=(HQ.out.1.cell (p:=⟨b,off+k * 2+1,none⟩) hbw).trans c1;have j1:(k:Int)<(fs.length:Int):=by omega
    have j2:(0:Int)<=(k:Int):=by omega
    have hfa:FlA B w [.string x.name,.slice a1 x.lines.length cap1] x:=⟨_,rfl,by rw [hx];exact z0,by rw [hx];exact ht.out⟩;have HFA:Hid (FlA B w [.string x.name,.slice a1 x.lines.length cap1] x):=hfa;have HX:Hid (x=fs.getD k default):=hx;obtain⟨nm,hnm⟩:∃nm,nm=x.name:=⟨_,rfl⟩;obtain⟨n1,hn1⟩:∃n1,n1=x.lines.length:=⟨_,rfl⟩;rw [<-hnm,<-hn1] at HFA;rw [<-hnm] at d0;rw [<-hn1] at d1;have j3:(k:Int)<=(cap:Int):=by omega
    obtain⟨o,ho⟩:∃o,o=Obj.cells #[Value.string nm,Value.slice a1 n1 cap1] 61:=⟨_,rfl⟩;have HWR:Hid (Below wr.heap.size wr (wr.alloc o)):=br0.alloc lr0 o;have HWA:Hid (Below w.heap.size w (wr.alloc o)):=Aa HQ.out.1 HWR.out;have hc0:(wr.alloc o).cell? ⟨wr.heap.size,0,none⟩=some (.string nm):=by rw [ho];simp [go_sem]
    have hc1:(wr.alloc o).cell? ⟨wr.heap.size,1,none⟩=some (.slice a1 n1 cap1):=by rw [ho];simp [go_sem]
    have r0:=cell_regrown hc0;have r1:=cell_regrown hc1;have cF:∀(d:Nat) (os:Array Obj),Calls prog 31 #[.agg #[.string nm,.slice a1 n1 cap1],.slice (some ⟨b,off,none⟩) k cap] (Sort.grow (redrawn (wr.alloc o) d) os) fun e w''=>e = .returned (.int .i64 (Cd x (fs.take k)))/\∃p:Regrown,w''=Sort.grow (redrawn (wr.alloc o) p.d) p.os:=by
     intro d os;have hb2:Below w.heap.size w (Sort.grow (redrawn (wr.alloc o) d) os):=Aa HWA.out (below_regrown _ d os);exact Calls.regrown_of (Qu B fs k _ cap cap _ x _ (HV.out.below (hb2.mono hB)) (lq0 hB hb2.size) (by omega) (HFA.out.below (hb2.mono hB)))
    obtain⟨fr,hfr⟩:∃fr,fr=Cd x (fs.take k):=⟨_,rfl⟩;rw [<-hfr] at cF;have HFR:Hid (fr=Cd x (fs.take k)):=hfr;clear hi c0 c1 hfa hx ht z0 z1 hsl HFA hnm hn1 hc0 hc1 hfr hcap;go_wp2_with fail
    rw [<-ho];clear ho;refine wp_region_quiet_below (by kernel_rfl) (by kernel_rfl) ?_
    repeat (go_big_quiet_step (first | with_reducible exact cF _ _))
    refine wpQuiet_nil ?_;intro _ hw';obtain⟨⟨dq,osq⟩,hw''⟩:=hw';subst hw'';have HB2:Hid (Below w.heap.size w (Sort.grow (redrawn (wr.alloc o) dq) osq)):=Aa HWA.out (below_regrown _ _ _);clear r0 r1 cF
    by_cases hz:fr=0
    . subst hz;have R2:Hid (∀q,q<k+1->Cd (fs.getD q default) (fs.take q)=0):=fun q hq=>by
       by_cases e:q=k
       . subst e;rw [<-HX.out];exact HFR.out.symm
       . exact HQ.out.2 q (by omega)
      go_wp2_with fail
      go_roundw
      case rel=>exact⟨k+1,by omega,by go_num,HB2.out,R2.out⟩
      case measure=>simp [intOf];omega
    . have HR:Hid (B3 fs ls=fr):=by
       rw [Hid,HFR.out,HX.out];exact Up HW.out hlt HQ.out.2 (by rw [<-HX.out,<-HFR.out];exact hz)
      have hz1:(fr == 0)=false:=by simpa using hz
      go_wp2_with fail
      go_ret
      exact⟨A4 HR.out.symm,HB2.out⟩
  . have j1:¬(k:Int)<(fs.length:Int):=by omega
    have HR:Hid (B3 fs ls=Cq ls):=Xf HW.out fun q hq=>HQ.out.2 q (by omega);have HB2:Hid (Below w.heap.size w wr):=HQ.out.1;have HCL:Hid _:=Is B ls _ wr (HU.out.below (HB2.out.mono hB));clear hsl HQ;go_wp2_with fail
    refine Calls.mono HCL.out ?_;rintro e w2 ⟨rfl,rfl⟩;go_wp2_with fail
    go_ret
    exact⟨A4 HR.out.symm,HB2.out⟩
end Go.Proofs.YtppcohadoilpgaaGreatDoor
