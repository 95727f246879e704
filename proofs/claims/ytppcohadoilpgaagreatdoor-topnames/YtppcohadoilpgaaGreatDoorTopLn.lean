/-
  The lines that the statements of the whole make of raw numbers. / Rows of files that a call makes itself. / The file that the statements of the whole make of raw numbers.
-/
import Derived.Test.YtppcohadoilpgaaGreatDoorKeepOut
import Derived.Test.YtppcohadoilpgaaGreatDoorSrcSpec
import Derived.Test.YtppcohadoilpgaaGreatDoorRunC
import Derived.Test.YtppcohadoilpgaaGreatDoorLoose
import Derived.Deep.AppendLies
import Derived.Deep.DeepCutAuto
import Derived.Deep.RegionHeld3
namespace Go.Proofs.YtppcohadoilpgaaGreatDoor
open Go.ChangeShapes Go.WideShapes Go.ChangeAt Go.RowKit Go.Joins Go.Proofs.Tryz
set_option maxHeartbeats 4000000
set_option linter.unusedVariables false
set_option linter.unusedSimpArgs false
set_option maxRecDepth 100000
def Gk:List ByteArray:= [⟨#[97,32,98,32,99]⟩,⟨#[49,32,50,32,51]⟩,⟨#[]⟩,⟨#[32,116,32,32,49,50,32]⟩,⟨#[120,9,121]⟩,⟨#[55]⟩,⟨#[116,32,116,32,116,32,116,32,116]⟩]
def Gt (x:Rw):ByteArray:=Gk.getD (Fi x.b 7) ⟨#[]⟩
def Gl (l:List Rw):List ByteArray:=(l.take 8).map Gt
theorem Ri {J:Nat} (h:J<7):∃X,Gk[J]? = some X/\Gk.getD J ⟨#[]⟩=X/\X.size<=20/\C4 X=true:=by
 have h1:Gk.all (fun x=>decide (x.size<=20) && C4 x)=true:=by decide
 have hl:J<Gk.length:=h;refine⟨Gk[J],gee hl,by simp [List.getD,gee hl],?_⟩;have:=List.all_eq_true.1 h1 _ (List.getElem_mem hl);rw [Bool.and_eq_true] at this;exact⟨of_decide_eq_true this.1,this.2⟩
theorem Jl {l:List Rw}:∀x ∈ Gl l,x.size<=20/\C4 x=true:=fun x hx=>by
 obtain⟨y,_,rfl⟩:=List.mem_map.1 hx;obtain⟨X,_,h2,h3⟩:=Ri (Eh y.b (show 0<7 by decide));unfold Gt;rw [h2];exact h3
theorem Ia (l:List Rw):(Gl l).length<=8:=by unfold Gl;rw [List.length_map,List.length_take];omega
theorem Rj {l:List Rw} {i:Nat} {x:Rw} (hx:l[i]? = some x):(l.take (i+1)).map Gt=(l.take i).map Gt ++ [Gt x]:=by
 rw [List.take_add_one,hx];simp
theorem E9.form {w wr:World} {v:Value} {l:List ByteArray} (h:E9 w wr v l):v = .slice none 0 0\/∃b off n c,v = .slice (some ⟨b,off,none⟩) n c:=by
 rcases h.2 with⟨rfl,h0⟩ | ⟨g,cap,cur,rfl,-⟩
 . exact .inl rfl
 . exact .inr ⟨_,_,_,_,rfl⟩
structure Adr (w wr:World) (v:Value) (i:Nat) (l:List Rw):Prop where
 rows:Hu w wr v ((l.take i).map Gt) (.slice none 0 0) []
theorem Abn (l:List Rw) (v:Value) (w:World) (hv:RwA w w.heap.size v l):Calls prog 10 #[v] w fun e w'=>∃a len cap,e = .returned (.slice a len cap)/\Below w.heap.size w w'/\Gg w' (.slice a len cap) (Gl l)/\((Value.slice a len cap) = .slice none 0 0\/∃b off n c,(Value.slice a len cap) = .slice (some ⟨b,off,none⟩) n c):=by
 obtain⟨a,cap,rfl,hmax,hok,hs⟩:=hv;have HS:Hid _:=hs;have HM:Hid (l.length<=maxLen):=hmax;have HOK:Hid (∀x ∈ l,x.ok):=hok;obtain⟨n,hn⟩:∃n,n=l.length:=⟨_,rfl⟩;have HN:Hid (n=l.length):=hn;obtain⟨i0,hi,hz0,hz1,hz2⟩:=info_parts Pj;have HI:Hid (prog.info? 9=some i0/\i0.zero=some (.string ⟨#[]⟩)/\i0.size=1/\i0.bytes=16):=⟨hi,hz0,hz1,hz2⟩;rw [<-hn];clear hs hi hz0 hz1 hz2 hmax hok hn;go_enter func10,ntmps10
 go_wp2_with fail
 go_loopw [3,4] (fun v3 v4 wr=>∃(i:Nat) (a1:Option Addr) (len1 cap1:Nat),i<=n/\i<=8/\v3 = .slice a1 len1 cap1/\v4 = .int .i64 i/\Hid (Adr w wr v3 i l)) (fun _ v4 _=>n - (intOf v4).toNat)
 case atStart=>exact⟨0,none,0,0,Nat.zero_le _,Nat.zero_le _,rfl,rfl,⟨Hu.nil w⟩⟩
 case round =>
  obtain⟨i,a1,len1,cap1,hin,hi10,rfl,rfl,HV⟩:=hrel
  by_cases hlt:i<n
  . have i1:(i:Int)<(n:Int):=by omega
    have i2:(0:Int)<=(i:Int):=by omega
    by_cases h10:i<8
    . have i3:(i:Int)<8:=by omega
      obtain⟨b,off,rfl,hb,hc⟩:=HS.out (by have:=HN.out;omega);obtain⟨x,hx⟩:∃x,l[i]? = some x:=⟨_,gee (by have:=HN.out;omega)⟩;obtain⟨-,-,hz,-⟩:=hc i x hx;have hxok:=HOK.out x (List.mem_of_getElem? hx);obtain⟨W,hW⟩:∃W,W=wr.alloc (.cells #[.string ⟨#[97,32,98,32,99]⟩,.string ⟨#[49,32,50,32,51]⟩,.string ⟨#[]⟩,.string ⟨#[32,116,32,32,49,50,32]⟩,.string ⟨#[120,9,121]⟩,.string ⟨#[55]⟩,.string ⟨#[116,32,116,32,116,32,116,32,116]⟩] 9):=⟨_,rfl⟩;have hWb:Below wr.heap.size wr W:=by rw [hW];exact br0.alloc lr0 _
      have q0:wr.cell? ⟨b,off+i * 4+2,none⟩=some (.int .i64 x.b):=(HV.out.rows.low.cell (p:=⟨b,off+i * 4+2,none⟩) hb).trans hz;have q1:W.cell? ⟨b,off+i * 4+2,none⟩=some (.int .i64 x.b):=(hWb.cell (p:=⟨b,off+i * 4+2,none⟩) (World.block_lt_of_cell? wr ⟨b,off+i * 4+2,none⟩ q0)).trans q0;obtain⟨J,hJ⟩:∃J,J=Fi x.b 7:=⟨_,rfl⟩;have hJ7:J<7:=by rw [hJ];exact Eh _ (by decide)
      obtain⟨X,hX1,hX2,hX3,hX4⟩:=Ri hJ7;have c1:W.cell? ⟨wr.heap.size,J,none⟩=some (.string X):=by
       rw [hW,(Ao.new wr _ _).cell J];have e:(#[.string ⟨#[97,32,98,32,99]⟩,.string ⟨#[49,32,50,32,51]⟩,.string ⟨#[]⟩,.string ⟨#[32,116,32,32,49,50,32]⟩,.string ⟨#[120,9,121]⟩,.string ⟨#[55]⟩,.string ⟨#[116,32,116,32,116,32,116,32,116]⟩]:Array Value)=(Gk.map Value.string).toArray:=rfl;rw [e,List.getElem?_toArray,List.getElem?_map,hX1];rfl
      have HC1:=hid c1;have HP:=hid (Fj x.b 7 W hxok.2.2.1 (by decide) (by decide));rw [<-hJ] at HP;have HV2:=hid (HV.out.rows.stays hWb);have HX:Hid (X=Gt x/\l[i]? = some x):=⟨by unfold Gt;rw [<-hJ,hX2],hx⟩;have HF:Hid (i<n/\i<8):=⟨hlt,h10⟩;have HLN:Hid (((l.take i).map Gt).length=i):=by unfold Hid;rw [List.length_map,List.length_take];have:=HN.out;omega
      have HWW:Hid (W=_):=hW;have j0:(0:Int)<=(J:Int):=by omega
      have j7:(J:Int)<7:=by omega
      have i4: -9223372036854775808<=(i:Int)+1:=by omega
      have i5:(i:Int)+1<=9223372036854775807:=by omega
      obtain⟨z,hzb⟩:∃z,z=x.b:=⟨_,rfl⟩;rw [<-hzb] at q0 HP;have bl:b<wr.heap.size:=World.block_lt_of_cell? wr ⟨b,off+i * 4+2,none⟩ q0;have nb:¬b=wr.heap.size:=by omega
      have nb':¬wr.heap.size=b:=by omega
      clear hz hc hx hxok hW hWb hJ hX1 hX2 hX3 hX4 hJ7 HV hin hi10 h10 hlt hb q1 hzb c1;go_wp2_with fail
      rw [<-HWW.out];clear HWW q0 bl nb nb';have c1:=HC1.out;refine Calls.mono HP.out ?_;rintro e w1 ⟨rfl,hw1⟩;rw [hw1];clear hw1 w1 HP
      go_wp2_with (first
       | (at_builtin;refine wpList_append_own_at _ rfl _ _ 37 rfl w.heap.size 9 i0 (.string ⟨#[]⟩) 1 16 underlying37 HI.out.1 HI.out.2.1 HI.out.2.2.1 HI.out.2.2.2 rfl (by decide) (.slice a1 len1 cap1) ((l.take i).map Gt).length (((l.take i).map Gt).map Value.string) rfl (HV2.out.one.alloc _) ⟨W.heap.size,0,none⟩ 1 1 [.string X] rfl rfl (G3 _ _ _) (by intro u hu;simp at hu;rcases hu with rfl;rfl) (by have:=HLN.out;have:=HF.out;unfold maxLen;omega) (by have:=HLN.out;have:=HF.out;omega) (lq0 HV2.out.low.size (by simp)) ?_;intro v' w5 hown hgrow hnil hloc;have HV3:=hid (HV2.out.push hown hgrow hloc);obtain⟨g,vc,rfl,hc5,hg5⟩:=E9.last (i:=i) HV3.out.one HLN.out;clear hown hgrow hnil hloc hc5 hg5))
      refine⟨⟨i+1,_,_,_,HF.out.1,HF.out.2,rfl,by simp,?_⟩,by have:=HF.out.1;simp [intOf];omega⟩;have h:=HV3.out;rw [HX.out.1,<-Rj HX.out.2] at h;exact⟨h⟩
    . have i3:¬(i:Int)<8:=by omega
      have e8:i=8:=by omega
      have HQ:Hid (Adr w wr (.slice a1 len1 cap1) 8 l):=by rw [<-e8];exact HV.out
      clear HV HS;go_wp2_with fail
      go_ret
      exact⟨_,_,_,rfl,HQ.out.rows.low,HQ.out.rows.one.texts (fun x hx=>by have:=(Jl x hx).1;unfold maxLen;omega) (by have:=Ia l;unfold Gl at this;unfold maxLen;omega),by simpa using HQ.out.rows.one.form⟩
  . have i1:¬(i:Int)<(n:Int):=by omega
    have en:i=n:=by omega
    have e9:(l.take i).map Gt=Gl l:=by
     unfold Gl;rw [List.take_of_length_le (by have:=HN.out;omega),List.take_of_length_le (by have:=HN.out;omega)]
    have HQ:Hid (Adr w wr (.slice a1 len1 cap1) i l):=HV.out;have HE9:=hid e9;clear HV HS e9;go_wp2_with fail
    go_ret
    refine⟨_,_,_,rfl,HQ.out.rows.low,?_⟩;have h:=HQ.out.rows.one;rw [HE9.out] at h;exact⟨h.texts (fun x hx=>by have:=(Jl x hx).1;unfold maxLen;omega) (by have:=Ia l;unfold maxLen;omega),by simpa using h.form⟩
theorem Abm (l:List Rw) (v:Value) (w:World) (hv:RwA w w.heap.size v l):Calls prog 10 #[v] w fun e w'=>∃a len cap,e = .returned (.slice a len cap)/\Below w.heap.size w w'/\Gg w' (.slice a len cap) (Gl l):=(Abn l v w hv).mono fun e w' ⟨a,len,cap,h1,h2,h3,_⟩=>⟨a,len,cap,h1,h2,h3⟩
theorem FlL.up {w:World} {B B':Nat} {v:Value} {F:List Fl} (h:FlL w B v F) (hB:B<=B'):FlL w B' v F:=⟨h.1,Sl.up h.2 hB fun i c ⟨x,hx,u,h1,h2,h3⟩=>⟨x,hx,u,h1,h2,h3.up hB⟩⟩
def Oj (w:World) (v:Value) (F:List Fl):Prop:=FlL w w.heap.size v F
theorem Oj.stays {w w':World} {v:Value} {F:List Fl} (h:Oj w v F) (hb:Below w.heap.size w w'):Oj w' v F:=(FlL.below h hb).up hb.size
theorem Fk (w:World) (o:Obj):Below w.heap.size w (w.alloc o):=br0.alloc lr0 o
theorem Afx {w:World} {cs:Array Value} {t sz n cap:Nat} {E:Nat->List Value->Prop} (hn:n<=maxLen) (h:∀i,i<n->∃l:List Value,l.length=sz/\(∀j,j<sz->cs[i * sz+j]? = l[j]?)/\E i l):Sl (w.alloc (.cells cs t)) (w.alloc (.cells cs t)).heap.size sz (.slice (some ⟨w.heap.size,0,none⟩) n cap) n E :=
 ⟨_,cap,rfl,hn,fun _=>⟨w.heap.size,0,rfl,by simp,fun i hi=>let ⟨l,h1,h2,h3⟩:=h i hi; ⟨l,h1,fun j hj=>by rw [<-h2 j hj,Nat.zero_add];exact (Ao.new w cs t).cell _,h3⟩⟩⟩
theorem Nt {w:World} {t:Nat} {u:Value} {l:List ByteArray} {nm:ByteArray} (hm:nm.size<=maxLen) (hu:Gg w u l):Oj (w.alloc (.cells #[.string nm,u] t)) (.slice (some ⟨w.heap.size,0,none⟩) 1 1) [⟨nm,l⟩]:=by
 refine⟨⟨_,_,_,rfl,Nat.le_refl _⟩,Afx (n:=1) (by decide) fun i hi=>?_⟩;obtain rfl:i=0:=by omega
 refine⟨[.string nm,u],rfl,fun j hj=>?_,⟨nm,l⟩,rfl,u,rfl,hm,hu.stays (Fk _ _)⟩
 match j,hj with
 | 0,_=>rfl
 | 1,_=>rfl
def Et:List ByteArray:= [⟨#[111,110,101]⟩,⟨#[50]⟩,⟨#[]⟩,⟨#[116,104,114,101,101,32,51]⟩,⟨#[45,52]⟩,⟨#[116]⟩]
def G4 (x:Rw):ByteArray:=Et.getD (Fi x.c 6) ⟨#[]⟩
def Fz (l:List Rw):List ByteArray:=(l.take 5).map G4
def Pf (l:List Rw):List Fl:= [⟨⟨#[116,97,98]⟩,Fz l⟩]
theorem Q7 {J:Nat} (h:J<6):∃X,Et[J]? = some X/\Et.getD J ⟨#[]⟩=X/\X.size<=20/\C4 X=true:=by
 have h1:Et.all (fun x=>decide (x.size<=20) && C4 x)=true:=by decide
 have hl:J<Et.length:=h;refine⟨Et[J],gee hl,by simp [List.getD,gee hl],?_⟩;have:=List.all_eq_true.1 h1 _ (List.getElem_mem hl);rw [Bool.and_eq_true] at this;exact⟨of_decide_eq_true this.1,this.2⟩
theorem Nm {l:List Rw}:∀x ∈ Fz l,x.size<=20/\C4 x=true:=fun x hx=>by
 obtain⟨y,_,rfl⟩:=List.mem_map.1 hx;obtain⟨X,_,h2,h3⟩:=Q7 (Eh y.c (show 0<6 by decide));unfold G4;rw [h2];exact h3
theorem La (l:List Rw):(Fz l).length<=5:=by unfold Fz;rw [List.length_map,List.length_take];omega
theorem Q8 {l:List Rw} {i:Nat} {x:Rw} (hx:l[i]? = some x):(l.take (i+1)).map G4=(l.take i).map G4 ++ [G4 x]:=by
 rw [List.take_add_one,hx];simp
theorem Lg {l:List ByteArray} (h:∀x ∈ l,C4 x=true):Cq l=0:=by
 unfold Cq;rw [if_pos (List.all_eq_true.2 h)]
theorem Pg (l:List Rw) {ls:List ByteArray} (hl:ls.length<=200) (h:∀x ∈ ls,C4 x=true):B3 (Pf l) ls=0:=by
 have e1:Cd ⟨⟨#[116,97,98]⟩,Fz l⟩ []=0:=by
  unfold Cd;have:=La l;rw [if_neg (by show ¬(100<(Fz l).length\/200<(⟨#[116,97,98]⟩:ByteArray).size);have e:(⟨#[116,97,98]⟩:ByteArray).size=3:=rfl;rw [e];omega),if_neg (by simp)];exact Lg fun x hx=>(Nm x hx).2
 have e2:B3 (Pf l) ls=if 8<1\/200<ls.length then 1 else (([Cd ⟨⟨#[116,97,98]⟩,Fz l⟩ []]).find? (· != 0)).getD (Cq ls):=rfl;rw [e2,if_neg (by omega),e1,Lg h];rfl
structure Adq (w wr:World) (fb:Nat) (v:Value) (i:Nat) (l:List Rw):Prop where
 own:E9 w wr v ((l.take i).map G4)
 low:Below w.heap.size w wr
 new:w.heap.size<=fb
 ne:v.ownBlock ≠ some fb
 name:wr.cell? ⟨fb,0,none⟩=some (.string ⟨#[116,97,98]⟩)
 row:wr.cell? ⟨fb,1,none⟩=some v
 thaw:wr.frozen? ⟨fb,1,none⟩=false
def Qh (w:World) (g:Nat):Prop:=g<w.heap.size/\∀(J:Nat) (X:ByteArray),Et[J]? = some X->w.cell? ⟨g,J,none⟩=some (.string X)
theorem Qh.stays {w w':World} {g:Nat} (h:Qh w g) (hs:w.heap.size<=w'.heap.size) (hb:w'.heap[g]? = w.heap[g]?):Qh w' g:=⟨lle h.1 hs,fun J X hJ=>(World.cell?_of_block (a:=⟨g,J,none⟩) hb).trans (h.2 J X hJ)⟩
theorem Zj (w:World) (t:Nat):Qh (w.alloc (.cells #[.string ⟨#[111,110,101]⟩,.string ⟨#[50]⟩,.string ⟨#[]⟩,.string ⟨#[116,104,114,101,101,32,51]⟩,.string ⟨#[45,52]⟩,.string ⟨#[116]⟩] t)) w.heap.size:=by
 refine⟨by simp,fun J X hJ=>((Ao.new w _ t).cell J).trans ?_⟩;have e:(#[.string ⟨#[111,110,101]⟩,.string ⟨#[50]⟩,.string ⟨#[]⟩,.string ⟨#[116,104,114,101,101,32,51]⟩,.string ⟨#[45,52]⟩,.string ⟨#[116]⟩]:Array Value)=(Et.map Value.string).toArray:=rfl;rw [e,List.getElem?_toArray,List.getElem?_map,hJ];rfl
structure Fc where
 w:World
 wr:World
 fb:Nat
 b:Nat
 off:Nat
 n:Nat
 cap:Nat
 i:Nat
 a1:Option Addr
 cap1:Nat
 xc:Int
 J:Nat
 X:ByteArray
 xs:List Value
def Fc.v1 (c:Fc):Value:= .slice c.a1 c.i c.cap1
def Kf (c:Fc) (w':World) (v:Value):Prop:=∃g cp,v = .slice (some ⟨g,0,none⟩) (c.i+1) cp/\w'.ownsRow c.w.heap.size 9 1 v (c.i+1) (c.xs ++ [.string c.X])/\g ≠ c.fb
def My (c:Fc) (j:Nat) (v:Value) (w':World):Prop:=match j with
 | 0=>v = .pointer (some ⟨c.fb,1,none⟩)
 | 1=>v=c.v1
 | 2=>∃g,v = .slice (some ⟨g,0,none⟩) 6 6/\c.wr.heap.size<=g/\Qh w' g
 | 3=>v = .slice (some ⟨c.b,c.off,none⟩) c.n c.cap
 | 4=>v = .int .i64 c.i
 | 5=>v = .pointer (some ⟨c.b,c.off+c.i * 4,none⟩)
 | 6=>v = .pointer (some ⟨c.b,c.off+c.i * 4+3,none⟩)
 | 7=>v = .int .i64 c.xc
 | 8=>v = .int .i64 c.J
 | 9=>∃g,v = .pointer (some ⟨g,c.J,none⟩)/\c.wr.heap.size<=g/\Qh w' g
 | 10=>v = .string c.X
 | 11=>∃g,v = .slice (some ⟨g,0,none⟩) 1 1/\c.wr.heap.size<=g/\g<w'.heap.size/\w'.cell? ⟨g,0,none⟩=some (.string c.X)
 | 12=>Kf c w' v
 | 13=>v = .pointer (some ⟨c.fb,1,none⟩)
 | _=>∃v',Kf c w' v'/\w'.cell? ⟨c.fb,0,none⟩=some (.string ⟨#[116,97,98]⟩)/\w'.cell? ⟨c.fb,1,none⟩=some v'/\w'.frozen? ⟨c.fb,1,none⟩=false
def Oh (c:Fc) (k:Nat) (w1 w2:World):Prop:=match k with
 | 12=>w1.heap.size<=w2.heap.size/\∀k,k<w1.heap.size->some k ≠ c.v1.ownBlock->w2.heap[k]? = w1.heap[k]?
 | 14=>w1.heap.size<=w2.heap.size/\∀k,k ≠ c.fb->w2.heap[k]? = w1.heap[k]?
 | _=>Below w1.heap.size w1 w2
def Oi (c:Fc) (n:Nat) (w':World):Prop:=(w'.os=c.wr.os/\w'.tape=c.wr.tape/\w'.output=c.wr.output/\c.wr.heap.size<=w'.heap.size/\∀k,k<c.wr.heap.size->k ≠ c.fb->some k ≠ c.v1.ownBlock->w'.heap[k]? = c.wr.heap[k]?) /\
 (n<=1->w'.heap[c.fb]? = c.wr.heap[c.fb]?)/\(n=0->Below c.wr.heap.size c.wr w')
def Aib:Nat->Nat
 | 12=>1
 | 14=>2
 | _=>0
theorem Kf.stays {c:Fc} {w1 w2:World} {v:Value} (h:Kf c w1 v) (hb:∀g,v.ownBlock=some g->w2.heap[g]? = w1.heap[g]?):Kf c w2 v:=by
 obtain⟨g,cp,e,h1,h2⟩:=h;exact⟨g,cp,e,A9 h1 hb,h2⟩
theorem Kf.lt {c:Fc} {w1:World} {v:Value} (h:Kf c w1 v) {g:Nat} (hg:v.ownBlock=some g):g<w1.heap.size:=by
 obtain⟨g',cp,e,h1,h2⟩:=h;exact (h1.lt g hg).2
theorem My.stays {c:Fc} (hfb:c.fb<c.wr.heap.size) (hv1:∀g,c.v1.ownBlock=some g->g<c.wr.heap.size) {k j:Nat} {v:Value} {w1 w2:World} (hj:j<=14) (hne:k ≠ j) (h14:j=14->k ≠ 12) (h:My c j v w1) (hr:Oh c k w1 w2):My c j v w2:=by
 have hsz:w1.heap.size<=w2.heap.size:=by
  unfold Oh at hr;split at hr
  . exact hr.1
  . exact hr.1
  . exact hr.size
 -- blocks Abp on the way
 have hnew:∀g,c.wr.heap.size<=g->g<w1.heap.size->w2.heap[g]? = w1.heap[g]? := fun g h1 h2=>by
  unfold Oh at hr;split at hr
  . exact hr.2 g h2 fun e=>by have:=hv1 g e.symm;omega
  . exact hr.2 g (by omega)
  . exact hr.block g h2
 by_cases e14:j=14
 . subst e14;obtain⟨v',h1,h2,h3,h4⟩:=h;have hb:Below w1.heap.size w1 w2:=by
    unfold Oh at hr;split at hr
    . exact absurd rfl (h14 rfl)
    . exact absurd rfl hne
    . exact hr
   have hl:c.fb<w1.heap.size:=World.block_lt_of_cell? w1 ⟨c.fb,0,none⟩ h2;exact⟨v',Kf.stays h1 fun g hg=>hb.block g (Kf.lt h1 hg),(hb.cell (p:=⟨c.fb,0,none⟩) hl).trans h2,(hb.cell (p:=⟨c.fb,1,none⟩) hl).trans h3,(hb.frozen (p:=⟨c.fb,1,none⟩) hl).trans h4⟩
 unfold My at h ⊢;split at h
 all_goals first
  | exact h
  | exact let ⟨g,h1,h2,h3⟩:=h; ⟨g,h1,h2,h3.stays hsz (hnew g h2 h3.1)⟩
  | exact let ⟨g,h1,h2,h3,h4⟩:=h; ⟨g,h1,h2,lle h3 hsz,(World.cell?_of_block (a:=⟨g,0,none⟩) (hnew g h2 h3)).trans h4⟩
  | skip
 . refine Kf.stays h fun g hg=>?_;have hlt:=Kf.lt h hg;obtain⟨g',cp,e,h1,h2⟩:=h;have hgf:g ≠ c.fb:=fun e2=>h2 (by subst e;cases hg;exact e2);unfold Oh at hr;split at hr
   . exact absurd rfl hne
   . exact hr.2 g hgf
   . exact hr.block g hlt
 . exfalso
   clear h hnew hsz hr hv1;simp only [imp_false] at *;omega
section
variable {P : Program} {w : World} {o : Oper} {ρ : Operand -> Value}
theorem Ah7 {t n:Nat} {ps:Array (Nat × Operand)} {qs:Array (Nat × Value)} {u:Value} {w':World} (e:o.op = .buildSlice t n ps) (hq:(ps.map fun p=>(p.1,ρ p.2))=qs) (h:(Instr.buildSlice t n qs).run P w = .ok u w'):(execOp ρ o).run P w = .ok (.value u) w':=Qz e (by rw [hq];exact h)
theorem Aad {t:Nat} {x y:Operand} {v1 v2 u:Value} (e:o.op = .indexAddr t x y) (hx:ρ x=v1) (hy:ρ y=v2) (h:(Instr.indexAt t v1 v2).run P w = .ok u w):(execOp ρ o).run P w = .ok (.value u) w:=Q1 e (by rw [hx,hy];exact h)
theorem Aih {s x:Operand} {t:TypeId} {v u y:Value} {w':World} (e:o.op = .call { callee:= .builtin .append,args:= #[s,x],argTypes:= #[t,t] }) (hs:ρ s=v) (hx:ρ x=u) (h:(Builtin.append_ #[t,t] o.type #[v,u]).run P w = .ok y w'):(execOp ρ o).run P w = .ok (.value y) w':=by
 subst hs hx;unfold execOp;simp only [e,resolve,invoke,builtin,Sem.run_bind,Sem.run_pure,Result.andThen_ok,List.map_toArray,List.map_cons,List.map_nil,h]
end
theorem Acq (w:World) (s0 s1 s2 s3 s4 s5:ByteArray):(Instr.buildSlice 37 6 #[(0,.string s0),(1,.string s1),(2,.string s2),(3,.string s3),(4,.string s4),(5,.string s5)]).run prog w = .ok (.slice (some ⟨w.heap.size,0,none⟩) 6 6) (w.alloc (.cells #[.string s0,.string s1,.string s2,.string s3,.string s4,.string s5] 9)):=by
 simp [go_sem]
theorem Zr (w:World) (s:ByteArray):(Instr.buildSlice 37 1 #[(0,.string s)]).run prog w = .ok (.slice (some ⟨w.heap.size,0,none⟩) 1 1) (w.alloc (.cells #[.string s] 9)):=by
 simp [go_sem]
theorem Aco (w:World) (g J:Nat) (hJ:J<6):(Instr.indexAt 37 (.slice (some ⟨g,0,none⟩) 6 6) (.int .i64 (J:Int))).run prog w = .ok (.pointer (some ⟨g,J,none⟩)) w:=by
 have h1:(0:Int)<=(J:Int):=by omega
 have h2:(J:Int)<6:=by omega
 simp [go_sem,h1,h2]
theorem Acp (w:World) (b off n cap i:Nat) (hi:i<n):(Instr.indexAt 22 (.slice (some ⟨b,off,none⟩) n cap) (.int .i64 (i:Int))).run prog w = .ok (.pointer (some ⟨b,off+i * 4,none⟩)) w:=by
 have h1:(0:Int)<=(i:Int):=by omega
 have h2:(i:Int)<(n:Int):=by omega
 simp [go_sem,h1,h2]
theorem Afq (w:World) (b k:Nat):(Instr.fieldAt 64 (.pointer (some ⟨b,k,none⟩)) 3).run prog w = .ok (.pointer (some ⟨b,k+3,none⟩)) w:=by
 simp [go_sem]
theorem Zq (w:World) (b:Nat):(Instr.fieldAt 61 (.pointer (some ⟨b,0,none⟩)) 1).run prog w = .ok (.pointer (some ⟨b,1,none⟩)) w:=by
 simp [go_sem]
theorem Afs (w:World) {g k:Nat} {v:Value} (h:w.cell? ⟨g,k,none⟩=some v):(Instr.loadAt 37 (.pointer (some ⟨g,k,none⟩))).run prog w = .ok v w:=by
 simp [go_sem,h]
theorem Afr (w:World) {g k:Nat} {v:Value} (h:w.cell? ⟨g,k,none⟩=some v):(Instr.loadAt 3 (.pointer (some ⟨g,k,none⟩))).run prog w = .ok v w:=by
 simp [go_sem,h]
theorem Aft (w:World) {g k:Nat} {v:Value} (h:w.cell? ⟨g,k,none⟩=some v):(Instr.loadAt 9 (.pointer (some ⟨g,k,none⟩))).run prog w = .ok v w:=by
 simp [go_sem,h]
theorem Afu (w:World) {g k:Nat} {v:Value} {a:Option Addr} {l c:Nat} (h:w.cell? ⟨g,k,none⟩=some v) (hz:w.frozen? ⟨g,k,none⟩=false):(Instr.storeAt 37 (.pointer (some ⟨g,k,none⟩)) (.slice a l c)).run prog w = .ok () (w.setCell ⟨g,k,none⟩ (.slice a l c)):=by
 simp [go_sem,h,hz]
attribute [local irreducible] Bu
theorem Abe (l:List Rw) (v:Value) (w:World) (hv:RwA w w.heap.size v l):Calls prog 9 #[v] w fun e w'=>∃a cap,e = .returned (.slice a 1 cap)/\Below w.heap.size w w'/\Oj w' (.slice a 1 cap) (Pf l):=by
 obtain⟨a,cap,rfl,hmax,hok,hs⟩:=hv;have HS:Hid _:=hs;have HM:Hid (l.length<=maxLen):=hmax;have HOK:Hid (∀x ∈ l,x.ok):=hok;obtain⟨n,hn⟩:∃n,n=l.length:=⟨_,rfl⟩;have HN:Hid (n=l.length):=hn;obtain⟨i0,hi,hz0,hz1,hz2⟩:=info_parts Pj;have HI:Hid (prog.info? 9=some i0/\i0.zero=some (.string ⟨#[]⟩)/\i0.size=1/\i0.bytes=16):=⟨hi,hz0,hz1,hz2⟩;rw [<-hn];obtain⟨W0,hW0⟩:∃W,W=w.alloc (.cells #[.string ⟨#[116,97,98]⟩,.slice none 0 0] 61):=⟨_,rfl⟩;have HW0:=hid hW0;have HF0:Hid (Adq w W0 w.heap.size (.slice none 0 0) 0 l):=by
  have hob:W0.heap[w.heap.size]? = some (.cells #[.string ⟨#[116,97,98]⟩,.slice none 0 0] 61 (0,0)):=by
   rw [hW0];show (Array.push w.heap _)[_]? = _;exact Array.getElem?_push_size
  refine⟨E9.nil _ _,by rw [hW0];exact Fk _ _,Nat.le_refl _,(fun h=>by cases h),by rw [hW0];simp [go_sem],by rw [hW0];simp [go_sem],Lib.frozen_of_heap hob 1⟩
 clear hs hi hz0 hz1 hz2 hmax hok hn hW0;go_enter func9,ntmps9
 go_wp2_with fail
 rw [<-HW0.out]
 go_loopw [4] (fun v4 wr=>∃(i:Nat) (a1:Option Addr) (cap1:Nat),i<=n/\i<=5/\v4 = .int .i64 i/\Hid (Adq w wr w.heap.size (.slice a1 i cap1) i l)) (fun v4 _=>n - (intOf v4).toNat)
 case atStart=>exact⟨0,none,0,Nat.zero_le _,Nat.zero_le _,rfl,HF0⟩
 case round =>
  obtain⟨i,a1,cap1,hin,hi5,rfl,HV⟩:=hrel;clear HF0 HW0
  by_cases hlt:i<n/\i<5
  . have i1:(i:Int)<(n:Int):=by omega
    have i2:(0:Int)<=(i:Int):=by omega
    have i3:(i:Int)<5:=by omega
    obtain⟨b,off,rfl,hb,hc⟩:=HS.out (by have:=HN.out;omega);obtain⟨x,hx⟩:∃x,l[i]? = some x:=⟨_,gee (by have:=HN.out;omega)⟩;obtain⟨-,-,-,hz⟩:=hc i x hx;have hxok:=HOK.out x (List.mem_of_getElem? hx);obtain⟨J,hJ⟩:∃J,J=Fi x.c 6:=⟨_,rfl⟩;have hJ6:J<6:=by rw [hJ];exact Eh _ (by decide)
    obtain⟨X,hX1,hX2,hX3,hX4⟩:=Q7 hJ6;have HX:Hid (X=G4 x/\l[i]? = some x):=⟨by unfold G4;rw [<-hJ,hX2],hx⟩;have HJ:Hid (J<6/\Et[J]? = some X):=⟨hJ6,hX1⟩;have HPK:=hid (fun w=>Fj x.c 6 w hxok.2.2.2 (by decide) (by decide));rw [<-hJ] at HPK;have HLT:=hid hlt;obtain⟨xs,hxs⟩:∃xs,xs=((l.take i).map G4).map Value.string:=⟨_,rfl⟩;have HXS:=hid hxs;have HLN:Hid (((l.take i).map G4).length=i):=by unfold Hid;rw [List.length_map,List.length_take];have:=HN.out;omega
    have hfw:w.heap.size<wr.heap.size:=World.block_lt_of_cell? wr ⟨w.heap.size,0,none⟩ HV.out.name;have hol:∀g,(Value.slice a1 i cap1).ownBlock=some g->w.heap.size<=g/\g<wr.heap.size:=fun g hg=>HV.out.own.lt g hg;have HCB:Hid (∀n0 w',Oi (.mk w wr w.heap.size b off n cap i a1 cap1 x.c J X xs:Fc) n0 w'->w'.cell? ⟨b,off+i * 4+3,none⟩=some (.int .i64 x.c)):=fun n0 w' h=>by
     have h1:=h.1.2.2.2.2 b (by show b<wr.heap.size;omega) (by show b ≠ w.heap.size;omega) (fun e=>by have:=(hol b e.symm).1;omega);exact (World.cell?_of_block (a:=⟨b,off+i * 4+3,none⟩) h1).trans ((HV.out.low.cell (p:=⟨b,off+i * 4+3,none⟩) hb).trans hz)
    have HFB:Hid (∀n0 w',Oi (.mk w wr w.heap.size b off n cap i a1 cap1 x.c J X xs:Fc) n0 w'->n0<=1->w'.cell? ⟨w.heap.size,0,none⟩=some (.string ⟨#[116,97,98]⟩)/\w'.cell? ⟨w.heap.size,1,none⟩=some (.slice a1 i cap1)/\w'.frozen? ⟨w.heap.size,1,none⟩=false):=fun n0 w' h hn0=>by
     have h1:=h.2.1 hn0;exact⟨(World.cell?_of_block (a:=⟨w.heap.size,0,none⟩) h1).trans HV.out.name,(World.cell?_of_block (a:=⟨w.heap.size,1,none⟩) h1).trans HV.out.row,(World.frozen?_of_block (a:=⟨w.heap.size,1,none⟩) h1).trans HV.out.thaw⟩
    have HST:Hid (∀n0 w' (o:Obj),Oi (.mk w wr w.heap.size b off n cap i a1 cap1 x.c J X xs:Fc) n0 w'->Oi (.mk w wr w.heap.size b off n cap i a1 cap1 x.c J X xs:Fc) n0 (w'.alloc o)):=fun n0 w' o h=>by
     have hb:=Fk w' o;exact⟨⟨hb.os.trans h.1.1,hb.tape.trans h.1.2.1,hb.output.trans h.1.2.2.1,lq0 h.1.2.2.2.1 hb.size,fun k h1 h2 h3=>(hb.block k (lle h1 h.1.2.2.2.1)).trans (h.1.2.2.2.2 k h1 h2 h3)⟩,fun h1=>(hb.block _ (lle hfw h.1.2.2.2.1)).trans (h.2.1 h1),fun h1=>Aa (h.2.2 h1) hb⟩
    have HAP:Hid (∀w1 g,Oi (.mk w wr w.heap.size b off n cap i a1 cap1 x.c J X xs:Fc) 0 w1->wr.heap.size<=g->g<w1.heap.size->w1.cell? ⟨g,0,none⟩=some (.string X)->∃r cp w2,(Builtin.append_ #[37,37] 37 #[.slice a1 i cap1,.slice (some ⟨g,0,none⟩) 1 1]).run prog w1 = .ok (.slice (some ⟨r,0,none⟩) (i+1) cp) w2/\My (.mk w wr w.heap.size b off n cap i a1 cap1 x.c J X xs:Fc) 12 (.slice (some ⟨r,0,none⟩) (i+1) cp) w2/\Oh (.mk w wr w.heap.size b off n cap i a1 cap1 x.c J X xs:Fc) 12 w1 w2/\Oi (.mk w wr w.heap.size b off n cap i a1 cap1 x.c J X xs:Fc) 1 w2/\True):=fun w1 g hS h1 h2 h3=>by
     have hb:=hS.2.2 rfl;have hown:w1.ownsRow w.heap.size 9 1 (.slice a1 i cap1) i xs:=by
      have h:=HV.out.own;unfold E9 at h;rw [HLN.out,<-hxs] at h;exact A9 h fun g hg=>hb.block g (hol g hg).2
     obtain⟨r,cp,w2,r1,r2,r3,r4,r5⟩:=run_append_lies (P:=prog) w1 37 37 w.heap.size 9 i0 (.string ⟨#[]⟩) 1 16 underlying37 HI.out.1 HI.out.2.1 HI.out.2.2.1 HI.out.2.2.2 rfl (by decide) (.slice a1 i cap1) i xs hown ⟨g,0,none⟩ 1 1 [.string X] rfl (fun j u hu=>by
      match j,hu with
      | 0,hu=>cases hu;exact h3
      | j+1,hu=>simp at hu) (by intro u hu;simp at hu;rcases hu with rfl;rfl) (by omega) (by unfold maxLen;omega) (by omega) (by have:=hS.1.2.2.2.1;show w.heap.size<=_;omega) w1.heap.size rfl
     have hrf:r ≠ w.heap.size:=fun e=>by
      rcases r4 with h | h
      . exact HV.out.ne (e ▸ h)
      . have:=hS.1.2.2.2.1;have:wr.heap.size<=w1.heap.size:=this;omega
     refine⟨r,cp,w2,r1,⟨r,cp,rfl,r2,hrf⟩,⟨r3.size,fun k hk hne=>r3.block k hk hne⟩,⟨⟨r3.os.trans hS.1.1,r3.tape.trans hS.1.2.1,r3.output.trans hS.1.2.2.1,lq0 hS.1.2.2.2.1 r3.size,fun k q1 q2 q3=>(r3.block k (lle q1 hS.1.2.2.2.1) q3).trans (hS.1.2.2.2.2 k q1 q2 q3)⟩,fun _=>(r3.block _ (lle hfw hS.1.2.2.2.1) (fun e=>HV.out.ne e.symm)).trans (hS.2.1 (by decide)),fun h=>by cases h⟩,trivial⟩
    have HFW:Hid (w.heap.size<wr.heap.size/\∀g,(Value.slice a1 i cap1).ownBlock=some g->g<wr.heap.size):=⟨hfw,fun g hg=>(hol g hg).2⟩;clear hb hc hz hx hxok hJ hJ6 hX1 hX2 hX3 hX4 hxs hfw hol hin hi5 hlt HS;go_wp2_with fail
    refine Ge (My (.mk w wr w.heap.size b off n cap i a1 cap1 x.c J X xs:Fc)) (Oh (.mk w wr w.heap.size b off n cap i a1 cap1 x.c J X xs:Fc)) (Oi (.mk w wr w.heap.size b off n cap i a1 cap1 x.c J X xs:Fc)) Aib 3 (by kernel_rfl) (by kernel_rfl) (by kernel_rfl) ?_ ⟨⟨rfl,rfl,rfl,Nat.le_refl _,fun _ _ _ _=>rfl⟩,fun _=>rfl,fun _=>⟨rfl,rfl,rfl,Nat.le_refl _,fun _ _=>rfl⟩⟩ ⟨?_,?_,?_,?_,?_,?_,?_,?_,?_,?_,?_,?_,?_,?_,?_,trivial⟩ ?_
    case refine_1 =>
     intro k j v wa wb o ho hne hnd hT hR;have hj:j<=14:=by
      have:=(Array.getElem?_eq_some_iff.1 ho).1;simp at this;omega
     refine My.stays (c:=(.mk w wr w.heap.size b off n cap i a1 cap1 x.c J X xs:Fc)) HFW.out.1 HFW.out.2 hj hne (fun e e2=>?_) hT hR;subst e e2;have:o=_:=(Option.some.inj ho).symm;rw [this] at hnd;exact hnd (List.contains_iff_mem.1 (by kernel_rfl))
    case refine_17 =>
     intro vs w1 hS hH;have t14:My (.mk w wr w.heap.size b off n cap i a1 cap1 x.c J X xs:Fc) 14 (vs 14) w1:=Ez.1 hH 14 (by simp);clear hH;have HNX:Hid (∃a2 cap2,Adq w w1 w.heap.size (.slice a2 (i+1) cap2) (i+1) l):=by
      obtain⟨v',⟨g,cp,rfl,g1,g2⟩,q0,q1,q2⟩:=t14;refine⟨_,cp,⟨?_,?_,Nat.le_refl _,fun e=>g2 (by cases e;rfl),q0,q1,q2⟩⟩
      . unfold E9;rw [Q8 HX.out.2,<-HX.out.1,lap,HLN.out,List.map_append,<-HXS.out];exact g1
      . have hlo:=HV.out.low;refine⟨hS.1.1.trans hlo.os,hS.1.2.1.trans hlo.tape,hS.1.2.2.1.trans hlo.output,lq0 hlo.size hS.1.2.2.2.1,fun k hk=>(hS.1.2.2.2.2 k (lle hk hlo.size) (by show k ≠ w.heap.size;omega) (fun e=>?_)).trans (hlo.block k hk)⟩;have:=(HV.out.own.lt k e.symm).1;omega
     clear t14 hS HV HAP HST HFB HCB HPK HJ HXS HLN HFW HX;rename_i a0;refine a0 _ _ ?_;obtain⟨a2,cap2,hnx⟩:=HNX.out;have HN2:=hid hnx;clear hnx HNX;have i4: -9223372036854775808<=(i:Int)+1:=by omega
     have i5:(i:Int)+1<=9223372036854775807:=by omega
     simp [Aw,Cc,Act.put,List.range,List.range.loop];go_wp2_with fail
     exact⟨⟨i+1,a2,cap2,by have:=HLT.out;omega,by have:=HLT.out;omega,by simp,HN2⟩,by have:=HLT.out;simp [intOf];omega⟩
    all_goals intro vs n0 w1 hS hn hl hH
    . exact C7 (Ut rfl (by kernel_rfl) (Zq w1 _)) ⟨rfl,Below.refl _ _,hS⟩
    . have e:vs 0 = .pointer (some ⟨w.heap.size,1,none⟩):=hH.1;exact C7 (Aae rfl (Eq.trans (b:=vs 0) (by kernel_rfl) e) (Afs w1 (HFB.out n0 w1 hS (lq0 hl (lq0 (Nat.le_of_eq (m:=0) (by kernel_rfl)) (Nat.zero_le 1)))).2.1)) ⟨rfl,Below.refl _ _,hS⟩
    . exact C7 (Ah7 rfl (by kernel_rfl) (Acq w1 _ _ _ _ _ _)) ⟨⟨_,rfl,hS.1.2.2.2.1,Zj _ _⟩,Fk _ _,HST.out _ _ _ hS⟩
    . exact C7 (Ado rfl (by kernel_rfl)) ⟨rfl,Below.refl _ _,hS⟩
    . exact C7 (Ado rfl (by kernel_rfl)) ⟨rfl,Below.refl _ _,hS⟩
    . have e3:vs 3 = .slice (some ⟨b,off,none⟩) n cap:=hH.1;have e4:vs 4 = .int .i64 (i:Int):=hH.2.1;exact C7 (Aad rfl (Eq.trans (b:=vs 3) (by kernel_rfl) e3) (Eq.trans (b:=vs 4) (by kernel_rfl) e4) (Acp w1 b off n cap i HLT.out.1)) ⟨rfl,Below.refl _ _,hS⟩
    . have e:vs 5 = .pointer (some ⟨b,off+i * 4,none⟩):=hH.1;exact C7 (Ut rfl (Eq.trans (b:=vs 5) (by kernel_rfl) e) (Afq w1 b _)) ⟨rfl,Below.refl _ _,hS⟩
    . have e:vs 6 = .pointer (some ⟨b,off+i * 4+3,none⟩):=hH.1;exact C7 (Aae rfl (Eq.trans (b:=vs 6) (by kernel_rfl) e) (Afr w1 (HCB.out n0 w1 hS))) ⟨rfl,Below.refl _ _,hS⟩
    . have e:vs 7 = .int .i64 x.c:=hH.1;have e2:(#[vs 7,.int .i64 6]:Array Value) = #[.int .i64 x.c,.int .i64 6]:=by rw [e]
      exact Ah6 (fs:= #[]) (args:= #[.int .i64 x.c,.int .i64 6]) rfl rfl rfl (Eq.trans (by kernel_rfl) e2) (enters_of func20 (by kernel_rfl) rfl) ((HPK.out w1).mono fun e' w2 h=>⟨_,h.1,rfl,h.2 ▸ Below.refl _ _,h.2 ▸ hS⟩)
    . have h2:∃g,vs 2 = .slice (some ⟨g,0,none⟩) 6 6/\wr.heap.size<=g/\Qh w1 g:=hH.1;have e8:vs 8 = .int .i64 (J:Int):=hH.2.1;exact h2.elim fun g h=>C7 (Aad rfl (Eq.trans (b:=vs 2) (by kernel_rfl) h.1) (Eq.trans (b:=vs 8) (by kernel_rfl) e8) (Aco w1 g J HJ.out.1)) ⟨⟨g,rfl,h.2⟩,Below.refl _ _,hS⟩
    . have h9:∃g,vs 9 = .pointer (some ⟨g,J,none⟩)/\wr.heap.size<=g/\Qh w1 g:=hH.1;exact h9.elim fun g h=>C7 (Aae rfl (Eq.trans (b:=vs 9) (by kernel_rfl) h.1) (Aft w1 (h.2.2.2 J X HJ.out.2))) ⟨rfl,Below.refl _ _,hS⟩
    . have e:vs 10 = .string X:=hH.1;exact C7 (Ah7 rfl (Eq.trans (b:= #[(0,vs 10)]) (by kernel_rfl) (by rw [e])) (Zr w1 X)) ⟨⟨_,rfl,hS.1.2.2.2.1,by simp,(Ao.new w1 _ _).cell 0⟩,Fk _ _,HST.out _ _ _ hS⟩
    . have e1:vs 1 = .slice a1 i cap1:=hH.1;have h11:∃g,vs 11 = .slice (some ⟨g,0,none⟩) 1 1/\wr.heap.size<=g/\g<w1.heap.size/\w1.cell? ⟨g,0,none⟩=some (.string X):=hH.2.1;have hz:n0=0:=Nat.le_zero.1 (lq0 hl (Nat.le_of_eq (by kernel_rfl)));subst hz;have hq:∃y w2,(Builtin.append_ #[37,37] 37 #[vs 1,vs 11]).run prog w1 = .ok y w2/\My (.mk w wr w.heap.size b off n cap i a1 cap1 x.c J X xs:Fc) 12 y w2/\Oh (.mk w wr w.heap.size b off n cap i a1 cap1 x.c J X xs:Fc) 12 w1 w2/\Oi (.mk w wr w.heap.size b off n cap i a1 cap1 x.c J X xs:Fc) 1 w2:=by
       obtain⟨g,g1,g2,g3,g4⟩:=h11;obtain⟨r,cp,w2,r1,r2,r3,r4,r5⟩:=HAP.out w1 g hS g2 g3 g4;rw [e1,g1];exact⟨_,w2,r1,r2,r3,r4⟩
      exact hq.elim fun y h=>h.elim fun w2 h=>C7 (Aih rfl (by kernel_rfl) (by kernel_rfl) h.1) ⟨h.2.1,h.2.2.1,h.2.2.2⟩
    . exact C7 (Ut rfl (by kernel_rfl) (Zq w1 _)) ⟨rfl,Below.refl _ _,hS⟩
    . have e13:vs 13 = .pointer (some ⟨w.heap.size,1,none⟩):=hH.1;have h12:Kf (.mk w wr w.heap.size b off n cap i a1 cap1 x.c J X xs:Fc) w1 (vs 12):=hH.2.1;have hz:n0<=1:=lq0 hl (Nat.le_of_eq (by kernel_rfl));have hq:∃g cp,vs 12 = .slice (some ⟨g,0,none⟩) (i+1) cp/\(Instr.storeAt 37 (.pointer (some ⟨w.heap.size,1,none⟩)) (.slice (some ⟨g,0,none⟩) (i+1) cp)).run prog w1 = .ok () (w1.setCell ⟨w.heap.size,1,none⟩ (.slice (some ⟨g,0,none⟩) (i+1) cp))/\My (.mk w wr w.heap.size b off n cap i a1 cap1 x.c J X xs:Fc) 14 undef (w1.setCell ⟨w.heap.size,1,none⟩ (.slice (some ⟨g,0,none⟩) (i+1) cp))/\Oh (.mk w wr w.heap.size b off n cap i a1 cap1 x.c J X xs:Fc) 14 w1 (w1.setCell ⟨w.heap.size,1,none⟩ (.slice (some ⟨g,0,none⟩) (i+1) cp))/\Oi (.mk w wr w.heap.size b off n cap i a1 cap1 x.c J X xs:Fc) (n0+2) (w1.setCell ⟨w.heap.size,1,none⟩ (.slice (some ⟨g,0,none⟩) (i+1) cp)):=by
       obtain⟨g,cp,g1,g2,g3⟩:=h12;obtain⟨q0,q1,q2⟩:=HFB.out n0 w1 hS hz;have hne:g ≠ w.heap.size:=g3;have hbk:∀k,k ≠ w.heap.size->(w1.setCell ⟨w.heap.size,1,none⟩ (.slice (some ⟨g,0,none⟩) (i+1) cp)).heap[k]? = w1.heap[k]? := fun k hk=>Ae hk;refine⟨g,cp,g1,Afu w1 q1 q2,⟨_,⟨g,cp,rfl,A9 (by rw [g1] at g2;exact g2) fun r hr=>hbk r (fun e=>hne (by cases hr;exact e)),hne⟩,(Ab (by decide)).trans q0,World.cell?_setCell_same _ _ _ q1,by simpa [go_sem] using q2⟩,⟨by simp [World.setCell],hbk⟩,⟨⟨by simpa [World.setCell] using hS.1.1,by simpa [World.setCell] using hS.1.2.1,by simpa [World.setCell] using hS.1.2.2.1,by simpa [World.setCell] using hS.1.2.2.2.1,fun k h1 h2 h3=>(hbk k h2).trans (hS.1.2.2.2.2 k h1 h2 h3)⟩,fun h=>by omega,fun h=>by omega⟩⟩
      exact hq.elim fun g h=>h.elim fun cp h=>Ab1 (Agd rfl (Eq.trans (b:=vs 13) (by kernel_rfl) e13) (Eq.trans (b:=vs 12) (by kernel_rfl) h.1) h.2.1) ⟨h.2.2.1,h.2.2.2.1,h.2.2.2.2⟩
  . have en:i=n\/i=5:=by omega
    have HD:Hid ((l.take i).map G4=Fz l):=by
     unfold Fz;rcases en with e | e
     . unfold Hid;have:=HN.out;rw [List.take_of_length_le (by omega),List.take_of_length_le (by omega)]
     . rw [e];exact rfl
    have HTX:Hid (Gg wr (.slice a1 i cap1) (Fz l)):=by
     have h:=HV.out.own;rw [HD.out] at h;exact h.texts (fun x hx=>by have:=(Nm x hx).1;unfold maxLen;omega) (by have:=La l;unfold maxLen;omega)
    have hfw:w.heap.size<wr.heap.size:=World.block_lt_of_cell? wr ⟨w.heap.size,0,none⟩ HV.out.name;have q0:=HV.out.name;have q1:=HV.out.row;have HLO:Hid (Below w.heap.size w wr):=HV.out.low;have hlt2:¬((i:Int)<(n:Int)/\(i:Int)<5):=by omega
    clear HV HS HD en
    by_cases h1:i<n
    . have j1:(i:Int)<(n:Int):=by omega
      have j2:¬(i:Int)<5:=by omega
      clear hlt hlt2;go_wp2_with fail
      go_ret
      exact⟨_,_,rfl,Aa HLO.out (Fk _ _),Nt (by decide) HTX.out⟩
    . have j1:¬(i:Int)<(n:Int):=by omega
      clear hlt hlt2;go_wp2_with fail
      go_ret
      exact⟨_,_,rfl,Aa HLO.out (Fk _ _),Nt (by decide) HTX.out⟩
end Go.Proofs.YtppcohadoilpgaaGreatDoor
