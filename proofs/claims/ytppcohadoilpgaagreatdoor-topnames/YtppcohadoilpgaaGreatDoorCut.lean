/-
  The program's cut into pieces: its contract.
-/
import Derived.Test.YtppcohadoilpgaaGreatDoorGround
import Derived.Test.YtppcohadoilpgaaGreatDoorChk
import Derived.Test.YtppcohadoilpgaaGreatDoorPrShelf
import Derived.Shelf.Strings.SlTrimAscii
import Derived.Lib.AtoiAllCases
import Derived.Test.YtppcohadoilpgaaGreatDoorRdMem
import Derived.Test.YtppcohadoilpgaaGreatDoorTabs
import Derived.Shelf.Abstract
import Derived.Deep.RegionHeld3
import Derived.Deep.AppendLies
import Derived.OwnWalk
namespace Go.Proofs.YtppcohadoilpgaaGreatDoor
open Go.ChangeShapes Go.WideShapes Go.ChangeAt Go.RowKit Go.Joins Go.Maps Go.Proofs.Tryz
set_option maxHeartbeats 8000000
set_option linter.unusedVariables false
theorem S9 (c:UInt8) (w:World):Calls prog 58 #[.int .u8 (c.toNat:Int)] w fun e w'=>e = .returned (.bool (Bw c))/\w'=w:=by
 obtain⟨n,hn⟩:∃n,n=c.toNat:=⟨_,rfl⟩;have HL:Hid (Bw c=decide ((97<=n/\n<=122)\/(65<=n/\n<=90))):=by rw [hn];rfl
 rw [<-hn];clear hn
 by_cases h1:97<=n
 . have i1:(97:Int)<=n:=by omega
   by_cases h2:n<=122
   . have i2:(n:Int)<=122:=by omega
     have HR:Hid (Bw c=true):=by unfold Hid;rw [HL.out];exact decide_eq_true (by omega)
     go_enter func58,ntmps58
     go_wp2_with fail
     go_ret
     exact⟨Am HR.out.symm,rfl⟩
   . have i2:¬(n:Int)<=122:=by omega
     have i3:(65:Int)<=n:=by omega
     have i4:¬(n:Int)<=90:=by omega
     have HR:Hid (Bw c=false):=by unfold Hid;rw [HL.out];exact decide_eq_false (by omega)
     go_enter func58,ntmps58
     go_wp2_with fail
     go_ret
     exact⟨Am HR.out.symm,rfl⟩
 . have i1:¬(97:Int)<=n:=by omega
   by_cases h3:65<=n
   . have i3:(65:Int)<=n:=by omega
     by_cases h4:n<=90
     . have i4:(n:Int)<=90:=by omega
       have HR:Hid (Bw c=true):=by unfold Hid;rw [HL.out];exact decide_eq_true (by omega)
       go_enter func58,ntmps58
       go_wp2_with fail
       go_ret
       exact⟨Am HR.out.symm,rfl⟩
     . have i4:¬(n:Int)<=90:=by omega
       have HR:Hid (Bw c=false):=by unfold Hid;rw [HL.out];exact decide_eq_false (by omega)
       go_enter func58,ntmps58
       go_wp2_with fail
       go_ret
       exact⟨Am HR.out.symm,rfl⟩
   . have i3:¬(65:Int)<=n:=by omega
     have HR:Hid (Bw c=false):=by unfold Hid;rw [HL.out];exact decide_eq_false (by omega)
     go_enter func58,ntmps58
     go_wp2_with fail
     go_ret
     exact⟨Am HR.out.symm,rfl⟩
theorem Wc (c:UInt8) (w:World):Calls prog 60 #[.int .u8 (c.toNat:Int)] w fun e w'=>e = .returned (.bool (Bv c))/\w'=w:=by
 obtain⟨n,hn⟩:∃n,n=c.toNat:=⟨_,rfl⟩;have HL:Hid (Bv c=decide (48<=n/\n<=57)):=by rw [hn];rfl
 rw [<-hn];clear hn
 by_cases h1:48<=n
 . have i1:(48:Int)<=n:=by omega
   by_cases h2:n<=57
   . have i2:(n:Int)<=57:=by omega
     have HR:Hid (Bv c=true):=by unfold Hid;rw [HL.out];exact decide_eq_true (by omega)
     go_enter func60,ntmps60
     go_wp2_with fail
     go_ret
     exact⟨Am HR.out.symm,rfl⟩
   . have i2:¬(n:Int)<=57:=by omega
     have HR:Hid (Bv c=false):=by unfold Hid;rw [HL.out];exact decide_eq_false (by omega)
     go_enter func60,ntmps60
     go_wp2_with fail
     go_ret
     exact⟨Am HR.out.symm,rfl⟩
 . have i1:¬(48:Int)<=n:=by omega
   have HR:Hid (Bv c=false):=by unfold Hid;rw [HL.out];exact decide_eq_false (by omega)
   go_enter func60,ntmps60
   go_wp2_with fail
   go_ret
   exact⟨Am HR.out.symm,rfl⟩
theorem Adl {α:Type} (p:α->Bool) (l:List α) (k:Nat) (hk:k<=l.length) (h:∀q,(hq:q<l.length)->q<k->p l[q]=true) (hs:∀hq:k<l.length,p l[k]=false):(l.takeWhile p).length=k:=by
 induction l generalizing k with
 | nil=>simp at hk;subst hk;rfl
 | cons x l ih =>
  cases k with
  | zero =>
   have:=hs (by simp);simp only [List.getElem_cons_zero] at this;simp [this]
  | succ k =>
   have h0:=h 0 (by simp) (by omega);simp only [List.getElem_cons_zero] at h0;simp only [List.takeWhile_cons,h0,if_true,List.length_cons];rw [ih k (by simpa using hk) (fun q hq hqk=>h (q+1) (by simpa using hq) (by omega)) (fun hq=>hs (by simpa using hq))]
theorem Np (g:FuncId) (p:UInt8->Bool) (s:ByteArray) (w:World) (hs:s.size<=6000)
 (hp:∀(c:UInt8) (w:World),Calls prog g #[.int .u8 (c.toNat:Int)] w fun e w'=>e = .returned (.bool (p c))/\w'=w) (henter:∀args w,(callFunc g args).run prog w = .ok (.enter g args) w) :
 Calls prog 57 #[.string s,.func (.func g) #[] #[]] w fun e w'=>e = .returned (.int .i64 ((s.toList.takeWhile p).length:Nat))/\w'=w:=by
 have HP:Hid (∀(c:UInt8) (w:World),Calls prog g #[.int .u8 (c.toNat:Int)] w fun e w'=>e = .returned (.bool (p c))/\w'=w):=hp;have hsl:s.toList.length=s.size:=by rw [ByteArray.toList_eq];simp
 have hat:∀q (hq:q<s.size) (hq':q<s.toList.length),s.toList[q]=s[q]:=fun q hq hq'=>by
  simp only [ByteArray.toList_eq];rw [Array.getElem_toList];rfl
 have HAT:Hid (∀q (hq:q<s.size) (hq':q<s.toList.length),s.toList[q]=s[q]):=hat;have HSL:Hid (s.toList.length=s.size):=hsl;clear hp hsl hat;go_enter func57,ntmps57
 go_wp2_with fail
 go_loop [5] (fun v=>∃k:Nat,k<=s.size/\v = .int .i64 k/\Hid (∀q,(hq:q<s.toList.length)->q<k->p s.toList[q]=true)) (fun v=>s.size - (intOf v).toNat)
 case atStart=>exact⟨0,by omega,rfl,fun q _ hq=>absurd hq (Nat.not_lt_zero _)⟩
 case round =>
  obtain⟨k,hk,rfl,HQ⟩:=hrel
  by_cases hlt:k<s.size
  . have i1:(k:Int)<(s.size:Int):=by omega
    have i2:(0:Int)<=(k:Int):=by omega
    have HC:Hid _:=HP.out s[k];cases hb:p s[k] with
    | true =>
     rw [hb] at HC;have R2:Hid (∀q,(hq:q<s.toList.length)->q<k+1->p s.toList[q]=true):=fun q hq hq2=>by
      by_cases e:q=k
      . subst e;rw [HAT.out q hlt hq];exact hb
      . exact HQ.out q hq (by omega)
     clear hb HQ;go_wp2_with (refine (HC.out _).mono ?_;rintro e w1 ⟨rfl,rfl⟩)
     go_round
     case rel=>exact⟨k+1,by omega,by go_num,R2⟩
     case measure=>simp [intOf];omega
    | false =>
     rw [hb] at HC;have HL:Hid ((s.toList.takeWhile p).length=k):=Adl p _ k (by rw [HSL.out];omega) HQ.out (fun hq=>by rw [HAT.out k hlt hq];exact hb);clear hb HQ;go_wp2_with (refine (HC.out _).mono ?_;rintro e w1 ⟨rfl,rfl⟩)
     go_ret
     exact⟨A4 (by rw [HL.out]),rfl⟩
  . have i1:¬(k:Int)<(s.size:Int):=by omega
    have HL:Hid ((s.toList.takeWhile p).length=k):=Adl p _ k (by rw [HSL.out];omega) HQ.out (fun hq=>by rw [HSL.out] at hq;omega);clear HQ;go_wp2_with fail
    go_ret
    exact⟨A4 (by rw [HL.out]),rfl⟩
def Dj {α:Type} (R:Except Int α) (K:α->Value) (e:Ending):Prop:=match R with
 | .ok n=>e = .returned (K n)
 | .error er=>e = .panicked [C2 er]
theorem Dj.ok {α:Type} {R:Except Int α} {K:α->Value} {n:α} {v:Value} (h:R = .ok n) (hv:v=K n):Dj R K (.returned v):=by rw [h,hv];exact rfl
theorem Dj.err {α:Type} {R:Except Int α} {K:α->Value} {er:Int} (h:R = .error er):Dj R K (.panicked [C2 er]):=by rw [h];exact rfl
def S1 (c:UInt8):Except Int Int:=if c.toNat=34\/c.toNat=92 then .ok c.toNat else if c.toNat=110 then .ok 10 else .error 4
theorem V6 (c:UInt8) (w:World):Calls prog 89 #[.int .u8 (c.toNat:Int)] w fun e w'=>Dj (S1 c) (fun n=> .int .u8 n) e/\w'=w:=by
 unfold S1;obtain⟨n,hn⟩:∃n,n=c.toNat:=⟨_,rfl⟩;rw [<-hn];clear hn
 by_cases h1:n=34
 . subst h1;go_enter func89,ntmps89
   go_wp2_with fail
   go_ret
   exact⟨Dj.ok (n:=34) (by simp) rfl,rfl⟩
 by_cases h2:n=92
 . subst h2;go_enter func89,ntmps89
   go_wp2_with fail
   go_ret
   exact⟨Dj.ok (n:=92) (by simp) rfl,rfl⟩
 have b1:((n:Int) == 34)=false:=by simp;omega
 have b2:((n:Int) == 92)=false:=by simp;omega
 by_cases h3:n=110
 . subst h3;go_enter func89,ntmps89
   go_wp2_with fail
   go_ret
   exact⟨Dj.ok (n:=10) (by simp) rfl,rfl⟩
 have b3:((n:Int) == 110)=false:=by simp;omega
 rw [if_neg (by omega),if_neg h3];clear h1 h2 h3;go_enter func89,ntmps89
 go_wp2_with fail
 exact⟨rfl,Dj.err rfl,rfl⟩
end Go.Proofs.YtppcohadoilpgaaGreatDoor
namespace Go.Proofs.YtppcohadoilpgaaGreatDoor
open Go.ChangeShapes Go.WideShapes Go.ChangeAt Go.RowKit Go.Joins Go.Maps Go.Proofs.Tryz
set_option linter.unusedVariables false
theorem Xm:(fun c:UInt8=> [32,9,10].contains c)=Cf:=by
 funext c
 have h:c.toNat<256:=UInt8.toNat_lt c;have e:∀k:UInt8,(c == k)=decide (c.toNat=k.toNat):=fun k=>by
  by_cases hk:c=k
  . subst hk;simp
  . have:c.toNat ≠ k.toNat:=fun e=>hk (UInt8.toNat_inj.1 e);simp [hk,this]
 simp only [List.contains_cons,List.contains_nil,Bool.or_false,e,Cf];have h1:(32:UInt8).toNat=32:=rfl;have h2:(9:UInt8).toNat=9:=rfl;have h3:(10:UInt8).toNat=10:=rfl;rw [h1,h2,h3]
 by_cases a:c.toNat=32 <;> by_cases b:c.toNat=9 <;> by_cases d:c.toNat=10 <;> simp [a,b,d]
theorem I5 (s:ByteArray) (w:World):Calls prog 37 #[.string s] w fun e w'=>e = .returned (.string (bs (s.toList.dropWhile Cf)))/\Below w.heap.size w w':=by
 have hc:=Any.strings_TrimLeft_laid Tryz.lays161 (by kernel_rfl) s ⟨#[32,9,10]⟩ w (by decide) (ascii_of_all (by decide));have he:(⟨(Lib.trimLeftS s.data.toList [32,9,10]).toArray⟩:ByteArray)=bs (s.toList.dropWhile Cf):=by
  rw [Lib.trimLeftS,ByteArray.toList_eq];rw [show (fun x=> [32,9,10].contains x)=Cf from Xm];rfl
 have hc2:Calls prog 56 #[.string s,.string ⟨#[32,9,10]⟩] w fun e w'=>e = .returned (.string (bs (s.toList.dropWhile Cf)))/\Below w.heap.size w w':=hc.mono fun e w' ⟨h1,h2⟩=>⟨h1.trans (by rw [<-he]),h2⟩;have HC:Hid _:=hc2;clear hc hc2 he;go_enter func37,ntmps37
 go_wp2_with fail
 refine Calls.mono HC.out ?_;rintro e w1 ⟨rfl,hb⟩;have HB:Hid _:=hb;clear hb HC;go_wp2_with fail
 go_ret
 exact⟨rfl,HB.out⟩
theorem Aaz (s:ByteArray) (w:World) (hs:s.size<=6000):Calls prog 59 #[.string s] w fun e w'=>e = .returned (.string s)/\Below w.heap.size w w':=by
 have HC:Hid _:=Tryz.stringslite_Clone s w (by omega);go_enter func59,ntmps59
 go_wp2_with fail
 refine Calls.mono HC.out ?_;rintro e w1 ⟨rfl,hb⟩;have HB:Hid _:=hb;clear hb HC;go_wp2_with fail
 go_ret
 exact⟨rfl,HB.out⟩
def K7 (a:Nat) (l:List UInt8):Nat:=l.foldl (fun a c=>10 * a+(c.toNat - 48)) a
theorem Aa3 (l:List UInt8):∀a,a<=K7 a l:=by
 induction l with
 | nil=>intro a;exact Nat.le_refl _
 | cons c l ih=>intro a;exact lq0 (by omega) (ih (10 * a+(c.toNat - 48)))
theorem Ahk:∀(l:List UInt8) (a:Nat),(∀c ∈ l,Bv c=true)->a<18446744073709551616->Lib.parseUint10 a l=if K7 a l<18446744073709551616 then .ok (K7 a l) else .range:=by
 intro l
 induction l with
 | nil=>intro a _ ha;simp [Lib.parseUint10,K7,ha]
 | cons c l ih =>
  intro a hd ha;have hc:=hd c (List.mem_cons_self ..);simp only [Bv,decide_eq_true_eq] at hc;have hge:=Aa3 l (10 * a+(c.toNat - 48));have he:K7 a (c :: l)=K7 (10 * a+(c.toNat - 48)) l:=rfl;rw [Lib.parseUint10,if_pos hc,he]
  by_cases h1:1844674407370955162<=a
  . rw [if_pos h1,if_neg (by omega)]
  . rw [if_neg h1,show a * 10+(c.toNat - 48)=10 * a+(c.toNat - 48) by omega]
    by_cases h2:18446744073709551616<=10 * a+(c.toNat - 48)
    . rw [if_pos h2,if_neg (by omega)]
    . rw [if_neg h2];exact ih _ (fun d hd'=>hd d (List.mem_cons_of_mem _ hd')) (by omega)
theorem Aaq (l:List UInt8) (h0:0<l.length) (hd:∀c ∈ l,Bv c=true):Lib.atoiAll l=if M2 l<9223372036854775808 then .ok (M2 l:Int) else .range:=by
 cases l with
 | nil=>simp at h0
 | cons c r =>
  have hc:=hd c (List.mem_cons_self ..);simp only [Bv,decide_eq_true_eq] at hc;have e:M2 (c :: r)=K7 0 (c :: r):=rfl;have h43:¬c.toNat=43:=by omega
  have h45:¬c.toNat=45:=by omega
  rw [e];simp only [Lib.atoiAll,h43,h45,or_self,if_false,Lib.parseMag,reduceCtorEq];rw [Ahk _ 0 hd (by omega)]
  by_cases h1:K7 0 (c :: r)<18446744073709551616
  . rw [if_pos h1]
    by_cases h2:K7 0 (c :: r)<9223372036854775808
    . have h3:¬9223372036854775808<=K7 0 (c :: r):=by omega
      simp [h2,h3]
    . have h3:9223372036854775808<=K7 0 (c :: r):=by omega
      simp [h2,h3]
  . rw [if_neg h1,if_neg (by omega)]
def Ke (w:World):Prop:=∃te pe,w.cell? ⟨11,0,none⟩=some (.iface te pe)
theorem Ke.stays {w w':World} (h:Ke w) (hb:Below w.heap.size w w'):Ke w':=by
 obtain⟨te,pe,h⟩:=h;exact⟨te,pe,(hb.cell (p:=⟨11,0,none⟩) (World.block_lt_of_cell? w _ h)).trans h⟩
theorem Ow {B:Nat} {a w:World} (h:Below B a w) (p:Addr) (n:Nat) (hp:B<=p.block):Below B a (w.freeze p n):=by
 unfold World.freeze;split
 . exact h
 . refine⟨h.os,h.tape,h.output,?_,fun k hk=>?_⟩
   . simpa using h.size
   . rw [<-h.block k hk];simp only [Array.getElem?_modify];rw [if_neg (by omega)]
theorem Fq (w:World) (t:TypeId) (s:ByteArray):Below w.heap.size w (Lib.bytesWorld w t s):=by
 unfold Lib.bytesWorld;exact Ow ((br0.drew).alloc lr0 _) _ _ lr0
theorem Tj (s:ByteArray) (w:World) (h0:0<s.size) (h1:s.size<=6000) (hd:∀c ∈ s.toList,Bv c=true) (hE:Ke w) :
 Calls prog 61 #[.string s] w fun e w'=>Dj (Jp s.toList) (fun n=> .int .i64 n) e/\Below w.heap.size w w':=by
 have hsl:s.toList.length=s.size:=by rw [ByteArray.toList_eq];simp
 have hhd:s.toList.head? = some s[0]:=by
  rw [List.head?_eq_getElem?,gee (by omega)]
  congr 1
  simp only [ByteArray.toList_eq];rw [Array.getElem_toList];rfl
 have hz:(s.toList.head? = some 48) ↔ ((s[0].toNat:Int) == 48)=true:=by
  rw [hhd];simp only [Option.some.injEq,beq_iff_eq]
  constructor
  . intro h;rw [h];rfl
  . intro h;exact UInt8.toNat_inj.1 (by simp;omega)
 have hat:=Aaq s.toList (by omega) hd;rw [show s.toList=s.data.toList from ByteArray.toList_eq ..] at hat;have HAT:Hid _:=hat;have hdv:M2 s.toList=M2 s.data.toList:=by rw [ByteArray.toList_eq]
 have HDV:Hid _:=hdv;have HE:Hid (Ke w):=hE;clear hat hdv hd hE hhd;have HZ:Hid _:=hz
 by_cases h3:1<s.size/\s.toList.head? = some 48
 . have i1:(1:Int)<(s.size:Int):=by omega
   have b0:=HZ.out.1 h3.2;have HN:Hid (Jp s.toList = .error 4):=by unfold Hid Jp;rw [if_pos ⟨by omega,h3.2⟩]
   clear hz h3;go_enter func61,ntmps61
   go_wp2_with fail
   refine (Al 4 _).mono ?_;rintro e w1 ⟨rfl,rfl⟩;go_wp2_with fail
   exact⟨rfl,Dj.err HN.out,Below.refl _ _⟩
 . have HN:Hid (Jp s.toList=if 1099511627776<M2 s.data.toList then .error 2 else .ok (M2 s.data.toList:Int)):=by
    unfold Hid Jp;rw [if_neg (by intro h;exact h3 ⟨by omega,h.2⟩),HDV.out]
   have HF:Hid (¬(1<s.size/\((s[0].toNat:Int) == 48)=true)):=fun h=>h3 ⟨h.1,HZ.out.2 h.2⟩;clear hz h3;obtain⟨n,hn⟩:∃n,n=M2 s.data.toList:=⟨_,rfl⟩;rw [<-hn] at HN HAT;clear hn
   by_cases h6:n<9223372036854775808
   . have HA:Hid _:=Tryz.strconv_Atoi_ok s (by omega) n (by have:=HAT.out;rw [if_pos h6] at this;exact this)
     by_cases h7:1099511627776<n
     . have HR:Hid (Jp s.toList = .error 2):=by unfold Hid;rw [HN.out,if_pos h7]
       have i2:(1099511627776:Int)<(n:Int):=by omega
       by_cases h2:1<s.size
       . have i1:(1:Int)<(s.size:Int):=by omega
         have b0:((s[0].toNat:Int) == 48)=false:=by
          cases hb:((s[0].toNat:Int) == 48) with
          | false=>rfl
          | true=>exact absurd ⟨h2,hb⟩ HF.out
         go_enter func61,ntmps61
         go_wp2_with fail
         refine (Af 4 _).mono ?_;rintro e w1 ⟨rfl,rfl⟩;go_wp2_with fail
         refine (HA.out _).mono ?_;rintro e w2 ⟨rfl,hb⟩;have HB:Hid (Below w1.heap.size w1 w2):=by rcases hb with rfl | ⟨t,rfl⟩;exact Below.refl _ _;exact Fq _ _ _
         clear hb;go_wp2_with fail
         refine (Al 2 _).mono ?_;rintro e w3 ⟨rfl,rfl⟩;go_wp2_with fail
         exact⟨rfl,Dj.err HR.out,HB.out⟩
       . have i1:¬(1:Int)<(s.size:Int):=by omega
         go_enter func61,ntmps61
         go_wp2_with fail
         refine (Af 4 _).mono ?_;rintro e w1 ⟨rfl,rfl⟩;go_wp2_with fail
         refine (HA.out _).mono ?_;rintro e w2 ⟨rfl,hb⟩;have HB:Hid (Below w1.heap.size w1 w2):=by rcases hb with rfl | ⟨t,rfl⟩;exact Below.refl _ _;exact Fq _ _ _
         clear hb;go_wp2_with fail
         refine (Al 2 _).mono ?_;rintro e w3 ⟨rfl,rfl⟩;go_wp2_with fail
         exact⟨rfl,Dj.err HR.out,HB.out⟩
     . have HR:Hid (Jp s.toList = .ok (n:Int)):=by unfold Hid;rw [HN.out,if_neg h7]
       have i2:¬(1099511627776:Int)<(n:Int):=by omega
       by_cases h2:1<s.size
       . have i1:(1:Int)<(s.size:Int):=by omega
         have b0:((s[0].toNat:Int) == 48)=false:=by
          cases hb:((s[0].toNat:Int) == 48) with
          | false=>rfl
          | true=>exact absurd ⟨h2,hb⟩ HF.out
         go_enter func61,ntmps61
         go_wp2_with fail
         refine (Af 4 _).mono ?_;rintro e w1 ⟨rfl,rfl⟩;go_wp2_with fail
         refine (HA.out _).mono ?_;rintro e w2 ⟨rfl,hb⟩;have HB:Hid (Below w1.heap.size w1 w2):=by rcases hb with rfl | ⟨t,rfl⟩;exact Below.refl _ _;exact Fq _ _ _
         clear hb;go_wp2_with fail
         rw [decide_eq_false (show ¬(1099511627776:Int)<(n:Int) by omega)];refine (Af 2 _).mono ?_;rintro e w3 ⟨rfl,rfl⟩;go_wp2_with fail
         go_ret
         exact⟨Dj.ok HR.out rfl,HB.out⟩
       . have i1:¬(1:Int)<(s.size:Int):=by omega
         go_enter func61,ntmps61
         go_wp2_with fail
         refine (Af 4 _).mono ?_;rintro e w1 ⟨rfl,rfl⟩;go_wp2_with fail
         refine (HA.out _).mono ?_;rintro e w2 ⟨rfl,hb⟩;have HB:Hid (Below w1.heap.size w1 w2):=by rcases hb with rfl | ⟨t,rfl⟩;exact Below.refl _ _;exact Fq _ _ _
         clear hb;go_wp2_with fail
         rw [decide_eq_false (show ¬(1099511627776:Int)<(n:Int) by omega)];refine (Af 2 _).mono ?_;rintro e w3 ⟨rfl,rfl⟩;go_wp2_with fail
         go_ret
         exact⟨Dj.ok HR.out rfl,HB.out⟩
   . have HR:Hid (Jp s.toList = .error 2):=by unfold Hid;rw [HN.out,if_pos (by omega)]
     have HA:Hid (∀W,Ke W->Calls prog 86 #[.string s] W fun e w'=>∃x tt pp,e = .returned (.tuple #[.int .i64 x,.iface tt pp])/\Below W.heap.size W w'):=fun W ⟨te,pe,hc⟩ =>
      (Tryz.strconv_Atoi_range s (by omega) (by have:=HAT.out;rw [if_neg h6] at this;exact this) (.iface te pe) W hc (.inr ⟨te,pe,rfl⟩)).mono fun e w' ⟨N,h1,_,_,h4⟩=>⟨_,_,_,h1,h4⟩
     by_cases h2:1<s.size
     . have i1:(1:Int)<(s.size:Int):=by omega
       have b0:((s[0].toNat:Int) == 48)=false:=by
        cases hb:((s[0].toNat:Int) == 48) with
        | false=>rfl
        | true=>exact absurd ⟨h2,hb⟩ HF.out
       go_enter func61,ntmps61
       go_wp2_with fail
       refine (Af 4 _).mono ?_;rintro e w1 ⟨rfl,rfl⟩;go_wp2_with fail
       refine (HA.out _ HE.out).mono ?_;rintro e w2 ⟨x,tt,pp,rfl,hb⟩;have HB:Hid (Below w1.heap.size w1 w2):=hb;clear hb;go_wp2_with fail
       refine (Al 2 _).mono ?_;rintro e w3 ⟨rfl,rfl⟩;go_wp2_with fail
       exact⟨rfl,Dj.err HR.out,HB.out⟩
     . have i1:¬(1:Int)<(s.size:Int):=by omega
       go_enter func61,ntmps61
       go_wp2_with fail
       refine (Af 4 _).mono ?_;rintro e w1 ⟨rfl,rfl⟩;go_wp2_with fail
       refine (HA.out _ HE.out).mono ?_;rintro e w2 ⟨x,tt,pp,rfl,hb⟩;have HB:Hid (Below w1.heap.size w1 w2):=hb;clear hb;go_wp2_with fail
       refine (Al 2 _).mono ?_;rintro e w3 ⟨rfl,rfl⟩;go_wp2_with fail
       exact⟨rfl,Dj.err HR.out,HB.out⟩
end Go.Proofs.YtppcohadoilpgaaGreatDoor
namespace Go.Proofs.YtppcohadoilpgaaGreatDoor
open Go.ChangeShapes Go.WideShapes Go.ChangeAt Go.RowKit Go.Joins Go.Maps Go.Proofs.Tryz
set_option linter.unusedVariables false
theorem Bj (s:ByteArray):s.toList.length=s.size:=by rw [ByteArray.toList_eq];simp
theorem K2 (s:ByteArray) (q:Nat) (hq:q<s.size):s.toList.drop q=s[q] :: s.toList.drop (q+1):=by
 have hq':q<s.toList.length:=by rw [Bj];exact hq
 rw [List.drop_eq_getElem_cons hq']
 congr 1
 simp only [ByteArray.toList_eq];rw [Array.getElem_toList];rfl
theorem O6 {c:UInt8} {k:Nat} (h:¬c.toNat=k):((c.toNat:Int) == (k:Int))=false:=by
 rw [beq_eq_false_iff_ne];omega
theorem O7 {c:UInt8} {k:Nat} (h:c.toNat=k):((c.toNat:Int) == (k:Int))=true:=by
 rw [beq_iff_eq];omega
theorem I8 {acc:List UInt8} {i:Nat}:C3 [] acc i = .error 5:=by rw [C3]
theorem Mn {c:UInt8} {r acc:List UInt8} {i:Nat} (h:c.toNat=34):C3 (c :: r) acc i = .ok (acc,i+1):=by rw [C3.eq_def];simp [h]
theorem N6 {c:UInt8} {r acc:List UInt8} {i:Nat} (h:c.toNat=10):C3 (c :: r) acc i = .error 4:=by rw [C3.eq_def];simp [h]
theorem Mm {c:UInt8} {r acc:List UInt8} {i:Nat} (h1:¬c.toNat=34) (h2:¬c.toNat=10) (h3:¬c.toNat=92):C3 (c :: r) acc i=C3 r (acc ++ [c]) (i+1):=by rw [C3.eq_def];simp [h1,h2,h3]
theorem N7 {c:UInt8} {acc:List UInt8} {i:Nat} (h:c.toNat=92):C3 [c] acc i = .error 5:=by rw [C3.eq_def];simp [h]
theorem I9 {c d:UInt8} {r acc:List UInt8} {i:Nat} (h:c.toNat=92):C3 (c :: d :: r) acc i=if d.toNat=34\/d.toNat=92 then C3 r (acc ++ [d]) (i+2) else if d.toNat=110 then C3 r (acc ++ [10]) (i+2) else .error 4:=by
 rw [C3.eq_def];simp [h]
theorem V5 {d:UInt8} {v:Int} (h:S1 d = .ok v):∃b:UInt8,v=b.toNat/\∀(r acc:List UInt8) (i:Nat) (c:UInt8),c.toNat=92->C3 (c :: d :: r) acc i=C3 r (acc ++ [b]) (i+2):=by
 unfold S1 at h;split at h
 . rename_i hh;cases h;exact⟨d,rfl,fun r acc i c hc=>by rw [I9 hc,if_pos hh]⟩
 . rename_i hh;split at h
   . rename_i hn;cases h;exact⟨10,rfl,fun r acc i c hc=>by rw [I9 hc,if_neg hh,if_pos hn]⟩
   . cases h
theorem Yc {d:UInt8} {er:Int} (h:S1 d = .error er):∀(r acc:List UInt8) (i:Nat) (c:UInt8),c.toNat=92->C3 (c :: d :: r) acc i = .error er:=by
 unfold S1 at h;split at h
 . cases h
 . rename_i hh;split at h
   . cases h
   . rename_i hn;cases h;exact fun r acc i c hc=>by rw [I9 hc,if_neg hh,if_neg hn]
structure TxK (s:ByteArray) (w wr:World) (TX:Except Int (List UInt8 × Nat)) (acc:List UInt8) (i:Nat):Prop where
 eq:TX=C3 (s.toList.drop i) acc i
 len:acc.length<=i
 low:Below w.heap.size w wr
 box:Bx w.heap.size [.int .i64 0,.string ⟨#[]⟩,.int .i64 0] 91 wr
 bd:Bd (w.heap.size+1) (w.heap.size+1) acc wr
theorem TxK.next {s:ByteArray} {w wr w2:World} {TX:Except Int (List UInt8 × Nat)} {acc acc':List UInt8} {i i':Nat} (h:TxK s w wr TX acc i) (heq:TX=C3 (s.toList.drop i') acc' i') (hlen:acc'.length<=i') (hb:Below (w.heap.size+1) wr w2) (hd:Bd (w.heap.size+1) (w.heap.size+1) acc' w2):TxK s w w2 TX acc' i' :=
 ⟨heq,hlen,h.low.trans (hb.mono (Nat.le_succ _)),(hb.block _ (Nat.lt_succ_self _)).trans h.box,hd⟩
def Adn (p:List UInt8 × Nat):Value:= .tuple #[.agg #[.int .i64 3,.string (bs p.1),.int .i64 0],.int .i64 p.2]
set_option maxRecDepth 100000 in
theorem Rb (s:ByteArray) (w:World) (h1:s.size<=6000) (h0:0<s.size) :
 Calls prog 62 #[.string s] w fun e w'=>Dj (C3 s.toList.tail [] 1) Adn e/\Below w.heap.size w w':=by
 obtain⟨TX,hTX⟩:∃TX,TX=C3 s.toList.tail [] 1:=⟨_,rfl⟩;rw [<-hTX];obtain⟨W,hW⟩:∃W,W=(w.alloc (.cells #[.int .i64 0,.string ⟨#[]⟩,.int .i64 0] 91)).alloc (.cells #[.pointer none,.slice none 0 0] 144):=⟨_,rfl⟩;have hz:(w.alloc (.cells #[.int .i64 0,.string ⟨#[]⟩,.int .i64 0] 91)).heap.size=w.heap.size+1:=by simp
 have HI0:Hid (TxK s w W TX [] 1):=by
  have hbd:=Bd.new (w.alloc (.cells #[.int .i64 0,.string ⟨#[]⟩,.int .i64 0] 91));rw [hz] at hbd;rw [hW];exact⟨by rw [hTX,List.drop_one],by simp,(br0.alloc lr0 _).alloc (by rw [hz];omega) _,(Bx.new w _ _).below (br0.alloc lr0 _),hbd⟩
 have HWW:Hid (W=_):=hW;clear hW hTX hz;go_enter func62,ntmps62
 go_wp2_with fail
 rw [<-HWW.out];clear HWW
 go_loopw [5] (fun v wr=>∃i:Nat,v = .int .i64 i/\i<=s.size+1/\1<=i/\Hid (∃acc,TxK s w wr TX acc i)) (fun v _=>s.size+2 - (intOf v).toNat)
 case atStart=>exact⟨1,rfl,by omega,by omega,_,HI0.out⟩
 case round =>
  obtain⟨i,rfl,hi,hi1,HI1⟩:=hrel;clear HI0;obtain⟨acc,HI2⟩:=HI1.out;have HI:Hid (TxK s w wr TX acc i):=HI2;clear HI1 HI2
  by_cases hlt:i<s.size
  . have i1:(i:Int)<(s.size:Int):=by omega
    have i2:(0:Int)<=(i:Int):=by omega
    have hdrop:=K2 s i hlt;have HD:Hid (TX=C3 (s[i] :: s.toList.drop (i+1)) acc i):=by unfold Hid;rw [HI.out.eq,hdrop]
    clear hdrop
    by_cases c34:s[i].toNat=34
    . have b1:=O7 c34;have HC:Hid _:=HI.out.bd.string (by have:=HI.out.bd.lt;omega);have HT:Hid (TX = .ok (acc,i+1)):=by unfold Hid;rw [HD.out,Mn c34]
      clear c34;have b1':((s[i].toNat:Int) == 34)=true:=b1;clear b1;go_wp2_with fail
      refine Calls.mono HC.out ?_;rintro e w2 ⟨rfl,hb⟩;have HX:Hid (Bx w.heap.size [.int .i64 0,.string ⟨#[]⟩,.int .i64 0] 91 w2/\Below w.heap.size w w2):=⟨(hb.block _ (Nat.lt_succ_self _)).trans HI.out.box,HI.out.low.trans (hb.mono (Nat.le_succ _))⟩;have g0:=HX.out.1.cell 0;have g1:=HX.out.1.cell 1;have g2:=HX.out.1.cell 2;have z0:=HX.out.1.thaw 0;have z1:=HX.out.1.thaw 1;have z2:=HX.out.1.thaw 2;simp only [List.getElem?_cons_zero,List.getElem?_cons_succ] at g0 g1 g2;clear hb HC;go_wp2_with fail
      refine bodyPost_ret (v:= .tuple #[.agg #[.int .i64 3,.string (bs acc),.int .i64 0],.int .i64 ((i:Int)+1)]) (by simp [results,results62,go_sem,g0,g1,g2]) rfl ?_;exact⟨Dj.ok HT.out (by simp [Adn]),((HX.out.2.setCell (p:=⟨w.heap.size,0,none⟩) lr0 _).setCell (p:=⟨w.heap.size,1,none⟩) lr0 _).setCell (p:=⟨w.heap.size,2,none⟩) lr0 _⟩
    have b34:((s[i].toNat:Int) == 34)=false:=O6 c34
    by_cases c10:s[i].toNat=10
    . have b10:((s[i].toNat:Int) == 10)=true:=O7 c10;have HT:Hid (TX = .error 4):=by unfold Hid;rw [HD.out,N6 c10]
      have HB:Hid (Below w.heap.size w wr):=HI.out.low;clear c10 c34;go_wp2_with fail
      exact⟨rfl,Dj.err HT.out,HB.out⟩
    have b10:((s[i].toNat:Int) == 10)=false:=O6 c10
    by_cases c92:s[i].toNat=92
    . have b92:((s[i].toNat:Int) == 92)=true:=O7 c92
      by_cases hl2:i+1<s.size
      . have j1:(i:Int)+1<(s.size:Int):=by omega
        have j2:(0:Int)<=(i:Int)+1:=by omega
        have hd2:=K2 s (i+1) hl2;have HD2:Hid (TX=C3 (s[i] :: s[i+1] :: s.toList.drop (i+2)) acc i):=by unfold Hid;rw [HD.out,hd2]
        have HC:Hid _:=V6 s[i+1];clear hd2;cases he:S1 s[i+1] with
        | error er =>
         rw [he] at HC;have HT:Hid (TX = .error er):=by unfold Hid;rw [HD2.out];exact Yc he _ _ _ _ c92
         have HB:Hid (Below w.heap.size w wr):=HI.out.low;clear c10 c34 c92 he;go_wp2_with fail
         refine (HC.out _).mono ?_;rintro e w2 ⟨hr,hw2⟩;obtain rfl:e = .panicked [C2 er]:=hr;rw [hw2];clear hw2 w2;go_wp2_with fail
         exact⟨rfl,Dj.err HT.out,HB.out⟩
        | ok v =>
         rw [he] at HC;obtain⟨b,hv,hb⟩:=V5 he;have HT:Hid (TX=C3 (s.toList.drop (i+2)) (acc ++ [b]) (i+2)):=by unfold Hid;rw [HD2.out];exact hb _ _ _ _ c92
         have HCB:Hid _:=HI.out.bd.byte b (by have:=HI.out.len;omega) (by have:=HI.out.bd.lt;omega);subst hv;clear c10 c34 c92 he hb;go_wp2_with fail
         refine (HC.out _).mono ?_;rintro e w2 ⟨hr,hw2⟩;obtain rfl:e = .returned (.int .u8 b.toNat):=hr;rw [hw2];clear hw2 w2;go_wp2_with fail
         refine Calls.mono HCB.out ?_;rintro e w3 ⟨rfl,hbd,hlow⟩;have HN:Hid (TxK s w w3 TX (acc ++ [b]) (i+2)):=HI.out.next HT.out (by have:=HI.out.len;simp;omega) hlow hbd;clear hbd hlow HCB HC;go_wp2_with fail
         go_roundw
         case rel=>exact⟨i+2,by go_num,by omega,by omega,_,HN.out⟩
         case measure=>simp [intOf];omega
      . have j1:¬(i:Int)+1<(s.size:Int):=by omega
        have HN:Hid (TxK s w wr TX acc (i+2)):=HI.out.next (by
         have e1:s.toList.drop (i+1) = []:=List.drop_eq_nil_of_le (by rw [Bj];omega);have e2:s.toList.drop (i+2) = []:=List.drop_eq_nil_of_le (by rw [Bj];omega);rw [HD.out,e1,e2,N7 c92,I8]) (by have:=HI.out.len;omega) br0 HI.out.bd
        clear c10 c34 c92;go_wp2_with fail
        go_roundw
        case rel=>exact⟨i+2,by go_num,by omega,by omega,_,HN.out⟩
        case measure=>simp [intOf];omega
    . have b92:((s[i].toNat:Int) == 92)=false:=O6 c92;have HT:Hid (TX=C3 (s.toList.drop (i+1)) (acc ++ [s[i]]) (i+1)):=by unfold Hid;rw [HD.out,Mm c34 c10 c92]
      have HCB:Hid _:=HI.out.bd.byte s[i] (by have:=HI.out.len;omega) (by have:=HI.out.bd.lt;omega);clear c10 c34 c92;go_wp2_with fail
      refine Calls.mono HCB.out ?_;rintro e w3 ⟨rfl,hbd,hlow⟩;have HN:Hid (TxK s w w3 TX (acc ++ [s[i]]) (i+1)):=HI.out.next HT.out (by have:=HI.out.len;simp;omega) hlow hbd;clear hbd hlow HCB;go_wp2_with fail
      go_roundw
      case rel=>exact⟨i+1,by go_num,by omega,by omega,_,HN.out⟩
      case measure=>simp [intOf];omega
  . have i1:¬(i:Int)<(s.size:Int):=by omega
    have HT:Hid (TX = .error 5):=by
     have e1:s.toList.drop i = []:=List.drop_eq_nil_of_le (by rw [Bj];omega);unfold Hid;rw [HI.out.eq,e1,I8]
    have HB:Hid (Below w.heap.size w wr):=HI.out.low;go_wp2_with fail
    exact⟨rfl,Dj.err HT.out,HB.out⟩
end Go.Proofs.YtppcohadoilpgaaGreatDoor
namespace Go.Proofs.YtppcohadoilpgaaGreatDoor
open Go.ChangeShapes Go.WideShapes Go.ChangeAt Go.RowKit Go.Joins Go.Maps Go.Proofs.Tryz
set_option linter.unusedVariables false
def Jw:Array Value:=(Bp.map fun t=>Value.string ⟨t.toArray⟩).toArray
def Hi (w:World):Prop:=Ao w 0 Jw
def Ts (p:Pc × Nat):Value:= .tuple #[.agg #[.int .i64 p.1.k,.string (bs p.1.s),.int .i64 p.1.n],.int .i64 p.2]
theorem Qw (s:ByteArray) (p:UInt8->Bool):s.extract 0 (s.toList.takeWhile p).length=bs (s.toList.takeWhile p):=by
 apply ByteArray.ext
 apply Array.ext'
 have h1:(s.extract 0 (s.toList.takeWhile p).length).data.toList=s.toList.take (s.toList.takeWhile p).length:=by
  rw [ByteArray.toList_eq];simp [ByteArray.data_extract]
 rw [h1];have h2:s.toList.take (s.toList.takeWhile p).length=s.toList.takeWhile p:=(List.prefix_iff_eq_take.1 (List.takeWhile_prefix p)).symm;rw [h2];simp [bs]
theorem Mg (s:ByteArray) (p:UInt8->Bool):(s.toList.takeWhile p).length<=s.size:=by
 rw [<-Bj];exact (List.takeWhile_prefix p).length_le
theorem Aef:∀args w,(callFunc 58 args).run prog w = .ok (.enter 58 args) w:=Go.Proofs.enters_of func58 (by kernel_rfl) rfl
theorem Aee:∀args w,(callFunc 60 args).run prog w = .ok (.enter 60 args) w:=Go.Proofs.enters_of func60 (by kernel_rfl) rfl
theorem Wv {l:List UInt8} (h:∀q,q<Bp.length->(Bp.getD q []).isPrefixOf l=false):Bp.find? (fun t=>t.isPrefixOf l)=none:=by
 rw [List.find?_eq_none];intro t ht;obtain⟨q,hq,e⟩:=List.getElem_of_mem ht;have:=h q hq;rw [List.getD_eq_getElem?_getD,gee hq,Option.getD_some,e] at this;simp [this]
theorem Ww {l:List UInt8} {k:Nat} (hk:k<Bp.length) (h:∀q,q<k->(Bp.getD q []).isPrefixOf l=false) (h2:(Bp.getD k []).isPrefixOf l=true):Bp.find? (fun t=>t.isPrefixOf l)=some (Bp.getD k []):=by
 rw [List.find?_eq_some_iff_getElem];refine⟨h2,k,hk,?_,fun j hj=>?_⟩
 . rw [List.getD_eq_getElem?_getD,gee hk,Option.getD_some]
 . have:=h j hj;rw [List.getD_eq_getElem?_getD,gee (by omega),Option.getD_some] at this;simp [this]
set_option maxRecDepth 100000 in
theorem Ph (s:ByteArray) (w:World) (h0:0<s.size) (h1:s.size<=6000) (hS:Hi w) (hE:Ke w) :
 Calls prog 38 #[.string s] w fun e w'=>Dj (B9 s.toList) Ts e/\Below w.heap.size w w':=by
 obtain⟨PR,hPR⟩:∃PR,PR=B9 s.toList:=⟨_,rfl⟩;rw [<-hPR];have HPR:Hid (PR=B9 s.toList):=hPR;obtain⟨W,hW⟩:∃W,W=w.alloc (.cells #[.int .i64 0,.string ⟨#[]⟩,.int .i64 0] 91):=⟨_,rfl⟩;have HA:Hid (Below w.heap.size w W):=by rw [hW];exact br0.alloc lr0 _
 have HX:Hid (Bx w.heap.size [.int .i64 0,.string ⟨#[]⟩,.int .i64 0] 91 W):=by rw [hW];exact Bx.new w _ _
 have HE:Hid (Ke W):=hE.stays HA.out;have HS:Hid (Hi W):=hS.stays (HA.out.block _ hS.lt);have HWW:Hid (W=_):=hW;have HL:Hid _:=Np 58 Bw s W h1 S9 Aef;have HD:Hid _:=Np 60 Bv s W h1 Wc Aee;have hkl:=Mg s Bw;have hkd:=Mg s Bv;have hcl:=Qw s Bw;have hcd:=Qw s Bv;clear hPR hW hS hE;obtain⟨kl,hl⟩:∃k,k=(s.toList.takeWhile Bw).length:=⟨_,rfl⟩;obtain⟨kd,hd⟩:∃k,k=(s.toList.takeWhile Bv).length:=⟨_,rfl⟩;rw [<-hl] at HL hkl hcl;rw [<-hd] at HD hkd hcd
 by_cases c1:0<kl
 . have HP:Hid (PR = .ok (⟨1,s.toList.takeWhile Bw,0⟩,kl)):=by unfold Hid;rw [HPR.out,B9,if_pos (by rw [<-hl];exact c1),<-hl]
   have i1:(0:Int)<(kl:Int):=by omega
   have i2:(0:Int)<=(kl:Int):=by omega
   have i3:(kl:Int)<=(s.size:Int):=by omega
   have HCL:Hid (s.extract 0 kl=bs (s.toList.takeWhile Bw)):=hcl;obtain⟨x,hx⟩:∃x,x=s.extract 0 kl:=⟨_,rfl⟩;have HXX:Hid (x=s.extract 0 kl):=hx;have HC:Hid _:=Aaz x W (by rw [hx,hcl,Ba,<-hl];omega);clear hl hd HD hkd hcd hcl hx;go_enter func38,ntmps38
   go_wp2_with fail
   rw [<-HWW.out];clear HWW;refine Calls.mono HL.out ?_;rintro e w1 ⟨rfl,hw1⟩;rw [hw1];clear hw1 w1;go_wp2_with fail
   rw [<-HXX.out];refine Calls.mono HC.out ?_;rintro e w2 ⟨rfl,hb⟩;have HBX:Hid (Bx w.heap.size [.int .i64 0,.string ⟨#[]⟩,.int .i64 0] 91 w2/\Below w.heap.size w w2):=⟨HX.out.below hb,Aa HA.out hb⟩;have g0:=HBX.out.1.cell 0;have g1:=HBX.out.1.cell 1;have g2:=HBX.out.1.cell 2;have z0:=HBX.out.1.thaw 0;have z1:=HBX.out.1.thaw 1;have z2:=HBX.out.1.thaw 2;simp only [List.getElem?_cons_zero,List.getElem?_cons_succ] at g0 g1 g2;clear hb HC;go_wp2_with fail
   refine bodyPost_ret (v:= .tuple #[.agg #[.int .i64 1,.string x,.int .i64 0],.int .i64 kl]) (by simp [results,results38,go_sem,g0,g1,g2]) rfl ?_;exact⟨Dj.ok HP.out (by rw [HXX.out,HCL.out];rfl),((HBX.out.2.setCell (p:=⟨w.heap.size,0,none⟩) lr0 _).setCell (p:=⟨w.heap.size,1,none⟩) lr0 _).setCell (p:=⟨w.heap.size,2,none⟩) lr0 _⟩
 have j1:¬(0:Int)<(kl:Int):=by omega
 have HNL:Hid (¬0<(s.toList.takeWhile Bw).length):=by rw [<-hl];exact c1
 by_cases c2:0<kd
 . have hds:∀c ∈ (s.extract 0 kd).toList,Bv c=true:=by
    rw [hcd,B5];intro c hc;exact List.all_eq_true.1 List.all_takeWhile c hc
   have hxt:(s.extract 0 kd).toList=s.toList.takeWhile Bv:=by rw [hcd,B5]
   have hxs:(s.extract 0 kd).size=kd:=by rw [hcd,Ba,<-hd]
   have HNR:Hid (PR=match Jp (s.toList.takeWhile Bv) with
    | .error e=> .error e
    | .ok n=> .ok (⟨2,[],n⟩,kd)):=by unfold Hid;rw [HPR.out,B9,if_neg HNL.out,if_pos (by rw [<-hd];exact c2),<-hd];rfl
   have i1:(0:Int)<(kd:Int):=by omega
   have i2:(0:Int)<=(kd:Int):=by omega
   have i3:(kd:Int)<=(s.size:Int):=by omega
   have hnc:=Tj (s.extract 0 kd) W (by rw [hxs];exact c2) (by rw [hxs];omega) hds HE.out;rw [hxt] at hnc;have HC:Hid _:=hnc;clear hl hd hkl hcl hds hxt hxs hnc hcd c1;cases hN:Jp (s.toList.takeWhile Bv) with
   | error er =>
    rw [hN] at HC HNR;have HP:Hid (PR = .error er):=HNR.out;clear hN;go_enter func38,ntmps38
    go_wp2_with fail
    rw [<-HWW.out];clear HWW;refine Calls.mono HL.out ?_;rintro e w1 ⟨rfl,hw1⟩;rw [hw1];clear hw1 w1;go_wp2_with fail
    refine Calls.mono HD.out ?_;rintro e w1 ⟨rfl,hw1⟩;rw [hw1];clear hw1 w1;go_wp2_with fail
    refine Calls.mono HC.out ?_;rintro e w2 ⟨hr,hb⟩;obtain rfl:e = .panicked [C2 er]:=hr;have HB:Hid (Below w.heap.size w w2):=Aa HA.out hb;clear hb HC;go_wp2_with fail
    exact⟨rfl,Dj.err HP.out,HB.out⟩
   | ok n =>
    rw [hN] at HC HNR;have HP:Hid (PR = .ok (⟨2,[],n⟩,kd)):=HNR.out;clear hN;go_enter func38,ntmps38
    go_wp2_with fail
    rw [<-HWW.out];clear HWW;refine Calls.mono HL.out ?_;rintro e w1 ⟨rfl,hw1⟩;rw [hw1];clear hw1 w1;go_wp2_with fail
    refine Calls.mono HD.out ?_;rintro e w1 ⟨rfl,hw1⟩;rw [hw1];clear hw1 w1;go_wp2_with fail
    refine Calls.mono HC.out ?_;rintro e w2 ⟨hr,hb⟩;obtain rfl:e = .returned (.int .i64 n):=hr;have HBX:Hid (Bx w.heap.size [.int .i64 0,.string ⟨#[]⟩,.int .i64 0] 91 w2/\Below w.heap.size w w2):=⟨HX.out.below hb,Aa HA.out hb⟩;have g0:=HBX.out.1.cell 0;have g1:=HBX.out.1.cell 1;have g2:=HBX.out.1.cell 2;have z0:=HBX.out.1.thaw 0;have z1:=HBX.out.1.thaw 1;have z2:=HBX.out.1.thaw 2;simp only [List.getElem?_cons_zero,List.getElem?_cons_succ] at g0 g1 g2;clear hb HC;go_wp2_with fail
    refine bodyPost_ret (v:= .tuple #[.agg #[.int .i64 2,.string ⟨#[]⟩,.int .i64 n],.int .i64 kd]) (by simp [results,results38,go_sem,g0,g1,g2]) rfl ?_;exact⟨Dj.ok HP.out (rfl),((HBX.out.2.setCell (p:=⟨w.heap.size,0,none⟩) lr0 _).setCell (p:=⟨w.heap.size,1,none⟩) lr0 _).setCell (p:=⟨w.heap.size,2,none⟩) lr0 _⟩
 have j2:¬(0:Int)<(kd:Int):=by omega
 have HND:Hid (¬0<(s.toList.takeWhile Bv).length):=by rw [<-hd];exact c2
 have hs0:s.toList.head? = some s[0]:=by
  have:=K2 s 0 h0;rw [List.drop_zero] at this;rw [this];rfl
 clear hl hd hkl hcl hcd hkd c1 c2
 by_cases c3:s[0].toNat=34
 . have b3:((s[0].toNat:Int) == 34)=true:=O7 c3;have HNR:Hid (PR=match C3 s.toList.tail [] 1 with
    | .error e=> .error e
    | .ok (t,i)=> .ok (⟨3,t,0⟩,i)):=by
    unfold Hid;rw [HPR.out,B9,if_neg HNL.out,if_neg HND.out,if_pos (by rw [hs0];congr 1;exact UInt8.toNat_inj.1 c3)];rfl
   have HC:Hid _:=Rb s W h1 h0;clear hs0 c3;cases hN:C3 s.toList.tail [] 1 with
   | error er =>
    rw [hN] at HC HNR;have HP:Hid (PR = .error er):=HNR.out;clear hN;go_enter func38,ntmps38
    go_wp2_with fail
    rw [<-HWW.out];clear HWW;refine Calls.mono HL.out ?_;rintro e w1 ⟨rfl,hw1⟩;rw [hw1];clear hw1 w1;go_wp2_with fail
    refine Calls.mono HD.out ?_;rintro e w1 ⟨rfl,hw1⟩;rw [hw1];clear hw1 w1;go_wp2_with fail
    refine Calls.mono HC.out ?_;rintro e w2 ⟨hr,hb⟩;obtain rfl:e = .panicked [C2 er]:=hr;have HB:Hid (Below w.heap.size w w2):=Aa HA.out hb;clear hb HC;go_wp2_with fail
    exact⟨rfl,Dj.err HP.out,HB.out⟩
   | ok q =>
    obtain⟨t,i⟩:=q;rw [hN] at HC HNR;have HP:Hid (PR = .ok (⟨3,t,0⟩,i)):=HNR.out;clear hN;go_enter func38,ntmps38
    go_wp2_with fail
    rw [<-HWW.out];clear HWW;refine Calls.mono HL.out ?_;rintro e w1 ⟨rfl,hw1⟩;rw [hw1];clear hw1 w1;go_wp2_with fail
    refine Calls.mono HD.out ?_;rintro e w1 ⟨rfl,hw1⟩;rw [hw1];clear hw1 w1;go_wp2_with fail
    refine Calls.mono HC.out ?_;rintro e w2 ⟨hr,hb⟩;obtain rfl:e = .returned (.tuple #[.agg #[.int .i64 3,.string (bs t),.int .i64 0],.int .i64 i]):=hr;have HBX:Hid (Bx w.heap.size [.int .i64 0,.string ⟨#[]⟩,.int .i64 0] 91 w2/\Below w.heap.size w w2):=⟨HX.out.below hb,Aa HA.out hb⟩;have g0:=HBX.out.1.cell 0;have g1:=HBX.out.1.cell 1;have g2:=HBX.out.1.cell 2;have z0:=HBX.out.1.thaw 0;have z1:=HBX.out.1.thaw 1;have z2:=HBX.out.1.thaw 2;simp only [List.getElem?_cons_zero,List.getElem?_cons_succ] at g0 g1 g2;clear hb HC;go_wp2_with fail
    refine bodyPost_ret (v:= .tuple #[.agg #[.int .i64 3,.string (bs t),.int .i64 0],.int .i64 i]) (by simp [results,results38,go_sem,g0,g1,g2]) rfl ?_;exact⟨Dj.ok HP.out (rfl),((HBX.out.2.setCell (p:=⟨w.heap.size,0,none⟩) lr0 _).setCell (p:=⟨w.heap.size,1,none⟩) lr0 _).setCell (p:=⟨w.heap.size,2,none⟩) lr0 _⟩
 have b3:((s[0].toNat:Int) == 34)=false:=O6 c3;have HNR:Hid (PR=match Bp.find? (fun t=>t.isPrefixOf s.toList) with
  | some t=> .ok (⟨4,t,0⟩,t.length)
  | none=> .error 4):=by
  unfold Hid;rw [HPR.out,B9,if_neg HNL.out,if_neg HND.out,if_neg (by rw [hs0];intro h;exact c3 (by rw [Option.some.inj h];rfl))];rfl
 clear hs0 c3;have hr:W.rangeAt 0 0 Jw.toList:=fun j v hv=>by rw [Nat.zero_add,HS.out.cell j];simpa using hv
 obtain⟨A,hA⟩:∃A,A=Jw.toList:=⟨_,rfl⟩;rw [<-hA] at hr;have hn:(prog.info? 116).map (·.size)=some A.length:=by rw [hA];kernel_rfl
 have HR:Hid (W.rangeAt 0 0 A):=hr;have HN:Hid ((prog.info? 116).map (·.size)=some A.length):=hn;have HAA:Hid (A=Jw.toList):=hA;obtain⟨g0,g1,g2⟩:W.cell? ⟨w.heap.size,0,none⟩=some (.int .i64 0)/\W.cell? ⟨w.heap.size,1,none⟩=some (.string ⟨#[]⟩)/\W.cell? ⟨w.heap.size,2,none⟩=some (.int .i64 0):=⟨HX.out.cell 0,HX.out.cell 1,HX.out.cell 2⟩;have z0:=HX.out.thaw 0;have z1:=HX.out.thaw 1;have z2:=HX.out.thaw 2;clear hA hr hn;go_enter func38,ntmps38
 go_wp2_with fail
 rw [<-HWW.out];clear HWW;refine Calls.mono HL.out ?_;rintro e w1 ⟨rfl,hw1⟩;rw [hw1];clear hw1 w1;go_wp2_with fail
 refine Calls.mono HD.out ?_;rintro e w1 ⟨rfl,hw1⟩;rw [hw1];clear hw1 w1;go_wp2_with (refine wpList_load_mid rfl 116 _ rfl 0 0 rfl A _ HR.out underlying116 rfl HN.out ?_)
 go_loop [36] (fun v=>∃k:Nat,k<=27/\v = .int .i64 k/\Hid (∀q,q<k->(Bp.getD q []).isPrefixOf s.toList=false)) (fun v=>27 - (intOf v).toNat)
 case atStart=>exact⟨0,by omega,rfl,fun q hq=>absurd hq (Nat.not_lt_zero _)⟩
 case round =>
  obtain⟨k,hk,rfl,HQ⟩:=hrel
  by_cases hk2:k<27
  . have i1:(k:Int)<27:=by omega
    obtain⟨x,hx⟩:∃x:ByteArray,x=bs (Bp.getD k []):=⟨_,rfl⟩;have hix:=H6 (P:=prog) (cs:=A.toArray) (v:= .string x) W underlying116 underlying9 rfl (by kernel_rfl) hk2 (by
     rw [HAA.out,hx];simp only [Jw,List.getElem?_toArray,List.getElem?_map];rw [gee (by show k<Bp.length;exact hk2)];simp [List.getD,gee (show k<Bp.length from hk2)];rfl)
    have hxp:Lib.hasPrefix s.data.toList x.data.toList=(Bp.getD k []).isPrefixOf s.toList:=by
     rw [hx,Lib.hasPrefix,ByteArray.toList_eq];simp [bs]
    have hcp:=Tryz.strings_HasPrefix s x;rw [hxp] at hcp;have HC:Hid _:=hcp;have HXX:Hid (x=bs (Bp.getD k [])):=hx;have hxz:x.size<=2:=by
     rw [hx,Ba];have:∀k,k<27->(Bp.getD k []).length<=2:=by decide
     exact this k hk2
    clear hxp hcp hx;cases hb:(Bp.getD k []).isPrefixOf s.toList with
    | true =>
     rw [hb] at HC;have HP:Hid (PR = .ok (⟨4,Bp.getD k [],0⟩,(Bp.getD k []).length)):=by unfold Hid;rw [HNR.out,Ww hk2 HQ.out hb]
     have HZ:Hid (x.size=(Bp.getD k []).length):=by unfold Hid;rw [HXX.out,Ba]
     clear hb HQ;go_wp2_with (refine (HC.out _).mono ?_;rintro e w1 ⟨rfl,rfl⟩)
     refine bodyPost_ret (v:= .tuple #[.agg #[.int .i64 4,.string x,.int .i64 0],.int .i64 x.size]) (by simp [results,results38,go_sem,g0,g1,g2]) rfl ?_;exact⟨Dj.ok HP.out (by rw [HXX.out,Ba];rfl),((HA.out.setCell (p:=⟨w.heap.size,0,none⟩) lr0 _).setCell (p:=⟨w.heap.size,1,none⟩) lr0 _).setCell (p:=⟨w.heap.size,2,none⟩) lr0 _⟩
    | false =>
     rw [hb] at HC;have R2:Hid (∀q,q<k+1->(Bp.getD q []).isPrefixOf s.toList=false):=fun q hq=>by
      by_cases e:q=k
      . subst e;exact hb
      . exact HQ.out q (by omega)
     clear hb HQ;go_wp2_with (refine (HC.out _).mono ?_;rintro e w1 ⟨rfl,rfl⟩)
     go_round
     case rel=>exact⟨k+1,by omega,by go_num,R2⟩
     case measure=>simp [intOf];omega
  . have i1:¬(k:Int)<27:=by omega
    have HP:Hid (PR = .error 4):=by unfold Hid;rw [HNR.out,Wv fun q hq=>HQ.out q (by have:q<27:=hq;omega)]
    clear HQ;go_wp2_with fail
    exact⟨rfl,Dj.err HP.out,HA.out⟩
end Go.Proofs.YtppcohadoilpgaaGreatDoor
namespace Go.Proofs.YtppcohadoilpgaaGreatDoor
open Go.ChangeShapes Go.WideShapes Go.ChangeAt Go.RowKit Go.Joins Go.Maps Go.Proofs.Tryz
set_option linter.unusedVariables false
theorem So:∀(m:Nat) (r acc:List UInt8) (i:Nat) (t:List UInt8) (j:Nat),r.length<=m->C3 r acc i = .ok (t,j)->i<j/\j<=i+r.length/\t.length<=acc.length+r.length:=by
 intro m
 induction m with
 | zero =>
  intro r acc i t j hm h;have:r = []:=List.eq_nil_of_length_eq_zero (by omega);subst this;rw [I8] at h;cases h
 | succ m ih =>
  intro r acc i t j hm h;cases r with
  | nil=>rw [I8] at h;cases h
  | cons c r =>
   simp only [List.length_cons] at hm ⊢
   by_cases h1:c.toNat=34
   . rw [Mn h1] at h;simp only [Except.ok.injEq,Prod.mk.injEq] at h;obtain⟨rfl,rfl⟩:=h;omega
   by_cases h2:c.toNat=10
   . rw [N6 h2] at h;cases h
   by_cases h3:c.toNat=92
   . cases r with
     | nil=>rw [N7 h3] at h;cases h
     | cons d r =>
      simp only [List.length_cons] at hm ⊢;rw [I9 h3] at h;split at h
      . have:=ih r (acc ++ [d]) (i+2) t j (by omega) h;simp at this;omega
      . split at h
        . have:=ih r (acc ++ [10]) (i+2) t j (by omega) h;simp at this;omega
        . cases h
   . rw [Mm h1 h2 h3] at h;have:=ih r (acc ++ [c]) (i+1) t j (by omega) h;simp at this;omega
theorem F0 {l:List UInt8} {p:Pc} {i:Nat} (hl:l.length<=6000) (h:B9 l = .ok (p,i)):1<=i/\i<=l.length/\p.s.length<=6000/\(Lit.int .i64 p.n).wf=true/\(Lit.int .i64 p.k).wf=true:=by
 have w0:(Lit.int .i64 0).wf=true:=by decide
 have w1:(Lit.int .i64 1).wf=true:=by decide
 have w2:(Lit.int .i64 2).wf=true:=by decide
 have w3:(Lit.int .i64 3).wf=true:=by decide
 have w4:(Lit.int .i64 4).wf=true:=by decide
 have tl:∀q:UInt8->Bool,(l.takeWhile q).length<=l.length:=fun q=>(List.takeWhile_prefix q).length_le;unfold B9 at h;split at h
 . rename_i h1;simp only [Except.ok.injEq,Prod.mk.injEq] at h;obtain⟨rfl,rfl⟩:=h;have:=tl Bw;exact⟨h1,this,by simpa using (by omega:(l.takeWhile Bw).length<=6000),w0,w1⟩
 split at h
 . rename_i h2;cases hn:Jp (l.takeWhile Bv) with
   | error e=>rw [hn] at h;cases h
   | ok n =>
    rw [hn] at h;simp only [Except.ok.injEq,Prod.mk.injEq] at h;obtain⟨rfl,rfl⟩:=h;have hnb:0<=n/\n<=1099511627776:=by
     unfold Jp at hn;split at hn
     . cases hn
     . split at hn
       . cases hn
       . simp only [Except.ok.injEq] at hn;omega
    have:=tl Bv;refine⟨h2,this,by simp,?_,w2⟩;simp only [Lit.wf,Bool.and_eq_true];exact⟨decide_eq_true (by show (-9223372036854775808:Int)<=n;omega),decide_eq_true (by show n<=9223372036854775807;omega)⟩
 split at h
 . rename_i h3;cases ht:C3 l.tail [] 1 with
   | error e=>rw [ht] at h;cases h
   | ok q =>
    obtain⟨t,j⟩:=q;rw [ht] at h;simp only [Except.ok.injEq,Prod.mk.injEq] at h;obtain⟨rfl,rfl⟩:=h;have:=So _ _ _ _ _ _ lr0 ht;cases l with
    | nil=>simp at h3
    | cons c r=>simp at this hl ⊢;exact⟨by omega,by omega,by omega,w0,w3⟩
 . split at h
   . rename_i t ht;simp only [Except.ok.injEq,Prod.mk.injEq] at h;obtain⟨rfl,rfl⟩:=h;have hp:=List.find?_some ht;have hm:=List.mem_of_find?_eq_some ht;have hp2:=(List.isPrefixOf_iff_prefix.1 hp).length_le;have hall:∀t ∈ Bp,1<=t.length/\t.length<=2:=by decide
     have:=hall t hm;exact⟨this.1,hp2,by simp;omega,w0,w4⟩
   . cases h
def K6 (f:Nat) (l:List UInt8) (acc:List Pc):Except Int (List Pc):=match l with
 | []=> .ok acc
 | c :: r=>match B9 (c :: r) with
  | .error e=> .error e
  | .ok (p,i)=>match Gi f ((c :: r).drop i) with
   | .error e=> .error e
   | .ok ps=> .ok (acc ++ p :: ps)
theorem U9 (f:Nat) (l:List UInt8):Gi (f+1) l=K6 f (l.dropWhile Cf) []:=by
 rw [Gi,K6.eq_def];cases l.dropWhile Cf with
 | nil=>rfl
 | cons c r =>
  simp only;cases B9 (c :: r) with
  | error e=>rfl
  | ok q =>
   obtain⟨p,i⟩:=q;simp only;cases Gi f ((c :: r).drop i) <;> rfl
theorem X0 (f:Nat) (l:List UInt8) (acc:List Pc):K6 f l acc=match K6 f l [] with
 | .error e=> .error e
 | .ok ps=> .ok (acc ++ ps):=by
 unfold K6;cases l with
 | nil=>simp
 | cons c r =>
  simp only;cases B9 (c :: r) with
  | error e=>rfl
  | ok q =>
   obtain⟨p,i⟩:=q;simp only;cases Gi f ((c :: r).drop i) with
   | error e=>rfl
   | ok ps=>simp
theorem X8 {f:Nat} {l:List UInt8} {acc:List Pc} {er:Int} (h0:0<l.length) (h:B9 l = .error er):K6 f l acc = .error er:=by
 cases l with
 | nil=>simp at h0
 | cons c r=>rw [K6.eq_def];simp only [h]
theorem V0 {f:Nat} {l:List UInt8} {acc:List Pc} {p:Pc} {i:Nat} (h0:0<l.length) (h:B9 l = .ok (p,i)):K6 (f+1) l acc=K6 f ((l.drop i).dropWhile Cf) (acc ++ [p]):=by
 cases l with
 | nil=>simp at h0
 | cons c r =>
  rw [X0 f _ (acc ++ [p])];rw [<-U9];rw [K6.eq_def];simp only [h];cases Gi (f+1) ((c :: r).drop i) with
  | error e=>rfl
  | ok ps=>simp
def pcT:Nat->(Nat->Prop)->World->List Value->Pc->Prop:=fun _ _ _ c p=>c = [.int .i64 p.k,.string (bs p.s),.int .i64 p.n]
theorem Y8:Ec pcT:=⟨fun _ _ _ h=>h,fun h=>h⟩
theorem PcA.of {w:World} {base r:Nat} {v:Value} {ps:List Pc} {css:List (List Value)} (H:GrL pcT 0 base 91 3 w v ps css) (hlen:ps.length<=6000) (hr:w.heap.size<=r):PcA w r v ps:=by
 rcases H.row.2 with⟨rfl,h0⟩ | ⟨g,cap,cur,rfl,h2,h3,h4,h5,h6,h7⟩
 . exact⟨none,0,by rw [h0],by omega,hlen,fun h=>by omega⟩
 . refine⟨_,cap,rfl,h4,hlen,fun h0=>⟨g,0,rfl,?_,fun i p hp=>?_⟩⟩
   . rcases Nat.lt_or_ge g w.heap.size with h' | h'
     . omega
     . rw [Array.getElem?_eq_none h'] at h3;cases h3
   . obtain⟨c,h8,h9⟩:=H.tree i p hp;have hi:i<ps.length:=by
      rcases Nat.lt_or_ge i ps.length with h' | h'
      . exact h'
      . rw [List.getElem?_eq_none h'] at hp;cases hp
     have hlt:∀j,j<3->i * 3+j<ps.length * 3:=fun j hj=>by omega
     have hc:∀j,j<3->w.cell? ⟨g,0+i * 3+j,none⟩=c[j]? := fun j hj=>by
      rw [Nat.zero_add,World.ownsRow.cellAt H.row (i * 3+j) (hlt j hj)];exact Pi H.each h8 j hj
     have h9':c = [.int .i64 p.k,.string (bs p.s),.int .i64 p.n]:=h9;subst h9';exact⟨hc 0 (by omega),hc 1 (by omega),hc 2 (by omega)⟩
structure CtI (s:ByteArray) (w wr:World) (v:Value) (t:ByteArray) (acc:List Pc) (css:List (List Value)) (f:Nat):Prop where
 eq:Gi (s.size+1) s.toList=K6 f t.toList acc
 fu:t.size<=f
 cnt:acc.length+t.size<=s.size
 fit:∀p ∈ acc,p.s.length<=6000/\(Lit.int .i64 p.n).wf=true
 low:Below w.heap.size w wr
 gr:GrL pcT 0 w.heap.size 91 3 wr v acc css
theorem Aer:(prog.info? 91).map (fun i=>(i.zero,i.size,i.bytes))=some (some (.agg #[.int .i64 0,.string ⟨#[]⟩,.int .i64 0]),3,32):=by kernel_rfl
def Og (s:ByteArray) (w:World) (e:Ending) (w':World):Prop:=Below w.heap.size w w'/\match Gi (s.size+1) s.toList with
 | .ok ps=>∃v,e = .returned v/\PcA w' w'.heap.size v ps/\∀p ∈ ps,p.s.length<=6000/\(Lit.int .i64 p.n).wf=true
 | .error er=>e = .panicked [C2 er]
theorem S0 (l:List UInt8):(l.dropWhile Cf).length<=l.length:=(List.dropWhile_suffix Cf).length_le
theorem Z1 (t:ByteArray) (i:Nat):(t.extract i t.size).toList=t.toList.drop i:=by
 simp only [ByteArray.toList_eq,ByteArray.data_extract,Array.toList_extract,List.extract_eq_take_drop];rw [List.take_of_length_le];simp
theorem Aa2 {s t:ByteArray} {w wr w1 w2:World} {v v':Value} {acc:List Pc} {css:List (List Value)} {f:Nat} {p:Pc} {i:Nat} {ob:Obj} {ob2:Obj} (h1:s.size<=6000) (H:CtI s w wr v t acc css f) (h0:0<t.size) (hp:B9 t.toList = .ok (p,i)) (hb:Below wr.heap.size wr w1)
 (hown:w2.ownsRow w.heap.size 91 3 v' (acc.length+1) (css.flatten ++ [.int .i64 p.k,.string (bs p.s),.int .i64 p.n])) (hg:((w1.alloc ob).alloc ob2).grownBy w2 v.ownBlock) (hat:v'.ownBlock=v.ownBlock\/v'.ownBlock=some ((w1.alloc ob).alloc ob2).heap.size) :
 ∃f',CtI s w w2 v' (bs ((t.toList.drop i).dropWhile Cf)) (acc ++ [p]) (css ++ [[.int .i64 p.k,.string (bs p.s),.int .i64 p.n]]) f':=by
 have hts:t.toList.length=t.size:=Bj t;have hcn:=H.cnt;have hfu:=H.fu;obtain⟨b1,b2,b3,b4,b5⟩:=F0 (by omega) hp;obtain⟨f',rfl⟩:∃f',f=f'+1:=⟨f - 1,by omega⟩;have hdl:=S0 (t.toList.drop i);have hdd:(t.toList.drop i).length=t.size - i:=by rw [List.length_drop,hts]
 have hal:Below wr.heap.size wr ((w1.alloc ob).alloc ob2):=Aa hb ((br0.alloc lr0 ob).alloc (by simp) ob2);have hrow:=fun k (hk:v.ownBlock=some k)=>H.gr.row.lt k hk;refine⟨f',?_,?_,?_,?_,?_,?_⟩
 . rw [H.eq,V0 (by omega) hp,B5]
 . rw [Ba];omega
 . rw [Ba];simp;omega
 . intro q hq;simp only [List.mem_append,List.mem_singleton] at hq;rcases hq with hq | rfl
   . exact H.fit q hq
   . exact⟨b3,b4⟩
 . have hlow:=H.low;refine hlow.trans ⟨hg.os.trans hal.os,hg.tape.trans hal.tape,hg.output.trans hal.output,lq0 hal.size hg.size,fun k hk=>?_⟩;have hk2:k<wr.heap.size:=lle hk hlow.size;refine (hg.block k (lle hk2 hal.size) (fun e=>?_)).trans (hal.block k hk2);have:=(hrow k e.symm).1;omega
 . exact H.gr.push Y8 hal rfl rfl hown hg hat
set_option maxRecDepth 100000 in
theorem Agx (s:ByteArray) (w:World) (h1:s.size<=6000) (hS:Hi w) (hE:Ke w) :
 Calls prog 23 #[.string s] w (Og s w):=by
 have HS:Hid (Hi w):=hS;have HE:Hid (Ke w):=hE;obtain⟨i0,hi,hz0,hz1,hz2⟩:=info_parts Aer;have HI:Hid (prog.info? 91=some i0/\i0.zero=some (.agg #[.int .i64 0,.string ⟨#[]⟩,.int .i64 0])/\i0.size=3/\i0.bytes=32):=⟨hi,hz0,hz1,hz2⟩;clear hi hz0 hz1 hz2 hS hE;have HC:Hid _:=I5 s w;go_enter func23,ntmps23
 go_wp2_with fail
 refine Calls.mono HC.out ?_;rintro e w1 ⟨rfl,hb⟩;have HI0:Hid (∃acc css f,CtI s w w1 (.slice none 0 0) (bs (s.toList.dropWhile Cf)) acc css f):=by
  have hd:=S0 s.toList;have hl:=Bj s;exact⟨[],[],s.size,by rw [U9,B5],by rw [Ba];omega,by rw [Ba];simp;omega,(by simp),hb,GrL.nil _ _ _ _ _ _⟩
 obtain⟨t0,ht0⟩:∃t,t=bs (s.toList.dropWhile Cf):=⟨_,rfl⟩;rw [<-ht0] at HI0 ⊢;clear hb HC ht0;go_wp2_with fail
 go_loopw [0,3] (fun v0 v3 wr=>∃(t:ByteArray) (a:Option Addr) (len cap:Nat),v0 = .string t/\v3 = .slice a len cap/\Hid (∃acc css f,CtI s w wr v3 t acc css f)) (fun v0 _ _=>match v0 with
  | .string t=>t.size
  | _=>0)
 case atStart=>exact⟨t0,_,_,_,rfl,rfl,HI0.out⟩
 case round =>
  obtain⟨t,a,len,cap,rfl,rfl,HI1⟩:=hrel;clear HI0;obtain⟨acc,css,f,HI2⟩:=HI1.out;have HW:Hid (CtI s w wr _ t acc css f):=HI2;clear HI1 HI2
  by_cases h0:0<t.size
  . have he:=Hz h0;have hts:t.size<=6000:=by have:=HW.out.cnt;omega
    have HC:Hid _:=Ph t wr h0 hts (HS.out.stays (HW.out.low.block _ HS.out.lt)) (HE.out.stays HW.out.low);cases hp:B9 t.toList with
    | error er =>
     rw [hp] at HC;have HB:Hid (Og s w (.panicked [C2 er]) wr->True):=fun _=>trivial;have HX:Hid (Gi (s.size+1) s.toList = .error er):=by unfold Hid;rw [HW.out.eq,X8 (by rw [Bj];exact h0) hp]
     clear hp HB;go_wp2_with fail
     refine Calls.mono HC.out ?_;rintro e w2 ⟨hr,hb⟩;obtain rfl:e = .panicked [C2 er]:=hr;have HF:Hid (Og s w (.panicked [C2 er]) w2):=⟨Aa HW.out.low hb,by rw [HX.out]⟩;clear hb HC;go_wp2_with fail
     exact⟨rfl,HF.out⟩
    | ok q =>
     obtain⟨p,i⟩:=q;rw [hp] at HC;have HP:Hid (B9 t.toList = .ok (p,i)):=hp;obtain⟨b1,b2,b3,b4,b5⟩:=F0 (by rw [Bj];exact hts) hp;have b2':i<=t.size:=by rw [<-Bj];exact b2
     obtain⟨K,hK⟩:∃K,K=p.k:=⟨_,rfl⟩;obtain⟨N,hN⟩:∃N,N=p.n:=⟨_,rfl⟩;obtain⟨S,hSS⟩:∃S,S=bs p.s:=⟨_,rfl⟩;have HK:Hid (K=p.k/\N=p.n/\S=bs p.s):=⟨hK,hN,hSS⟩;have hpv:Ts (p,i) = .tuple #[.agg #[.int .i64 K,.string S,.int .i64 N],.int .i64 i]:=by rw [hK,hN,hSS];rfl
     have HPV:Hid _:=hpv;have i1:(0:Int)<=(i:Int):=by omega
     have i2:(i:Int)<=(t.size:Int):=by omega
     clear hp b1 b2 b3 b4 b5 hK hN hSS hpv;go_wp2_with fail
     refine Calls.mono HC.out ?_;rintro e w2 ⟨hr,hb⟩;obtain rfl:e = .returned (.tuple #[.agg #[.int .i64 K,.string S,.int .i64 N],.int .i64 i]):=by
      have h2:e = .returned (Ts (p,i)):=hr;rw [h2,HPV.out]
     have HB2:Hid (Below wr.heap.size wr w2):=hb;clear hb HC hr;go_wp2_with fail
     have HLN:Hid (len=acc.length):=by
      rcases HW.out.gr.row.2 with⟨h1,h2⟩ | ⟨_,_,_,h1,_⟩
      . cases h1;exact h2.symm
      . cases h1;rfl
     have HRW:Hid (w2.ownsRow w.heap.size 91 3 (.slice a len cap) acc.length css.flatten):=(HW.out.gr.below Y8 lr0 HB2.out).row;have HCT:Hid (acc.length<=6000):=by have:=HW.out.cnt;unfold Hid;omega
     have HSZ:Hid (w.heap.size<=w2.heap.size):=lq0 HW.out.low.size HB2.out.size;have HNE:Hid ((Value.slice a len cap).ownBlock ≠ some w2.heap.size):=fun e=>by
      have:=(HRW.out.lt _ e).2;omega
     have HNW:Hid (∀j u,[Value.int .i64 K,.string S,.int .i64 N][j]? = some u->((w2.alloc (.cells #[.int .i64 K,.string S,.int .i64 N] 91)).alloc (.cells #[.int .i64 K,.string S,.int .i64 N] 91)).drew.cell? ((⟨w2.heap.size+1,0,none⟩:Addr).add j)=some u):=fun j u h=>by
      have h2:=D6 (w2.alloc (.cells #[.int .i64 K,.string S,.int .i64 N] 91)) [.int .i64 K,.string S,.int .i64 N] 91 j u h;have e:(w2.alloc (.cells #[.int .i64 K,.string S,.int .i64 N] 91)).heap.size=w2.heap.size+1:=by simp
      rw [e] at h2;exact h2
     have HOX:Hid (((w2.alloc (.cells #[.int .i64 K,.string S,.int .i64 N] 91)).alloc (.cells #[.int .i64 K,.string S,.int .i64 N] 91)).drew.ownsRow w.heap.size 91 3 (.slice a len cap) acc.length css.flatten):=(HRW.out.alloc _).alloc _
     go_region_held3 (fun w'=>w'.cell? ⟨w2.heap.size,0,none⟩=some (.int .i64 K)/\w'.cell? ⟨w2.heap.size,1,none⟩=some (.string S)/\w'.cell? ⟨w2.heap.size,2,none⟩=some (.int .i64 N)) (first
      | go_keep
      | (go_split_ands
         refine⟨?_,?_,?_⟩
         . (rw [hgrow.cell_far _ (by simp;omega) HNE.out.symm];simp)
         . (rw [hgrow.cell_far _ (by simp;omega) HNE.out.symm];simp)
         . (rw [hgrow.cell_far _ (by simp;omega) HNE.out.symm];simp)))
      ((refine step_append_lies _ (by rfl) _ _ 67 (by rfl) w.heap.size 91 i0 (.agg #[.int .i64 0,.string ⟨#[]⟩,.int .i64 0]) 3 32 underlying67 HI.out.1 HI.out.2.1 HI.out.2.2.1 HI.out.2.2.2 rfl (by decide) (.slice a len cap) acc.length css.flatten (by rfl) HOX.out ⟨w2.heap.size+1,0,none⟩ 1 1 [.int .i64 K,.string S,.int .i64 N] (by rfl) rfl HNW.out (by intro u hu;simp at hu;rcases hu with rfl | rfl | rfl <;> rfl) (by omega) (by have:=HCT.out;unfold maxLen;omega) (by have:=HCT.out;omega) (by simp;exact lq0 HSZ.out (by omega)) (w2.heap.size+2) (by simp) ?_;intro g cap' w5 hown hgrow hat hlt5))
     all_goals
      have HNX:Hid (∃acc' css f,acc'.length=acc.length+1/\CtI s w w5 (.slice (some ⟨g,0,none⟩) (acc.length+1) cap') (bs ((t.toList.drop i).dropWhile Cf)) acc' css f/\(bs ((t.toList.drop i).dropWhile Cf)).size<t.size):=by
       have hg2:((w2.alloc (.cells #[.int .i64 K,.string S,.int .i64 N] 91)).alloc (.cells #[.int .i64 K,.string S,.int .i64 N] 91)).grownBy w5 (Value.slice a len cap).ownBlock:=⟨hgrow.os,hgrow.tape,hgrow.output,hgrow.size,hgrow.block⟩;have hz:((w2.alloc (.cells #[.int .i64 K,.string S,.int .i64 N] 91)).alloc (.cells #[.int .i64 K,.string S,.int .i64 N] 91)).heap.size=w2.heap.size+2:=by simp
       rw [HK.out.1,HK.out.2.1,HK.out.2.2] at hown;obtain⟨f',hc⟩:=Aa2 h1 HW.out h0 HP.out HB2.out hown hg2 (by
        rcases hat with e | e
        . exact .inl (by rw [e];rfl)
        . exact .inr (by rw [hz,e];rfl))
       obtain⟨b1,b2,_⟩:=F0 (by rw [Bj];exact hts) HP.out;have hd:=S0 (t.toList.drop i);rw [List.length_drop,Bj] at hd;exact⟨_,_,f',by simp,hc,by rw [Ba];omega⟩
     all_goals
      obtain⟨u,hu⟩:∃u,u=t.extract i t.size:=⟨_,rfl⟩;have HU:Hid (u.toList=t.toList.drop i):=by unfold Hid;rw [hu];exact Z1 t i
      have HCS:Hid _:=I5 u w5
     all_goals clear hown hgrow hat HNW HOX HRW
     rw [<-hu];clear hu;go_wp2_with fail
     refine Calls.mono HCS.out ?_;rintro e w6 ⟨rfl,hb⟩;obtain⟨acc',css',f',hen,hnx,hsz⟩:=HNX.out;rw [HU.out];obtain⟨u2,hu2⟩:∃u2,u2=bs ((t.toList.drop i).dropWhile Cf):=⟨_,rfl⟩;rw [<-hu2] at hnx hsz ⊢;obtain⟨len0,hl0⟩:∃n,n=acc.length:=⟨_,rfl⟩;rw [<-hl0] at hnx ⊢;have HRL:Hid (∃acc css f,CtI s w w6 (.slice (some ⟨g,0,none⟩) (len0+1) cap') u2 acc css f):=⟨acc',css',f',hnx.eq,hnx.fu,hnx.cnt,hnx.fit,hnx.low.trans (hb.mono hnx.low.size),hnx.gr.below Y8 lr0 hb⟩;clear hb HCS hnx hu2 hen hl0;go_wp2_with fail
     go_roundw
     case rel=>exact⟨u2,_,_,_,rfl,rfl,HRL.out⟩
     case measure=>simpa using hsz
  . have he:=H0 h0;have HX:Hid (Gi (s.size+1) s.toList = .ok acc):=by
     have:t.toList = []:=List.eq_nil_of_length_eq_zero (by rw [Bj];omega);unfold Hid;rw [HW.out.eq,this];rfl
    have HF:Hid (Og s w (.returned (.slice a len cap)) wr):=by
     refine⟨HW.out.low,?_⟩;rw [HX.out];have:=HW.out.cnt;exact⟨_,rfl,PcA.of HW.out.gr (by omega) lr0,HW.out.fit⟩
    go_wp2_with fail
    go_ret
    exact HF.out
end Go.Proofs.YtppcohadoilpgaaGreatDoor
