/-
  Contracts of package value: numbers and texts, a value as text, as number, as a question, operators (P1.1 to P1.4).
-/
import Derived.Test.YtppcohadoilpgaaGreatDoorGround
import Derived.Test.YtppcohadoilpgaaGreatDoorShelf
import Derived.Test.YtppcohadoilpgaaGreatDoorPrShelf
import Derived.Below
import Derived.ChangeOld
import Derived.Deep.RegionHeld3
import Derived.Handy
import Derived.Laws.BytesArg
import Derived.Lib.AppendIntMem
import Derived.Lib.Bytealg
import Derived.Lib.ItoaLen
import Derived.Lib.ItoaMem
import Derived.Lib.ItoaNum
import Derived.Lib.Small
import Derived.Lib.SmallJoins
import Derived.Lib.Strings
import Derived.Lib.TrimByte
import Derived.OpenShut
import Derived.ProofKit
import Derived.RowKit
import Derived.ShutString
import Derived.WalkKit
namespace Go.Proofs.YtppcohadoilpgaaGreatDoor
open Go.ChangeShapes Go.WideShapes Go.ChangeAt Go.RowKit Go.Joins Go.Proofs.Tryz
set_option maxHeartbeats 2000000
set_option linter.unusedVariables false
def vf (t:Bool) (n:Int) (s:ByteArray):Int :=
 if (t=true/\n ≠ 0)\/(t=false/\0<s.size) then 4
 else if ¬(-1099511627776<=n/\n<=1099511627776) then 2
 else if 200<s.size then 1 else 0
theorem F7 (n:Int) (w:World) :
 Calls prog 133 #[.int .i64 n] w fun e w'=>e = .returned (.agg #[.bool false,.int .i64 n,.string ⟨#[]⟩])/\Below w.heap.size w w':=by
 go_enter func133,ntmps133
 go_wp2
 exact bodyPost_ret (v:= .agg #[.bool false,.int .i64 n,.string ⟨#[]⟩]) (by simp [results,results133,go_sem]) rfl ⟨rfl,by
  repeat (first | exact Below.refl _ _ | refine Below.setCell ?_ (by simp) _ | refine Below.alloc ?_ (by simp) _)⟩
theorem J0 (s:ByteArray) (w:World) :
 Calls prog 134 #[.string s] w fun e w'=>e = .returned (.agg #[.bool true,.int .i64 0,.string s])/\Below w.heap.size w w':=by
 go_enter func134,ntmps134
 go_wp2
 exact bodyPost_ret (v:= .agg #[.bool true,.int .i64 0,.string s]) (by simp [results,results134,go_sem]) rfl ⟨rfl,by
  repeat (first | exact Below.refl _ _ | refine Below.setCell ?_ (by simp) _ | refine Below.alloc ?_ (by simp) _)⟩
abbrev R4:=Bool × Int × ByteArray × Int
def vt (r:R4):Value:= .tuple #[.agg #[.bool r.1,.int .i64 r.2.1,.string r.2.2.1],.int .i64 r.2.2.2]
def rN (x:Int):R4:=(false,x,⟨#[]⟩,0)
def Ew (e:Int):R4:=(false,0,⟨#[]⟩,e)
def bnd (x:Int):R4:=if -1099511627776<=x/\x<=1099511627776 then rN x else Ew 3
theorem Xp {x:Int} (h1: -1099511627776<=x) (h2:x<=1099511627776):bnd x=rN x:=if_pos ⟨h1,h2⟩
theorem Oz {x:Int} (h:x < -1099511627776\/1099511627776<x):bnd x=Ew 3:=if_neg (by omega)
theorem Ly (x:Int) {r:R4} (h:r=rN x):Ending.returned (.tuple #[.agg #[.bool false,.int .i64 x,.string ⟨#[]⟩],.int .i64 0]) = .returned (vt r):=by rw [h];rfl
theorem Lx (e:Int) {r:R4} (h:r=Ew e):Ending.returned (.tuple #[.agg #[.bool false,.int .i64 0,.string ⟨#[]⟩],.int .i64 e]) = .returned (vt r):=by rw [h];rfl
theorem P8 (x y:Int) (h1: -1099511627776<=x) (h2:x<=1099511627776): -1099511627776<=x.tdiv y/\x.tdiv y<=1099511627776:=by
 have h:(x.tdiv y).natAbs<=x.natAbs:=by rw [Int.natAbs_tdiv];exact Nat.div_le_self _ _
 omega
theorem Qb (x y:Int) (h1: -1099511627776<=x) (h2:x<=1099511627776): -1099511627776<=x.tmod y/\x.tmod y<=1099511627776:=by
 have h:(x.tmod y).natAbs<=x.natAbs:=by rw [Int.natAbs_tmod];exact Nat.mod_le _ _
 omega
theorem Ni (x:Int) (w:World) :
 Calls prog 188 #[.int .i64 x] w fun e w'=>e = .returned (vt (bnd x))/\Below w.heap.size w w':=by
 by_cases h1:x < -1099511627776
 . go_enter func188,ntmps188
   go_wp2
   go_returns
   exact⟨Lx 3 (Oz (.inl h1)),by go_grown⟩
 . by_cases h2:1099511627776<x
   . have h1': -1099511627776<=x:=by omega
     have hd:decide (x<=1099511627776)=false:=by simp;omega
     go_enter func188,ntmps188
     go_wp2
     go_returns
     exact⟨Lx 3 (Oz (.inr h2)),by go_grown⟩
   . have h1': -1099511627776<=x:=by omega
     have h2':x<=1099511627776:=by omega
     go_enter func188,ntmps188
     go_wp2
     go_returns
     exact⟨Ly x (Xp h1' h2'),by go_grown⟩
theorem Rs (a b M:Nat) (ha:0<a):M / a<b ↔ M<b * a:=Nat.div_lt_iff_lt_mul ha
theorem Kz (m:Int):(1099511627776:Int) / (m.natAbs:Int)=((1099511627776 / m.natAbs:Nat):Int):=rfl
theorem Zb {m n:Int} (hm:m ≠ 0) (h:(1099511627776:Int) / (m.natAbs:Int)<(n.natAbs:Int)):bnd (m * n)=Ew 3:=by
 rw [Kz m] at h;have h1:1099511627776<n.natAbs * m.natAbs:=(Rs _ _ _ (by omega)).1 (by omega);rw [Nat.mul_comm,<-Int.natAbs_mul] at h1;exact Oz (by omega)
theorem Acf {m n:Int} (h:m=0\/(n.natAbs:Int)<=(1099511627776:Int) / (m.natAbs:Int)):(-1099511627776<=m * n/\m * n<=1099511627776):=by
 rcases h with rfl | h
 . simp
 . by_cases hm:m=0
   . subst hm;simp
   . rw [Kz m] at h;have h1:¬1099511627776<n.natAbs * m.natAbs:=fun h2=>by have:=(Rs m.natAbs n.natAbs 1099511627776 (by omega)).2 h2;omega
     rw [Nat.mul_comm,<-Int.natAbs_mul] at h1;omega
theorem Io (n:Int) (w:World) (h1: -1099511627776<=n) (h2:n<=1099511627776) :
 Calls prog 200 #[.int .i64 n] w fun e w'=>e = .returned (.int .i64 (n.natAbs:Int))/\w'=w:=by
 by_cases h:n<0
 . go_enter func200,ntmps200
   go_wp2
   go_ret
   exact⟨A4 (by omega),rfl⟩
 . go_enter func200,ntmps200
   go_wp2
   go_ret
   exact⟨A4 (by omega),rfl⟩
theorem Uo (m n:Int) (w:World) (h1: -1099511627776<=m) (h2:m<=1099511627776) (h3: -1099511627776<=n) (h4:n<=1099511627776) :
 Calls prog 189 #[.int .i64 m,.int .i64 n] w fun e w'=>e = .returned (vt (bnd (m * n)))/\Below w.heap.size w w':=by
 by_cases hm:m=0
 . subst hm;have H:Hid (bnd (0 * n)=rN 0):=by rw [Int.zero_mul];rfl
   go_enter func189,ntmps189
   go_wp2
   go_returns
   exact⟨Ly 0 (by first | exact H.out | rfl),by go_grown⟩
 . have hne:(m != 0)=true:=by rw [bne_iff_ne];exact hm
   have ha:1<=(m.natAbs:Int):=by omega
   have hb:(m.natAbs:Int)<=1099511627776:=by omega
   by_cases h:(1099511627776:Int) / (m.natAbs:Int)<(n.natAbs:Int)
   . have H:Hid (bnd (m * n)=Ew 3):=Zb hm h;clear hm;go_enter func189,ntmps189
     go_wp2_with fail
     refine (Io n _ h3 h4).mono ?_;rintro e w1 ⟨rfl,rfl⟩;go_wp2_with fail
     refine (Io m _ h1 h2).mono ?_;rintro e w1 ⟨rfl,rfl⟩;go_wp2
     go_returns
     exact⟨Lx 3 H.out,by go_grown⟩
   . have H:=Acf (m:=m) (n:=n) (.inr (by omega));have H1:=H.1;have H2:=H.2;clear hm H;go_enter func189,ntmps189
     go_wp2_with fail
     refine (Io n _ h3 h4).mono ?_;rintro e w1 ⟨rfl,rfl⟩;go_wp2_with fail
     refine (Io m _ h1 h2).mono ?_;rintro e w1 ⟨rfl,rfl⟩;go_wp2
     go_returns
     exact⟨Ly (m * n) (Xp H1 H2),by go_grown⟩
theorem Rf (n:Int) (h0: -1099511627776<=n) (h1:n<=1099511627776):(Lib.itoa n).length<=21:=Lib.itoa_length_le n (by omega) (by omega)
def Cz (t:Bool) (n:Int) (s:ByteArray):ByteArray:=if t then s else ⟨(Lib.itoa n).toArray⟩
theorem Acx (n:Int) (s:ByteArray):Cz true n s=s:=rfl
theorem Vr (n:Int) (s:ByteArray):Cz false n s = ⟨(Lib.itoa n).toArray⟩:=rfl
theorem Gu (t:Bool) (n:Int) (s:ByteArray) (w:World) (h0: -1099511627776<=n) (h1:n<=1099511627776) (hp:Pow w) :
 Calls prog 166 #[.agg #[.bool t,.int .i64 n,.string s]] w fun e w'=>e = .returned (.string (Cz t n s))/\Below w.heap.size w w':=by
 cases t
 . rw [Vr];go_enter func166,ntmps166
   go_wp2_with fail
   refine (Tryz.strconv_Itoa n (by omega) (by omega) _ (hp.stays (br0.alloc lr0 _))).mono ?_;rintro e w1 ⟨rfl,hg⟩;have hb:=Hy hg;clear hg;go_wp2_with fail
   go_ret
   exact⟨rfl,Aa (br0.alloc lr0 _) hb⟩
 . rw [Acx];go_enter func166,ntmps166
   go_wp2_with fail
   go_ret
   exact⟨rfl,br0.alloc lr0 _⟩
def M4 (t1:Bool) (n1:Int) (s1:ByteArray) (t2:Bool) (n2:Int) (s2:ByteArray):Int :=
 if t1=false/\t2=false then Lib.compareInt n1 n2 else Lib.compareBytes (Cz t1 n1 s1).data.toList (Cz t2 n2 s2).data.toList
theorem Ae8 (n1:Int) (s1:ByteArray) (n2:Int) (s2:ByteArray):M4 false n1 s1 false n2 s2=Lib.compareInt n1 n2:=if_pos ⟨rfl,rfl⟩
theorem Y4 {t1 t2:Bool} (n1:Int) (s1:ByteArray) (n2:Int) (s2:ByteArray) (h:t1=true\/t2=true) :
 M4 t1 n1 s1 t2 n2 s2=Lib.compareBytes (Cz t1 n1 s1).data.toList (Cz t2 n2 s2).data.toList:=if_neg (by rcases h with rfl | rfl <;> simp)
theorem Ab0 (n1:Int) (s1:ByteArray) (n2:Int) (s2:ByteArray) (w:World) :
 Calls prog 169 #[.agg #[.bool false,.int .i64 n1,.string s1],.agg #[.bool false,.int .i64 n2,.string s2]] w fun e w'=>e = .returned (.int .i64 (M4 false n1 s1 false n2 s2))/\Below w.heap.size w w':=by
 rw [Ae8];go_enter func169,ntmps169
 go_wp2_with fail
 refine (Tryz.cmp_Compare_int n1 n2 _).mono ?_;rintro e w1 ⟨rfl,rfl⟩;go_wp2_with fail
 go_ret
 exact⟨rfl,by go_grown⟩
theorem Y5 (t2:Bool) (n1:Int) (s1:ByteArray) (n2:Int) (s2:ByteArray) (w:World) (h1: -1099511627776<=n1) (h2:n1<=1099511627776) (h3: -1099511627776<=n2) (h4:n2<=1099511627776) (hp:Pow w) :
 Calls prog 169 #[.agg #[.bool true,.int .i64 n1,.string s1],.agg #[.bool t2,.int .i64 n2,.string s2]] w fun e w'=>e = .returned (.int .i64 (M4 true n1 s1 t2 n2 s2))/\Below w.heap.size w w':=by
 rw [Y4 n1 s1 n2 s2 (by simp)];have HP:Hid (Pow w):=hp;clear hp;have hlt2:w.heap.size<w.heap.size+1+1:=by omega
 go_enter func169,ntmps169
 go_wp2_with fail
 go_region_held3 (fun w'=>w'.cell? ⟨w.heap.size,0,none⟩=some (.bool true)/\w'.cell? ⟨w.heap.size,1,none⟩=some (.int .i64 n1)/\w'.cell? ⟨w.heap.size,2,none⟩=some (.string s1)/\w'.cell? ⟨w.heap.size+1,0,none⟩=some (.bool t2)/\w'.cell? ⟨w.heap.size+1,1,none⟩=some (.int .i64 n2)/\w'.cell? ⟨w.heap.size+1,2,none⟩=some (.string s2)) (go_keep) (first
  | (go_at_call_of 166 (Value.string s1);refine (Gu _ n1 s1 _ h1 h2 ?_).mono ?_;exact HP.out.stays (by go_grown);rintro e w1 ⟨rfl,hb⟩;obtain⟨hc,hf⟩:=Ar hb;have HB1:Hid (Below w.heap.size w w1):=Aa (by go_grown) hb)
  | (go_at_call_of 166 (Value.string s2);refine (Gu _ n2 s2 _ h3 h4 ?_).mono ?_;exact HP.out.stays HB1.out;rintro e w2 ⟨rfl,hb2⟩;obtain⟨hc2,hf2⟩:=Ar hb2;have hz:w.heap.size+1<w1.heap.size:=(by have:=hb.size;simp at this;omega);have hz0:w.heap.size<w1.heap.size:=(by omega);have HB2:Hid (Below w.heap.size w w2):=Aa HB1.out hb2)
  | (go_at_call 187;refine (Tryz.strings_Compare _ _ _).mono ?_;rintro e w3 ⟨rfl,rfl⟩))
 all_goals go_wp2
 all_goals go_ret
 all_goals exact⟨rfl,HB2.out⟩
theorem Y6 (n1:Int) (s1:ByteArray) (n2:Int) (s2:ByteArray) (w:World) (h1: -1099511627776<=n1) (h2:n1<=1099511627776) (h3: -1099511627776<=n2) (h4:n2<=1099511627776) (hp:Pow w) :
 Calls prog 169 #[.agg #[.bool false,.int .i64 n1,.string s1],.agg #[.bool true,.int .i64 n2,.string s2]] w fun e w'=>e = .returned (.int .i64 (M4 false n1 s1 true n2 s2))/\Below w.heap.size w w':=by
 rw [Y4 n1 s1 n2 s2 (by simp)];have HP:Hid (Pow w):=hp;clear hp;have hlt2:w.heap.size<w.heap.size+1+1:=by omega
 go_enter func169,ntmps169
 go_wp2_with fail
 go_region_held3 (fun w'=>w'.cell? ⟨w.heap.size,0,none⟩=some (.bool false)/\w'.cell? ⟨w.heap.size,1,none⟩=some (.int .i64 n1)/\w'.cell? ⟨w.heap.size,2,none⟩=some (.string s1)/\w'.cell? ⟨w.heap.size+1,0,none⟩=some (.bool true)/\w'.cell? ⟨w.heap.size+1,1,none⟩=some (.int .i64 n2)/\w'.cell? ⟨w.heap.size+1,2,none⟩=some (.string s2)) (go_keep) (first
  | (go_at_call_of 166 (Value.string s1);refine (Gu _ n1 s1 _ h1 h2 ?_).mono ?_;exact HP.out.stays (by go_grown);rintro e w1 ⟨rfl,hb⟩;obtain⟨hc,hf⟩:=Ar hb;have HB1:Hid (Below w.heap.size w w1):=Aa (by go_grown) hb)
  | (go_at_call_of 166 (Value.string s2);refine (Gu _ n2 s2 _ h3 h4 ?_).mono ?_;exact HP.out.stays HB1.out;rintro e w2 ⟨rfl,hb2⟩;obtain⟨hc2,hf2⟩:=Ar hb2;have hz:w.heap.size+1<w1.heap.size:=(by have:=hb.size;simp at this;omega);have hz0:w.heap.size<w1.heap.size:=(by omega);have HB2:Hid (Below w.heap.size w w2):=Aa HB1.out hb2)
  | (go_at_call 187;refine (Tryz.strings_Compare _ _ _).mono ?_;rintro e w3 ⟨rfl,rfl⟩))
 all_goals go_wp2
 all_goals go_ret
 all_goals exact⟨rfl,HB2.out⟩
theorem Abz (t1:Bool) (n1:Int) (s1:ByteArray) (t2:Bool) (n2:Int) (s2:ByteArray) (w:World) (h1: -1099511627776<=n1) (h2:n1<=1099511627776) (h3: -1099511627776<=n2) (h4:n2<=1099511627776) (hp:Pow w) :
 Calls prog 169 #[.agg #[.bool t1,.int .i64 n1,.string s1],.agg #[.bool t2,.int .i64 n2,.string s2]] w fun e w'=>e = .returned (.int .i64 (M4 t1 n1 s1 t2 n2 s2))/\Below w.heap.size w w':=by
 cases t1
 . cases t2
   . exact Ab0 n1 s1 n2 s2 w
   . exact Y6 n1 s1 n2 s2 w h1 h2 h3 h4 hp
 . exact Y5 t2 n1 s1 n2 s2 w h1 h2 h3 h4 hp
def Uw (op:ByteArray):Prop:=op = ⟨#[60]⟩\/op = ⟨#[60,61]⟩\/op = ⟨#[61,61]⟩\/op = ⟨#[33,61]⟩\/op = ⟨#[62]⟩\/op = ⟨#[62,61]⟩
def Xk (l:List UInt8) (L S:Bool):Bool :=
 if l = [60] then L else if l = [60,61] then L || S else if l = [61,61] then S else if l = [33,61] then !S else if l = [62] then !L && !S else !L
theorem Aet (op:ByteArray) (hop:Uw op) (o:Int) (w:World) :
 Calls prog 168 #[.string op,.int .i64 o] w fun e w'=>e = .returned (.bool (Xk op.data.toList (decide (o<0)) (decide (o=0))))/\w'=w:=by
 rcases Int.lt_trichotomy o 0 with h | h | h
 . have d1:decide (o<0)=true:=by simp;omega
   have d2:decide (o=0)=false:=by simp;omega
   rw [d1,d2];clear d1 d2;obtain rfl | rfl | rfl | rfl | rfl | rfl:=hop
   all_goals go_enter func168,ntmps168
   all_goals go_wp2
   all_goals go_ret
   all_goals exact⟨Am (by first | rfl | (simp [Xk];omega)),rfl⟩
 . subst h;obtain rfl | rfl | rfl | rfl | rfl | rfl:=hop
   all_goals go_enter func168,ntmps168
   all_goals go_wp2
   all_goals go_ret
   all_goals exact⟨rfl,rfl⟩
 . have d1:decide (o<0)=false:=by simp;omega
   have d2:decide (o=0)=false:=by simp;omega
   rw [d1,d2];clear d1 d2;obtain rfl | rfl | rfl | rfl | rfl | rfl:=hop
   all_goals go_enter func168,ntmps168
   all_goals go_wp2
   all_goals go_ret
   all_goals exact⟨Am (by first | rfl | (simp [Xk];omega)),rfl⟩
def Py (l:List UInt8) (m n:Int):R4 :=
 if l = [43] then bnd (m+n) else if l = [45] then bnd (m - n) else if l = [42] then bnd (m * n) else if n=0 then Ew 2 else if l = [47] then rN (m.tdiv n) else rN (m.tmod n)
theorem T7 (m n:Int) (w:World) (h1: -1099511627776<=m) (h2:m<=1099511627776) (h3: -1099511627776<=n) (h4:n<=1099511627776) :
 Calls prog 171 #[.string ⟨#[43]⟩,.int .i64 m,.int .i64 n] w fun e w'=>e = .returned (vt (bnd (m+n)))/\Below w.heap.size w w':=by
 obtain⟨rt,rn,rs,re,hr⟩:∃rt rn rs re,bnd (m+n)=(rt,rn,rs,re):=⟨_,_,_,_,rfl⟩;have HR:Hid (bnd (m+n)=(rt,rn,rs,re)):=hr;clear hr;go_enter func171,ntmps171
 go_wp2_with fail
 refine (Ni (m+n) _).mono ?_;rintro e w1 ⟨rfl,hb⟩;rw [HR.out];obtain⟨hc,hf⟩:=Ar hb;have hz:w.heap.size<w1.heap.size:=by have:=hb.size;simp at this;omega
 simp only [vt];go_wp2
 exact bodyPost_ret (v:= .tuple #[.agg #[.bool rt,.int .i64 rn,.string rs],.int .i64 re]) (by simp [results,results171,go_sem,hc]) rfl ⟨by rw [HR.out];rfl,by
  refine Below.setCell (Below.setCell (Below.setCell ?_ (by simp) _) (by simp) _) (by simp) _;exact Aa (by go_grown) hb⟩
theorem Ub (m n:Int) (w:World) (h1: -1099511627776<=m) (h2:m<=1099511627776) (h3: -1099511627776<=n) (h4:n<=1099511627776) :
 Calls prog 171 #[.string ⟨#[45]⟩,.int .i64 m,.int .i64 n] w fun e w'=>e = .returned (vt (bnd (m - n)))/\Below w.heap.size w w':=by
 obtain⟨rt,rn,rs,re,hr⟩:∃rt rn rs re,bnd (m - n)=(rt,rn,rs,re):=⟨_,_,_,_,rfl⟩;have HR:Hid (bnd (m - n)=(rt,rn,rs,re)):=hr;clear hr;go_enter func171,ntmps171
 go_wp2_with fail
 refine (Ni (m - n) _).mono ?_;rintro e w1 ⟨rfl,hb⟩;rw [HR.out];obtain⟨hc,hf⟩:=Ar hb;have hz:w.heap.size<w1.heap.size:=by have:=hb.size;simp at this;omega
 simp only [vt];go_wp2
 exact bodyPost_ret (v:= .tuple #[.agg #[.bool rt,.int .i64 rn,.string rs],.int .i64 re]) (by simp [results,results171,go_sem,hc]) rfl ⟨by rw [HR.out];rfl,by
  refine Below.setCell (Below.setCell (Below.setCell ?_ (by simp) _) (by simp) _) (by simp) _;exact Aa (by go_grown) hb⟩
theorem T9 (m n:Int) (w:World) (h1: -1099511627776<=m) (h2:m<=1099511627776) (h3: -1099511627776<=n) (h4:n<=1099511627776) :
 Calls prog 171 #[.string ⟨#[42]⟩,.int .i64 m,.int .i64 n] w fun e w'=>e = .returned (vt (bnd (m * n)))/\Below w.heap.size w w':=by
 obtain⟨rt,rn,rs,re,hr⟩:∃rt rn rs re,bnd (m * n)=(rt,rn,rs,re):=⟨_,_,_,_,rfl⟩;have HR:Hid (bnd (m * n)=(rt,rn,rs,re)):=hr;clear hr;go_enter func171,ntmps171
 go_wp2_with fail
 refine (Uo m n _ h1 h2 h3 h4).mono ?_;rintro e w1 ⟨rfl,hb⟩;rw [HR.out];obtain⟨hc,hf⟩:=Ar hb;have hz:w.heap.size<w1.heap.size:=by have:=hb.size;simp at this;omega
 simp only [vt];go_wp2
 exact bodyPost_ret (v:= .tuple #[.agg #[.bool rt,.int .i64 rn,.string rs],.int .i64 re]) (by simp [results,results171,go_sem,hc]) rfl ⟨by rw [HR.out];rfl,by
  refine Below.setCell (Below.setCell (Below.setCell ?_ (by simp) _) (by simp) _) (by simp) _;exact Aa (by go_grown) hb⟩
theorem T8 (m n:Int) (w:World) (h1: -1099511627776<=m) (h2:m<=1099511627776) (h3: -1099511627776<=n) (h4:n<=1099511627776) :
 Calls prog 171 #[.string ⟨#[47]⟩,.int .i64 m,.int .i64 n] w fun e w'=>e = .returned (vt (if n=0 then Ew 2 else rN (m.tdiv n)))/\Below w.heap.size w w':=by
 by_cases h:n=0
 . rw [if_pos h];subst h;go_enter func171,ntmps171
   go_wp2
   go_returns
   exact⟨Lx 2 rfl,by go_grown⟩
 . rw [if_neg h];obtain⟨k1,k2⟩:=P8 m n h1 h2;have hn:(n == 0)=false:=by simp [h]
   go_enter func171,ntmps171
   go_wp2
   go_returns
   exact⟨Ly _ rfl,by go_grown⟩
theorem Ua (op:ByteArray) (m n:Int) (w:World) (h1: -1099511627776<=m) (h2:m<=1099511627776) (h3: -1099511627776<=n) (h4:n<=1099511627776) (o1:(op.toList == [43])=false) (o2:(op.toList == [45])=false) (o3:(op.toList == [42])=false) (o4:(op.toList == [47])=false) :
 Calls prog 171 #[.string op,.int .i64 m,.int .i64 n] w fun e w'=>e = .returned (vt (if n=0 then Ew 2 else rN (m.tmod n)))/\Below w.heap.size w w':=by
 by_cases h:n=0
 . rw [if_pos h];subst h;go_enter func171,ntmps171
   go_wp2
   go_returns
   exact⟨Lx 2 rfl,by go_grown⟩
 . rw [if_neg h];obtain⟨k1,k2⟩:=Qb m n h1 h2;have hn:(n == 0)=false:=by simp [h]
   go_enter func171,ntmps171
   go_wp2
   go_returns
   exact⟨Ly _ rfl,by go_grown⟩
theorem Eo {op:ByteArray} {l:List UInt8} (h:op.toList=l):op = ⟨l.toArray⟩:=by
 rw [ByteArray.toList_eq] at h;cases op;subst h;rfl
theorem Zg (op:ByteArray) (m n:Int) (w:World) (h1: -1099511627776<=m) (h2:m<=1099511627776) (h3: -1099511627776<=n) (h4:n<=1099511627776) :
 Calls prog 171 #[.string op,.int .i64 m,.int .i64 n] w fun e w'=>e = .returned (vt (Py op.toList m n))/\Below w.heap.size w w':=by
 by_cases o1:op.toList = [43]
 . rw [o1,Eo o1];exact T7 m n w h1 h2 h3 h4
 by_cases o2:op.toList = [45]
 . rw [o2,Eo o2];exact Ub m n w h1 h2 h3 h4
 by_cases o3:op.toList = [42]
 . rw [o3,Eo o3];exact T9 m n w h1 h2 h3 h4
 by_cases o4:op.toList = [47]
 . rw [o4,Eo o4];exact T8 m n w h1 h2 h3 h4
 have e:Py op.toList m n=if n=0 then Ew 2 else rN (m.tmod n):=by
  unfold Py;rw [if_neg o1,if_neg o2,if_neg o3,if_neg o4]
 rw [e];exact Ua op m n w h1 h2 h3 h4 (by simp [o1]) (by simp [o2]) (by simp [o3]) (by simp [o4])
def acc:Int->List UInt8->Int
 | n,[]=>n
 | n,c :: r=>if (48<=(c.toNat:Int)/\(c.toNat:Int)<=57)/\n<=1099511627776 then acc (n * 10+((c.toNat:Int) - 48)) r else n
theorem Aak (n:Int):acc n []=n:=rfl
theorem Xi {n:Int} {c:UInt8} {r:List UInt8} (h1:48<=(c.toNat:Int)) (h2:(c.toNat:Int)<=57) (h3:n<=1099511627776):acc n (c :: r)=acc (n * 10+((c.toNat:Int) - 48)) r:=by
 rw [acc,if_pos ⟨⟨h1,h2⟩,h3⟩]
theorem Xj {n:Int} {c:UInt8} {r:List UInt8} (h:(c.toNat:Int)<48\/57<(c.toNat:Int)\/1099511627776<n):acc n (c :: r)=n:=by
 rw [acc,if_neg (by omega)]
theorem V1 (s:ByteArray) (k:Nat) (h:k<s.size):s.data.toList.drop k=s[k] :: s.data.toList.drop (k+1):=by
 rw [List.drop_eq_getElem_cons (by simpa using h)];rfl
theorem Ya (s:ByteArray) (k:Nat) (h:¬k<s.size):s.data.toList.drop k = []:=List.drop_eq_nil_of_le (by simp;omega)
def Rh (l:List UInt8):Int :=
 if Lib.hasPrefix (Lib.trimLeftB l 32) [45] then -acc 0 (Lib.trimPrefix (Lib.trimLeftB l 32) [45]) else acc 0 (Lib.trimPrefix (Lib.trimLeftB l 32) [45])
theorem Sk (l:List UInt8) (c:UInt8) (p:List UInt8):(Lib.trimPrefix (Lib.trimLeftB l c) p).length<=l.length:=by
 have h1:(Lib.trimLeftB l c).length<=l.length:=by unfold Lib.trimLeftB;exact (List.dropWhile_suffix _).length_le
 unfold Lib.trimPrefix;split
 . rw [List.length_drop];omega
 . exact h1
theorem Aeb (l:List UInt8):∃(dg:ByteArray) (mi:Bool),dg.data.toList=Lib.trimPrefix l [45]/\mi=Lib.hasPrefix l [45] /\
 ∀w:World,Calls prog 196 #[.string ⟨l.toArray⟩,.string ⟨#[45]⟩] w fun e w'=>e = .returned (.tuple #[.string dg,.bool mi])/\w'=w :=
 ⟨⟨(Lib.trimPrefix l [45]).toArray⟩,_,rfl,rfl,fun w=>Tryz.strings_CutPrefix ⟨l.toArray⟩ ⟨#[45]⟩ w⟩
theorem Ta (s:ByteArray) (w:World) (hs:s.size<=200) :
 Calls prog 184 #[.string s] w fun e w'=>e = .returned (.int .i64 (Rh s.data.toList))/\w'=w:=by
 obtain⟨dg,mi,hdg,hmi,hcut⟩:=Aeb (Lib.trimLeftB s.data.toList 32);have hsz:dg.size<=200:=by
  have h1:=Sk s.data.toList 32 [45];have h2:dg.data.toList.length=dg.size:=by simp
  have h3:s.data.toList.length=s.size:=by simp
  rw [hdg] at h2;omega
 have HF:Hid (Rh s.data.toList=if mi then -acc 0 dg.data.toList else acc 0 dg.data.toList):=by
  show _=_;rw [hdg,hmi];rfl
 have HC:Hid _:=hcut;clear hcut hdg hmi hs;go_enter func184,ntmps184
 go_wp2_with fail
 refine (Tryz.strings_TrimLeft_one s 32 (by decide) _).mono ?_;rintro e w1 ⟨rfl,rfl⟩;go_wp2_with fail
 refine (HC.out _).mono ?_;rintro e w1 ⟨rfl,rfl⟩;go_wp2_with fail
 go_loop [5,6] (fun n i=>∃(k:Nat) (m:Int),k<=dg.size/\0<=m/\m<=10995116277769/\i = .int .i64 k/\n = .int .i64 m/\Hid (acc m (dg.data.toList.drop k)=acc 0 dg.data.toList)) (fun _ i=>dg.size - (intOf i).toNat)
 case atStart=>exact⟨0,0,Nat.zero_le _,by omega,by omega,rfl,rfl,rfl⟩
 case round =>
  obtain⟨k,m,hk,hm0,hm1,rfl,rfl,HA⟩:=hrel
  by_cases hlt:k<dg.size
  . have HD:Hid (dg.data.toList.drop k=dg[k] :: dg.data.toList.drop (k+1)):=V1 dg k hlt
    by_cases hc:(48<=(dg[k].toNat:Int)/\(dg[k].toNat:Int)<=57)/\m<=1099511627776
    . obtain⟨⟨hc1,hc2⟩,hc3⟩:=hc;have hc0: -1099511627776<=m:=by omega
      go_wp2
      go_round
      case rel=>exact⟨k+1,m * 10+((dg[k].toNat:Int) - 48),by omega,by omega,by omega,by go_num,by go_num,by
       have h1:=HA.out;rw [HD.out,Xi hc1 hc2 hc3] at h1;exact h1⟩
      case measure=>simp [intOf];omega
    . have HS:Hid (acc 0 dg.data.toList=m):=by
       have h1:=HA.out;rw [HD.out,Xj (by omega)] at h1;exact h1.symm
      by_cases ha:(dg[k].toNat:Int)<48
      . have hb:¬48<=(dg[k].toNat:Int):=by omega
        clear hc;cases mi
        . go_wp2
          go_ret
          exact⟨A4 (by rw [HF.out,HS.out];rfl),rfl⟩
        . go_wp2
          go_ret
          exact⟨A4 (by rw [HF.out,HS.out];rfl),rfl⟩
      . by_cases hb:57<(dg[k].toNat:Int)
        . have ha':48<=(dg[k].toNat:Int):=by omega
          have hd:decide ((dg[k].toNat:Int)<=57)=false:=by simp;omega
          clear hc;cases mi
          . go_wp2
            go_ret
            exact⟨A4 (by rw [HF.out,HS.out];rfl),rfl⟩
          . go_wp2
            go_ret
            exact⟨A4 (by rw [HF.out,HS.out];rfl),rfl⟩
        . have ha':48<=(dg[k].toNat:Int):=by omega
          have hb':(dg[k].toNat:Int)<=57:=by omega
          have hq:1099511627776<m:=by omega
          have hq0: -1099511627776<=m:=by omega
          have hd:decide (m<=1099511627776)=false:=by simp;omega
          clear hc;cases mi
          . go_wp2
            go_ret
            exact⟨A4 (by rw [HF.out,HS.out];rfl),rfl⟩
          . go_wp2
            go_ret
            exact⟨A4 (by rw [HF.out,HS.out];rfl),rfl⟩
  . have HS:Hid (acc 0 dg.data.toList=m):=by
     have h1:=HA.out;rw [Ya dg k hlt,Aak] at h1;exact h1.symm
    cases mi
    . go_wp2
      go_ret
      exact⟨A4 (by rw [HF.out,HS.out];rfl),rfl⟩
    . go_wp2
      go_ret
      exact⟨A4 (by rw [HF.out,HS.out];rfl),rfl⟩
def Av (t:Bool) (n:Int) (s:ByteArray):Int:=if t then Rh s.data.toList else n
theorem Vh (n:Int) (s:ByteArray):Av true n s=Rh s.data.toList:=rfl
theorem Vg (n:Int) (s:ByteArray):Av false n s=n:=rfl
theorem Fg (t:Bool) (n:Int) (s:ByteArray) (w:World) (hs:s.size<=200) (h1: -1099511627776<=Av t n s) (h2:Av t n s<=1099511627776) :
 Calls prog 165 #[.agg #[.bool t,.int .i64 n,.string s]] w fun e w'=>e = .returned (.tuple #[.int .i64 (Av t n s),.int .i64 0])/\Below w.heap.size w w':=by
 cases t
 . rw [Vg] at h1 h2 ⊢;go_enter func165,ntmps165
   go_wp2
   go_ret2
   exact⟨rfl,br0.alloc lr0 _⟩
 . rw [Vh] at h1 h2 ⊢;generalize hl:Rh s.data.toList=l at h1 h2 ⊢;have HL:Hid (Rh s.data.toList=l):=hl;clear hl;go_enter func165,ntmps165
   go_wp2_with fail
   refine (Ta s _ hs).mono ?_;rintro e w1 ⟨rfl,rfl⟩;rw [HL.out];go_wp2
   go_ret2
   exact⟨rfl,br0.alloc lr0 _⟩
theorem Gn (t:Bool) (n:Int) (s:ByteArray) (w:World) (hs:s.size<=200) (h:Av t n s < -1099511627776\/1099511627776<Av t n s) :
 Calls prog 165 #[.agg #[.bool t,.int .i64 n,.string s]] w fun e w'=>e = .returned (.tuple #[.int .i64 0,.int .i64 2])/\Below w.heap.size w w':=by
 cases t
 . rw [Vg] at h;rcases h with h | h
   . go_enter func165,ntmps165
     go_wp2
     go_ret2
     exact⟨rfl,br0.alloc lr0 _⟩
   . have h': -1099511627776<=n:=by omega
     have hd:decide (n<=1099511627776)=false:=by simp;omega
     go_enter func165,ntmps165
     go_wp2
     go_ret2
     exact⟨rfl,br0.alloc lr0 _⟩
 . rw [Vh] at h;generalize hl:Rh s.data.toList=l at h;have HL:Hid (Rh s.data.toList=l):=hl;clear hl;rcases h with h | h
   . go_enter func165,ntmps165
     go_wp2_with fail
     refine (Ta s _ hs).mono ?_;rintro e w1 ⟨rfl,rfl⟩;rw [HL.out];go_wp2
     go_ret2
     exact⟨rfl,br0.alloc lr0 _⟩
   . have h': -1099511627776<=l:=by omega
     have hd:decide (l<=1099511627776)=false:=by simp;omega
     go_enter func165,ntmps165
     go_wp2_with fail
     refine (Ta s _ hs).mono ?_;rintro e w1 ⟨rfl,rfl⟩;rw [HL.out];go_wp2
     go_ret2
     exact⟨rfl,br0.alloc lr0 _⟩
def Yx (t:Bool) (n:Int) (s:ByteArray):Int:=if -1099511627776<=Av t n s/\Av t n s<=1099511627776 then Av t n s else 0
def Yw (t:Bool) (n:Int) (s:ByteArray):Int:=if -1099511627776<=Av t n s/\Av t n s<=1099511627776 then 0 else 2
theorem Afl {t:Bool} {n x:Int} {s:ByteArray} (h:Av t n s=x) (h1: -1099511627776<=x) (h2:x<=1099511627776) :
 Ending.returned (.tuple #[.int .i64 x,.int .i64 0]) = .returned (.tuple #[.int .i64 (Yx t n s),.int .i64 (Yw t n s)]):=by
 unfold Yx Yw;rw [h,if_pos ⟨h1,h2⟩,if_pos ⟨h1,h2⟩]
theorem Acj {t:Bool} {n:Int} {s:ByteArray} (h:Av t n s < -1099511627776\/1099511627776<Av t n s) :
 Ending.returned (.tuple #[.int .i64 0,.int .i64 2]) = .returned (.tuple #[.int .i64 (Yx t n s),.int .i64 (Yw t n s)]):=by
 unfold Yx Yw;rw [if_neg (by omega),if_neg (by omega)]
theorem Adg (t:Bool) (n:Int) (s:ByteArray) (w:World) (hs:s.size<=200) :
 Calls prog 165 #[.agg #[.bool t,.int .i64 n,.string s]] w fun e w'=>e = .returned (.tuple #[.int .i64 (Yx t n s),.int .i64 (Yw t n s)])/\Below w.heap.size w w':=by
 by_cases h: -1099511627776<=Av t n s/\Av t n s<=1099511627776
 . exact (Fg t n s w hs h.1 h.2).mono fun e w' ⟨he,hb⟩=>⟨he.trans (Afl rfl h.1 h.2),hb⟩
 . exact (Gn t n s w hs (by omega)).mono fun e w' ⟨he,hb⟩=>⟨he.trans (Acj (by omega)),hb⟩
def b2i (b:Bool):Int:=if b then 1 else 0
theorem Ac1 (b:Bool) (w:World) :
 Calls prog 167 #[.bool b] w fun e w'=>e = .returned (.agg #[.bool false,.int .i64 (b2i b),.string ⟨#[]⟩])/\Below w.heap.size w w':=by
 cases b
 all_goals go_enter func167,ntmps167
 all_goals go_wp2
 all_goals go_returns
 all_goals exact⟨rfl,by go_grown⟩
theorem A1 {w0 w:World} (h:Below w0.heap.size w0 w) {k:Nat} (hk:w0.heap.size<=k) (v0 v1 v2:Value) :
 Below w0.heap.size w0 (((w.setCell ⟨k,0,none⟩ v0).setCell ⟨k,1,none⟩ v1).setCell ⟨k,2,none⟩ v2) :=
 ((h.setCell hk v0).setCell hk v1).setCell hk v2
theorem Y2 (op:ByteArray) (hop:Uw op) (t1:Bool) (n1:Int) (s1:ByteArray) (t2:Bool) (n2:Int) (s2:ByteArray) (w:World) (h1: -1099511627776<=n1) (h2:n1<=1099511627776) (h3: -1099511627776<=n2) (h4:n2<=1099511627776) (hp:Pow w) :
 Calls prog 139 #[.string op,.agg #[.bool t1,.int .i64 n1,.string s1],.agg #[.bool t2,.int .i64 n2,.string s2]] w fun e w' =>
  e = .returned (vt (rN (b2i (Xk op.data.toList (decide (M4 t1 n1 s1 t2 n2 s2<0)) (decide (M4 t1 n1 s1 t2 n2 s2=0))))))/\Below w.heap.size w w':=by
 have HP:Hid (Pow w):=hp;clear hp;have hk:Hid (Uw op):=hop;obtain rfl | rfl | rfl | rfl | rfl | rfl:=hop
 all_goals
  go_enter func139,ntmps139
  go_wp2_with fail
  refine (Abz t1 n1 s1 t2 n2 s2 _ h1 h2 h3 h4 (HP.out.stays (by go_grown))).mono ?_;rintro e w1 ⟨rfl,hb⟩;obtain⟨hc,hf⟩:=Ar hb;have hz:w.heap.size+2<w1.heap.size:=by have:=hb.size;simp at this;omega
  have HB1:Hid (Below w.heap.size w w1):=Aa (by go_grown) hb;go_wp2_with fail
  refine (Aet _ hk.out _ _).mono ?_;rintro e w2 ⟨rfl,rfl⟩;go_wp2_with fail
  refine (Ac1 _ _).mono ?_;rintro e w3 ⟨rfl,hb3⟩;obtain⟨hc3,hf3⟩:=Ar hb3;go_wp2
  exact bodyPost_ret (v:= .tuple #[.agg #[.bool false,.int .i64 (b2i _),.string ⟨#[]⟩],.int .i64 0]) (by simp [results,results139,go_sem,hc,hc3,hz]) rfl ⟨rfl,A1 (Aa HB1.out hb3) (by omega) _ _ _⟩
def okN (t:Bool) (n:Int) (s:ByteArray):Prop:= -1099511627776<=Av t n s/\Av t n s<=1099511627776
theorem Kt {t:Bool} {n:Int} {s:ByteArray} (h:¬okN t n s):Av t n s < -1099511627776\/1099511627776<Av t n s:=by
 unfold okN at h;omega
theorem Abs (op:ByteArray) (t1:Bool) (n1:Int) (s1:ByteArray) (t2:Bool) (n2:Int) (s2:ByteArray) (w:World) (z1:s1.size<=200) (z2:s2.size<=200) (o1:(op.toList == [60])=false) (o2:(op.toList == [60,61])=false) (o3:(op.toList == [61,61])=false) (o4:(op.toList == [33,61])=false) (o5:(op.toList == [62])=false) (o6:(op.toList == [62,61])=false) (o7:(op.toList == [46,46])=false) (hbad:Av t1 n1 s1 < -1099511627776\/1099511627776<Av t1 n1 s1) :
 Calls prog 139 #[.string op,.agg #[.bool t1,.int .i64 n1,.string s1],.agg #[.bool t2,.int .i64 n2,.string s2]] w fun e w'=>e = .returned (vt (Ew 3))/\Below w.heap.size w w':=by
 have HBAD:Hid (Av t1 n1 s1 < -1099511627776\/1099511627776<Av t1 n1 s1):=hbad;clear hbad;go_enter func139,ntmps139
 go_wp2_with fail
 refine (Gn t1 n1 s1 _ z1 HBAD.out).mono ?_;rintro e w1 ⟨rfl,hb⟩;obtain⟨hc,hf⟩:=Ar hb;have hz:w.heap.size+2<w1.heap.size:=by have:=hb.size;simp at this;omega
 have hz1:w.heap.size+1<w1.heap.size:=by omega
 have HB1:Hid (Below w.heap.size w w1):=Aa (by go_grown) hb;go_wp2_with fail
 refine (Adg t2 n2 s2 _ z2).mono ?_;rintro e w2 ⟨rfl,hb2⟩;obtain⟨hc2,hf2⟩:=Ar hb2;go_wp2
 exact bodyPost_ret (v:= .tuple #[.agg #[.bool false,.int .i64 0,.string ⟨#[]⟩],.int .i64 3]) (by simp [results,results139,go_sem,hc,hc2,hz]) rfl ⟨rfl,A1 (Aa HB1.out hb2) (by omega) _ _ _⟩
theorem Abt (op:ByteArray) (t1:Bool) (n1:Int) (s1:ByteArray) (t2:Bool) (n2:Int) (s2:ByteArray) (w:World) (z1:s1.size<=200) (z2:s2.size<=200) (o1:(op.toList == [60])=false) (o2:(op.toList == [60,61])=false) (o3:(op.toList == [61,61])=false) (o4:(op.toList == [33,61])=false) (o5:(op.toList == [62])=false) (o6:(op.toList == [62,61])=false) (o7:(op.toList == [46,46])=false) (hok:okN t1 n1 s1) (hbad:Av t2 n2 s2 < -1099511627776\/1099511627776<Av t2 n2 s2) :
 Calls prog 139 #[.string op,.agg #[.bool t1,.int .i64 n1,.string s1],.agg #[.bool t2,.int .i64 n2,.string s2]] w fun e w'=>e = .returned (vt (Ew 3))/\Below w.heap.size w w':=by
 have HBAD:Hid (Av t2 n2 s2 < -1099511627776\/1099511627776<Av t2 n2 s2):=hbad;have HOK:Hid (okN t1 n1 s1):=hok;clear hbad hok;go_enter func139,ntmps139
 go_wp2_with fail
 refine (Fg t1 n1 s1 _ z1 HOK.out.1 HOK.out.2).mono ?_;rintro e w1 ⟨rfl,hb⟩;obtain⟨hc,hf⟩:=Ar hb;have hz:w.heap.size+2<w1.heap.size:=by have:=hb.size;simp at this;omega
 have hz1:w.heap.size+1<w1.heap.size:=by omega
 have HB1:Hid (Below w.heap.size w w1):=Aa (by go_grown) hb;go_wp2_with fail
 refine (Gn t2 n2 s2 _ z2 HBAD.out).mono ?_;rintro e w2 ⟨rfl,hb2⟩;obtain⟨hc2,hf2⟩:=Ar hb2;go_wp2
 exact bodyPost_ret (v:= .tuple #[.agg #[.bool false,.int .i64 0,.string ⟨#[]⟩],.int .i64 3]) (by simp [results,results139,go_sem,hc,hc2,hz]) rfl ⟨rfl,A1 (Aa HB1.out hb2) (by omega) _ _ _⟩
theorem Abv (op:ByteArray) (t1:Bool) (n1:Int) (s1:ByteArray) (t2:Bool) (n2:Int) (s2:ByteArray) (w:World) (z1:s1.size<=200) (z2:s2.size<=200) (o1:(op.toList == [60])=false) (o2:(op.toList == [60,61])=false) (o3:(op.toList == [61,61])=false) (o4:(op.toList == [33,61])=false) (o5:(op.toList == [62])=false) (o6:(op.toList == [62,61])=false) (o7:(op.toList == [46,46])=false) (hok1:okN t1 n1 s1) (hok2:okN t2 n2 s2) :
 Calls prog 139 #[.string op,.agg #[.bool t1,.int .i64 n1,.string s1],.agg #[.bool t2,.int .i64 n2,.string s2]] w fun e w'=>e = .returned (vt (Py op.toList (Av t1 n1 s1) (Av t2 n2 s2)))/\Below w.heap.size w w':=by
 have HOK1:Hid (okN t1 n1 s1):=hok1;have HOK2:Hid (okN t2 n2 s2):=hok2;clear hok1 hok2;obtain⟨rt,rn,rs,re,hr⟩:∃rt rn rs re,Py op.toList (Av t1 n1 s1) (Av t2 n2 s2)=(rt,rn,rs,re):=⟨_,_,_,_,rfl⟩;have HR:Hid (Py op.toList (Av t1 n1 s1) (Av t2 n2 s2)=(rt,rn,rs,re)):=hr;clear hr;go_enter func139,ntmps139
 go_wp2_with fail
 refine (Fg t1 n1 s1 _ z1 HOK1.out.1 HOK1.out.2).mono ?_;rintro e w1 ⟨rfl,hb⟩;obtain⟨hc,hf⟩:=Ar hb;have hz:w.heap.size+2<w1.heap.size:=by have:=hb.size;simp at this;omega
 have hz1:w.heap.size+1<w1.heap.size:=by omega
 have HB1:Hid (Below w.heap.size w w1):=Aa (by go_grown) hb;go_wp2_with fail
 refine (Fg t2 n2 s2 _ z2 HOK2.out.1 HOK2.out.2).mono ?_;rintro e w2 ⟨rfl,hb2⟩;obtain⟨hc2,hf2⟩:=Ar hb2;have hy:w.heap.size+2<w2.heap.size:=by have:=hb2.size;omega
 have HB2:Hid (Below w.heap.size w w2):=Aa HB1.out hb2;go_wp2_with fail
 refine (Zg op (Av t1 n1 s1) (Av t2 n2 s2) _ HOK1.out.1 HOK1.out.2 HOK2.out.1 HOK2.out.2).mono ?_;rintro e w3 ⟨rfl,hb3⟩;rw [HR.out];obtain⟨hc3,hf3⟩:=Ar hb3;simp only [vt];go_wp2
 exact bodyPost_ret (v:= .tuple #[.agg #[.bool rt,.int .i64 rn,.string rs],.int .i64 re]) (by simp [results,results139,go_sem,hc,hc2,hc3,hz,hy]) rfl ⟨by rw [HR.out];rfl,A1 (Aa HB2.out hb3) (by omega) _ _ _⟩
def Ix (s t:ByteArray):R4:=if s.size+t.size<=200 then (true,0,s ++ t,0) else Ew 3
theorem Aeu (s t:ByteArray) (w:World) (hs:s.size<=200) (ht:t.size<=200) :
 Calls prog 170 #[.string s,.string t] w fun e w'=>e = .returned (vt (Ix s t))/\Below w.heap.size w w':=by
 by_cases h:s.size+t.size<=200
 . have e:Ix s t=(true,0,s ++ t,0):=if_pos h;rw [e];go_enter func170,ntmps170
   go_wp2
   go_returns
   exact⟨rfl,by go_grown⟩
 . have e:Ix s t=Ew 3:=if_neg h;rw [e];have h':200<s.size+t.size:=by omega
   go_enter func170,ntmps170
   go_wp2
   go_returns
   exact⟨rfl,by go_grown⟩
theorem Jy {t:Bool} {n:Int} {s:ByteArray} (h1: -1099511627776<=n) (h2:n<=1099511627776) (h:s.size<=200):(Cz t n s).size<=200:=by
 cases t
 . rw [Vr];have h3:=Rf n h1 h2;have h4:(⟨(Lib.itoa n).toArray⟩:ByteArray).size=(Lib.itoa n).length:=by simp [ByteArray.size]
   omega
 . exact h
theorem Wm (t1:Bool) (n1:Int) (s1:ByteArray) (t2:Bool) (n2:Int) (s2:ByteArray) (w:World) (z1:s1.size<=200) (z2:s2.size<=200) (h1: -1099511627776<=n1) (h2:n1<=1099511627776) (h3: -1099511627776<=n2) (h4:n2<=1099511627776) (hp:Pow w) :
 Calls prog 139 #[.string ⟨#[46,46]⟩,.agg #[.bool t1,.int .i64 n1,.string s1],.agg #[.bool t2,.int .i64 n2,.string s2]] w fun e w' =>
  e = .returned (vt (Ix (Cz t1 n1 s1) (Cz t2 n2 s2)))/\Below w.heap.size w w':=by
 have HP:Hid (Pow w):=hp;have HL1:Hid ((Cz t1 n1 s1).size<=200):=Jy h1 h2 z1;have HL2:Hid ((Cz t2 n2 s2).size<=200):=Jy h3 h4 z2;clear hp z1 z2;obtain⟨rt,rn,rs,re,hr⟩:∃rt rn rs re,Ix (Cz t1 n1 s1) (Cz t2 n2 s2)=(rt,rn,rs,re):=⟨_,_,_,_,rfl⟩;have HR:Hid (Ix (Cz t1 n1 s1) (Cz t2 n2 s2)=(rt,rn,rs,re)):=hr;clear hr;have hlt2:w.heap.size<w.heap.size+1+1+1:=by omega
 have hlt3:w.heap.size+1<w.heap.size+1+1+1:=by omega
 have hne1:¬w.heap.size+1+1=w.heap.size:=by omega
 have hne2:¬w.heap.size=w.heap.size+1+1:=by omega
 go_enter func139,ntmps139
 go_wp2_with fail
 go_region_held3 (fun w'=>w'.cell? ⟨w.heap.size,0,none⟩=some (.bool t1)/\w'.cell? ⟨w.heap.size,1,none⟩=some (.int .i64 n1)/\w'.cell? ⟨w.heap.size,2,none⟩=some (.string s1)/\w'.cell? ⟨w.heap.size+1,0,none⟩=some (.bool t2)/\w'.cell? ⟨w.heap.size+1,1,none⟩=some (.int .i64 n2)/\w'.cell? ⟨w.heap.size+1,2,none⟩=some (.string s2)) (go_keep) (first
  | (go_at_call_of 166 (Value.string s1);refine (Gu _ n1 s1 _ h1 h2 ?_).mono ?_;exact HP.out.stays (by go_grown);rintro e w1 ⟨rfl,hb⟩;obtain⟨hc,hf⟩:=Ar hb;have HB1:Hid (Below w.heap.size w w1):=Aa (by go_grown) hb;have hz:w.heap.size+2<w1.heap.size:=(by have:=hb.size;simp at this;omega);have hz1:w.heap.size+1<w1.heap.size:=(by omega);have hz0:w.heap.size<w1.heap.size:=(by omega))
  | (go_at_call_of 166 (Value.string s2);refine (Gu _ n2 s2 _ h3 h4 ?_).mono ?_;exact HP.out.stays HB1.out;rintro e w2 ⟨rfl,hb2⟩;obtain⟨hc2,hf2⟩:=Ar hb2;have HB2:Hid (Below w.heap.size w w2):=Aa HB1.out hb2;have hy:w.heap.size+2<w2.heap.size:=(by have:=hb2.size;omega);have hy1:w.heap.size+1<w2.heap.size:=(by omega);have hy0:w.heap.size<w2.heap.size:=(by omega))
  | (go_at_call 170;refine (Aeu _ _ _ HL1.out HL2.out).mono ?_;rintro e w3 ⟨rfl,hb3⟩;rw [HR.out];obtain⟨hc3,hf3⟩:=Ar hb3;have HB3:Hid (Below w.heap.size w w3):=Aa HB2.out hb3;simp only [vt]))
 go_wp2
 exact bodyPost_ret (v:= .tuple #[.agg #[.bool rt,.int .i64 rn,.string rs],.int .i64 re]) (by simp [results,results139,go_sem,hc,hc2,hc3,hz,hy]) rfl ⟨by rw [HR.out];rfl,A1 HB3.out (by omega) _ _ _⟩
def Qf (w:World) (b:Nat) (t:Bool) (n:Int) (s:ByteArray):Prop :=
 b<w.heap.size/\w.cell? ⟨b,0,none⟩=some (.bool t)/\w.cell? ⟨b,1,none⟩=some (.int .i64 n)/\w.cell? ⟨b,2,none⟩=some (.string s)
theorem Qf.below {w w':World} {b:Nat} {t:Bool} {n:Int} {s:ByteArray} (h:Qf w b t n s) (hb:Below w.heap.size w w'):Qf w' b t n s :=
 ⟨lle h.1 hb.size,(hb.cell (p:=⟨b,0,none⟩) h.1).trans h.2.1,(hb.cell (p:=⟨b,1,none⟩) h.1).trans h.2.2.1,(hb.cell (p:=⟨b,2,none⟩) h.1).trans h.2.2.2⟩
theorem Qf.new (w:World) (t:Bool) (n:Int) (s:ByteArray) (T:TypeId):Qf (w.alloc (.cells #[.bool t,.int .i64 n,.string s] T)) w.heap.size t n s :=
 ⟨by simp,by simp,by simp,by simp⟩
theorem Qf.over {w:World} {b:Nat} {t:Bool} {n:Int} {s:ByteArray} (h:Qf w b t n s) (o:Obj):Qf (w.alloc o) b t n s:=h.below (br0.alloc lr0 o)
def D8 (op:ByteArray) (t1:Bool) (n1:Int) (s1:ByteArray) (t2:Bool) (n2:Int) (s2:ByteArray):R4 :=
 if op.toList = [60]\/op.toList = [60,61]\/op.toList = [61,61]\/op.toList = [33,61]\/op.toList = [62]\/op.toList = [62,61] then
  rN (b2i (Xk op.data.toList (decide (M4 t1 n1 s1 t2 n2 s2<0)) (decide (M4 t1 n1 s1 t2 n2 s2=0))))
 else if op.toList = [46,46] then Ix (Cz t1 n1 s1) (Cz t2 n2 s2)
 else if (-1099511627776<=Av t1 n1 s1/\Av t1 n1 s1<=1099511627776)/\(-1099511627776<=Av t2 n2 s2/\Av t2 n2 s2<=1099511627776) then Py op.toList (Av t1 n1 s1) (Av t2 n2 s2)
 else Ew 3
theorem Xl {op:ByteArray} (h:op.toList = [60]\/op.toList = [60,61]\/op.toList = [61,61]\/op.toList = [33,61]\/op.toList = [62]\/op.toList = [62,61]):Uw op:=by
 rcases h with h | h | h | h | h | h
 . exact .inl (Eo h)
 . exact .inr (.inl (Eo h))
 . exact .inr (.inr (.inl (Eo h)))
 . exact .inr (.inr (.inr (.inl (Eo h))))
 . exact .inr (.inr (.inr (.inr (.inl (Eo h)))))
 . exact .inr (.inr (.inr (.inr (.inr (Eo h)))))
theorem bf {l m:List UInt8} (h:¬l=m):(l == m)=false:=by simp [h]
theorem Ahg (op:ByteArray) (t1:Bool) (n1:Int) (s1:ByteArray) (t2:Bool) (n2:Int) (s2:ByteArray) (w:World) (z1:s1.size<=200) (z2:s2.size<=200) (h1: -1099511627776<=n1) (h2:n1<=1099511627776) (h3: -1099511627776<=n2) (h4:n2<=1099511627776) (hp:Pow w) :
 Calls prog 139 #[.string op,.agg #[.bool t1,.int .i64 n1,.string s1],.agg #[.bool t2,.int .i64 n2,.string s2]] w fun e w'=>e = .returned (vt (D8 op t1 n1 s1 t2 n2 s2))/\Below w.heap.size w w':=by
 unfold D8;split
 . exact Y2 op (Xl ‹_›) t1 n1 s1 t2 n2 s2 w h1 h2 h3 h4 hp
 . rename_i ha;have a1:¬op.toList = [60]:=fun h=>ha (.inl h);have a2:¬op.toList = [60,61]:=fun h=>ha (.inr (.inl h));have a3:¬op.toList = [61,61]:=fun h=>ha (.inr (.inr (.inl h)));have a4:¬op.toList = [33,61]:=fun h=>ha (.inr (.inr (.inr (.inl h))));have a5:¬op.toList = [62]:=fun h=>ha (.inr (.inr (.inr (.inr (.inl h)))));have a6:¬op.toList = [62,61]:=fun h=>ha (.inr (.inr (.inr (.inr (.inr h)))));split
   . rename_i hj;rw [Eo hj];exact Wm t1 n1 s1 t2 n2 s2 w z1 z2 h1 h2 h3 h4 hp
   . rename_i hj;split
     . rename_i hk;exact Abv op t1 n1 s1 t2 n2 s2 w z1 z2 (bf a1) (bf a2) (bf a3) (bf a4) (bf a5) (bf a6) (bf hj) hk.1 hk.2
     . rename_i hk
       by_cases k1:okN t1 n1 s1
       . exact Abt op t1 n1 s1 t2 n2 s2 w z1 z2 (bf a1) (bf a2) (bf a3) (bf a4) (bf a5) (bf a6) (bf hj) k1 (Kt fun k2=>hk ⟨k1,k2⟩)
       . exact Abs op t1 n1 s1 t2 n2 s2 w z1 z2 (bf a1) (bf a2) (bf a3) (bf a4) (bf a5) (bf a6) (bf hj) (Kt k1)
theorem Ah1 {n:Int} {s:ByteArray} (h:0<s.size):vf false n s=4:=by simp [vf,h]
theorem no4 {n:Int} {s:ByteArray} (h:¬0<s.size):¬((false=true/\n ≠ 0)\/(false=false/\0<s.size)):=by
 rintro (⟨e,_⟩ | ⟨_,e⟩)
 . cases e
 . exact h e
theorem Ah0 {n:Int} {s:ByteArray} (h:¬0<s.size) (k:n < -1099511627776\/1099511627776<n):vf false n s=2:=by
 unfold vf;rw [if_neg (no4 h),if_pos (by omega)]
theorem Ahz {n:Int} {s:ByteArray} (h:¬0<s.size) (k: -1099511627776<=n) (l:n<=1099511627776):vf false n s=0:=by
 unfold vf;rw [if_neg (no4 h),if_neg (by omega),if_neg (by omega)]
theorem Ah5 {n:Int} {s:ByteArray} (h:¬n=0):vf true n s=4:=by simp [vf,h]
theorem Ah4 {s:ByteArray} (h:200<s.size):vf true 0 s=1:=by simp [vf,h]
theorem Ah3 {s:ByteArray} (h:¬200<s.size):vf true 0 s=0:=by simp [vf];omega
theorem Ah2 {t:Bool} {n:Int} {s:ByteArray} (h:vf t n s=0):(t=true/\n=0/\s.size<=200)\/(t=false/\s = ⟨#[]⟩ /\ -1099511627776<=n/\n<=1099511627776):=by
 cases t
 . by_cases h1:0<s.size
   . rw [Ah1 h1] at h;omega
   . by_cases h2:n < -1099511627776\/1099511627776<n
     . rw [Ah0 h1 h2] at h;omega
     . refine .inr ⟨rfl,?_,by omega,by omega⟩;have:s.data = #[]:=Array.eq_empty_of_size_eq_zero (by have:s.data.size=s.size:=rfl;omega);cases s;simp_all
 . by_cases h1:n=0
   . subst h1
     by_cases h2:200<s.size
     . rw [Ah4 h2] at h;omega
     . exact .inl ⟨rfl,rfl,by omega⟩
   . rw [Ah5 h1] at h;omega
def tr (t:Bool) (n:Int) (s:ByteArray):Bool:=if t then decide (0<s.size) else n != 0
theorem Aht {s:ByteArray}:tr false 0 s=false:=rfl
theorem Ahu {n:Int} {s:ByteArray} (h:¬n=0):tr false n s=true:=by simp [tr,h]
theorem Ahx {n:Int} {s:ByteArray} (h:0<s.size):tr true n s=true:=by simp [tr,h]
theorem Ahw {n:Int} {s:ByteArray} (h:¬0<s.size):tr true n s=false:=by unfold tr;rw [if_pos rfl];exact decide_eq_false h
theorem Aga (t:Bool) (n:Int) (s:ByteArray) (w:World) (hs:s.size<=maxLen) :
 Calls prog 107 #[.agg #[.bool t,.int .i64 n,.string s]] w fun e w'=>e = .returned (.bool (tr t n s))/\Below w.heap.size w w':=by
 unfold maxLen at hs;cases t
 . by_cases h:n=0
   . subst h;rw [Aht];go_enter func107,ntmps107
     go_wp2
     go_ret
     exact⟨rfl,br0.alloc lr0 _⟩
   . rw [Ahu h];have hb:(n != 0)=true:=by rw [bne_iff_ne];exact h
     go_enter func107,ntmps107
     go_wp2
     go_ret
     exact⟨rfl,br0.alloc lr0 _⟩
 . by_cases h:0<s.size
   . rw [Ahx h];have he:=Hz h;go_enter func107,ntmps107
     go_wp2
     go_ret
     exact⟨rfl,br0.alloc lr0 _⟩
   . rw [Ahw h];have he:=H0 h;go_enter func107,ntmps107
     go_wp2
     go_ret
     exact⟨rfl,br0.alloc lr0 _⟩
end Go.Proofs.YtppcohadoilpgaaGreatDoor
