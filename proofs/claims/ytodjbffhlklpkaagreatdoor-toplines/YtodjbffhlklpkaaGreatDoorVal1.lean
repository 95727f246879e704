/-
  Contracts of package value: numbers and texts, a value as text, as number, as a question, operators (P1.1 to P1.4).
-/
import Derived.Test.YtodjbffhlklpkaaGreatDoorGround
import Derived.Test.YtodjbffhlklpkaaGreatDoorShelf
import Derived.Test.YtodjbffhlklpkaaGreatDoorPrShelf
import Derived.Below
import Derived.ChangeOld
import Derived.Deep.RegionHeld3
import Derived.Handy
import Derived.Laws.BytesArg
import Derived.Lib.AppendIntMem
import Derived.Lib.Bytealg
import Derived.Lib.ItoaLen
import Derived.Lib.ItoaMem
import Derived.Lib.ItoaNum
import Derived.Lib.Small
import Derived.Lib.SmallJoins
import Derived.Lib.Strings
import Derived.Lib.TrimByte
import Derived.OpenShut
import Derived.ProofKit
import Derived.RowKit
import Derived.ShutString
import Derived.WalkKit
namespace Go.Proofs.YtodjbffhlklpkaaGreatDoor
open Go.ChangeShapes Go.WideShapes Go.ChangeAt Go.RowKit Go.Joins
set_option maxHeartbeats 2000000
set_option linter.unusedVariables false
def vf (t:Bool) (n:Int) (s:ByteArray):Int :=
 if (t=true/\n ≠ 0)\/(t=false/\0<s.size) then 4
 else if ¬(-1099511627776<=n/\n<=1099511627776) then 2
 else if 200<s.size then 1 else 0
theorem number_c (n:Int) (w:World) :
 Calls Tryz.prog 147 #[.int .i64 n] w fun e w'=>e = .returned (.agg #[.bool false,.int .i64 n,.string ⟨#[]⟩])/\Below w.heap.size w w':=by
 go_enter Tryz.func147,Tryz.ntmps147
 go_wp2
 exact bodyPost_ret (v:= .agg #[.bool false,.int .i64 n,.string ⟨#[]⟩]) (by simp [results,Tryz.results147,go_sem]) rfl ⟨rfl,by
  repeat (first | exact Below.refl _ _ | refine Below.setCell ?_ (by simp) _ | refine Below.alloc ?_ (by simp) _)⟩
theorem text_c (s:ByteArray) (w:World) :
 Calls Tryz.prog 148 #[.string s] w fun e w'=>e = .returned (.agg #[.bool true,.int .i64 0,.string s])/\Below w.heap.size w w':=by
 go_enter Tryz.func148,Tryz.ntmps148
 go_wp2
 exact bodyPost_ret (v:= .agg #[.bool true,.int .i64 0,.string s]) (by simp [results,Tryz.results148,go_sem]) rfl ⟨rfl,by
  repeat (first | exact Below.refl _ _ | refine Below.setCell ?_ (by simp) _ | refine Below.alloc ?_ (by simp) _)⟩
abbrev R4:=Bool × Int × ByteArray × Int
def vt (r:R4):Value:= .tuple #[.agg #[.bool r.1,.int .i64 r.2.1,.string r.2.2.1],.int .i64 r.2.2.2]
def rN (x:Int):R4:=(false,x,⟨#[]⟩,0)
def rEnd (e:Int):R4:=(false,0,⟨#[]⟩,e)
def bnd (x:Int):R4:=if -1099511627776<=x/\x<=1099511627776 then rN x else rEnd 3
theorem bnd_ok {x:Int} (h1: -1099511627776<=x) (h2:x<=1099511627776):bnd x=rN x:=if_pos ⟨h1,h2⟩
theorem bnd_bad {x:Int} (h:x < -1099511627776\/1099511627776<x):bnd x=rEnd 3:=if_neg (by omega)
theorem ret_rN (x:Int) {r:R4} (h:r=rN x):Ending.returned (.tuple #[.agg #[.bool false,.int .i64 x,.string ⟨#[]⟩],.int .i64 0]) = .returned (vt r):=by rw [h];rfl
theorem ret_rE (e:Int) {r:R4} (h:r=rEnd e):Ending.returned (.tuple #[.agg #[.bool false,.int .i64 0,.string ⟨#[]⟩],.int .i64 e]) = .returned (vt r):=by rw [h];rfl
theorem tdiv_bd (x y:Int) (h1: -1099511627776<=x) (h2:x<=1099511627776): -1099511627776<=x.tdiv y/\x.tdiv y<=1099511627776:=by
 have h:(x.tdiv y).natAbs<=x.natAbs:=by rw [Int.natAbs_tdiv];exact Nat.div_le_self _ _
 omega
theorem tmod_bd (x y:Int) (h1: -1099511627776<=x) (h2:x<=1099511627776): -1099511627776<=x.tmod y/\x.tmod y<=1099511627776:=by
 have h:(x.tmod y).natAbs<=x.natAbs:=by rw [Int.natAbs_tmod];exact Nat.mod_le _ _
 omega
theorem bounded_c (x:Int) (w:World) :
 Calls Tryz.prog 190 #[.int .i64 x] w fun e w'=>e = .returned (vt (bnd x))/\Below w.heap.size w w':=by
 by_cases h1:x < -1099511627776
 . go_enter Tryz.func190,Tryz.ntmps190
   go_wp2
   go_returns
   exact⟨ret_rE 3 (bnd_bad (.inl h1)),by go_grown⟩
 . by_cases h2:1099511627776<x
   . have h1': -1099511627776<=x:=by omega
     have hd:decide (x<=1099511627776)=false:=by simp;omega
     go_enter Tryz.func190,Tryz.ntmps190
     go_wp2
     go_returns
     exact⟨ret_rE 3 (bnd_bad (.inr h2)),by go_grown⟩
   . have h1': -1099511627776<=x:=by omega
     have h2':x<=1099511627776:=by omega
     go_enter Tryz.func190,Tryz.ntmps190
     go_wp2
     go_returns
     exact⟨ret_rN x (bnd_ok h1' h2'),by go_grown⟩
theorem over_nat (a b M:Nat) (ha:0<a):M / a<b ↔ M<b * a:=Nat.div_lt_iff_lt_mul ha
theorem amount_div (m:Int):(1099511627776:Int) / (m.natAbs:Int)=((1099511627776 / m.natAbs:Nat):Int):=rfl
theorem prod_bad {m n:Int} (hm:m ≠ 0) (h:(1099511627776:Int) / (m.natAbs:Int)<(n.natAbs:Int)):bnd (m * n)=rEnd 3:=by
 rw [amount_div m] at h
 have h1:1099511627776<n.natAbs * m.natAbs:=(over_nat _ _ _ (by omega)).1 (by omega)
 rw [Nat.mul_comm,<-Int.natAbs_mul] at h1
 exact bnd_bad (by omega)
theorem prod_ok {m n:Int} (h:m=0\/(n.natAbs:Int)<=(1099511627776:Int) / (m.natAbs:Int)):(-1099511627776<=m * n/\m * n<=1099511627776):=by
 rcases h with rfl | h
 . simp
 . by_cases hm:m=0
   . subst hm;simp
   . rw [amount_div m] at h
     have h1:¬1099511627776<n.natAbs * m.natAbs:=fun h2=>by have:=(over_nat m.natAbs n.natAbs 1099511627776 (by omega)).2 h2;omega
     rw [Nat.mul_comm,<-Int.natAbs_mul] at h1
     omega
theorem amount_c (n:Int) (w:World) (h1: -1099511627776<=n) (h2:n<=1099511627776) :
 Calls Tryz.prog 200 #[.int .i64 n] w fun e w'=>e = .returned (.int .i64 (n.natAbs:Int))/\w'=w:=by
 by_cases h:n<0
 . go_enter Tryz.func200,Tryz.ntmps200
   go_wp2
   go_ret
   exact⟨ret_int (by omega),rfl⟩
 . go_enter Tryz.func200,Tryz.ntmps200
   go_wp2
   go_ret
   exact⟨ret_int (by omega),rfl⟩
theorem vproduct_c (m n:Int) (w:World) (h1: -1099511627776<=m) (h2:m<=1099511627776) (h3: -1099511627776<=n) (h4:n<=1099511627776) :
 Calls Tryz.prog 191 #[.int .i64 m,.int .i64 n] w fun e w'=>e = .returned (vt (bnd (m * n)))/\Below w.heap.size w w':=by
 by_cases hm:m=0
 . subst hm
   have H:Hid (bnd (0 * n)=rN 0):=by rw [Int.zero_mul];rfl
   go_enter Tryz.func191,Tryz.ntmps191
   go_wp2
   go_returns
   exact⟨ret_rN 0 (by first | exact H.out | rfl),by go_grown⟩
 . have hne:(m != 0)=true:=by rw [bne_iff_ne];exact hm
   have ha:1<=(m.natAbs:Int):=by omega
   have hb:(m.natAbs:Int)<=1099511627776:=by omega
   by_cases h:(1099511627776:Int) / (m.natAbs:Int)<(n.natAbs:Int)
   . have H:Hid (bnd (m * n)=rEnd 3):=prod_bad hm h
     clear hm
     go_enter Tryz.func191,Tryz.ntmps191
     go_wp2_with fail
     refine (amount_c n _ h3 h4).mono ?_
     rintro e w1 ⟨rfl,rfl⟩
     go_wp2_with fail
     refine (amount_c m _ h1 h2).mono ?_
     rintro e w1 ⟨rfl,rfl⟩
     go_wp2
     go_returns
     exact⟨ret_rE 3 H.out,by go_grown⟩
   . have H:=prod_ok (m:=m) (n:=n) (.inr (by omega))
     have H1:=H.1
     have H2:=H.2
     clear hm H
     go_enter Tryz.func191,Tryz.ntmps191
     go_wp2_with fail
     refine (amount_c n _ h3 h4).mono ?_
     rintro e w1 ⟨rfl,rfl⟩
     go_wp2_with fail
     refine (amount_c m _ h1 h2).mono ?_
     rintro e w1 ⟨rfl,rfl⟩
     go_wp2
     go_returns
     exact⟨ret_rN (m * n) (bnd_ok H1 H2),by go_grown⟩
theorem itoa_len (n:Int) (h0: -1099511627776<=n) (h1:n<=1099511627776):(Lib.itoa n).length<=21:=Lib.itoa_length_le n (by omega) (by omega)
def strOf (t:Bool) (n:Int) (s:ByteArray):ByteArray:=if t then s else ⟨(Lib.itoa n).toArray⟩
theorem strOf_t (n:Int) (s:ByteArray):strOf true n s=s:=rfl
theorem strOf_f (n:Int) (s:ByteArray):strOf false n s = ⟨(Lib.itoa n).toArray⟩:=rfl
theorem str_c (t:Bool) (n:Int) (s:ByteArray) (w:World) (h0: -1099511627776<=n) (h1:n<=1099511627776) (hp:Pow w) :
 Calls Tryz.prog 172 #[.agg #[.bool t,.int .i64 n,.string s]] w fun e w'=>e = .returned (.string (strOf t n s))/\Below w.heap.size w w':=by
 cases t
 . rw [strOf_f]
   go_enter Tryz.func172,Tryz.ntmps172
   go_wp2_with fail
   refine (Tryz.strconv_Itoa n (by omega) (by omega) _ (hp.stays ((Below.refl _ _).alloc (Nat.le_refl _) _))).mono ?_
   rintro e w1 ⟨rfl,hg⟩
   have hb:=below_grown_k hg
   clear hg
   go_wp2_with fail
   go_ret
   exact⟨rfl,bl_trans ((Below.refl _ _).alloc (Nat.le_refl _) _) hb⟩
 . rw [strOf_t]
   go_enter Tryz.func172,Tryz.ntmps172
   go_wp2_with fail
   go_ret
   exact⟨rfl,(Below.refl _ _).alloc (Nat.le_refl _) _⟩
def ordV (t1:Bool) (n1:Int) (s1:ByteArray) (t2:Bool) (n2:Int) (s2:ByteArray):Int :=
 if t1=false/\t2=false then Lib.compareInt n1 n2 else Lib.compareBytes (strOf t1 n1 s1).data.toList (strOf t2 n2 s2).data.toList
theorem ordV_n (n1:Int) (s1:ByteArray) (n2:Int) (s2:ByteArray):ordV false n1 s1 false n2 s2=Lib.compareInt n1 n2:=if_pos ⟨rfl,rfl⟩
theorem ordV_s {t1 t2:Bool} (n1:Int) (s1:ByteArray) (n2:Int) (s2:ByteArray) (h:t1=true\/t2=true) :
 ordV t1 n1 s1 t2 n2 s2=Lib.compareBytes (strOf t1 n1 s1).data.toList (strOf t2 n2 s2).data.toList:=if_neg (by rcases h with rfl | rfl <;> simp)
theorem order_n (n1:Int) (s1:ByteArray) (n2:Int) (s2:ByteArray) (w:World) :
 Calls Tryz.prog 175 #[.agg #[.bool false,.int .i64 n1,.string s1],.agg #[.bool false,.int .i64 n2,.string s2]] w fun e w'=>e = .returned (.int .i64 (ordV false n1 s1 false n2 s2))/\Below w.heap.size w w':=by
 rw [ordV_n]
 go_enter Tryz.func175,Tryz.ntmps175
 go_wp2_with fail
 refine (Tryz.cmp_Compare_int n1 n2 _).mono ?_
 rintro e w1 ⟨rfl,rfl⟩
 go_wp2_with fail
 go_ret
 exact⟨rfl,by go_grown⟩
theorem order_s1 (t2:Bool) (n1:Int) (s1:ByteArray) (n2:Int) (s2:ByteArray) (w:World) (h1: -1099511627776<=n1) (h2:n1<=1099511627776) (h3: -1099511627776<=n2) (h4:n2<=1099511627776) (hp:Pow w) :
 Calls Tryz.prog 175 #[.agg #[.bool true,.int .i64 n1,.string s1],.agg #[.bool t2,.int .i64 n2,.string s2]] w fun e w'=>e = .returned (.int .i64 (ordV true n1 s1 t2 n2 s2))/\Below w.heap.size w w':=by
 rw [ordV_s n1 s1 n2 s2 (by simp)]
 have HP:Hid (Pow w):=hp
 clear hp
 have hlt2:w.heap.size<w.heap.size+1+1:=by omega
 go_enter Tryz.func175,Tryz.ntmps175
 go_wp2_with fail
 go_region_held3 (fun w'=>w'.cell? ⟨w.heap.size,0,none⟩=some (.bool true)/\w'.cell? ⟨w.heap.size,1,none⟩=some (.int .i64 n1)/\w'.cell? ⟨w.heap.size,2,none⟩=some (.string s1)/\w'.cell? ⟨w.heap.size+1,0,none⟩=some (.bool t2)/\w'.cell? ⟨w.heap.size+1,1,none⟩=some (.int .i64 n2)/\w'.cell? ⟨w.heap.size+1,2,none⟩=some (.string s2)) (go_keep) (first
  | (go_at_call_of 172 (Value.string s1);refine (str_c _ n1 s1 _ h1 h2 ?_).mono ?_;exact HP.out.stays (by go_grown);rintro e w1 ⟨rfl,hb⟩;obtain⟨hc,hf⟩:=bcell hb;have HB1:Hid (Below w.heap.size w w1):=bl_trans (by go_grown) hb)
  | (go_at_call_of 172 (Value.string s2);refine (str_c _ n2 s2 _ h3 h4 ?_).mono ?_;exact HP.out.stays HB1.out;rintro e w2 ⟨rfl,hb2⟩;obtain⟨hc2,hf2⟩:=bcell hb2;have hz:w.heap.size+1<w1.heap.size:=(by have:=hb.size;simp at this;omega);have hz0:w.heap.size<w1.heap.size:=(by omega);have HB2:Hid (Below w.heap.size w w2):=bl_trans HB1.out hb2)
  | (go_at_call 189;refine (Tryz.strings_Compare _ _ _).mono ?_;rintro e w3 ⟨rfl,rfl⟩))
 all_goals go_wp2
 all_goals go_ret
 all_goals exact⟨rfl,HB2.out⟩
theorem order_s2 (n1:Int) (s1:ByteArray) (n2:Int) (s2:ByteArray) (w:World) (h1: -1099511627776<=n1) (h2:n1<=1099511627776) (h3: -1099511627776<=n2) (h4:n2<=1099511627776) (hp:Pow w) :
 Calls Tryz.prog 175 #[.agg #[.bool false,.int .i64 n1,.string s1],.agg #[.bool true,.int .i64 n2,.string s2]] w fun e w'=>e = .returned (.int .i64 (ordV false n1 s1 true n2 s2))/\Below w.heap.size w w':=by
 rw [ordV_s n1 s1 n2 s2 (by simp)]
 have HP:Hid (Pow w):=hp
 clear hp
 have hlt2:w.heap.size<w.heap.size+1+1:=by omega
 go_enter Tryz.func175,Tryz.ntmps175
 go_wp2_with fail
 go_region_held3 (fun w'=>w'.cell? ⟨w.heap.size,0,none⟩=some (.bool false)/\w'.cell? ⟨w.heap.size,1,none⟩=some (.int .i64 n1)/\w'.cell? ⟨w.heap.size,2,none⟩=some (.string s1)/\w'.cell? ⟨w.heap.size+1,0,none⟩=some (.bool true)/\w'.cell? ⟨w.heap.size+1,1,none⟩=some (.int .i64 n2)/\w'.cell? ⟨w.heap.size+1,2,none⟩=some (.string s2)) (go_keep) (first
  | (go_at_call_of 172 (Value.string s1);refine (str_c _ n1 s1 _ h1 h2 ?_).mono ?_;exact HP.out.stays (by go_grown);rintro e w1 ⟨rfl,hb⟩;obtain⟨hc,hf⟩:=bcell hb;have HB1:Hid (Below w.heap.size w w1):=bl_trans (by go_grown) hb)
  | (go_at_call_of 172 (Value.string s2);refine (str_c _ n2 s2 _ h3 h4 ?_).mono ?_;exact HP.out.stays HB1.out;rintro e w2 ⟨rfl,hb2⟩;obtain⟨hc2,hf2⟩:=bcell hb2;have hz:w.heap.size+1<w1.heap.size:=(by have:=hb.size;simp at this;omega);have hz0:w.heap.size<w1.heap.size:=(by omega);have HB2:Hid (Below w.heap.size w w2):=bl_trans HB1.out hb2)
  | (go_at_call 189;refine (Tryz.strings_Compare _ _ _).mono ?_;rintro e w3 ⟨rfl,rfl⟩))
 all_goals go_wp2
 all_goals go_ret
 all_goals exact⟨rfl,HB2.out⟩
theorem order_c (t1:Bool) (n1:Int) (s1:ByteArray) (t2:Bool) (n2:Int) (s2:ByteArray) (w:World) (h1: -1099511627776<=n1) (h2:n1<=1099511627776) (h3: -1099511627776<=n2) (h4:n2<=1099511627776) (hp:Pow w) :
 Calls Tryz.prog 175 #[.agg #[.bool t1,.int .i64 n1,.string s1],.agg #[.bool t2,.int .i64 n2,.string s2]] w fun e w'=>e = .returned (.int .i64 (ordV t1 n1 s1 t2 n2 s2))/\Below w.heap.size w w':=by
 cases t1
 . cases t2
   . exact order_n n1 s1 n2 s2 w
   . exact order_s2 n1 s1 n2 s2 w h1 h2 h3 h4 hp
 . exact order_s1 t2 n1 s1 n2 s2 w h1 h2 h3 h4 hp
def AskOp (op:ByteArray):Prop:=op = ⟨#[60]⟩\/op = ⟨#[60,61]⟩\/op = ⟨#[61,61]⟩\/op = ⟨#[33,61]⟩\/op = ⟨#[62]⟩\/op = ⟨#[62,61]⟩
def askL (l:List UInt8) (L S:Bool):Bool :=
 if l = [60] then L else if l = [60,61] then L || S else if l = [61,61] then S else if l = [33,61] then !S else if l = [62] then !L && !S else !L
theorem isSo_c (op:ByteArray) (hop:AskOp op) (o:Int) (w:World) :
 Calls Tryz.prog 174 #[.string op,.int .i64 o] w fun e w'=>e = .returned (.bool (askL op.data.toList (decide (o<0)) (decide (o=0))))/\w'=w:=by
 rcases Int.lt_trichotomy o 0 with h | h | h
 . have d1:decide (o<0)=true:=by simp;omega
   have d2:decide (o=0)=false:=by simp;omega
   rw [d1,d2]
   clear d1 d2
   obtain rfl | rfl | rfl | rfl | rfl | rfl:=hop
   all_goals go_enter Tryz.func174,Tryz.ntmps174
   all_goals go_wp2
   all_goals go_ret
   all_goals exact⟨ret_bool (by first | rfl | (simp [askL];omega)),rfl⟩
 . subst h
   obtain rfl | rfl | rfl | rfl | rfl | rfl:=hop
   all_goals go_enter Tryz.func174,Tryz.ntmps174
   all_goals go_wp2
   all_goals go_ret
   all_goals exact⟨rfl,rfl⟩
 . have d1:decide (o<0)=false:=by simp;omega
   have d2:decide (o=0)=false:=by simp;omega
   rw [d1,d2]
   clear d1 d2
   obtain rfl | rfl | rfl | rfl | rfl | rfl:=hop
   all_goals go_enter Tryz.func174,Tryz.ntmps174
   all_goals go_wp2
   all_goals go_ret
   all_goals exact⟨ret_bool (by first | rfl | (simp [askL];omega)),rfl⟩
def reck (l:List UInt8) (m n:Int):R4 :=
 if l = [43] then bnd (m+n) else if l = [45] then bnd (m - n) else if l = [42] then bnd (m * n) else if n=0 then rEnd 2 else if l = [47] then rN (m.tdiv n) else rN (m.tmod n)
theorem reckon_add (m n:Int) (w:World) (h1: -1099511627776<=m) (h2:m<=1099511627776) (h3: -1099511627776<=n) (h4:n<=1099511627776) :
 Calls Tryz.prog 177 #[.string ⟨#[43]⟩,.int .i64 m,.int .i64 n] w fun e w'=>e = .returned (vt (bnd (m+n)))/\Below w.heap.size w w':=by
 obtain⟨rt,rn,rs,re,hr⟩:∃rt rn rs re,bnd (m+n)=(rt,rn,rs,re):=⟨_,_,_,_,rfl⟩
 have HR:Hid (bnd (m+n)=(rt,rn,rs,re)):=hr
 clear hr
 go_enter Tryz.func177,Tryz.ntmps177
 go_wp2_with fail
 refine (bounded_c (m+n) _).mono ?_
 rintro e w1 ⟨rfl,hb⟩
 rw [HR.out]
 obtain⟨hc,hf⟩:=bcell hb
 have hz:w.heap.size<w1.heap.size:=by have:=hb.size;simp at this;omega
 simp only [vt]
 go_wp2
 exact bodyPost_ret (v:= .tuple #[.agg #[.bool rt,.int .i64 rn,.string rs],.int .i64 re]) (by simp [results,Tryz.results177,go_sem,hc]) rfl ⟨by rw [HR.out];rfl,by
  refine Below.setCell (Below.setCell (Below.setCell ?_ (by simp) _) (by simp) _) (by simp) _
  exact bl_trans (by go_grown) hb⟩
theorem reckon_sub (m n:Int) (w:World) (h1: -1099511627776<=m) (h2:m<=1099511627776) (h3: -1099511627776<=n) (h4:n<=1099511627776) :
 Calls Tryz.prog 177 #[.string ⟨#[45]⟩,.int .i64 m,.int .i64 n] w fun e w'=>e = .returned (vt (bnd (m - n)))/\Below w.heap.size w w':=by
 obtain⟨rt,rn,rs,re,hr⟩:∃rt rn rs re,bnd (m - n)=(rt,rn,rs,re):=⟨_,_,_,_,rfl⟩
 have HR:Hid (bnd (m - n)=(rt,rn,rs,re)):=hr
 clear hr
 go_enter Tryz.func177,Tryz.ntmps177
 go_wp2_with fail
 refine (bounded_c (m - n) _).mono ?_
 rintro e w1 ⟨rfl,hb⟩
 rw [HR.out]
 obtain⟨hc,hf⟩:=bcell hb
 have hz:w.heap.size<w1.heap.size:=by have:=hb.size;simp at this;omega
 simp only [vt]
 go_wp2
 exact bodyPost_ret (v:= .tuple #[.agg #[.bool rt,.int .i64 rn,.string rs],.int .i64 re]) (by simp [results,Tryz.results177,go_sem,hc]) rfl ⟨by rw [HR.out];rfl,by
  refine Below.setCell (Below.setCell (Below.setCell ?_ (by simp) _) (by simp) _) (by simp) _
  exact bl_trans (by go_grown) hb⟩
theorem reckon_mul (m n:Int) (w:World) (h1: -1099511627776<=m) (h2:m<=1099511627776) (h3: -1099511627776<=n) (h4:n<=1099511627776) :
 Calls Tryz.prog 177 #[.string ⟨#[42]⟩,.int .i64 m,.int .i64 n] w fun e w'=>e = .returned (vt (bnd (m * n)))/\Below w.heap.size w w':=by
 obtain⟨rt,rn,rs,re,hr⟩:∃rt rn rs re,bnd (m * n)=(rt,rn,rs,re):=⟨_,_,_,_,rfl⟩
 have HR:Hid (bnd (m * n)=(rt,rn,rs,re)):=hr
 clear hr
 go_enter Tryz.func177,Tryz.ntmps177
 go_wp2_with fail
 refine (vproduct_c m n _ h1 h2 h3 h4).mono ?_
 rintro e w1 ⟨rfl,hb⟩
 rw [HR.out]
 obtain⟨hc,hf⟩:=bcell hb
 have hz:w.heap.size<w1.heap.size:=by have:=hb.size;simp at this;omega
 simp only [vt]
 go_wp2
 exact bodyPost_ret (v:= .tuple #[.agg #[.bool rt,.int .i64 rn,.string rs],.int .i64 re]) (by simp [results,Tryz.results177,go_sem,hc]) rfl ⟨by rw [HR.out];rfl,by
  refine Below.setCell (Below.setCell (Below.setCell ?_ (by simp) _) (by simp) _) (by simp) _
  exact bl_trans (by go_grown) hb⟩
theorem reckon_div (m n:Int) (w:World) (h1: -1099511627776<=m) (h2:m<=1099511627776) (h3: -1099511627776<=n) (h4:n<=1099511627776) :
 Calls Tryz.prog 177 #[.string ⟨#[47]⟩,.int .i64 m,.int .i64 n] w fun e w'=>e = .returned (vt (if n=0 then rEnd 2 else rN (m.tdiv n)))/\Below w.heap.size w w':=by
 by_cases h:n=0
 . rw [if_pos h]
   subst h
   go_enter Tryz.func177,Tryz.ntmps177
   go_wp2
   go_returns
   exact⟨ret_rE 2 rfl,by go_grown⟩
 . rw [if_neg h]
   obtain⟨k1,k2⟩:=tdiv_bd m n h1 h2
   have hn:(n == 0)=false:=by simp [h]
   go_enter Tryz.func177,Tryz.ntmps177
   go_wp2
   go_returns
   exact⟨ret_rN _ rfl,by go_grown⟩
theorem reckon_rem (op:ByteArray) (m n:Int) (w:World) (h1: -1099511627776<=m) (h2:m<=1099511627776) (h3: -1099511627776<=n) (h4:n<=1099511627776) (o1:(op.toList == [43])=false) (o2:(op.toList == [45])=false) (o3:(op.toList == [42])=false) (o4:(op.toList == [47])=false) :
 Calls Tryz.prog 177 #[.string op,.int .i64 m,.int .i64 n] w fun e w'=>e = .returned (vt (if n=0 then rEnd 2 else rN (m.tmod n)))/\Below w.heap.size w w':=by
 by_cases h:n=0
 . rw [if_pos h]
   subst h
   go_enter Tryz.func177,Tryz.ntmps177
   go_wp2
   go_returns
   exact⟨ret_rE 2 rfl,by go_grown⟩
 . rw [if_neg h]
   obtain⟨k1,k2⟩:=tmod_bd m n h1 h2
   have hn:(n == 0)=false:=by simp [h]
   go_enter Tryz.func177,Tryz.ntmps177
   go_wp2
   go_returns
   exact⟨ret_rN _ rfl,by go_grown⟩
theorem op_of {op:ByteArray} {l:List UInt8} (h:op.toList=l):op = ⟨l.toArray⟩:=by
 rw [ByteArray.toList_eq] at h
 cases op;subst h;rfl
theorem reckon_c (op:ByteArray) (m n:Int) (w:World) (h1: -1099511627776<=m) (h2:m<=1099511627776) (h3: -1099511627776<=n) (h4:n<=1099511627776) :
 Calls Tryz.prog 177 #[.string op,.int .i64 m,.int .i64 n] w fun e w'=>e = .returned (vt (reck op.toList m n))/\Below w.heap.size w w':=by
 by_cases o1:op.toList = [43]
 . rw [o1,op_of o1];exact reckon_add m n w h1 h2 h3 h4
 by_cases o2:op.toList = [45]
 . rw [o2,op_of o2];exact reckon_sub m n w h1 h2 h3 h4
 by_cases o3:op.toList = [42]
 . rw [o3,op_of o3];exact reckon_mul m n w h1 h2 h3 h4
 by_cases o4:op.toList = [47]
 . rw [o4,op_of o4];exact reckon_div m n w h1 h2 h3 h4
 have e:reck op.toList m n=if n=0 then rEnd 2 else rN (m.tmod n):=by
  unfold reck;rw [if_neg o1,if_neg o2,if_neg o3,if_neg o4]
 rw [e]
 exact reckon_rem op m n w h1 h2 h3 h4 (by simp [o1]) (by simp [o2]) (by simp [o3]) (by simp [o4])
def acc:Int->List UInt8->Int
 | n,[]=>n
 | n,c :: r=>if (48<=(c.toNat:Int)/\(c.toNat:Int)<=57)/\n<=1099511627776 then acc (n * 10+((c.toNat:Int) - 48)) r else n
theorem acc_nil (n:Int):acc n []=n:=rfl
theorem acc_step {n:Int} {c:UInt8} {r:List UInt8} (h1:48<=(c.toNat:Int)) (h2:(c.toNat:Int)<=57) (h3:n<=1099511627776):acc n (c :: r)=acc (n * 10+((c.toNat:Int) - 48)) r:=by
 rw [acc,if_pos ⟨⟨h1,h2⟩,h3⟩]
theorem acc_stop {n:Int} {c:UInt8} {r:List UInt8} (h:(c.toNat:Int)<48\/57<(c.toNat:Int)\/1099511627776<n):acc n (c :: r)=n:=by
 rw [acc,if_neg (by omega)]
theorem drop_cons (s:ByteArray) (k:Nat) (h:k<s.size):s.data.toList.drop k=s[k] :: s.data.toList.drop (k+1):=by
 rw [List.drop_eq_getElem_cons (by simpa using h)];rfl
theorem drop_all (s:ByteArray) (k:Nat) (h:¬k<s.size):s.data.toList.drop k = []:=List.drop_eq_nil_of_le (by simp;omega)
def lead (l:List UInt8):Int :=
 if Lib.hasPrefix (Lib.trimLeftB l 32) [45] then -acc 0 (Lib.trimPrefix (Lib.trimLeftB l 32) [45]) else acc 0 (Lib.trimPrefix (Lib.trimLeftB l 32) [45])
theorem trimmed_len (l:List UInt8) (c:UInt8) (p:List UInt8):(Lib.trimPrefix (Lib.trimLeftB l c) p).length<=l.length:=by
 have h1:(Lib.trimLeftB l c).length<=l.length:=by unfold Lib.trimLeftB;exact (List.dropWhile_suffix _).length_le
 unfold Lib.trimPrefix
 split
 . rw [List.length_drop];omega
 . exact h1
theorem cut_ex (l:List UInt8):∃(dg:ByteArray) (mi:Bool),dg.data.toList=Lib.trimPrefix l [45]/\mi=Lib.hasPrefix l [45] /\
 ∀w:World,Calls Tryz.prog 196 #[.string ⟨l.toArray⟩,.string ⟨#[45]⟩] w fun e w'=>e = .returned (.tuple #[.string dg,.bool mi])/\w'=w :=
 ⟨⟨(Lib.trimPrefix l [45]).toArray⟩,_,rfl,rfl,fun w=>Tryz.strings_CutPrefix ⟨l.toArray⟩ ⟨#[45]⟩ w⟩
theorem lead_c (s:ByteArray) (w:World) (hs:s.size<=200) :
 Calls Tryz.prog 186 #[.string s] w fun e w'=>e = .returned (.int .i64 (lead s.data.toList))/\w'=w:=by
 obtain⟨dg,mi,hdg,hmi,hcut⟩:=cut_ex (Lib.trimLeftB s.data.toList 32)
 have hsz:dg.size<=200:=by
  have h1:=trimmed_len s.data.toList 32 [45]
  have h2:dg.data.toList.length=dg.size:=by simp
  have h3:s.data.toList.length=s.size:=by simp
  rw [hdg] at h2
  omega
 have HF:Hid (lead s.data.toList=if mi then -acc 0 dg.data.toList else acc 0 dg.data.toList):=by
  show _=_
  rw [hdg,hmi];rfl
 have HC:Hid _:=hcut
 clear hcut hdg hmi hs
 go_enter Tryz.func186,Tryz.ntmps186
 go_wp2_with fail
 refine (Tryz.strings_TrimLeft_one s 32 (by decide) _).mono ?_
 rintro e w1 ⟨rfl,rfl⟩
 go_wp2_with fail
 refine (HC.out _).mono ?_
 rintro e w1 ⟨rfl,rfl⟩
 go_wp2_with fail
 go_loop [5,6] (fun n i=>∃(k:Nat) (m:Int),k<=dg.size/\0<=m/\m<=10995116277769/\i = .int .i64 k/\n = .int .i64 m/\Hid (acc m (dg.data.toList.drop k)=acc 0 dg.data.toList)) (fun _ i=>dg.size - (intOf i).toNat)
 case atStart=>exact⟨0,0,Nat.zero_le _,by omega,by omega,rfl,rfl,rfl⟩
 case round =>
  obtain⟨k,m,hk,hm0,hm1,rfl,rfl,HA⟩:=hrel
  by_cases hlt:k<dg.size
  . have HD:Hid (dg.data.toList.drop k=dg[k] :: dg.data.toList.drop (k+1)):=drop_cons dg k hlt
    by_cases hc:(48<=(dg[k].toNat:Int)/\(dg[k].toNat:Int)<=57)/\m<=1099511627776
    . obtain⟨⟨hc1,hc2⟩,hc3⟩:=hc
      have hc0: -1099511627776<=m:=by omega
      go_wp2
      go_round
      case rel=>exact⟨k+1,m * 10+((dg[k].toNat:Int) - 48),by omega,by omega,by omega,by go_num,by go_num,by
       have h1:=HA.out;rw [HD.out,acc_step hc1 hc2 hc3] at h1;exact h1⟩
      case measure=>simp [intOf];omega
    . have HS:Hid (acc 0 dg.data.toList=m):=by
       have h1:=HA.out
       rw [HD.out,acc_stop (by omega)] at h1
       exact h1.symm
      by_cases ha:(dg[k].toNat:Int)<48
      . have hb:¬48<=(dg[k].toNat:Int):=by omega
        clear hc
        cases mi
        . go_wp2
          go_ret
          exact⟨ret_int (by rw [HF.out,HS.out];rfl),rfl⟩
        . go_wp2
          go_ret
          exact⟨ret_int (by rw [HF.out,HS.out];rfl),rfl⟩
      . by_cases hb:57<(dg[k].toNat:Int)
        . have ha':48<=(dg[k].toNat:Int):=by omega
          have hd:decide ((dg[k].toNat:Int)<=57)=false:=by simp;omega
          clear hc
          cases mi
          . go_wp2
            go_ret
            exact⟨ret_int (by rw [HF.out,HS.out];rfl),rfl⟩
          . go_wp2
            go_ret
            exact⟨ret_int (by rw [HF.out,HS.out];rfl),rfl⟩
        . have ha':48<=(dg[k].toNat:Int):=by omega
          have hb':(dg[k].toNat:Int)<=57:=by omega
          have hq:1099511627776<m:=by omega
          have hq0: -1099511627776<=m:=by omega
          have hd:decide (m<=1099511627776)=false:=by simp;omega
          clear hc
          cases mi
          . go_wp2
            go_ret
            exact⟨ret_int (by rw [HF.out,HS.out];rfl),rfl⟩
          . go_wp2
            go_ret
            exact⟨ret_int (by rw [HF.out,HS.out];rfl),rfl⟩
  . have HS:Hid (acc 0 dg.data.toList=m):=by
     have h1:=HA.out
     rw [drop_all dg k hlt,acc_nil] at h1
     exact h1.symm
    cases mi
    . go_wp2
      go_ret
      exact⟨ret_int (by rw [HF.out,HS.out];rfl),rfl⟩
    . go_wp2
      go_ret
      exact⟨ret_int (by rw [HF.out,HS.out];rfl),rfl⟩
def numOf (t:Bool) (n:Int) (s:ByteArray):Int:=if t then lead s.data.toList else n
theorem numOf_t (n:Int) (s:ByteArray):numOf true n s=lead s.data.toList:=rfl
theorem numOf_f (n:Int) (s:ByteArray):numOf false n s=n:=rfl
theorem num_ok (t:Bool) (n:Int) (s:ByteArray) (w:World) (hs:s.size<=200) (h1: -1099511627776<=numOf t n s) (h2:numOf t n s<=1099511627776) :
 Calls Tryz.prog 171 #[.agg #[.bool t,.int .i64 n,.string s]] w fun e w'=>e = .returned (.tuple #[.int .i64 (numOf t n s),.int .i64 0])/\Below w.heap.size w w':=by
 cases t
 . rw [numOf_f] at h1 h2 ⊢
   go_enter Tryz.func171,Tryz.ntmps171
   go_wp2
   go_ret2
   exact⟨rfl,(Below.refl _ _).alloc (Nat.le_refl _) _⟩
 . rw [numOf_t] at h1 h2 ⊢
   generalize hl:lead s.data.toList=l at h1 h2 ⊢
   have HL:Hid (lead s.data.toList=l):=hl
   clear hl
   go_enter Tryz.func171,Tryz.ntmps171
   go_wp2_with fail
   refine (lead_c s _ hs).mono ?_
   rintro e w1 ⟨rfl,rfl⟩
   rw [HL.out]
   go_wp2
   go_ret2
   exact⟨rfl,(Below.refl _ _).alloc (Nat.le_refl _) _⟩
theorem num_bad (t:Bool) (n:Int) (s:ByteArray) (w:World) (hs:s.size<=200) (h:numOf t n s < -1099511627776\/1099511627776<numOf t n s) :
 Calls Tryz.prog 171 #[.agg #[.bool t,.int .i64 n,.string s]] w fun e w'=>e = .returned (.tuple #[.int .i64 0,.int .i64 2])/\Below w.heap.size w w':=by
 cases t
 . rw [numOf_f] at h
   rcases h with h | h
   . go_enter Tryz.func171,Tryz.ntmps171
     go_wp2
     go_ret2
     exact⟨rfl,(Below.refl _ _).alloc (Nat.le_refl _) _⟩
   . have h': -1099511627776<=n:=by omega
     have hd:decide (n<=1099511627776)=false:=by simp;omega
     go_enter Tryz.func171,Tryz.ntmps171
     go_wp2
     go_ret2
     exact⟨rfl,(Below.refl _ _).alloc (Nat.le_refl _) _⟩
 . rw [numOf_t] at h
   generalize hl:lead s.data.toList=l at h
   have HL:Hid (lead s.data.toList=l):=hl
   clear hl
   rcases h with h | h
   . go_enter Tryz.func171,Tryz.ntmps171
     go_wp2_with fail
     refine (lead_c s _ hs).mono ?_
     rintro e w1 ⟨rfl,rfl⟩
     rw [HL.out]
     go_wp2
     go_ret2
     exact⟨rfl,(Below.refl _ _).alloc (Nat.le_refl _) _⟩
   . have h': -1099511627776<=l:=by omega
     have hd:decide (l<=1099511627776)=false:=by simp;omega
     go_enter Tryz.func171,Tryz.ntmps171
     go_wp2_with fail
     refine (lead_c s _ hs).mono ?_
     rintro e w1 ⟨rfl,rfl⟩
     rw [HL.out]
     go_wp2
     go_ret2
     exact⟨rfl,(Below.refl _ _).alloc (Nat.le_refl _) _⟩
def numV (t:Bool) (n:Int) (s:ByteArray):Int:=if -1099511627776<=numOf t n s/\numOf t n s<=1099511627776 then numOf t n s else 0
def numE (t:Bool) (n:Int) (s:ByteArray):Int:=if -1099511627776<=numOf t n s/\numOf t n s<=1099511627776 then 0 else 2
theorem ret_ok {t:Bool} {n x:Int} {s:ByteArray} (h:numOf t n s=x) (h1: -1099511627776<=x) (h2:x<=1099511627776) :
 Ending.returned (.tuple #[.int .i64 x,.int .i64 0]) = .returned (.tuple #[.int .i64 (numV t n s),.int .i64 (numE t n s)]):=by
 unfold numV numE;rw [h,if_pos ⟨h1,h2⟩,if_pos ⟨h1,h2⟩]
theorem ret_bad {t:Bool} {n:Int} {s:ByteArray} (h:numOf t n s < -1099511627776\/1099511627776<numOf t n s) :
 Ending.returned (.tuple #[.int .i64 0,.int .i64 2]) = .returned (.tuple #[.int .i64 (numV t n s),.int .i64 (numE t n s)]):=by
 unfold numV numE;rw [if_neg (by omega),if_neg (by omega)]
theorem num_c (t:Bool) (n:Int) (s:ByteArray) (w:World) (hs:s.size<=200) :
 Calls Tryz.prog 171 #[.agg #[.bool t,.int .i64 n,.string s]] w fun e w'=>e = .returned (.tuple #[.int .i64 (numV t n s),.int .i64 (numE t n s)])/\Below w.heap.size w w':=by
 by_cases h: -1099511627776<=numOf t n s/\numOf t n s<=1099511627776
 . exact (num_ok t n s w hs h.1 h.2).mono fun e w' ⟨he,hb⟩=>⟨he.trans (ret_ok rfl h.1 h.2),hb⟩
 . exact (num_bad t n s w hs (by omega)).mono fun e w' ⟨he,hb⟩=>⟨he.trans (ret_bad (by omega)),hb⟩
def b2i (b:Bool):Int:=if b then 1 else 0
theorem truth_c (b:Bool) (w:World) :
 Calls Tryz.prog 173 #[.bool b] w fun e w'=>e = .returned (.agg #[.bool false,.int .i64 (b2i b),.string ⟨#[]⟩])/\Below w.heap.size w w':=by
 cases b
 all_goals go_enter Tryz.func173,Tryz.ntmps173
 all_goals go_wp2
 all_goals go_returns
 all_goals exact⟨rfl,by go_grown⟩
theorem below_set3 {w0 w:World} (h:Below w0.heap.size w0 w) {k:Nat} (hk:w0.heap.size<=k) (v0 v1 v2:Value) :
 Below w0.heap.size w0 (((w.setCell ⟨k,0,none⟩ v0).setCell ⟨k,1,none⟩ v1).setCell ⟨k,2,none⟩ v2) :=
 ((h.setCell hk v0).setCell hk v1).setCell hk v2
theorem op_ask_c (op:ByteArray) (hop:AskOp op) (t1:Bool) (n1:Int) (s1:ByteArray) (t2:Bool) (n2:Int) (s2:ByteArray) (w:World) (h1: -1099511627776<=n1) (h2:n1<=1099511627776) (h3: -1099511627776<=n2) (h4:n2<=1099511627776) (hp:Pow w) :
 Calls Tryz.prog 153 #[.string op,.agg #[.bool t1,.int .i64 n1,.string s1],.agg #[.bool t2,.int .i64 n2,.string s2]] w fun e w' =>
  e = .returned (vt (rN (b2i (askL op.data.toList (decide (ordV t1 n1 s1 t2 n2 s2<0)) (decide (ordV t1 n1 s1 t2 n2 s2=0))))))/\Below w.heap.size w w':=by
 have HP:Hid (Pow w):=hp
 clear hp
 have hk:Hid (AskOp op):=hop
 obtain rfl | rfl | rfl | rfl | rfl | rfl:=hop
 all_goals
  go_enter Tryz.func153,Tryz.ntmps153
  go_wp2_with fail
  refine (order_c t1 n1 s1 t2 n2 s2 _ h1 h2 h3 h4 (HP.out.stays (by go_grown))).mono ?_
  rintro e w1 ⟨rfl,hb⟩
  obtain⟨hc,hf⟩:=bcell hb
  have hz:w.heap.size+2<w1.heap.size:=by have:=hb.size;simp at this;omega
  have HB1:Hid (Below w.heap.size w w1):=bl_trans (by go_grown) hb
  go_wp2_with fail
  refine (isSo_c _ hk.out _ _).mono ?_
  rintro e w2 ⟨rfl,rfl⟩
  go_wp2_with fail
  refine (truth_c _ _).mono ?_
  rintro e w3 ⟨rfl,hb3⟩
  obtain⟨hc3,hf3⟩:=bcell hb3
  go_wp2
  exact bodyPost_ret (v:= .tuple #[.agg #[.bool false,.int .i64 (b2i _),.string ⟨#[]⟩],.int .i64 0]) (by simp [results,Tryz.results153,go_sem,hc,hc3,hz]) rfl ⟨rfl,below_set3 (bl_trans HB1.out hb3) (by omega) _ _ _⟩
def okN (t:Bool) (n:Int) (s:ByteArray):Prop:= -1099511627776<=numOf t n s/\numOf t n s<=1099511627776
theorem okN_not {t:Bool} {n:Int} {s:ByteArray} (h:¬okN t n s):numOf t n s < -1099511627776\/1099511627776<numOf t n s:=by
 unfold okN at h;omega
theorem op_bad1 (op:ByteArray) (t1:Bool) (n1:Int) (s1:ByteArray) (t2:Bool) (n2:Int) (s2:ByteArray) (w:World) (z1:s1.size<=200) (z2:s2.size<=200) (o1:(op.toList == [60])=false) (o2:(op.toList == [60,61])=false) (o3:(op.toList == [61,61])=false) (o4:(op.toList == [33,61])=false) (o5:(op.toList == [62])=false) (o6:(op.toList == [62,61])=false) (o7:(op.toList == [46,46])=false) (hbad:numOf t1 n1 s1 < -1099511627776\/1099511627776<numOf t1 n1 s1) :
 Calls Tryz.prog 153 #[.string op,.agg #[.bool t1,.int .i64 n1,.string s1],.agg #[.bool t2,.int .i64 n2,.string s2]] w fun e w'=>e = .returned (vt (rEnd 3))/\Below w.heap.size w w':=by
 have HBAD:Hid (numOf t1 n1 s1 < -1099511627776\/1099511627776<numOf t1 n1 s1):=hbad
 clear hbad
 go_enter Tryz.func153,Tryz.ntmps153
 go_wp2_with fail
 refine (num_bad t1 n1 s1 _ z1 HBAD.out).mono ?_
 rintro e w1 ⟨rfl,hb⟩
 obtain⟨hc,hf⟩:=bcell hb
 have hz:w.heap.size+2<w1.heap.size:=by have:=hb.size;simp at this;omega
 have hz1:w.heap.size+1<w1.heap.size:=by omega
 have HB1:Hid (Below w.heap.size w w1):=bl_trans (by go_grown) hb
 go_wp2_with fail
 refine (num_c t2 n2 s2 _ z2).mono ?_
 rintro e w2 ⟨rfl,hb2⟩
 obtain⟨hc2,hf2⟩:=bcell hb2
 go_wp2
 exact bodyPost_ret (v:= .tuple #[.agg #[.bool false,.int .i64 0,.string ⟨#[]⟩],.int .i64 3]) (by simp [results,Tryz.results153,go_sem,hc,hc2,hz]) rfl ⟨rfl,below_set3 (bl_trans HB1.out hb2) (by omega) _ _ _⟩
theorem op_bad2 (op:ByteArray) (t1:Bool) (n1:Int) (s1:ByteArray) (t2:Bool) (n2:Int) (s2:ByteArray) (w:World) (z1:s1.size<=200) (z2:s2.size<=200) (o1:(op.toList == [60])=false) (o2:(op.toList == [60,61])=false) (o3:(op.toList == [61,61])=false) (o4:(op.toList == [33,61])=false) (o5:(op.toList == [62])=false) (o6:(op.toList == [62,61])=false) (o7:(op.toList == [46,46])=false) (hok:okN t1 n1 s1) (hbad:numOf t2 n2 s2 < -1099511627776\/1099511627776<numOf t2 n2 s2) :
 Calls Tryz.prog 153 #[.string op,.agg #[.bool t1,.int .i64 n1,.string s1],.agg #[.bool t2,.int .i64 n2,.string s2]] w fun e w'=>e = .returned (vt (rEnd 3))/\Below w.heap.size w w':=by
 have HBAD:Hid (numOf t2 n2 s2 < -1099511627776\/1099511627776<numOf t2 n2 s2):=hbad
 have HOK:Hid (okN t1 n1 s1):=hok
 clear hbad hok
 go_enter Tryz.func153,Tryz.ntmps153
 go_wp2_with fail
 refine (num_ok t1 n1 s1 _ z1 HOK.out.1 HOK.out.2).mono ?_
 rintro e w1 ⟨rfl,hb⟩
 obtain⟨hc,hf⟩:=bcell hb
 have hz:w.heap.size+2<w1.heap.size:=by have:=hb.size;simp at this;omega
 have hz1:w.heap.size+1<w1.heap.size:=by omega
 have HB1:Hid (Below w.heap.size w w1):=bl_trans (by go_grown) hb
 go_wp2_with fail
 refine (num_bad t2 n2 s2 _ z2 HBAD.out).mono ?_
 rintro e w2 ⟨rfl,hb2⟩
 obtain⟨hc2,hf2⟩:=bcell hb2
 go_wp2
 exact bodyPost_ret (v:= .tuple #[.agg #[.bool false,.int .i64 0,.string ⟨#[]⟩],.int .i64 3]) (by simp [results,Tryz.results153,go_sem,hc,hc2,hz]) rfl ⟨rfl,below_set3 (bl_trans HB1.out hb2) (by omega) _ _ _⟩
theorem op_good (op:ByteArray) (t1:Bool) (n1:Int) (s1:ByteArray) (t2:Bool) (n2:Int) (s2:ByteArray) (w:World) (z1:s1.size<=200) (z2:s2.size<=200) (o1:(op.toList == [60])=false) (o2:(op.toList == [60,61])=false) (o3:(op.toList == [61,61])=false) (o4:(op.toList == [33,61])=false) (o5:(op.toList == [62])=false) (o6:(op.toList == [62,61])=false) (o7:(op.toList == [46,46])=false) (hok1:okN t1 n1 s1) (hok2:okN t2 n2 s2) :
 Calls Tryz.prog 153 #[.string op,.agg #[.bool t1,.int .i64 n1,.string s1],.agg #[.bool t2,.int .i64 n2,.string s2]] w fun e w'=>e = .returned (vt (reck op.toList (numOf t1 n1 s1) (numOf t2 n2 s2)))/\Below w.heap.size w w':=by
 have HOK1:Hid (okN t1 n1 s1):=hok1
 have HOK2:Hid (okN t2 n2 s2):=hok2
 clear hok1 hok2
 obtain⟨rt,rn,rs,re,hr⟩:∃rt rn rs re,reck op.toList (numOf t1 n1 s1) (numOf t2 n2 s2)=(rt,rn,rs,re):=⟨_,_,_,_,rfl⟩
 have HR:Hid (reck op.toList (numOf t1 n1 s1) (numOf t2 n2 s2)=(rt,rn,rs,re)):=hr
 clear hr
 go_enter Tryz.func153,Tryz.ntmps153
 go_wp2_with fail
 refine (num_ok t1 n1 s1 _ z1 HOK1.out.1 HOK1.out.2).mono ?_
 rintro e w1 ⟨rfl,hb⟩
 obtain⟨hc,hf⟩:=bcell hb
 have hz:w.heap.size+2<w1.heap.size:=by have:=hb.size;simp at this;omega
 have hz1:w.heap.size+1<w1.heap.size:=by omega
 have HB1:Hid (Below w.heap.size w w1):=bl_trans (by go_grown) hb
 go_wp2_with fail
 refine (num_ok t2 n2 s2 _ z2 HOK2.out.1 HOK2.out.2).mono ?_
 rintro e w2 ⟨rfl,hb2⟩
 obtain⟨hc2,hf2⟩:=bcell hb2
 have hy:w.heap.size+2<w2.heap.size:=by have:=hb2.size;omega
 have HB2:Hid (Below w.heap.size w w2):=bl_trans HB1.out hb2
 go_wp2_with fail
 refine (reckon_c op (numOf t1 n1 s1) (numOf t2 n2 s2) _ HOK1.out.1 HOK1.out.2 HOK2.out.1 HOK2.out.2).mono ?_
 rintro e w3 ⟨rfl,hb3⟩
 rw [HR.out]
 obtain⟨hc3,hf3⟩:=bcell hb3
 simp only [vt]
 go_wp2
 exact bodyPost_ret (v:= .tuple #[.agg #[.bool rt,.int .i64 rn,.string rs],.int .i64 re]) (by simp [results,Tryz.results153,go_sem,hc,hc2,hc3,hz,hy]) rfl ⟨by rw [HR.out];rfl,below_set3 (bl_trans HB2.out hb3) (by omega) _ _ _⟩
def joinR (s t:ByteArray):R4:=if s.size+t.size<=200 then (true,0,s ++ t,0) else rEnd 3
theorem join_c (s t:ByteArray) (w:World) (hs:s.size<=200) (ht:t.size<=200) :
 Calls Tryz.prog 176 #[.string s,.string t] w fun e w'=>e = .returned (vt (joinR s t))/\Below w.heap.size w w':=by
 by_cases h:s.size+t.size<=200
 . have e:joinR s t=(true,0,s ++ t,0):=if_pos h
   rw [e]
   go_enter Tryz.func176,Tryz.ntmps176
   go_wp2
   go_returns
   exact⟨rfl,by go_grown⟩
 . have e:joinR s t=rEnd 3:=if_neg h
   rw [e]
   have h':200<s.size+t.size:=by omega
   go_enter Tryz.func176,Tryz.ntmps176
   go_wp2
   go_returns
   exact⟨rfl,by go_grown⟩
theorem strOf_len {t:Bool} {n:Int} {s:ByteArray} (h1: -1099511627776<=n) (h2:n<=1099511627776) (h:s.size<=200):(strOf t n s).size<=200:=by
 cases t
 . rw [strOf_f]
   have h3:=itoa_len n h1 h2
   have h4:(⟨(Lib.itoa n).toArray⟩:ByteArray).size=(Lib.itoa n).length:=by simp [ByteArray.size]
   omega
 . exact h
theorem op_join_c (t1:Bool) (n1:Int) (s1:ByteArray) (t2:Bool) (n2:Int) (s2:ByteArray) (w:World) (z1:s1.size<=200) (z2:s2.size<=200) (h1: -1099511627776<=n1) (h2:n1<=1099511627776) (h3: -1099511627776<=n2) (h4:n2<=1099511627776) (hp:Pow w) :
 Calls Tryz.prog 153 #[.string ⟨#[46,46]⟩,.agg #[.bool t1,.int .i64 n1,.string s1],.agg #[.bool t2,.int .i64 n2,.string s2]] w fun e w' =>
  e = .returned (vt (joinR (strOf t1 n1 s1) (strOf t2 n2 s2)))/\Below w.heap.size w w':=by
 have HP:Hid (Pow w):=hp
 have HL1:Hid ((strOf t1 n1 s1).size<=200):=strOf_len h1 h2 z1
 have HL2:Hid ((strOf t2 n2 s2).size<=200):=strOf_len h3 h4 z2
 clear hp z1 z2
 obtain⟨rt,rn,rs,re,hr⟩:∃rt rn rs re,joinR (strOf t1 n1 s1) (strOf t2 n2 s2)=(rt,rn,rs,re):=⟨_,_,_,_,rfl⟩
 have HR:Hid (joinR (strOf t1 n1 s1) (strOf t2 n2 s2)=(rt,rn,rs,re)):=hr
 clear hr
 have hlt2:w.heap.size<w.heap.size+1+1+1:=by omega
 have hlt3:w.heap.size+1<w.heap.size+1+1+1:=by omega
 have hne1:¬w.heap.size+1+1=w.heap.size:=by omega
 have hne2:¬w.heap.size=w.heap.size+1+1:=by omega
 go_enter Tryz.func153,Tryz.ntmps153
 go_wp2_with fail
 go_region_held3 (fun w'=>w'.cell? ⟨w.heap.size,0,none⟩=some (.bool t1)/\w'.cell? ⟨w.heap.size,1,none⟩=some (.int .i64 n1)/\w'.cell? ⟨w.heap.size,2,none⟩=some (.string s1)/\w'.cell? ⟨w.heap.size+1,0,none⟩=some (.bool t2)/\w'.cell? ⟨w.heap.size+1,1,none⟩=some (.int .i64 n2)/\w'.cell? ⟨w.heap.size+1,2,none⟩=some (.string s2)) (go_keep) (first
  | (go_at_call_of 172 (Value.string s1);refine (str_c _ n1 s1 _ h1 h2 ?_).mono ?_;exact HP.out.stays (by go_grown);rintro e w1 ⟨rfl,hb⟩;obtain⟨hc,hf⟩:=bcell hb;have HB1:Hid (Below w.heap.size w w1):=bl_trans (by go_grown) hb;have hz:w.heap.size+2<w1.heap.size:=(by have:=hb.size;simp at this;omega);have hz1:w.heap.size+1<w1.heap.size:=(by omega);have hz0:w.heap.size<w1.heap.size:=(by omega))
  | (go_at_call_of 172 (Value.string s2);refine (str_c _ n2 s2 _ h3 h4 ?_).mono ?_;exact HP.out.stays HB1.out;rintro e w2 ⟨rfl,hb2⟩;obtain⟨hc2,hf2⟩:=bcell hb2;have HB2:Hid (Below w.heap.size w w2):=bl_trans HB1.out hb2;have hy:w.heap.size+2<w2.heap.size:=(by have:=hb2.size;omega);have hy1:w.heap.size+1<w2.heap.size:=(by omega);have hy0:w.heap.size<w2.heap.size:=(by omega))
  | (go_at_call 176;refine (join_c _ _ _ HL1.out HL2.out).mono ?_;rintro e w3 ⟨rfl,hb3⟩;rw [HR.out];obtain⟨hc3,hf3⟩:=bcell hb3;have HB3:Hid (Below w.heap.size w w3):=bl_trans HB2.out hb3;simp only [vt]))
 go_wp2
 exact bodyPost_ret (v:= .tuple #[.agg #[.bool rt,.int .i64 rn,.string rs],.int .i64 re]) (by simp [results,Tryz.results153,go_sem,hc,hc2,hc3,hz,hy]) rfl ⟨by rw [HR.out];rfl,below_set3 HB3.out (by omega) _ _ _⟩
def Lies (w:World) (b:Nat) (t:Bool) (n:Int) (s:ByteArray):Prop :=
 b<w.heap.size/\w.cell? ⟨b,0,none⟩=some (.bool t)/\w.cell? ⟨b,1,none⟩=some (.int .i64 n)/\w.cell? ⟨b,2,none⟩=some (.string s)
theorem Lies.below {w w':World} {b:Nat} {t:Bool} {n:Int} {s:ByteArray} (h:Lies w b t n s) (hb:Below w.heap.size w w'):Lies w' b t n s :=
 ⟨Nat.lt_of_lt_of_le h.1 hb.size,(hb.cell (p:=⟨b,0,none⟩) h.1).trans h.2.1,(hb.cell (p:=⟨b,1,none⟩) h.1).trans h.2.2.1,(hb.cell (p:=⟨b,2,none⟩) h.1).trans h.2.2.2⟩
theorem Lies.new (w:World) (t:Bool) (n:Int) (s:ByteArray) (T:TypeId):Lies (w.alloc (.cells #[.bool t,.int .i64 n,.string s] T)) w.heap.size t n s :=
 ⟨by simp,by simp,by simp,by simp⟩
theorem Lies.over {w:World} {b:Nat} {t:Bool} {n:Int} {s:ByteArray} (h:Lies w b t n s) (o:Obj):Lies (w.alloc o) b t n s:=h.below ((Below.refl _ _).alloc (Nat.le_refl _) o)
def opSpec (op:ByteArray) (t1:Bool) (n1:Int) (s1:ByteArray) (t2:Bool) (n2:Int) (s2:ByteArray):R4 :=
 if op.toList = [60]\/op.toList = [60,61]\/op.toList = [61,61]\/op.toList = [33,61]\/op.toList = [62]\/op.toList = [62,61] then
  rN (b2i (askL op.data.toList (decide (ordV t1 n1 s1 t2 n2 s2<0)) (decide (ordV t1 n1 s1 t2 n2 s2=0))))
 else if op.toList = [46,46] then joinR (strOf t1 n1 s1) (strOf t2 n2 s2)
 else if (-1099511627776<=numOf t1 n1 s1/\numOf t1 n1 s1<=1099511627776)/\(-1099511627776<=numOf t2 n2 s2/\numOf t2 n2 s2<=1099511627776) then reck op.toList (numOf t1 n1 s1) (numOf t2 n2 s2)
 else rEnd 3
theorem askOp_of {op:ByteArray} (h:op.toList = [60]\/op.toList = [60,61]\/op.toList = [61,61]\/op.toList = [33,61]\/op.toList = [62]\/op.toList = [62,61]):AskOp op:=by
 rcases h with h | h | h | h | h | h
 . exact .inl (op_of h)
 . exact .inr (.inl (op_of h))
 . exact .inr (.inr (.inl (op_of h)))
 . exact .inr (.inr (.inr (.inl (op_of h))))
 . exact .inr (.inr (.inr (.inr (.inl (op_of h)))))
 . exact .inr (.inr (.inr (.inr (.inr (op_of h)))))
theorem bf {l m:List UInt8} (h:¬l=m):(l == m)=false:=by simp [h]
theorem op_c (op:ByteArray) (t1:Bool) (n1:Int) (s1:ByteArray) (t2:Bool) (n2:Int) (s2:ByteArray) (w:World) (z1:s1.size<=200) (z2:s2.size<=200) (h1: -1099511627776<=n1) (h2:n1<=1099511627776) (h3: -1099511627776<=n2) (h4:n2<=1099511627776) (hp:Pow w) :
 Calls Tryz.prog 153 #[.string op,.agg #[.bool t1,.int .i64 n1,.string s1],.agg #[.bool t2,.int .i64 n2,.string s2]] w fun e w'=>e = .returned (vt (opSpec op t1 n1 s1 t2 n2 s2))/\Below w.heap.size w w':=by
 unfold opSpec
 split
 . exact op_ask_c op (askOp_of ‹_›) t1 n1 s1 t2 n2 s2 w h1 h2 h3 h4 hp
 . rename_i ha
   have a1:¬op.toList = [60]:=fun h=>ha (.inl h)
   have a2:¬op.toList = [60,61]:=fun h=>ha (.inr (.inl h))
   have a3:¬op.toList = [61,61]:=fun h=>ha (.inr (.inr (.inl h)))
   have a4:¬op.toList = [33,61]:=fun h=>ha (.inr (.inr (.inr (.inl h))))
   have a5:¬op.toList = [62]:=fun h=>ha (.inr (.inr (.inr (.inr (.inl h)))))
   have a6:¬op.toList = [62,61]:=fun h=>ha (.inr (.inr (.inr (.inr (.inr h)))))
   split
   . rename_i hj
     rw [op_of hj]
     exact op_join_c t1 n1 s1 t2 n2 s2 w z1 z2 h1 h2 h3 h4 hp
   . rename_i hj
     split
     . rename_i hk
       exact op_good op t1 n1 s1 t2 n2 s2 w z1 z2 (bf a1) (bf a2) (bf a3) (bf a4) (bf a5) (bf a6) (bf hj) hk.1 hk.2
     . rename_i hk
       by_cases k1:okN t1 n1 s1
       . exact op_bad2 op t1 n1 s1 t2 n2 s2 w z1 z2 (bf a1) (bf a2) (bf a3) (bf a4) (bf a5) (bf a6) (bf hj) k1 (okN_not fun k2=>hk ⟨k1,k2⟩)
       . exact op_bad1 op t1 n1 s1 t2 n2 s2 w z1 z2 (bf a1) (bf a2) (bf a3) (bf a4) (bf a5) (bf a6) (bf hj) (okN_not k1)
theorem vf_f4 {n:Int} {s:ByteArray} (h:0<s.size):vf false n s=4:=by simp [vf,h]
theorem no4 {n:Int} {s:ByteArray} (h:¬0<s.size):¬((false=true/\n ≠ 0)\/(false=false/\0<s.size)):=by
 rintro (⟨e,_⟩ | ⟨_,e⟩)
 . cases e
 . exact h e
theorem vf_f2 {n:Int} {s:ByteArray} (h:¬0<s.size) (k:n < -1099511627776\/1099511627776<n):vf false n s=2:=by
 unfold vf;rw [if_neg (no4 h),if_pos (by omega)]
theorem vf_f0 {n:Int} {s:ByteArray} (h:¬0<s.size) (k: -1099511627776<=n) (l:n<=1099511627776):vf false n s=0:=by
 unfold vf;rw [if_neg (no4 h),if_neg (by omega),if_neg (by omega)]
theorem vf_t4 {n:Int} {s:ByteArray} (h:¬n=0):vf true n s=4:=by simp [vf,h]
theorem vf_t1 {s:ByteArray} (h:200<s.size):vf true 0 s=1:=by simp [vf,h]
theorem vf_t0 {s:ByteArray} (h:¬200<s.size):vf true 0 s=0:=by simp [vf];omega
theorem vf_ok {t:Bool} {n:Int} {s:ByteArray} (h:vf t n s=0):(t=true/\n=0/\s.size<=200)\/(t=false/\s = ⟨#[]⟩ /\ -1099511627776<=n/\n<=1099511627776):=by
 cases t
 . by_cases h1:0<s.size
   . rw [vf_f4 h1] at h;omega
   . by_cases h2:n < -1099511627776\/1099511627776<n
     . rw [vf_f2 h1 h2] at h;omega
     . refine .inr ⟨rfl,?_,by omega,by omega⟩
       have:s.data = #[]:=Array.eq_empty_of_size_eq_zero (by have:s.data.size=s.size:=rfl;omega)
       cases s;simp_all
 . by_cases h1:n=0
   . subst h1
     by_cases h2:200<s.size
     . rw [vf_t1 h2] at h;omega
     . exact .inl ⟨rfl,rfl,by omega⟩
   . rw [vf_t4 h1] at h;omega
def tr (t:Bool) (n:Int) (s:ByteArray):Bool:=if t then decide (0<s.size) else n != 0
theorem tr_n0 {s:ByteArray}:tr false 0 s=false:=rfl
theorem tr_n1 {n:Int} {s:ByteArray} (h:¬n=0):tr false n s=true:=by simp [tr,h]
theorem tr_s1 {n:Int} {s:ByteArray} (h:0<s.size):tr true n s=true:=by simp [tr,h]
theorem tr_s0 {n:Int} {s:ByteArray} (h:¬0<s.size):tr true n s=false:=by unfold tr;rw [if_pos rfl];exact decide_eq_false h
theorem true_c (t:Bool) (n:Int) (s:ByteArray) (w:World) (hs:s.size<=maxLen) :
 Calls Tryz.prog 125 #[.agg #[.bool t,.int .i64 n,.string s]] w fun e w'=>e = .returned (.bool (tr t n s))/\Below w.heap.size w w':=by
 unfold maxLen at hs
 cases t
 . by_cases h:n=0
   . subst h
     rw [tr_n0]
     go_enter Tryz.func125,Tryz.ntmps125
     go_wp2
     go_ret
     exact⟨rfl,(Below.refl _ _).alloc (Nat.le_refl _) _⟩
   . rw [tr_n1 h]
     have hb:(n != 0)=true:=by rw [bne_iff_ne];exact h
     go_enter Tryz.func125,Tryz.ntmps125
     go_wp2
     go_ret
     exact⟨rfl,(Below.refl _ _).alloc (Nat.le_refl _) _⟩
 . by_cases h:0<s.size
   . rw [tr_s1 h]
     have he:=ise_f h
     go_enter Tryz.func125,Tryz.ntmps125
     go_wp2
     go_ret
     exact⟨rfl,(Below.refl _ _).alloc (Nat.le_refl _) _⟩
   . rw [tr_s0 h]
     have he:=ise_t h
     go_enter Tryz.func125,Tryz.ntmps125
     go_wp2
     go_ret
     exact⟨rfl,(Below.refl _ _).alloc (Nat.le_refl _) _⟩
end Go.Proofs.YtodjbffhlklpkaaGreatDoor
