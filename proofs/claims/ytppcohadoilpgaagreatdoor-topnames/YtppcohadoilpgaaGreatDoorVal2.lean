/-
  Contracts of package value: functions (P1.5); does a value hold?
-/
import Derived.Test.YtppcohadoilpgaaGreatDoorVal1
import Derived.Deep.Slices
import Derived.Deep.Strs
import Derived.Lib.Index
import Derived.Lib.IndexBytes
import Derived.PlainAid
namespace Go.Proofs.YtppcohadoilpgaaGreatDoor
open Go.ChangeShapes Go.WideShapes Go.ChangeAt Go.RowKit Go.Joins Go.Proofs.Tryz
set_option maxHeartbeats 2000000
set_option linter.unusedVariables false
def M7 (l:List UInt8) (x y:Int):List UInt8:=(l.take (x - 1+y).toNat).drop (max x 1 - 1).toNat
def Z0 (A:ByteArray) (x y:Int):R4:=(true,0,⟨(M7 A.data.toList x y).toArray⟩,0)
theorem Z2 {A:ByteArray} {x y e:Int} {p:Nat} (hp:max x 1=(p:Int)+1) (he:min (x - 1+y) (A.size:Int)=e) (h:e<=(p:Int)):(⟨(M7 A.data.toList x y).toArray⟩:ByteArray) = ⟨#[]⟩:=by
 have:M7 A.data.toList x y = []:=by
  unfold M7
  apply List.drop_eq_nil_of_le
  rw [List.length_take];have h3:A.data.toList.length=A.size:=by simp
  rw [hp,h3];omega
 rw [this]
theorem Z3 {A:ByteArray} {x y:Int} {p q:Nat} (hp:max x 1=(p:Int)+1) (he:min (x - 1+y) (A.size:Int)=(q:Int)):A.extract p q = ⟨(M7 A.data.toList x y).toArray⟩:=by
 apply ByteArray.ext
 rw [ByteArray.data_extract]
 apply Array.toList_inj.1
 rw [Array.toList_extract,List.extract_eq_take_drop];show _=M7 A.data.toList x y;unfold M7;have e1:(max x 1 - 1).toNat=p:=by omega
 rw [e1,List.drop_take]
 by_cases h:x - 1+y<=(A.size:Int)
 . have e2:(x - 1+y).toNat=q:=by omega
   rw [e2]
 . have h3:A.data.toList.length=A.size:=by simp
   rw [List.take_of_length_le (by rw [List.length_drop,h3];omega),List.take_of_length_le (by rw [List.length_drop,h3];omega)]
theorem Tt (A:ByteArray) (t1:Bool) (n1:Int) (s1:ByteArray) (t2:Bool) (n2:Int) (s2:ByteArray) (w:World) (z1:s1.size<=200) (z2:s2.size<=200) (HBAD:Hid (Av t1 n1 s1 < -1099511627776\/1099511627776<Av t1 n1 s1)) :
 Calls prog 172 #[.string A,.agg #[.bool t1,.int .i64 n1,.string s1],.agg #[.bool t2,.int .i64 n2,.string s2]] w fun e w'=>e = .returned (vt (Ew 3))/\Below w.heap.size w w':=by
 go_enter func172,ntmps172
 go_wp2_with fail
 refine (Gn t1 n1 s1 _ z1 HBAD.out).mono ?_;rintro e w1 ⟨rfl,hb⟩;obtain⟨hc,hf⟩:=Ar hb;have hz:w.heap.size+2<w1.heap.size:=by have:=hb.size;simp at this;omega
 have hz1:w.heap.size+1<w1.heap.size:=by omega
 have HB1:Hid (Below w.heap.size w w1):=Aa (by go_grown) hb;go_wp2_with fail
 refine (Adg t2 n2 s2 _ z2).mono ?_;rintro e w2 ⟨rfl,hb2⟩;obtain⟨hc2,hf2⟩:=Ar hb2;have hy:w.heap.size+2<w2.heap.size:=by have:=hb2.size;omega
 have HB2:Hid (Below w.heap.size w w2):=Aa HB1.out hb2;go_wp2
 exact bodyPost_ret (v:= .tuple #[.agg #[.bool false,.int .i64 0,.string ⟨#[]⟩],.int .i64 3]) (by simp [results,results172,go_sem,hc,hc2,hz]) rfl ⟨rfl,A1 HB2.out (by omega) _ _ _⟩
theorem Tu (A:ByteArray) (t1:Bool) (n1:Int) (s1:ByteArray) (t2:Bool) (n2:Int) (s2:ByteArray) (w:World) (z1:s1.size<=200) (z2:s2.size<=200) (HOK1:Hid (okN t1 n1 s1)) (HBAD:Hid (Av t2 n2 s2 < -1099511627776\/1099511627776<Av t2 n2 s2)) :
 Calls prog 172 #[.string A,.agg #[.bool t1,.int .i64 n1,.string s1],.agg #[.bool t2,.int .i64 n2,.string s2]] w fun e w'=>e = .returned (vt (Ew 3))/\Below w.heap.size w w':=by
 go_enter func172,ntmps172
 go_wp2_with fail
 refine (Fg t1 n1 s1 _ z1 HOK1.out.1 HOK1.out.2).mono ?_;rintro e w1 ⟨rfl,hb⟩;obtain⟨hc,hf⟩:=Ar hb;have hz:w.heap.size+2<w1.heap.size:=by have:=hb.size;simp at this;omega
 have hz1:w.heap.size+1<w1.heap.size:=by omega
 have HB1:Hid (Below w.heap.size w w1):=Aa (by go_grown) hb;go_wp2_with fail
 refine (Gn t2 n2 s2 _ z2 HBAD.out).mono ?_;rintro e w2 ⟨rfl,hb2⟩;obtain⟨hc2,hf2⟩:=Ar hb2;have hy:w.heap.size+2<w2.heap.size:=by have:=hb2.size;omega
 have HB2:Hid (Below w.heap.size w w2):=Aa HB1.out hb2;go_wp2
 exact bodyPost_ret (v:= .tuple #[.agg #[.bool false,.int .i64 0,.string ⟨#[]⟩],.int .i64 3]) (by simp [results,results172,go_sem,hc,hc2,hz]) rfl ⟨rfl,A1 HB2.out (by omega) _ _ _⟩
theorem Tv (A:ByteArray) (t1:Bool) (n1:Int) (s1:ByteArray) (t2:Bool) (n2:Int) (s2:ByteArray) (w:World) (z1:s1.size<=200) (z2:s2.size<=200) (x y:Int) (HX:Hid (Av t1 n1 s1=x)) (HY:Hid (Av t2 n2 s2=y)) (x1: -1099511627776<=x) (x2:x<=1099511627776) (y1: -1099511627776<=y) (y2:y<=1099511627776) (hA:A.size<=200) (p:Nat) (e0:Int) (hp:max x 1=(p:Int)+1) (he:min (x - 1+y) (A.size:Int)=e0) (h:e0<=(p:Int)) :
 Calls prog 172 #[.string A,.agg #[.bool t1,.int .i64 n1,.string s1],.agg #[.bool t2,.int .i64 n2,.string s2]] w fun e w'=>e = .returned (.tuple #[.agg #[.bool true,.int .i64 0,.string ⟨#[]⟩],.int .i64 0])/\Below w.heap.size w w':=by
 have HOK1:Hid (okN t1 n1 s1):=by have h:=HX.out;unfold okN;show _/\_;rw [h];exact⟨x1,x2⟩
 have HOK2:Hid (okN t2 n2 s2):=by have h:=HY.out;unfold okN;show _/\_;rw [h];exact⟨y1,y2⟩
 go_enter func172,ntmps172
 go_wp2_with fail
 refine (Fg t1 n1 s1 _ z1 HOK1.out.1 HOK1.out.2).mono ?_;rintro e w1 ⟨rfl,hb⟩;rw [HX.out];obtain⟨hc,hf⟩:=Ar hb;have hz:w.heap.size+2<w1.heap.size:=by have:=hb.size;simp at this;omega
 have hz1:w.heap.size+1<w1.heap.size:=by omega
 have HB1:Hid (Below w.heap.size w w1):=Aa (by go_grown) hb;go_wp2_with fail
 refine (Fg t2 n2 s2 _ z2 HOK2.out.1 HOK2.out.2).mono ?_;rintro e w2 ⟨rfl,hb2⟩;rw [HY.out];obtain⟨hc2,hf2⟩:=Ar hb2;have hy:w.heap.size+2<w2.heap.size:=by have:=hb2.size;omega
 have HB2:Hid (Below w.heap.size w w2):=Aa HB1.out hb2;go_wp2_with fail
 refine (J0 ⟨#[]⟩ _).mono ?_;rintro e w3 ⟨rfl,hb3⟩;obtain⟨hc3,hf3⟩:=Ar hb3;go_wp2
 exact bodyPost_ret (v:= .tuple #[.agg #[.bool true,.int .i64 0,.string ⟨#[]⟩],.int .i64 0]) (by simp [results,results172,go_sem,hc,hc2,hc3,hz,hy]) rfl ⟨rfl,A1 (Aa HB2.out hb3) (by omega) _ _ _⟩
theorem Tw (A:ByteArray) (t1:Bool) (n1:Int) (s1:ByteArray) (t2:Bool) (n2:Int) (s2:ByteArray) (w:World) (z1:s1.size<=200) (z2:s2.size<=200) (x y:Int) (HX:Hid (Av t1 n1 s1=x)) (HY:Hid (Av t2 n2 s2=y)) (x1: -1099511627776<=x) (x2:x<=1099511627776) (y1: -1099511627776<=y) (y2:y<=1099511627776) (hA:A.size<=200) (p q:Nat) (hp:max x 1=(p:Int)+1) (he:min (x - 1+y) (A.size:Int)=(q:Int)) (h:(p:Int)<(q:Int)) (hq:(q:Int)<=(A.size:Int)) :
 Calls prog 172 #[.string A,.agg #[.bool t1,.int .i64 n1,.string s1],.agg #[.bool t2,.int .i64 n2,.string s2]] w fun e w'=>e = .returned (.tuple #[.agg #[.bool true,.int .i64 0,.string (A.extract p q)],.int .i64 0])/\Below w.heap.size w w':=by
 have p0:(0:Int)<=(p:Int):=by omega
 have q0:(0:Int)<=(q:Int):=by omega
 have hpq:(p:Int)<=(q:Int):=by omega
 have hpqn:p<=q:=by omega
 have hqn:q<=A.size:=by omega
 have HOK1:Hid (okN t1 n1 s1):=by have h:=HX.out;unfold okN;show _/\_;rw [h];exact⟨x1,x2⟩
 have HOK2:Hid (okN t2 n2 s2):=by have h:=HY.out;unfold okN;show _/\_;rw [h];exact⟨y1,y2⟩
 go_enter func172,ntmps172
 go_wp2_with fail
 refine (Fg t1 n1 s1 _ z1 HOK1.out.1 HOK1.out.2).mono ?_;rintro e w1 ⟨rfl,hb⟩;rw [HX.out];obtain⟨hc,hf⟩:=Ar hb;have hz:w.heap.size+2<w1.heap.size:=by have:=hb.size;simp at this;omega
 have hz1:w.heap.size+1<w1.heap.size:=by omega
 have HB1:Hid (Below w.heap.size w w1):=Aa (by go_grown) hb;go_wp2_with fail
 refine (Fg t2 n2 s2 _ z2 HOK2.out.1 HOK2.out.2).mono ?_;rintro e w2 ⟨rfl,hb2⟩;rw [HY.out];obtain⟨hc2,hf2⟩:=Ar hb2;have hy:w.heap.size+2<w2.heap.size:=by have:=hb2.size;omega
 have HB2:Hid (Below w.heap.size w w2):=Aa HB1.out hb2;go_wp2_with fail
 refine (J0 (A.extract p q) _).mono ?_;rintro e w3 ⟨rfl,hb3⟩;obtain⟨hc3,hf3⟩:=Ar hb3;go_wp2
 exact bodyPost_ret (v:= .tuple #[.agg #[.bool true,.int .i64 0,.string (A.extract p q)],.int .i64 0]) (by simp [results,results172,go_sem,hc,hc2,hc3,hz,hy]) rfl ⟨rfl,A1 (Aa HB2.out hb3) (by omega) _ _ _⟩
def Wn (A:ByteArray) (t1:Bool) (n1:Int) (s1:ByteArray) (t2:Bool) (n2:Int) (s2:ByteArray):R4 :=
 if (-1099511627776<=Av t1 n1 s1/\Av t1 n1 s1<=1099511627776)/\(-1099511627776<=Av t2 n2 s2/\Av t2 n2 s2<=1099511627776) then Z0 A (Av t1 n1 s1) (Av t2 n2 s2) else Ew 3
theorem Ab5 (A:ByteArray) (t1:Bool) (n1:Int) (s1:ByteArray) (t2:Bool) (n2:Int) (s2:ByteArray) (w:World) (z1:s1.size<=200) (z2:s2.size<=200) (hA:A.size<=200) :
 Calls prog 172 #[.string A,.agg #[.bool t1,.int .i64 n1,.string s1],.agg #[.bool t2,.int .i64 n2,.string s2]] w fun e w'=>e = .returned (vt (Wn A t1 n1 s1 t2 n2 s2))/\Below w.heap.size w w':=by
 unfold Wn;split
 . rename_i hk;obtain⟨⟨x1,x2⟩,⟨y1,y2⟩⟩:=hk;generalize hx:Av t1 n1 s1=x at x1 x2 ⊢;generalize hy:Av t2 n2 s2=y at y1 y2 ⊢;have hp:max x 1=(((max x 1 - 1).toNat:Nat):Int)+1:=by omega
   by_cases h:min (x - 1+y) (A.size:Int)<=(((max x 1 - 1).toNat:Nat):Int)
   . have e:vt (Z0 A x y) = .tuple #[.agg #[.bool true,.int .i64 0,.string ⟨#[]⟩],.int .i64 0]:=by
      unfold Z0 vt;rw [Z2 hp rfl h]
     rw [e];exact Tv A t1 n1 s1 t2 n2 s2 w z1 z2 x y hx hy x1 x2 y1 y2 hA _ _ hp rfl h
   . have hq:min (x - 1+y) (A.size:Int)=(((min (x - 1+y) (A.size:Int)).toNat:Nat):Int):=by omega
     have e:vt (Z0 A x y) = .tuple #[.agg #[.bool true,.int .i64 0,.string (A.extract (max x 1 - 1).toNat (min (x - 1+y) (A.size:Int)).toNat)],.int .i64 0]:=by
      unfold Z0 vt;rw [Z3 hp hq]
     rw [e];exact Tw A t1 n1 s1 t2 n2 s2 w z1 z2 x y hx hy x1 x2 y1 y2 hA _ _ hp hq (by omega) (by omega)
 . rename_i hk
   by_cases k1:okN t1 n1 s1
   . exact Tu A t1 n1 s1 t2 n2 s2 w z1 z2 k1 (Kt fun k2=>hk ⟨k1,k2⟩)
   . exact Tt A t1 n1 s1 t2 n2 s2 w z1 z2 (Kt k1)
def Fx (w:World) (b o:Nat) (t:Bool) (n:Int) (s:ByteArray):Prop :=
 b<w.heap.size/\w.cell? ⟨b,o,none⟩=some (.bool t)/\w.cell? ⟨b,o+1,none⟩=some (.int .i64 n)/\w.cell? ⟨b,o+2,none⟩=some (.string s)
theorem Fx.below {w w':World} {b o:Nat} {t:Bool} {n:Int} {s:ByteArray} (h:Fx w b o t n s) (hb:Below w.heap.size w w'):Fx w' b o t n s :=
 ⟨lle h.1 hb.size,(hb.cell (p:=⟨b,o,none⟩) h.1).trans h.2.1,(hb.cell (p:=⟨b,o+1,none⟩) h.1).trans h.2.2.1,(hb.cell (p:=⟨b,o+2,none⟩) h.1).trans h.2.2.2⟩
def Mx (w:World):Prop:=∃m,5<w.heap.size/\w.cell? ⟨5,0,none⟩=some (.int .i64 m)
theorem Mx.stays {w w':World} (h:Mx w) (hb:Below w.heap.size w w'):Mx w':=by
 obtain⟨m,h1,h2⟩:=h;exact⟨m,lle h1 hb.size,(hb.cell (p:=⟨5,0,none⟩) h1).trans h2⟩
theorem Ac5 {z:Int} (h1: -1099511627776<=z) (h2:z<=1099511627776):IntKind.i64.wrap z=z:=by
 rw [Go.PlainAid.i64_is];unfold wrap64;omega
theorem Yl (A B:ByteArray) (w:World) (hA:A.size<=200) (h:Mx w) :
 Calls prog 77 #[.string A,.string B] w fun e w'=>e = .returned (.int .i64 (Lib.index A.data.toList B.data.toList))/\w'=w:=by
 obtain⟨m,_,hm⟩:=h;exact Tryz.strings_Index A B m w (by omega) hm
theorem Qq (b off cap:Nat) (t1:Bool) (n1:Int) (s1:ByteArray) (w:World) (z1:s1.size<=200) (h1: -1099511627776<=n1) (h2:n1<=1099511627776) (hp:Hid (Pow w)) (hL:Fx w b off t1 n1 s1) (A:ByteArray) (HA:Hid (Cz t1 n1 s1=A)) (zA:A.size<=200) :
 Calls prog 142 #[.string ⟨#[108,101,110,103,116,104]⟩,.slice (some ⟨b,off,none⟩) 1 cap] w fun e w'=>e = .returned (vt (rN (A.size:Int)))/\Below w.heap.size w w':=by
 obtain⟨hb0,c0,c1,c2⟩:=hL;have hne:¬b=w.heap.size:=by omega
 go_enter func142,ntmps142
 go_wp2_with fail
 refine (Gu t1 n1 s1 _ h1 h2 (hp.out.stays (by go_grown))).mono ?_;rintro e w1 ⟨rfl,hb⟩;rw [HA.out];obtain⟨hc,hf⟩:=Ar hb;have hz:w.heap.size<w1.heap.size:=by have:=hb.size;simp at this;omega
 have HB1:Hid (Below w.heap.size w w1):=Aa (by go_grown) hb;go_wp2_with fail
 refine (F7 (A.size:Int) _).mono ?_;rintro e w2 ⟨rfl,hb2⟩;obtain⟨hc2,hf2⟩:=Ar hb2;go_wp2
 exact bodyPost_ret (v:= .tuple #[.agg #[.bool false,.int .i64 (A.size:Int),.string ⟨#[]⟩],.int .i64 0]) (by simp [results,results142,go_sem,hc,hc2,hz]) rfl ⟨rfl,A1 (Aa HB1.out hb2) lr0 _ _ _⟩
theorem Sw (b off cap:Nat) (t1:Bool) (n1:Int) (s1:ByteArray) (t2:Bool) (n2:Int) (s2:ByteArray) (w:World) (z1:s1.size<=200) (h1: -1099511627776<=n1) (h2:n1<=1099511627776) (z2:s2.size<=200) (h3: -1099511627776<=n2) (h4:n2<=1099511627776) (hp:Hid (Pow w)) (hm:Hid (Mx w)) (hL1:Fx w b off t1 n1 s1) (hL2:Fx w b (off+3) t2 n2 s2)
 (A B:ByteArray) (HA:Hid (Cz t1 n1 s1=A)) (HB:Hid (Cz t2 n2 s2=B)) (zA:A.size<=200) (zB:B.size<=200) (j:Int) (HJ:Hid (Lib.index A.data.toList B.data.toList=j)) (j1: -1<=j) (j2:j<=200) :
 Calls prog 142 #[.string ⟨#[105,110,100,101,120]⟩,.slice (some ⟨b,off,none⟩) 2 cap] w fun e w'=>e = .returned (vt (rN (j+1)))/\Below w.heap.size w w':=by
 obtain⟨hb0,c0,c1,c2⟩:=hL1;obtain⟨_,d0,d1,d2⟩:=hL2;simp only [Nat.add_assoc] at d1 d2;have hne:¬b=w.heap.size:=by omega
 have hne2:¬w.heap.size=b:=by omega
 have hlt:b<w.heap.size+1:=by omega
 have hwr:IntKind.i64.wrap (j+1)=j+1:=Ac5 (by omega) (by omega);go_enter func142,ntmps142
 go_wp2_with fail
 go_region_held3 (fun w'=>w'.cell? ⟨b,off,none⟩=some (.bool t1)/\w'.cell? ⟨b,off+1,none⟩=some (.int .i64 n1)/\w'.cell? ⟨b,off+2,none⟩=some (.string s1)/\w'.cell? ⟨b,off+3,none⟩=some (.bool t2)/\w'.cell? ⟨b,off+4,none⟩=some (.int .i64 n2)/\w'.cell? ⟨b,off+5,none⟩=some (.string s2)) (go_keep) (first
  | (go_at_call_of 166 (Value.string s1);refine (Gu _ n1 s1 _ h1 h2 ?_).mono ?_;exact hp.out.stays (by go_grown);rintro e w1 ⟨rfl,hb⟩;rw [HA.out];obtain⟨hc,hf⟩:=Ar hb;have HB1:Hid (Below w.heap.size w w1):=Aa (by go_grown) hb;have hz:w.heap.size<w1.heap.size:=(by have:=hb.size;simp at this;omega);have hzb:b<w1.heap.size:=(by omega))
  | (go_at_call_of 166 (Value.string s2);refine (Gu _ n2 s2 _ h3 h4 ?_).mono ?_;exact hp.out.stays HB1.out;rintro e w2 ⟨rfl,hb2⟩;rw [HB.out];obtain⟨hc2,hf2⟩:=Ar hb2;have HB2:Hid (Below w.heap.size w w2):=Aa HB1.out hb2;have hy:w.heap.size<w2.heap.size:=(by have:=hb2.size;omega);have hyb:b<w2.heap.size:=(by omega))
  | (go_at_call 77;refine (Yl A B _ (by omega) (hm.out.stays HB2.out)).mono ?_;rintro e w3 ⟨rfl,rfl⟩;rw [HJ.out])
  | (go_at_call 133;refine (F7 (j+1) _).mono ?_;rintro e w4 ⟨rfl,hb4⟩;obtain⟨hc4,hf4⟩:=Ar hb4;have HB4:Hid (Below w.heap.size w w4):=Aa HB2.out hb4))
 go_wp2
 exact bodyPost_ret (v:= .tuple #[.agg #[.bool false,.int .i64 (j+1),.string ⟨#[]⟩],.int .i64 0]) (by simp [results,results142,go_sem,hc,hc2,hc4,hz,hy]) rfl ⟨rfl,A1 HB4.out lr0 _ _ _⟩
theorem Qr (b off cap:Nat) (t1:Bool) (n1:Int) (s1:ByteArray) (t2:Bool) (n2:Int) (s2:ByteArray) (t3:Bool) (n3:Int) (s3:ByteArray) (w:World) (z1:s1.size<=200) (h1: -1099511627776<=n1) (h2:n1<=1099511627776) (z2:s2.size<=200) (h3: -1099511627776<=n2) (h4:n2<=1099511627776) (z3:s3.size<=200) (h5: -1099511627776<=n3) (h6:n3<=1099511627776) (hp:Hid (Pow w)) (hL1:Fx w b off t1 n1 s1) (hL2:Fx w b (off+3) t2 n2 s2) (hL3:Fx w b (off+6) t3 n3 s3)
 (A:ByteArray) (HA:Hid (Cz t1 n1 s1=A)) (zA:A.size<=200) (rt:Bool) (rn:Int) (rs:ByteArray) (re:Int) (HR:Hid (Wn A t2 n2 s2 t3 n3 s3=(rt,rn,rs,re))) :
 Calls prog 142 #[.string ⟨#[115,117,98,115,116,114]⟩,.slice (some ⟨b,off,none⟩) 3 cap] w fun e w'=>e = .returned (.tuple #[.agg #[.bool rt,.int .i64 rn,.string rs],.int .i64 re])/\Below w.heap.size w w':=by
 obtain⟨hb0,c0,c1,c2⟩:=hL1;obtain⟨_,d0,d1,d2⟩:=hL2;obtain⟨_,e0,e1,e2⟩:=hL3;simp only [Nat.add_assoc] at d1 d2 e1 e2;have hne:¬b=w.heap.size:=by omega
 have hne2:¬w.heap.size=b:=by omega
 have hlt:b<w.heap.size+1:=by omega
 go_enter func142,ntmps142
 go_wp2_with fail
 go_region_held3 (fun w'=>w'.cell? ⟨b,off,none⟩=some (.bool t1)/\w'.cell? ⟨b,off+1,none⟩=some (.int .i64 n1)/\w'.cell? ⟨b,off+2,none⟩=some (.string s1)/\w'.cell? ⟨b,off+3,none⟩=some (.bool t2)/\w'.cell? ⟨b,off+4,none⟩=some (.int .i64 n2)/\w'.cell? ⟨b,off+5,none⟩=some (.string s2)/\w'.cell? ⟨b,off+6,none⟩=some (.bool t3)/\w'.cell? ⟨b,off+7,none⟩=some (.int .i64 n3)/\w'.cell? ⟨b,off+8,none⟩=some (.string s3)) (go_keep) (first
  | (go_at_call 166;refine (Gu _ n1 s1 _ h1 h2 ?_).mono ?_;exact hp.out.stays (by go_grown);rintro e w1 ⟨rfl,hb⟩;rw [HA.out];obtain⟨hc,hf⟩:=Ar hb;have HB1:Hid (Below w.heap.size w w1):=Aa (by go_grown) hb;have hz:w.heap.size<w1.heap.size:=(by have:=hb.size;simp at this;omega);have hzb:b<w1.heap.size:=(by omega))
  | (go_at_call 172;refine (Ab5 A t2 n2 s2 t3 n3 s3 _ z2 z3 zA).mono ?_;rintro e w2 ⟨rfl,hb2⟩;rw [HR.out];obtain⟨hc2,hf2⟩:=Ar hb2;have HB2:Hid (Below w.heap.size w w2):=Aa HB1.out hb2;simp only [vt]))
 all_goals go_wp2
 all_goals exact bodyPost_ret (v:= .tuple #[.agg #[.bool rt,.int .i64 rn,.string rs],.int .i64 re]) (by simp [results,results142,go_sem,hc,hc2,hz]) rfl ⟨rfl,A1 HB2.out lr0 _ _ _⟩
theorem Sx (nm:ByteArray) (a:Option Addr) (len cap:Nat) (w:World)
 (h:((nm.toList == [108,101,110,103,116,104])=true/\((len:Int) == 1)=false/\(nm.toList == [105,110,100,101,120])=false/\(nm.toList == [115,117,98,115,116,114])=false) \/
  ((nm.toList == [108,101,110,103,116,104])=false/\(nm.toList == [105,110,100,101,120])=true/\((len:Int) == 2)=false/\(nm.toList == [115,117,98,115,116,114])=false) \/
  ((nm.toList == [108,101,110,103,116,104])=false/\(nm.toList == [105,110,100,101,120])=false/\(nm.toList == [115,117,98,115,116,114])=true/\((len:Int) == 3)=false) \/
  ((nm.toList == [108,101,110,103,116,104])=false/\(nm.toList == [105,110,100,101,120])=false/\(nm.toList == [115,117,98,115,116,114])=false)) :
 Calls prog 142 #[.string nm,.slice a len cap] w fun e w'=>e = .returned (vt (Ew 3))/\Below w.heap.size w w':=by
 obtain⟨k1,k2,k3,k4⟩ | ⟨k1,k2,k3,k4⟩ | ⟨k1,k2,k3,k4⟩ | ⟨k1,k2,k3⟩:=h
 all_goals go_enter func142,ntmps142
 all_goals go_wp2
 all_goals go_returns
 all_goals exact⟨rfl,by go_grown⟩
theorem Agb {t:Bool} {n:Int} {s:ByteArray} (h:vf t n s=0):s.size<=200 /\ -1099511627776<=n/\n<=1099511627776:=by
 rcases Ah2 h with⟨_,rfl,h1⟩ | ⟨_,rfl,h1,h2⟩
 . exact⟨h1,by omega,by omega⟩
 . exact⟨by decide,h1,h2⟩
def J2 (nm:ByteArray) (len:Nat):Prop :=
 ((nm.toList == [108,101,110,103,116,104])=true/\((len:Int) == 1)=false/\(nm.toList == [105,110,100,101,120])=false/\(nm.toList == [115,117,98,115,116,114])=false) \/
  ((nm.toList == [108,101,110,103,116,104])=false/\(nm.toList == [105,110,100,101,120])=true/\((len:Int) == 2)=false/\(nm.toList == [115,117,98,115,116,114])=false) \/
  ((nm.toList == [108,101,110,103,116,104])=false/\(nm.toList == [105,110,100,101,120])=false/\(nm.toList == [115,117,98,115,116,114])=true/\((len:Int) == 3)=false) \/
  ((nm.toList == [108,101,110,103,116,104])=false/\(nm.toList == [105,110,100,101,120])=false/\(nm.toList == [115,117,98,115,116,114])=false)
theorem Nh {l m:List UInt8} (h:¬l=m):(l == m)=false:=by simp [h]
theorem which (nm:ByteArray) (len:Nat):(nm = ⟨#[108,101,110,103,116,104]⟩/\len=1)\/(nm = ⟨#[105,110,100,101,120]⟩/\len=2)\/(nm = ⟨#[115,117,98,115,116,114]⟩/\len=3)\/J2 nm len:=by
 by_cases h1:nm.toList = [108,101,110,103,116,104]
 . by_cases k:len=1
   . exact .inl ⟨Eo h1,k⟩
   . refine .inr (.inr (.inr (.inl ⟨?_,?_,?_,?_⟩)))
     . rw [h1];rfl
     . simp;omega
     . rw [h1];rfl
     . rw [h1];rfl
 . by_cases h2:nm.toList = [105,110,100,101,120]
   . by_cases k:len=2
     . exact .inr (.inl ⟨Eo h2,k⟩)
     . refine .inr (.inr (.inr (.inr (.inl ⟨Nh h1,?_,?_,?_⟩))))
       . rw [h2];rfl
       . simp;omega
       . rw [h2];rfl
   . by_cases h3:nm.toList = [115,117,98,115,116,114]
     . by_cases k:len=3
       . exact .inr (.inr (.inl ⟨Eo h3,k⟩))
       . refine .inr (.inr (.inr (.inr (.inr (.inl ⟨Nh h1,Nh h2,?_,?_⟩)))))
         . rw [h3];rfl
         . simp;omega
     . exact .inr (.inr (.inr (.inr (.inr (.inr ⟨Nh h1,Nh h2,Nh h3⟩)))))
end Go.Proofs.YtppcohadoilpgaaGreatDoor
