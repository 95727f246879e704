/-
  Contracts of package value: functions (P1.5); does a value hold?
-/
import Derived.Test.YtodjbffhlklpkaaGreatDoorVal1
import Derived.Deep.Slices
import Derived.Deep.Strs
import Derived.Lib.Index
import Derived.Lib.IndexBytes
import Derived.PlainAid
namespace Go.Proofs.YtodjbffhlklpkaaGreatDoor
open Go.ChangeShapes Go.WideShapes Go.ChangeAt Go.RowKit Go.Joins
set_option maxHeartbeats 2000000
set_option linter.unusedVariables false
def subL (l:List UInt8) (x y:Int):List UInt8:=(l.take (x - 1+y).toNat).drop (max x 1 - 1).toNat
def subR (A:ByteArray) (x y:Int):R4:=(true,0,⟨(subL A.data.toList x y).toArray⟩,0)
theorem sub_none {A:ByteArray} {x y e:Int} {p:Nat} (hp:max x 1=(p:Int)+1) (he:min (x - 1+y) (A.size:Int)=e) (h:e<=(p:Int)):(⟨(subL A.data.toList x y).toArray⟩:ByteArray) = ⟨#[]⟩:=by
 have:subL A.data.toList x y = []:=by
  unfold subL
  apply List.drop_eq_nil_of_le
  rw [List.length_take]
  have h3:A.data.toList.length=A.size:=by simp
  rw [hp,h3]
  omega
 rw [this]
theorem sub_some {A:ByteArray} {x y:Int} {p q:Nat} (hp:max x 1=(p:Int)+1) (he:min (x - 1+y) (A.size:Int)=(q:Int)):A.extract p q = ⟨(subL A.data.toList x y).toArray⟩:=by
 apply ByteArray.ext
 rw [ByteArray.data_extract]
 apply Array.toList_inj.1
 rw [Array.toList_extract,List.extract_eq_take_drop]
 show _=subL A.data.toList x y
 unfold subL
 have e1:(max x 1 - 1).toNat=p:=by omega
 rw [e1,List.drop_take]
 by_cases h:x - 1+y<=(A.size:Int)
 . have e2:(x - 1+y).toNat=q:=by omega
   rw [e2]
 . have h3:A.data.toList.length=A.size:=by simp
   rw [List.take_of_length_le (by rw [List.length_drop,h3];omega),List.take_of_length_le (by rw [List.length_drop,h3];omega)]
theorem piece_bad1 (A:ByteArray) (t1:Bool) (n1:Int) (s1:ByteArray) (t2:Bool) (n2:Int) (s2:ByteArray) (w:World) (z1:s1.size<=200) (z2:s2.size<=200) (HBAD:Hid (numOf t1 n1 s1 < -1099511627776\/1099511627776<numOf t1 n1 s1)) :
 Calls Tryz.prog 178 #[.string A,.agg #[.bool t1,.int .i64 n1,.string s1],.agg #[.bool t2,.int .i64 n2,.string s2]] w fun e w'=>e = .returned (vt (rEnd 3))/\Below w.heap.size w w':=by
 go_enter Tryz.func178,Tryz.ntmps178
 go_wp2_with fail
 refine (num_bad t1 n1 s1 _ z1 HBAD.out).mono ?_
 rintro e w1 ⟨rfl,hb⟩
 obtain⟨hc,hf⟩:=bcell hb
 have hz:w.heap.size+2<w1.heap.size:=by have:=hb.size;simp at this;omega
 have hz1:w.heap.size+1<w1.heap.size:=by omega
 have HB1:Hid (Below w.heap.size w w1):=bl_trans (by go_grown) hb
 go_wp2_with fail
 refine (num_c t2 n2 s2 _ z2).mono ?_
 rintro e w2 ⟨rfl,hb2⟩
 obtain⟨hc2,hf2⟩:=bcell hb2
 have hy:w.heap.size+2<w2.heap.size:=by have:=hb2.size;omega
 have HB2:Hid (Below w.heap.size w w2):=bl_trans HB1.out hb2
 go_wp2
 exact bodyPost_ret (v:= .tuple #[.agg #[.bool false,.int .i64 0,.string ⟨#[]⟩],.int .i64 3]) (by simp [results,Tryz.results178,go_sem,hc,hc2,hz]) rfl ⟨rfl,below_set3 HB2.out (by omega) _ _ _⟩
theorem piece_bad2 (A:ByteArray) (t1:Bool) (n1:Int) (s1:ByteArray) (t2:Bool) (n2:Int) (s2:ByteArray) (w:World) (z1:s1.size<=200) (z2:s2.size<=200) (HOK1:Hid (okN t1 n1 s1)) (HBAD:Hid (numOf t2 n2 s2 < -1099511627776\/1099511627776<numOf t2 n2 s2)) :
 Calls Tryz.prog 178 #[.string A,.agg #[.bool t1,.int .i64 n1,.string s1],.agg #[.bool t2,.int .i64 n2,.string s2]] w fun e w'=>e = .returned (vt (rEnd 3))/\Below w.heap.size w w':=by
 go_enter Tryz.func178,Tryz.ntmps178
 go_wp2_with fail
 refine (num_ok t1 n1 s1 _ z1 HOK1.out.1 HOK1.out.2).mono ?_
 rintro e w1 ⟨rfl,hb⟩
 obtain⟨hc,hf⟩:=bcell hb
 have hz:w.heap.size+2<w1.heap.size:=by have:=hb.size;simp at this;omega
 have hz1:w.heap.size+1<w1.heap.size:=by omega
 have HB1:Hid (Below w.heap.size w w1):=bl_trans (by go_grown) hb
 go_wp2_with fail
 refine (num_bad t2 n2 s2 _ z2 HBAD.out).mono ?_
 rintro e w2 ⟨rfl,hb2⟩
 obtain⟨hc2,hf2⟩:=bcell hb2
 have hy:w.heap.size+2<w2.heap.size:=by have:=hb2.size;omega
 have HB2:Hid (Below w.heap.size w w2):=bl_trans HB1.out hb2
 go_wp2
 exact bodyPost_ret (v:= .tuple #[.agg #[.bool false,.int .i64 0,.string ⟨#[]⟩],.int .i64 3]) (by simp [results,Tryz.results178,go_sem,hc,hc2,hz]) rfl ⟨rfl,below_set3 HB2.out (by omega) _ _ _⟩
theorem piece_none (A:ByteArray) (t1:Bool) (n1:Int) (s1:ByteArray) (t2:Bool) (n2:Int) (s2:ByteArray) (w:World) (z1:s1.size<=200) (z2:s2.size<=200) (x y:Int) (HX:Hid (numOf t1 n1 s1=x)) (HY:Hid (numOf t2 n2 s2=y)) (x1: -1099511627776<=x) (x2:x<=1099511627776) (y1: -1099511627776<=y) (y2:y<=1099511627776) (hA:A.size<=200) (p:Nat) (e0:Int) (hp:max x 1=(p:Int)+1) (he:min (x - 1+y) (A.size:Int)=e0) (h:e0<=(p:Int)) :
 Calls Tryz.prog 178 #[.string A,.agg #[.bool t1,.int .i64 n1,.string s1],.agg #[.bool t2,.int .i64 n2,.string s2]] w fun e w'=>e = .returned (.tuple #[.agg #[.bool true,.int .i64 0,.string ⟨#[]⟩],.int .i64 0])/\Below w.heap.size w w':=by
 have HOK1:Hid (okN t1 n1 s1):=by have h:=HX.out;unfold okN;show _/\_;rw [h];exact⟨x1,x2⟩
 have HOK2:Hid (okN t2 n2 s2):=by have h:=HY.out;unfold okN;show _/\_;rw [h];exact⟨y1,y2⟩
 go_enter Tryz.func178,Tryz.ntmps178
 go_wp2_with fail
 refine (num_ok t1 n1 s1 _ z1 HOK1.out.1 HOK1.out.2).mono ?_
 rintro e w1 ⟨rfl,hb⟩
 rw [HX.out]
 obtain⟨hc,hf⟩:=bcell hb
 have hz:w.heap.size+2<w1.heap.size:=by have:=hb.size;simp at this;omega
 have hz1:w.heap.size+1<w1.heap.size:=by omega
 have HB1:Hid (Below w.heap.size w w1):=bl_trans (by go_grown) hb
 go_wp2_with fail
 refine (num_ok t2 n2 s2 _ z2 HOK2.out.1 HOK2.out.2).mono ?_
 rintro e w2 ⟨rfl,hb2⟩
 rw [HY.out]
 obtain⟨hc2,hf2⟩:=bcell hb2
 have hy:w.heap.size+2<w2.heap.size:=by have:=hb2.size;omega
 have HB2:Hid (Below w.heap.size w w2):=bl_trans HB1.out hb2
 go_wp2_with fail
 refine (text_c ⟨#[]⟩ _).mono ?_
 rintro e w3 ⟨rfl,hb3⟩
 obtain⟨hc3,hf3⟩:=bcell hb3
 go_wp2
 exact bodyPost_ret (v:= .tuple #[.agg #[.bool true,.int .i64 0,.string ⟨#[]⟩],.int .i64 0]) (by simp [results,Tryz.results178,go_sem,hc,hc2,hc3,hz,hy]) rfl ⟨rfl,below_set3 (bl_trans HB2.out hb3) (by omega) _ _ _⟩
theorem piece_some (A:ByteArray) (t1:Bool) (n1:Int) (s1:ByteArray) (t2:Bool) (n2:Int) (s2:ByteArray) (w:World) (z1:s1.size<=200) (z2:s2.size<=200) (x y:Int) (HX:Hid (numOf t1 n1 s1=x)) (HY:Hid (numOf t2 n2 s2=y)) (x1: -1099511627776<=x) (x2:x<=1099511627776) (y1: -1099511627776<=y) (y2:y<=1099511627776) (hA:A.size<=200) (p q:Nat) (hp:max x 1=(p:Int)+1) (he:min (x - 1+y) (A.size:Int)=(q:Int)) (h:(p:Int)<(q:Int)) (hq:(q:Int)<=(A.size:Int)) :
 Calls Tryz.prog 178 #[.string A,.agg #[.bool t1,.int .i64 n1,.string s1],.agg #[.bool t2,.int .i64 n2,.string s2]] w fun e w'=>e = .returned (.tuple #[.agg #[.bool true,.int .i64 0,.string (A.extract p q)],.int .i64 0])/\Below w.heap.size w w':=by
 have p0:(0:Int)<=(p:Int):=by omega
 have q0:(0:Int)<=(q:Int):=by omega
 have hpq:(p:Int)<=(q:Int):=by omega
 have hpqn:p<=q:=by omega
 have hqn:q<=A.size:=by omega
 have HOK1:Hid (okN t1 n1 s1):=by have h:=HX.out;unfold okN;show _/\_;rw [h];exact⟨x1,x2⟩
 have HOK2:Hid (okN t2 n2 s2):=by have h:=HY.out;unfold okN;show _/\_;rw [h];exact⟨y1,y2⟩
 go_enter Tryz.func178,Tryz.ntmps178
 go_wp2_with fail
 refine (num_ok t1 n1 s1 _ z1 HOK1.out.1 HOK1.out.2).mono ?_
 rintro e w1 ⟨rfl,hb⟩
 rw [HX.out]
 obtain⟨hc,hf⟩:=bcell hb
 have hz:w.heap.size+2<w1.heap.size:=by have:=hb.size;simp at this;omega
 have hz1:w.heap.size+1<w1.heap.size:=by omega
 have HB1:Hid (Below w.heap.size w w1):=bl_trans (by go_grown) hb
 go_wp2_with fail
 refine (num_ok t2 n2 s2 _ z2 HOK2.out.1 HOK2.out.2).mono ?_
 rintro e w2 ⟨rfl,hb2⟩
 rw [HY.out]
 obtain⟨hc2,hf2⟩:=bcell hb2
 have hy:w.heap.size+2<w2.heap.size:=by have:=hb2.size;omega
 have HB2:Hid (Below w.heap.size w w2):=bl_trans HB1.out hb2
 go_wp2_with fail
 refine (text_c (A.extract p q) _).mono ?_
 rintro e w3 ⟨rfl,hb3⟩
 obtain⟨hc3,hf3⟩:=bcell hb3
 go_wp2
 exact bodyPost_ret (v:= .tuple #[.agg #[.bool true,.int .i64 0,.string (A.extract p q)],.int .i64 0]) (by simp [results,Tryz.results178,go_sem,hc,hc2,hc3,hz,hy]) rfl ⟨rfl,below_set3 (bl_trans HB2.out hb3) (by omega) _ _ _⟩
def pceR (A:ByteArray) (t1:Bool) (n1:Int) (s1:ByteArray) (t2:Bool) (n2:Int) (s2:ByteArray):R4 :=
 if (-1099511627776<=numOf t1 n1 s1/\numOf t1 n1 s1<=1099511627776)/\(-1099511627776<=numOf t2 n2 s2/\numOf t2 n2 s2<=1099511627776) then subR A (numOf t1 n1 s1) (numOf t2 n2 s2) else rEnd 3
theorem piece_c (A:ByteArray) (t1:Bool) (n1:Int) (s1:ByteArray) (t2:Bool) (n2:Int) (s2:ByteArray) (w:World) (z1:s1.size<=200) (z2:s2.size<=200) (hA:A.size<=200) :
 Calls Tryz.prog 178 #[.string A,.agg #[.bool t1,.int .i64 n1,.string s1],.agg #[.bool t2,.int .i64 n2,.string s2]] w fun e w'=>e = .returned (vt (pceR A t1 n1 s1 t2 n2 s2))/\Below w.heap.size w w':=by
 unfold pceR
 split
 . rename_i hk
   obtain⟨⟨x1,x2⟩,⟨y1,y2⟩⟩:=hk
   generalize hx:numOf t1 n1 s1=x at x1 x2 ⊢
   generalize hy:numOf t2 n2 s2=y at y1 y2 ⊢
   have hp:max x 1=(((max x 1 - 1).toNat:Nat):Int)+1:=by omega
   by_cases h:min (x - 1+y) (A.size:Int)<=(((max x 1 - 1).toNat:Nat):Int)
   . have e:vt (subR A x y) = .tuple #[.agg #[.bool true,.int .i64 0,.string ⟨#[]⟩],.int .i64 0]:=by
      unfold subR vt;rw [sub_none hp rfl h]
     rw [e]
     exact piece_none A t1 n1 s1 t2 n2 s2 w z1 z2 x y hx hy x1 x2 y1 y2 hA _ _ hp rfl h
   . have hq:min (x - 1+y) (A.size:Int)=(((min (x - 1+y) (A.size:Int)).toNat:Nat):Int):=by omega
     have e:vt (subR A x y) = .tuple #[.agg #[.bool true,.int .i64 0,.string (A.extract (max x 1 - 1).toNat (min (x - 1+y) (A.size:Int)).toNat)],.int .i64 0]:=by
      unfold subR vt;rw [sub_some hp hq]
     rw [e]
     exact piece_some A t1 n1 s1 t2 n2 s2 w z1 z2 x y hx hy x1 x2 y1 y2 hA _ _ hp hq (by omega) (by omega)
 . rename_i hk
   by_cases k1:okN t1 n1 s1
   . exact piece_bad2 A t1 n1 s1 t2 n2 s2 w z1 z2 k1 (okN_not fun k2=>hk ⟨k1,k2⟩)
   . exact piece_bad1 A t1 n1 s1 t2 n2 s2 w z1 z2 (okN_not k1)
def LiesAt (w:World) (b o:Nat) (t:Bool) (n:Int) (s:ByteArray):Prop :=
 b<w.heap.size/\w.cell? ⟨b,o,none⟩=some (.bool t)/\w.cell? ⟨b,o+1,none⟩=some (.int .i64 n)/\w.cell? ⟨b,o+2,none⟩=some (.string s)
theorem LiesAt.below {w w':World} {b o:Nat} {t:Bool} {n:Int} {s:ByteArray} (h:LiesAt w b o t n s) (hb:Below w.heap.size w w'):LiesAt w' b o t n s :=
 ⟨Nat.lt_of_lt_of_le h.1 hb.size,(hb.cell (p:=⟨b,o,none⟩) h.1).trans h.2.1,(hb.cell (p:=⟨b,o+1,none⟩) h.1).trans h.2.2.1,(hb.cell (p:=⟨b,o+2,none⟩) h.1).trans h.2.2.2⟩
def Mx (w:World):Prop:=∃m,0<w.heap.size/\w.cell? ⟨0,0,none⟩=some (.int .i64 m)
theorem Mx.stays {w w':World} (h:Mx w) (hb:Below w.heap.size w w'):Mx w':=by
 obtain⟨m,h1,h2⟩:=h
 exact⟨m,Nat.lt_of_lt_of_le h1 hb.size,(hb.cell (p:=⟨0,0,none⟩) h1).trans h2⟩
theorem wrap_id {z:Int} (h1: -1099511627776<=z) (h2:z<=1099511627776):IntKind.i64.wrap z=z:=by
 rw [Go.PlainAid.i64_is];unfold wrap64;omega
theorem index_at (A B:ByteArray) (w:World) (hA:A.size<=200) (h:Mx w) :
 Calls Tryz.prog 96 #[.string A,.string B] w fun e w'=>e = .returned (.int .i64 (Lib.index A.data.toList B.data.toList))/\w'=w:=by
 obtain⟨m,_,hm⟩:=h
 exact Tryz.strings_Index A B m w (by omega) hm
theorem call_length (b off cap:Nat) (t1:Bool) (n1:Int) (s1:ByteArray) (w:World) (z1:s1.size<=200) (h1: -1099511627776<=n1) (h2:n1<=1099511627776) (hp:Hid (Pow w)) (hL:LiesAt w b off t1 n1 s1) (A:ByteArray) (HA:Hid (strOf t1 n1 s1=A)) (zA:A.size<=200) :
 Calls Tryz.prog 156 #[.string ⟨#[108,101,110,103,116,104]⟩,.slice (some ⟨b,off,none⟩) 1 cap] w fun e w'=>e = .returned (vt (rN (A.size:Int)))/\Below w.heap.size w w':=by
 obtain⟨hb0,c0,c1,c2⟩:=hL
 have hne:¬b=w.heap.size:=by omega
 go_enter Tryz.func156,Tryz.ntmps156
 go_wp2_with fail
 refine (str_c t1 n1 s1 _ h1 h2 (hp.out.stays (by go_grown))).mono ?_
 rintro e w1 ⟨rfl,hb⟩
 rw [HA.out]
 obtain⟨hc,hf⟩:=bcell hb
 have hz:w.heap.size<w1.heap.size:=by have:=hb.size;simp at this;omega
 have HB1:Hid (Below w.heap.size w w1):=bl_trans (by go_grown) hb
 go_wp2_with fail
 refine (number_c (A.size:Int) _).mono ?_
 rintro e w2 ⟨rfl,hb2⟩
 obtain⟨hc2,hf2⟩:=bcell hb2
 go_wp2
 exact bodyPost_ret (v:= .tuple #[.agg #[.bool false,.int .i64 (A.size:Int),.string ⟨#[]⟩],.int .i64 0]) (by simp [results,Tryz.results156,go_sem,hc,hc2,hz]) rfl ⟨rfl,below_set3 (bl_trans HB1.out hb2) (Nat.le_refl _) _ _ _⟩
theorem call_index (b off cap:Nat) (t1:Bool) (n1:Int) (s1:ByteArray) (t2:Bool) (n2:Int) (s2:ByteArray) (w:World) (z1:s1.size<=200) (h1: -1099511627776<=n1) (h2:n1<=1099511627776) (z2:s2.size<=200) (h3: -1099511627776<=n2) (h4:n2<=1099511627776) (hp:Hid (Pow w)) (hm:Hid (Mx w)) (hL1:LiesAt w b off t1 n1 s1) (hL2:LiesAt w b (off+3) t2 n2 s2)
 (A B:ByteArray) (HA:Hid (strOf t1 n1 s1=A)) (HB:Hid (strOf t2 n2 s2=B)) (zA:A.size<=200) (zB:B.size<=200) (j:Int) (HJ:Hid (Lib.index A.data.toList B.data.toList=j)) (j1: -1<=j) (j2:j<=200) :
 Calls Tryz.prog 156 #[.string ⟨#[105,110,100,101,120]⟩,.slice (some ⟨b,off,none⟩) 2 cap] w fun e w'=>e = .returned (vt (rN (j+1)))/\Below w.heap.size w w':=by
 obtain⟨hb0,c0,c1,c2⟩:=hL1
 obtain⟨_,d0,d1,d2⟩:=hL2
 simp only [Nat.add_assoc] at d1 d2
 have hne:¬b=w.heap.size:=by omega
 have hne2:¬w.heap.size=b:=by omega
 have hlt:b<w.heap.size+1:=by omega
 have hwr:IntKind.i64.wrap (j+1)=j+1:=wrap_id (by omega) (by omega)
 go_enter Tryz.func156,Tryz.ntmps156
 go_wp2_with fail
 go_region_held3 (fun w'=>w'.cell? ⟨b,off,none⟩=some (.bool t1)/\w'.cell? ⟨b,off+1,none⟩=some (.int .i64 n1)/\w'.cell? ⟨b,off+2,none⟩=some (.string s1)/\w'.cell? ⟨b,off+3,none⟩=some (.bool t2)/\w'.cell? ⟨b,off+4,none⟩=some (.int .i64 n2)/\w'.cell? ⟨b,off+5,none⟩=some (.string s2)) (go_keep) (first
  | (go_at_call_of 172 (Value.string s1);refine (str_c _ n1 s1 _ h1 h2 ?_).mono ?_;exact hp.out.stays (by go_grown);rintro e w1 ⟨rfl,hb⟩;rw [HA.out];obtain⟨hc,hf⟩:=bcell hb;have HB1:Hid (Below w.heap.size w w1):=bl_trans (by go_grown) hb;have hz:w.heap.size<w1.heap.size:=(by have:=hb.size;simp at this;omega);have hzb:b<w1.heap.size:=(by omega))
  | (go_at_call_of 172 (Value.string s2);refine (str_c _ n2 s2 _ h3 h4 ?_).mono ?_;exact hp.out.stays HB1.out;rintro e w2 ⟨rfl,hb2⟩;rw [HB.out];obtain⟨hc2,hf2⟩:=bcell hb2;have HB2:Hid (Below w.heap.size w w2):=bl_trans HB1.out hb2;have hy:w.heap.size<w2.heap.size:=(by have:=hb2.size;omega);have hyb:b<w2.heap.size:=(by omega))
  | (go_at_call 96;refine (index_at A B _ (by omega) (hm.out.stays HB2.out)).mono ?_;rintro e w3 ⟨rfl,rfl⟩;rw [HJ.out])
  | (go_at_call 147;refine (number_c (j+1) _).mono ?_;rintro e w4 ⟨rfl,hb4⟩;obtain⟨hc4,hf4⟩:=bcell hb4;have HB4:Hid (Below w.heap.size w w4):=bl_trans HB2.out hb4))
 go_wp2
 exact bodyPost_ret (v:= .tuple #[.agg #[.bool false,.int .i64 (j+1),.string ⟨#[]⟩],.int .i64 0]) (by simp [results,Tryz.results156,go_sem,hc,hc2,hc4,hz,hy]) rfl ⟨rfl,below_set3 HB4.out (Nat.le_refl _) _ _ _⟩
theorem call_substr (b off cap:Nat) (t1:Bool) (n1:Int) (s1:ByteArray) (t2:Bool) (n2:Int) (s2:ByteArray) (t3:Bool) (n3:Int) (s3:ByteArray) (w:World) (z1:s1.size<=200) (h1: -1099511627776<=n1) (h2:n1<=1099511627776) (z2:s2.size<=200) (h3: -1099511627776<=n2) (h4:n2<=1099511627776) (z3:s3.size<=200) (h5: -1099511627776<=n3) (h6:n3<=1099511627776) (hp:Hid (Pow w)) (hL1:LiesAt w b off t1 n1 s1) (hL2:LiesAt w b (off+3) t2 n2 s2) (hL3:LiesAt w b (off+6) t3 n3 s3)
 (A:ByteArray) (HA:Hid (strOf t1 n1 s1=A)) (zA:A.size<=200) (rt:Bool) (rn:Int) (rs:ByteArray) (re:Int) (HR:Hid (pceR A t2 n2 s2 t3 n3 s3=(rt,rn,rs,re))) :
 Calls Tryz.prog 156 #[.string ⟨#[115,117,98,115,116,114]⟩,.slice (some ⟨b,off,none⟩) 3 cap] w fun e w'=>e = .returned (.tuple #[.agg #[.bool rt,.int .i64 rn,.string rs],.int .i64 re])/\Below w.heap.size w w':=by
 obtain⟨hb0,c0,c1,c2⟩:=hL1
 obtain⟨_,d0,d1,d2⟩:=hL2
 obtain⟨_,e0,e1,e2⟩:=hL3
 simp only [Nat.add_assoc] at d1 d2 e1 e2
 have hne:¬b=w.heap.size:=by omega
 have hne2:¬w.heap.size=b:=by omega
 have hlt:b<w.heap.size+1:=by omega
 go_enter Tryz.func156,Tryz.ntmps156
 go_wp2_with fail
 go_region_held3 (fun w'=>w'.cell? ⟨b,off,none⟩=some (.bool t1)/\w'.cell? ⟨b,off+1,none⟩=some (.int .i64 n1)/\w'.cell? ⟨b,off+2,none⟩=some (.string s1)/\w'.cell? ⟨b,off+3,none⟩=some (.bool t2)/\w'.cell? ⟨b,off+4,none⟩=some (.int .i64 n2)/\w'.cell? ⟨b,off+5,none⟩=some (.string s2)/\w'.cell? ⟨b,off+6,none⟩=some (.bool t3)/\w'.cell? ⟨b,off+7,none⟩=some (.int .i64 n3)/\w'.cell? ⟨b,off+8,none⟩=some (.string s3)) (go_keep) (first
  | (go_at_call 172;refine (str_c _ n1 s1 _ h1 h2 ?_).mono ?_;exact hp.out.stays (by go_grown);rintro e w1 ⟨rfl,hb⟩;rw [HA.out];obtain⟨hc,hf⟩:=bcell hb;have HB1:Hid (Below w.heap.size w w1):=bl_trans (by go_grown) hb;have hz:w.heap.size<w1.heap.size:=(by have:=hb.size;simp at this;omega);have hzb:b<w1.heap.size:=(by omega))
  | (go_at_call 178;refine (piece_c A t2 n2 s2 t3 n3 s3 _ z2 z3 zA).mono ?_;rintro e w2 ⟨rfl,hb2⟩;rw [HR.out];obtain⟨hc2,hf2⟩:=bcell hb2;have HB2:Hid (Below w.heap.size w w2):=bl_trans HB1.out hb2;simp only [vt]))
 all_goals go_wp2
 all_goals exact bodyPost_ret (v:= .tuple #[.agg #[.bool rt,.int .i64 rn,.string rs],.int .i64 re]) (by simp [results,Tryz.results156,go_sem,hc,hc2,hz]) rfl ⟨rfl,below_set3 HB2.out (Nat.le_refl _) _ _ _⟩
theorem call_other (nm:ByteArray) (a:Option Addr) (len cap:Nat) (w:World)
 (h:((nm.toList == [108,101,110,103,116,104])=true/\((len:Int) == 1)=false/\(nm.toList == [105,110,100,101,120])=false/\(nm.toList == [115,117,98,115,116,114])=false) \/
  ((nm.toList == [108,101,110,103,116,104])=false/\(nm.toList == [105,110,100,101,120])=true/\((len:Int) == 2)=false/\(nm.toList == [115,117,98,115,116,114])=false) \/
  ((nm.toList == [108,101,110,103,116,104])=false/\(nm.toList == [105,110,100,101,120])=false/\(nm.toList == [115,117,98,115,116,114])=true/\((len:Int) == 3)=false) \/
  ((nm.toList == [108,101,110,103,116,104])=false/\(nm.toList == [105,110,100,101,120])=false/\(nm.toList == [115,117,98,115,116,114])=false)) :
 Calls Tryz.prog 156 #[.string nm,.slice a len cap] w fun e w'=>e = .returned (vt (rEnd 3))/\Below w.heap.size w w':=by
 obtain⟨k1,k2,k3,k4⟩ | ⟨k1,k2,k3,k4⟩ | ⟨k1,k2,k3,k4⟩ | ⟨k1,k2,k3⟩:=h
 all_goals go_enter Tryz.func156,Tryz.ntmps156
 all_goals go_wp2
 all_goals go_returns
 all_goals exact⟨rfl,by go_grown⟩
theorem vf_may {t:Bool} {n:Int} {s:ByteArray} (h:vf t n s=0):s.size<=200 /\ -1099511627776<=n/\n<=1099511627776:=by
 rcases vf_ok h with⟨_,rfl,h1⟩ | ⟨_,rfl,h1,h2⟩
 . exact⟨h1,by omega,by omega⟩
 . exact⟨by decide,h1,h2⟩
def Other (nm:ByteArray) (len:Nat):Prop :=
 ((nm.toList == [108,101,110,103,116,104])=true/\((len:Int) == 1)=false/\(nm.toList == [105,110,100,101,120])=false/\(nm.toList == [115,117,98,115,116,114])=false) \/
  ((nm.toList == [108,101,110,103,116,104])=false/\(nm.toList == [105,110,100,101,120])=true/\((len:Int) == 2)=false/\(nm.toList == [115,117,98,115,116,114])=false) \/
  ((nm.toList == [108,101,110,103,116,104])=false/\(nm.toList == [105,110,100,101,120])=false/\(nm.toList == [115,117,98,115,116,114])=true/\((len:Int) == 3)=false) \/
  ((nm.toList == [108,101,110,103,116,104])=false/\(nm.toList == [105,110,100,101,120])=false/\(nm.toList == [115,117,98,115,116,114])=false)
theorem bne_l {l m:List UInt8} (h:¬l=m):(l == m)=false:=by simp [h]
theorem which (nm:ByteArray) (len:Nat):(nm = ⟨#[108,101,110,103,116,104]⟩/\len=1)\/(nm = ⟨#[105,110,100,101,120]⟩/\len=2)\/(nm = ⟨#[115,117,98,115,116,114]⟩/\len=3)\/Other nm len:=by
 by_cases h1:nm.toList = [108,101,110,103,116,104]
 . by_cases k:len=1
   . exact .inl ⟨op_of h1,k⟩
   . refine .inr (.inr (.inr (.inl ⟨?_,?_,?_,?_⟩)))
     . rw [h1];rfl
     . simp;omega
     . rw [h1];rfl
     . rw [h1];rfl
 . by_cases h2:nm.toList = [105,110,100,101,120]
   . by_cases k:len=2
     . exact .inr (.inl ⟨op_of h2,k⟩)
     . refine .inr (.inr (.inr (.inr (.inl ⟨bne_l h1,?_,?_,?_⟩))))
       . rw [h2];rfl
       . simp;omega
       . rw [h2];rfl
   . by_cases h3:nm.toList = [115,117,98,115,116,114]
     . by_cases k:len=3
       . exact .inr (.inr (.inl ⟨op_of h3,k⟩))
       . refine .inr (.inr (.inr (.inr (.inr (.inl ⟨bne_l h1,bne_l h2,?_,?_⟩)))))
         . rw [h3];rfl
         . simp;omega
     . exact .inr (.inr (.inr (.inr (.inr (.inr ⟨bne_l h1,bne_l h2,bne_l h3⟩)))))
end Go.Proofs.YtodjbffhlklpkaaGreatDoor
