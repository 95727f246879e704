/-
  TopLines: its walk.
-/
import Derived.Test.YtodjbffhlklpkaaGreatDoorLineL
namespace Go.Proofs.YtodjbffhlklpkaaGreatDoor.topLines
open Go.ChangeShapes Go.WideShapes Go.ChangeAt Go.RowKit Go.Joins
set_option maxHeartbeats 4000000
set_option linter.unusedVariables false
set_option linter.unusedSimpArgs false
set_option maxRecDepth 100000
theorem walk (l:List Rw) (v:Value) (lf:List Rw) (vf:Value) (ln:List Rw) (vn:Value) (lm:List Rw) (vm:Value) (w:World) (hK:Kr w) (hv:RwA w w.heap.size v l) (hvf:RwA w w.heap.size vf lf) (hvn:RwA w w.heap.size vn ln) (hvm:RwA w w.heap.size vm lm) :
 Calls Tryz.prog 3 #[v,vf,vn,vm] w fun e w'=>e = .returned (.bool true)/\Below w.heap.size w w':=by
 have HK:Hid (Kr w):=hK
 have HT:=hid (tells_c w hK)
 have HV:Hid (RwA w w.heap.size v l):=hv
 have HVF:Hid (RwA w w.heap.size vf lf):=hvf
 have HVN:Hid (RwA w w.heap.size vn ln):=hvn
 have HVM:Hid (RwA w w.heap.size vm lm):=hvm
 obtain⟨a0,cap0,rfl,-,-,-⟩:=hv
 obtain⟨a1,cap1,rfl,-,-,-⟩:=hvf
 obtain⟨a2,cap2,rfl,-,-,-⟩:=hvn
 obtain⟨a3,cap3,rfl,-,-,-⟩:=hvm
 clear hK
 go_enter Tryz.func3,Tryz.ntmps3
 go_wp2_with fail
 refine Calls.mono HT.out ?_
 rintro e w0 ⟨rfl,hb0⟩
 have HB0:Hid (Below w.heap.size w w0):=hb0
 have HSR:=hid (source_c l _ w0 (HV.out.stays hb0) (HK.out.stays hb0).pw)
 clear HT hb0 HV
 go_wp2_with fail
 refine Calls.mono HSR.out ?_
 rintro e w1 ⟨s,rfl,hG,hb1⟩
 obtain⟨n,t,hn,hR,rfl⟩:=hG
 have HR:Hid (GR n t):=hR
 have HB1:Hid (Below w.heap.size w w1):=bl_trans HB0.out hb1
 obtain⟨L,hL⟩:∃L:Nat,L=t.length:=⟨_,rfl⟩
 obtain⟨S,hS⟩:∃S,S=bs (t ++ endL):=⟨_,rfl⟩
 rw [<-hS]
 have hsz:S.size=L+61:=by
  have h:endL.length=61:=by decide
  rw [hS,bs_size,List.length_append,h,hL]
 have hle:L<=400000:=by
  have:=hR.len
  omega
 have HLI:Hid (∀w,Calls Tryz.prog 7 #[.string S,.string ⟨#[69,78,68,32]⟩] w fun e w'=>e = .returned (.int .i64 (L:Int))/\w'=w):=fun w=>by
  have h:=Tryz.strings_LastIndex S ⟨#[69,78,68,32]⟩ (by omega) w
  rw [hS] at h ⊢
  rw [show (bs (t ++ endL)).data.toList=t ++ endL by simp [bs],show ((⟨#[69,78,68,32]⟩:ByteArray).data.toList) = [69,78,68,32] by rfl,last_end,<-hL] at h
  exact h
 have HRD:Hid (∀w',Below w.heap.size w w'->Calls Tryz.prog 6 #[.string (bs t)] w' (ReadL w')):=fun w' hb=>readL_c t w' hR.noD (by rw [<-hL];exact hle) (HK.out.stays hb)
 have HS:Hid (S=bs (t ++ endL)/\L=t.length):=⟨hS,hL⟩
 clear hb1 hR hS hL HB0 HSR hn
 have i1:(0:Int)<=(L:Int):=by omega
 have i2:(L:Int)<=(S.size:Int):=by omega
 go_wp2_with fail
 refine Calls.mono (HLI.out _) ?_
 rintro e w2 ⟨rfl,hw2⟩
 rw [hw2]
 clear hw2 w2 HLI
 have HX:Hid (S.extract 0 L=bs t):=by
  obtain⟨hS,hL⟩:=HS.out
  have h:(S.extract 0 L).toList=t:=by
   rw [hS,hL,ByteArray.toList_eq]
   simp [bs]
  unfold Hid
  rw [<-h,bs_toList]
 go_wp2_with fail
 rw [HX.out]
 refine Calls.mono (HRD.out _ HB1.out) ?_
 rintro e w3 ⟨hb3,h⟩
 rcases h with⟨p,a,cap,hck,hend,rfl,hp⟩ | ⟨er,h0,rfl⟩
 case inr =>
  have HB:Hid (Below w.heap.size w w3):=bl_trans HB1.out hb3
  have h0':(er != 0)=true:=by simpa using h0
  clear hb3 HK HVF HVN HVM HRD HB1 HX HS h0
  go_wp2_with fail
  go_ret
  exact⟨rfl,HB.out.alloc HB.out.size _⟩
 obtain⟨N,hN⟩:∃N,N=p.length:=⟨_,rfl⟩
 obtain⟨b,hb⟩:∃b,b=w3.heap.size:=⟨_,rfl⟩
 obtain⟨V,hV⟩:∃V,V=w3.alloc (.cells #[.slice a N cap] 27):=⟨_,rfl⟩
 have c0:V.cell? ⟨b,0,none⟩=some (.slice a N cap):=by rw [hV,hb];simp [go_sem]
 have hb2:Below w3.heap.size w3 V:=by rw [hV];exact (Below.refl _ _).alloc (Nat.le_refl _) _
 have HBV:Hid (Below w.heap.size w V/\b<V.heap.size):=⟨bl_trans (bl_trans HB1.out hb3) hb2,by rw [hV,hb];simp⟩
 have HPV:Hid (PrgA V (.slice a p.length cap) p/\ckP 6000 p=0/\∀r ∈ p,r.when ≠ 2):=⟨hp V ⟨hb2.size,fun k _ hk=>hb2.block k hk⟩,hck,hend⟩
 have HKV:Hid (Kr V):=HK.out.stays HBV.out.1
 have HVF2:Hid (RwA V V.heap.size (.slice a1 lf.length cap1) lf):=HVF.out.stays HBV.out.1
 have HVN2:Hid (RwA V V.heap.size (.slice a2 ln.length cap2) ln):=HVN.out.stays HBV.out.1
 have HVM2:Hid (RwA V V.heap.size (.slice a3 lm.length cap3) lm):=HVM.out.stays HBV.out.1
 rw [<-hN] at HPV ⊢
 have HVV:=hid hV
 have HBQ:=hid hb
 clear hp hck hend hN hV hb hb2 hb3 HK HVF HVN HVM HB1 HRD HX HS i1 i2
 go_wp2_with fail
 rw [<-HVV.out,<-HBQ.out]
 clear HVV HBQ
 refine Calls.mono (lines_o ln _ V HVN2.out) ?_
 rintro e w4 ⟨xf,nf,cpf,rfl,hb4,htf,hff⟩
 obtain⟨F,hF⟩:∃F,F=filesF lf:=⟨_,rfl⟩
 obtain⟨ls,hls⟩:∃ls,ls=linesD ln:=⟨_,rfl⟩
 obtain⟨lt,hlt⟩:∃lt,lt=linesD lm:=⟨_,rfl⟩
 rw [<-hls] at htf
 have HLL:Hid (ls.length<=8/\lt.length<=8/\(∀x ∈ ls,x.size<=20)/\∀x ∈ lt,x.size<=20):=⟨by rw [hls];exact linesD_len ln,by rw [hlt];exact linesD_len lm,by rw [hls];exact fun x hx=>(linesD_ok x hx).1,by rw [hlt];exact fun x hx=>(linesD_ok x hx).1⟩
 have HW:Hid (worldR F ls=0/\worldR F (ls ++ lt)=0):=by
  have h1:∀x ∈ ls,lineB x=true:=by rw [hls];exact fun x hx=>(linesD_ok x hx).2
  have h2:∀x ∈ lt,lineB x=true:=by rw [hlt];exact fun x hx=>(linesD_ok x hx).2
  rw [hF]
  refine⟨filesF_world lf (by have:=HLL.out;omega) h1,filesF_world lf (by have:=HLL.out;rw [List.length_append];omega) fun x hx=>?_⟩
  rcases List.mem_append.1 hx with h | h
  . exact h1 x h
  . exact h2 x h
 have HBX:Hid (Below V.heap.size V w4/\Below w.heap.size w w4/\b<w4.heap.size):=⟨hb4,bl_trans HBV.out.1 hb4,Nat.lt_of_lt_of_le HBV.out.2 hb4.size⟩
 obtain⟨Z,hZ⟩:∃Z,Z=w4:=⟨_,rfl⟩
 rw [<-hZ] at hb4 htf HBX ⊢
 clear hZ w4
 have c1:Z.cell? ⟨b,0,none⟩=some (.slice a N cap):=(hb4.cell (p:=⟨b,0,none⟩) HBV.out.2).trans c0
 have HTF:=hid htf
 have HFF:=hid hff
 obtain⟨hA,hB⟩:=lines_ab F p HPV.out.2.2 ls lt
 have hrA:=fun w' fv lv (hb:Below Z.heap.size Z w') (h1:FlsA w' fv F) (h2:TxsA w' lv ls)=>run_g ((HPV.out.1.stays HBX.out.1).stays hb) ((HKV.out.stays HBX.out.1).stays hb) h1 h2 HPV.out.2.1 HW.out.1
 have hrB:=fun w' fv lv (hb:Below Z.heap.size Z w') (h1:FlsA w' fv F) (h2:TxsA w' lv (ls ++ lt))=>run_g ((HPV.out.1.stays HBX.out.1).stays hb) ((HKV.out.stays HBX.out.1).stays hb) h1 h2 HPV.out.2.1 HW.out.2
 obtain⟨EA,hEA⟩:∃E,E=(outL F p ls).1:=⟨_,rfl⟩
 obtain⟨OA,hOA⟩:∃O,O=(outL F p ls).2.1:=⟨_,rfl⟩
 obtain⟨UA,hUA⟩:∃U:Int,U=20000 - ((outL F p ls).2.2:Int):=⟨_,rfl⟩
 obtain⟨EB,hEB⟩:∃E,E=(outL F p (ls ++ lt)).1:=⟨_,rfl⟩
 obtain⟨OB,hOB⟩:∃O,O=(outL F p (ls ++ lt)).2.1:=⟨_,rfl⟩
 obtain⟨UB,hUB⟩:∃U:Int,U=20000 - ((outL F p (ls ++ lt)).2.2:Int):=⟨_,rfl⟩
 obtain⟨LA,hLA⟩:∃n,n=OA.length:=⟨_,rfl⟩
 obtain⟨LB,hLB⟩:∃n,n=OB.length:=⟨_,rfl⟩
 rw [<-hEA,<-hEB] at hB
 rw [<-hOA,<-hOB] at hA
 simp only [<-hEA,<-hUA,<-hOA,<-hLA] at hrA
 simp only [<-hEB,<-hUB,<-hOB,<-hLB] at hrB
 have HAB:Hid (OA <+: OB/\(EA=0\/EA=EB)/\LA=OA.length/\LB=OB.length/\LA<=LB):=⟨hA,hB,hLA,hLB,by rw [hLA,hLB];exact hA.length_le⟩
 have HFI:Hid (∀w',Below Z.heap.size Z w'->Calls Tryz.prog 10 #[.slice a1 lf.length cap1] w' fun e w''=>∃x cp,e = .returned (.slice x 1 cp)/\Below w'.heap.size w' w''/\FlsA w'' (.slice x 1 cp) F):=fun w' hb=>by
  rw [hF]
  exact files_c lf _ w' ((HVF2.out.stays HBX.out.1).stays hb)
 have HLI:Hid (∀w',Below Z.heap.size Z w'->Calls Tryz.prog 8 #[.slice a3 lm.length cap3] w' fun e w''=>∃x n cp,e = .returned (.slice x n cp)/\Below w'.heap.size w' w''/\TxsA w'' (.slice x n cp) lt/\((Value.slice x n cp) = .slice none 0 0\/∃b off n' c,(Value.slice x n cp) = .slice (some ⟨b,off,none⟩) n' c)):=fun w' hb=>by
  rw [hlt]
  exact lines_o lm _ w' ((HVM2.out.stays HBX.out.1).stays hb)
 have HCL:Hid (∀w',Below Z.heap.size Z w'->Calls Tryz.prog 11 #[.slice xf nf cpf] w' fun e w''=>∃v',e = .returned v'/\Own1 w' w'' v' ls/\Below w'.heap.size w' w''):=fun w' hb=>copy_c ls _ w' (HTF.out.stays hb) HFF.out (by have:=HLL.out;omega)
 have HRA:=hid hrA
 have HRB:=hid hrB
 have d1:Z.drew.cell? ⟨b,0,none⟩=some (.slice a N cap):=c1
 clear hF hls hlt hA hB hrA hrB hEA hOA hUA hEB hOB hUB hLA hLB HPV HKV HVF2 HVN2 HVM2 HW hb4 htf hff c0
 go_wp2_with fail
 go_cut [13,14] (fun v13 v14 wx=>∃g x cp,v13 = .pointer (some ⟨g,0,none⟩)/\v14 = .int .i64 0/\LA<=cp/\Hid (OutA Z wx g x LA cp EA UA OA))
 case first =>
  have n1:¬b=Z.heap.size:=by have:=HBX.out.2.2;omega
  have n1':¬Z.heap.size=b:=by omega
  go_region_held3 (fun w'=>w'.cell? ⟨b,0,none⟩=some (.slice a N cap)) (go_keep) (first
   | (with_reducible refine Calls.mono (HFI.out _ (by go_grown)) ?_
      rintro e w6 ⟨x6,cp6,rfl,hb6,hf6⟩
      have HB6:Hid (Below Z.heap.size Z w6):=bl_trans (by go_grown) hb6
      have HF6:=hid hf6
      have HT6:=hid (HTF.out.stays HB6.out)
      have hs6:=hb6.size
      have r6:w6.cell? ⟨b,0,none⟩=some (.slice a N cap):=(HB6.out.cell (p:=⟨b,0,none⟩) HBX.out.2.2).trans c1
      obtain⟨hc6,hz6⟩:=bcell hb6
      have m6:¬b=w6.heap.size:=by have:=HBX.out.2.2;have:=HB6.out.size;omega
      have m6':¬w6.heap.size=b:=by omega
      have g1:Z.heap.size<_->Z.heap.size<w6.heap.size:=fun h=>Nat.lt_of_lt_of_le h hs6
      clear hf6)
   | (with_reducible refine Calls.mono (HRA.out _ _ _ (bl_trans HB6.out (by go_grown)) (HF6.out.stays (by go_grown)) (HT6.out.stays (by go_grown))) ?_
      rintro e w8 ⟨x8,cp8,rfl,hb8,hk8,hcp8⟩
      have HB8:Hid (Below Z.heap.size Z w8):=bl_trans (bl_trans HB6.out (by go_grown)) hb8
      have HK8:=hid hk8
      have r8:w8.cell? ⟨b,0,none⟩=some (.slice a N cap):=(HB8.out.cell (p:=⟨b,0,none⟩) HBX.out.2.2).trans c1
      obtain⟨hc8,hz8⟩:=bcell hb8
      have m8:¬b=w8.heap.size:=by have:=HBX.out.2.2;have:=HB8.out.size;omega
      have m8':¬w8.heap.size=b:=by omega
      clear hk8))
  all_goals go_wp2_with fail
  all_goals go_meet
  . exact⟨_,_,_,rfl,rfl,hcp8,out_new HB8.out HK8.out⟩
  . exact⟨_,_,_,rfl,rfl,hcp8,out_set HB8.out hb8 HK8.out HB6.out.size (by simp [go_sem]) (by simp [go_sem]) (by simp [go_sem])⟩
  . exact⟨_,_,_,rfl,rfl,hcp8,out_set HB8.out hb8 HK8.out (Nat.le_refl _) ((hc6 Z.heap.size 0 (by simp)).trans (by simp [go_sem])) ((hc6 Z.heap.size 1 (by simp)).trans (by simp [go_sem])) ((hc6 Z.heap.size 2 (by simp)).trans (by simp [go_sem]))⟩
 obtain⟨ga,xa,cpa,rfl,rfl,hcpa,HXA⟩:=hcut
 obtain⟨X,hX⟩:∃X,X=wc:=⟨_,rfl⟩
 rw [<-hX] at HXA ⊢
 clear hX wc d1
 have HBY:Hid (b<X.heap.size):=Nat.lt_of_lt_of_le HBX.out.2.2 HXA.out.low.size
 have c2:X.cell? ⟨b,0,none⟩=some (.slice a N cap):=(HXA.out.low.cell (p:=⟨b,0,none⟩) HBX.out.2.2).trans c1
 have d2:X.drew.cell? ⟨b,0,none⟩=some (.slice a N cap):=c2
 have HFX:Hid (∀w',Below X.heap.size X w'->Calls Tryz.prog 10 #[.slice a1 lf.length cap1] w' fun e w''=>∃x cp,e = .returned (.slice x 1 cp)/\Below w'.heap.size w' w''/\FlsA w'' (.slice x 1 cp) F):=fun w' hb=>HFI.out w' (bl_trans HXA.out.low hb)
 have HLX:=hid (fun w' (hb:Below X.heap.size X w')=>HLI.out w' (bl_trans HXA.out.low hb))
 have HCX:=hid (fun w' (hb:Below X.heap.size X w')=>HCL.out w' (bl_trans HXA.out.low hb))
 have HRX:=hid (fun w' fv lv (hb:Below X.heap.size X w') h1 h2=>HRB.out w' fv lv (bl_trans HXA.out.low hb) h1 h2)
 clear HRA HFI HLI HCL HRB
 go_wp2_with fail
 go_cut [15,16] (fun v15 v16 wx=>∃g x cp,v15 = .pointer (some ⟨g,0,none⟩)/\v16 = .int .i64 0/\LB<=cp/\Hid (OutA X wx g x LB cp EB UB OB))
 case first =>
  have n1:¬b=X.heap.size:=by have:=HBY.out;omega
  have n1':¬X.heap.size=b:=by omega
  go_region_held3 (fun w'=>w'.cell? ⟨b,0,none⟩=some (.slice a N cap)) (go_keep) (first
   | (with_reducible refine Calls.mono (HFX.out _ (by go_grown)) ?_
      rintro e w6 ⟨x6,cp6,rfl,hb6,hf6⟩
      have HB6:Hid (Below X.heap.size X w6):=bl_trans (by go_grown) hb6
      have HF6:=hid hf6
      have hs6:=hb6.size
      have r6:w6.cell? ⟨b,0,none⟩=some (.slice a N cap):=(HB6.out.cell (p:=⟨b,0,none⟩) HBY.out).trans c2
      obtain⟨hc6,hz6⟩:=bcell hb6
      have m6:¬b=w6.heap.size:=by have:=HBY.out;have:=HB6.out.size;omega
      have m6':¬w6.heap.size=b:=by omega
      have g6:X.heap.size<_->X.heap.size<w6.heap.size:=fun h=>Nat.lt_of_lt_of_le h hs6
      clear hf6)
   | (with_reducible refine Calls.mono (HCX.out _ (bl_trans HB6.out (by go_grown))) ?_
      rintro e w5 ⟨v5,rfl,ho5,hb5⟩
      have HB65:Hid (Below w6.heap.size w6 w5):=bl_trans (by go_grown) hb5
      have HB5:Hid (Below X.heap.size X w5):=bl_trans HB6.out HB65.out
      have HF5:=hid (HF6.out.stays HB65.out)
      have HO5:=hid ho5
      have hs5:=hb5.size
      have q5:=le_at (w6:=w6) hb5 (by simp)
      have ga:X.heap.size<_->X.heap.size<_:=fun h=>Nat.lt_of_lt_of_le (Nat.lt_of_lt_of_le h hs6) q5
      have r5:w5.cell? ⟨b,0,none⟩=some (.slice a N cap):=(HB5.out.cell (p:=⟨b,0,none⟩) HBY.out).trans c2
      obtain⟨hc5,hz5⟩:=bcell hb5
      have m5:¬b=w5.heap.size:=by have:=HBY.out;have:=HB5.out.size;omega
      have m5':¬w5.heap.size=b:=by omega
      have g5:X.heap.size<_->X.heap.size<w5.heap.size:=fun h=>Nat.lt_of_lt_of_le (Nat.lt_of_lt_of_le h hs6) HB65.out.size
      have f5:w6.heap.size<_->w6.heap.size<w5.heap.size:=fun h=>Nat.lt_of_lt_of_le h hs5
      clear ho5)
   | (with_reducible refine Calls.mono (HLX.out _ (bl_trans HB5.out (by go_grown))) ?_
      rintro e w7 ⟨x7,l7,cp7,rfl,hb7,ht7,hf7⟩
      have HB57:Hid (Below w5.heap.size w5 w7):=bl_trans (by go_grown) hb7
      have HB7:Hid (Below X.heap.size X w7):=bl_trans HB5.out HB57.out
      have HF7:=hid (HF5.out.stays HB57.out)
      have HT7:=hid (And.intro ht7 hf7)
      have hs7:=hb7.size
      have r7:w7.cell? ⟨b,0,none⟩=some (.slice a N cap):=(HB7.out.cell (p:=⟨b,0,none⟩) HBY.out).trans c2
      obtain⟨hc7,hz7⟩:=bcell hb7
      have m7:¬b=w7.heap.size:=by have:=HBY.out;have:=HB7.out.size;omega
      have m7':¬w7.heap.size=b:=by omega
      have g7:X.heap.size<_->X.heap.size<w7.heap.size:=fun h=>Nat.lt_of_lt_of_le (Nat.lt_of_lt_of_le (Nat.lt_of_lt_of_le h hs6) HB65.out.size) HB57.out.size
      have f7:w6.heap.size<_->w6.heap.size<w7.heap.size:=fun h=>Nat.lt_of_lt_of_le (Nat.lt_of_lt_of_le h hs5) HB57.out.size
      have e7:w5.heap.size<_->w5.heap.size<w7.heap.size:=fun h=>Nat.lt_of_lt_of_le h hs7
      have HAP:=hid (fun (W:World) (hW:Below w7.heap.size w7 W)=>app_row HO5.out HB6.out q5 hs5 (bl_trans (bl_trans HB65.out HB57.out) hW) (bl_trans HB57.out hW) (HT7.out.1.stays hW) HT7.out.2 HLL.out)
      have u7:w5.heap.size<=w7.heap.size:=HB57.out.size
      clear ht7 hf7)
   | (refine step_app (by rfl) _ _ (by rfl) (by rfl) (by rfl) (HAP.out _ (by go_grown)) ?_
      intro v9 w9 hq
      obtain⟨x9,n9,cp9,rfl⟩:=hq.shp
      have HQ:=hid hq
      have hs9:=hq.sz
      have r9:w9.cell? ⟨b,0,none⟩=some (.slice a N cap):=(hq.lowX.cell (p:=⟨b,0,none⟩) HBY.out).trans c2
      have hcA:=hq.cA
      have hzA:=hq.zA
      have hcB:=hq.cB
      have hzB:=hq.zB
      have m9:¬b=w9.heap.size:=by have:=HBY.out;have:=hq.lowX.size;omega
      have m9':¬w9.heap.size=b:=by omega
      have g9:X.heap.size<_->X.heap.size<w9.heap.size:=fun h=>Nat.lt_of_lt_of_le (Nat.lt_of_lt_of_le h hs6) HQ.out.low6.size
      have f9:w6.heap.size<_->w6.heap.size<w9.heap.size:=fun h=>Nat.lt_of_lt_of_le (Nat.lt_of_lt_of_le h hs5) HQ.out.sz5
      have e9:w5.heap.size<_->w5.heap.size<w9.heap.size:=fun h=>Nat.lt_of_lt_of_le (Nat.lt_of_lt_of_le h hs7) (Nat.le_trans (by simp) hs9)
      have e8:w5.heap.size<_->w5.heap.size<_:=fun h=>Nat.lt_of_lt_of_le (Nat.lt_of_lt_of_le h hs7) (le_sz hs9 (by simp))
      have d9:w7.heap.size<_->w7.heap.size<w9.heap.size:=fun h=>Nat.lt_of_lt_of_le h hs9
      clear hq)
   | (with_reducible refine Calls.mono (HRX.out _ _ _ (bl_trans HQ.out.lowX (by go_grown)) ((HF6.out.stays HQ.out.low6).stays (by go_grown)) (HQ.out.txs.stays (by go_grown))) ?_
      rintro e w8 ⟨x8,cp8,rfl,hb8,hk8,hcp8⟩
      have HB8:Hid (Below X.heap.size X w8):=bl_trans (bl_trans HQ.out.lowX (by go_grown)) hb8
      have HK8:=hid hk8
      have r8:w8.cell? ⟨b,0,none⟩=some (.slice a N cap):=(HB8.out.cell (p:=⟨b,0,none⟩) HBY.out).trans c2
      obtain⟨hc8,hz8⟩:=bcell hb8
      have m8:¬b=w8.heap.size:=by have:=HBY.out;have:=HB8.out.size;omega
      have m8':¬w8.heap.size=b:=by omega
      clear hk8))
  all_goals go_wp2_with fail
  all_goals go_meet
  . exact⟨_,_,_,rfl,rfl,hcp8,out_new HB8.out HK8.out⟩
  . exact⟨_,_,_,rfl,rfl,hcp8,out_set HB8.out hb8 HK8.out HQ.out.lowX.size (by simp [go_sem]) (by simp [go_sem]) (by simp [go_sem])⟩
  . exact⟨_,_,_,rfl,rfl,hcp8,out_set HB8.out hb8 HK8.out HB7.out.size ((hcB w7.heap.size 0 u7 (by simp)).trans (by simp [go_sem])) ((hcB w7.heap.size 1 u7 (by simp)).trans (by simp [go_sem])) ((hcB w7.heap.size 2 u7 (by simp)).trans (by simp [go_sem]))⟩
  . have l5:w5.heap.size<w7.heap.size:=e7 (by simp)
    have q:∀o,w9.cell? ⟨w5.heap.size,o,none⟩=_:=fun o=>(hcB w5.heap.size o (Nat.le_refl _) l5).trans (hc7 w5.heap.size o (by simp))
    exact⟨_,_,_,rfl,rfl,hcp8,out_set HB8.out hb8 HK8.out HB5.out.size ((q 0).trans (by simp [go_sem])) ((q 1).trans (by simp [go_sem])) ((q 2).trans (by simp [go_sem]))⟩
  . have l6:w6.heap.size<w5.heap.size:=f5 (by simp)
    have q:∀o,w9.cell? ⟨w6.heap.size,o,none⟩=_:=fun o=>(hcA w6.heap.size o (by simp)).trans ((hc7 w6.heap.size o l6).trans (hc5 w6.heap.size o (by simp)))
    exact⟨_,_,_,rfl,rfl,hcp8,out_set HB8.out hb8 HK8.out HB6.out.size ((q 0).trans (by simp [go_sem])) ((q 1).trans (by simp [go_sem])) ((q 2).trans (by simp [go_sem]))⟩
  . have l6:X.heap.size<w6.heap.size:=g6 (by simp)
    have l5:X.heap.size<w5.heap.size:=g5 (by simp)
    have q:∀o,w9.cell? ⟨X.heap.size,o,none⟩=_:=fun o=>(hcA X.heap.size o l6).trans ((hc7 X.heap.size o l5).trans ((hc5 X.heap.size o l6).trans (hc6 X.heap.size o (by simp))))
    exact⟨_,_,_,rfl,rfl,hcp8,out_set HB8.out hb8 HK8.out (Nat.le_refl _) ((q 0).trans (by simp [go_sem])) ((q 1).trans (by simp [go_sem])) ((q 2).trans (by simp [go_sem]))⟩
 obtain⟨gb,xb,cpb,rfl,rfl,hcpb,HXB⟩:=hcut
 obtain⟨Y,hY⟩:∃Y,Y=wc:=⟨_,rfl⟩
 rw [<-hY] at HXB ⊢
 clear hY wc d2 c2 c1
 have HYA:Hid (OutA Z Y ga xa LA cpa EA UA OA):=HXA.out.stays HXB.out.low
 have HBW:Hid (Below w.heap.size w Y):=bl_trans HBX.out.2.1 HYA.out.low
 have qa0:=HYA.out.c0
 have qa1:=HYA.out.c1
 have qb0:=HXB.out.c0
 have qb1:=HXB.out.c1
 have HEQ:Hid (∀w',Below Y.heap.size Y w'->Calls Tryz.prog 12 #[.slice xa LA cpa,.slice xb LA cpb] w' fun e w''=>e = .returned (.bool true)/\Below w'.heap.size w' w''):=fun w' hb=>by
  have h1:=HYA.out.txs.stays hb
  have h2:=TxsA.take (HXB.out.txs.stays hb) LA (by rw [<-HAB.out.2.2.2.1];exact HAB.out.2.2.2.2)
  have e:OB.take LA=OA:=by
   rw [HAB.out.2.2.1]
   exact (List.prefix_iff_eq_take.1 HAB.out.1).symm
  rw [e] at h2
  have h:=equal_c w'.heap.size w'.heap.size _ _ _ _ w' h1 h2 (Nat.le_refl _) (Nat.le_refl _)
  rw [decide_eq_true rfl] at h
  exact h
 have HCB:Hid (LB<=cpb):=hcpb
 have i1:¬(LB:Int)<(LA:Int):=by have:=HAB.out.2.2.2.2;omega
 clear HXA HXB HFX HLX HCX HRX HBV HBX HBY hcpa hcpb HTF HFF HLL HR
 go_wp2_with fail
 have p0:Y.drew.cell? ⟨ga,0,none⟩=some (.slice xa LA cpa):=qa0
 have p1:Y.drew.cell? ⟨ga,1,none⟩=some (.int .i64 EA):=qa1
 have p3:Y.drew.cell? ⟨gb,0,none⟩=some (.slice xb LB cpb):=qb0
 have p4:Y.drew.cell? ⟨gb,1,none⟩=some (.int .i64 EB):=qb1
 have i2:(LA:Int)<=(cpb:Int):=by have:=HAB.out.2.2.2.2;have:=HCB.out;omega
 have i3:(0:Int)<=(LA:Int):=by omega
 have HE:(EA=0/\(EA == 0)=true)\/((EA == 0)=false/\EA=EB/\(EA == EB)=true/\¬EA=0):=by
  by_cases hE:EA=0
  . exact .inl ⟨hE,by simpa using hE⟩
  . have h1:EA=EB:=HAB.out.2.1.resolve_left hE
    exact .inr ⟨by simpa using hE,h1,by simpa using h1,hE⟩
 rcases HE with⟨hE,hE2⟩ | ⟨hE2,hE,e1,hN⟩
 . have HE2:=hid hE2
   clear HAB hE hE2
   refine wp_region_quiet (C:=fun w'=>Below Y.heap.size Y w'/\(w'.cell? ⟨ga,0,none⟩=some (.slice xa LA cpa)/\w'.cell? ⟨ga,1,none⟩=some (.int .i64 EA)/\w'.cell? ⟨gb,0,none⟩=some (.slice xb LB cpb))) (by kernel_rfl) (by kernel_rfl) ?_ ?_
   . exact⟨below_drew _,p0,p1,p3⟩
   rw [List.toList_toArray]
   repeat (quiet_step (first
    | (exact fun _ _=>rfl)
    | (intro hb h0 h1 h2;refine (HEQ.out _ hb).mono ?_;rintro e w2 ⟨rfl,hb2⟩;exact⟨rfl,bl_trans hb hb2,(hb2.cell (p:=⟨ga,0,none⟩) (World.block_lt_of_cell? _ ⟨ga,0,none⟩ h0)).trans h0,(hb2.cell (p:=⟨ga,1,none⟩) (World.block_lt_of_cell? _ ⟨ga,1,none⟩ h1)).trans h1,(hb2.cell (p:=⟨gb,0,none⟩) (World.block_lt_of_cell? _ ⟨gb,0,none⟩ h2)).trans h2⟩)
    | (intro hb h0 h1 h2;have h3:=HE2.out;go_simp;rfl)))
   refine wpQuiet_nil ?_
   rintro w' ⟨hb,_⟩
   have HB:Hid (Below w.heap.size w w'):=bl_trans HBW.out hb
   have h3:=HE2.out
   clear hb
   go_wp2_with fail
   go_ret
   exact⟨rfl,HB.out⟩
 clear HAB hE
 go_region_held3 (fun w'=>w'.cell? ⟨ga,0,none⟩=some (.slice xa LA cpa)/\w'.cell? ⟨ga,1,none⟩=some (.int .i64 EA)/\w'.cell? ⟨gb,0,none⟩=some (.slice xb LB cpb)/\w'.cell? ⟨gb,1,none⟩=some (.int .i64 EB)) (go_keep) (first
  | (with_reducible refine Calls.mono (HEQ.out _ (below_drew _)) ?_
     rintro e w6 ⟨rfl,hb6⟩
     have HB6:Hid (Below w.heap.size w w6):=bl_trans HBW.out (bl_trans (below_drew _) hb6)
     have r0:w6.cell? ⟨ga,0,none⟩=some (.slice xa LA cpa):=(hb6.cell (p:=⟨ga,0,none⟩) (World.block_lt_of_cell? _ ⟨ga,0,none⟩ p0)).trans p0
     have r1:w6.cell? ⟨ga,1,none⟩=some (.int .i64 EA):=(hb6.cell (p:=⟨ga,1,none⟩) (World.block_lt_of_cell? _ ⟨ga,1,none⟩ p1)).trans p1
     have r3:w6.cell? ⟨gb,0,none⟩=some (.slice xb LB cpb):=(hb6.cell (p:=⟨gb,0,none⟩) (World.block_lt_of_cell? _ ⟨gb,0,none⟩ p3)).trans p3
     have r4:w6.cell? ⟨gb,1,none⟩=some (.int .i64 EB):=(hb6.cell (p:=⟨gb,1,none⟩) (World.block_lt_of_cell? _ ⟨gb,1,none⟩ p4)).trans p4
     clear hb6))
 all_goals go_wp2_with fail
 all_goals go_ret
 all_goals exact⟨rfl,HB6.out⟩
end Go.Proofs.YtodjbffhlklpkaaGreatDoor.topLines
