/-
  The machine's ask, kind by kind. / The contract of the machine's ask: at every expression that may be.
-/
import Derived.Test.YtppcohadoilpgaaGreatDoorMVals
import Derived.Deep.RegionHeld2
import Derived.OwnWalk
import Derived.Test.YtppcohadoilpgaaGreatDoorMAsk
namespace Go.Proofs.YtppcohadoilpgaaGreatDoor
open Go.ChangeShapes Go.WideShapes Go.ChangeAt Go.RowKit Go.Joins Go.Maps Go.Proofs.Tryz
set_option maxHeartbeats 16000000
set_option linter.unusedVariables false
set_option maxRecDepth 100000
theorem Ags {m:Nat} (hX:Er m) (c:Cx) (O:Own) (w:World) (s:Ms) (j:Nat) (n:Int) (t:ByteArray) (l:List Ex) (cs:List Value) (hM:Mc c O w s j) (hx:ExA c.B w (m+1) cs (.mk 9 n t l)) (hok:okE (m+1) (.mk 9 n t l)) :
 Calls prog 108 #[.pointer (some ⟨c.r,0,none⟩),.agg cs.toArray] w (Dm w (Ai s (m+1) (.mk 9 n t l))):=by
 obtain⟨v,rfl,wk,wn,ws,a,cap,rfl,hmax,hsl⟩:=hx;obtain⟨-,-,hpa,hs2,hn0,hn1,hall⟩:=hok;obtain⟨R,hR⟩:∃R,R=Ai s (m+1) (.mk 9 n t l):=⟨_,rfl⟩;rw [<-hR];have HR0:Hid (R=(Ai s m (l.getD 0 default)).bind fun v=> .ok (vB (Cm v.key (s.lists t)).isSome)):=by rw [hR];simp [Ai,Hid]
 clear hR;have hll:l.length=1:=by have:=Da hpa;simp [D1] at this;omega
 obtain⟨b,off,rfl,hb,hi⟩:=hsl (by omega);have hbw:b<w.heap.size:=by have:=hM.lo.size;omega
 have hbn:¬b=w.heap.size:=by omega
 have hbn1:¬b=w.heap.size+1:=by omega
 have hbn2:¬w.heap.size+1=b:=by omega
 rw [hll];obtain⟨k0,n0,s0,a0,len0,cap0,p00,p01,p02,p03,hx0,hm0⟩:=kid hi 0 (off) (by omega) (by omega);have ok0:okE m (l.getD 0 default):=hall _ hm0;have hrw:c.r<w.heap.size:=hM.lt;have hrn:¬c.r=w.heap.size:=by omega
 have hrn1:¬c.r=w.heap.size+1:=by omega
 have HSB:Hid (c.B<=w.heap.size):=hM.lo.size;have HF:Hid (Fit s):=hM.fit;have HPW:Hid (D4 c.B w):=hM.lo.pw;show Calls prog 108 #[.pointer (some ⟨c.r,0,none⟩),.agg #[.int .i64 9,.int .i64 n,.string t,.slice (some ⟨b,off,none⟩) 1 cap]] w _;obtain⟨W,hW⟩:∃W,W=(w.alloc (.cells #[.int .i64 9,.int .i64 n,.string t,.slice (some ⟨b,off,none⟩) 1 cap] 31)).alloc (.cells #[.bool false,.int .i64 0,.string ⟨#[]⟩] 157):=⟨_,rfl⟩;have HW:Hid (Below w.heap.size w W):=by rw [hW];exact Aa (br0.alloc lr0 _) (br0.alloc lr0 _)
 have HM:Hid (Mc c O W s j):=hM.below HW.out;have HB0:Hid (RB (w.heap.size+1) W):=by rw [hW];exact RB.new2 _ _
 have HWW:Hid (W=_):=hW;have HWZ:Hid (W.heap.size=w.heap.size+1+1):=by rw [hW];simp [Hid]
 have l2:W.cell? ⟨w.heap.size,2,none⟩=some (.string t):=by rw [hW];simp [go_sem]
 have l3:W.cell? ⟨w.heap.size,3,none⟩=some (.slice (some ⟨b,off,none⟩) 1 cap):=by rw [hW];simp [go_sem]
 have q00:W.cell? ⟨b,off,none⟩=some (.int .i64 k0):=(HW.out.cell (p:=⟨b,off,none⟩) hbw).trans p00;have q01:W.cell? ⟨b,off+1,none⟩=some (.int .i64 n0):=(HW.out.cell (p:=⟨b,off+1,none⟩) hbw).trans p01;have q02:W.cell? ⟨b,off+2,none⟩=some (.string s0):=(HW.out.cell (p:=⟨b,off+2,none⟩) hbw).trans p02;have q03:W.cell? ⟨b,off+3,none⟩=some (.slice a0 len0 cap0):=(HW.out.cell (p:=⟨b,off+3,none⟩) hbw).trans p03;have hX0:ExA c.B W m [.int .i64 k0,.int .i64 n0,.string s0,.slice a0 len0 cap0] (l.getD 0 default):=hx0.out.below (HW.out.mono HSB.out);have HC:=hid (fun (Z:World) (hbZ:Below W.heap.size W Z)=>G0 (R0:=R) (K0:=vlV) (Hp hX c O Z s j _ _ (HM.out.below hbZ) (hX0.below (hbZ.mono HM.out.lo.size)) ok0) (Aa HW.out hbZ) (fun er h=>by rw [HR0.out,h];rfl));have HO0:Hid (okE m (l.getD 0 default)):=ok0;have hbw1:b<W.heap.size:=lle hbw HW.out.size;have hw01:w.heap.size<W.heap.size:=by rw [HWZ.out];omega
 have hr01:c.r<W.heap.size:=HM.out.lt;have hrn2:¬w.heap.size+1=c.r:=by omega
 have n1:¬W.heap.size=b:=by omega
 have n2:¬W.heap.size=w.heap.size:=by omega
 have n3:¬W.heap.size=c.r:=by omega
 obtain⟨bv,bl,fl,ol,HCl,-,HLs,-⟩:=HM.out.open;have c1:=HCl.c1;obtain⟨q,hlk,hq⟩:=HLs.look (t:=t) (by unfold maxLen;omega);have HQ:Hid (Ii W q (s.lists t)):=hq.imp id fun⟨k,h1,_,h2⟩=>⟨k,h1,h2⟩;have HLK:Hid (∀w',Below W.heap.size W w'->(Instr.lookup 84 (.map (some bl)) (.string t) false).run prog w' = .ok (.map q) w'):=fun w' hb=>hlk w' (hb.block bl (by obtain⟨_,_,_,_,h,_⟩:=HLs;exact h.lt));have hlk0:=HLK.out W.drew (Ad W);have HBA:Hid (Below W.heap.size W (W.alloc (.cells #[.bool false,.int .i64 0,.string ⟨#[]⟩] 157)).drew):=Aa (br0.alloc lr0 _) (Ad _);have hlk0a:=HLK.out _ HBA.out;have HC0:=hid (HC.out W.drew (Ad W));have HC1:=hid (HC.out _ HBA.out);clear hsl hall wk wn ws hM hx0 hm0 p00 p01 p02 p03 hi hb hll hW hX hX0 ok0 hpa HM HCl HLs hlk hq HC;go_enter func108,ntmps108
 go_wp2_with fail
 rw [<-HWW.out];clear HWW
 go_region_held2 (fun w'=>w'.cell? ⟨w.heap.size,2,none⟩=some (.string t)/\w'.cell? ⟨w.heap.size,3,none⟩=some (.slice (some ⟨b,off,none⟩) 1 cap)/\w'.cell? ⟨b,off,none⟩=some (.int .i64 k0)/\w'.cell? ⟨b,off+1,none⟩=some (.int .i64 n0)/\w'.cell? ⟨b,off+2,none⟩=some (.string s0)/\w'.cell? ⟨b,off+3,none⟩=some (.slice a0 len0 cap0)/\w'.cell? ⟨c.r,1,none⟩=some (.map (some bl))) (go_keep) (first
  | (with_reducible refine Calls.mono HC0.out ?_
     rintro e w1 (⟨er,rfl,HE⟩ | ⟨v,rfl,HR,HB1,HB1W⟩)
     . go_wp2_with fail
       exact⟨rfl,HE.out⟩
     have HBW1:Hid (Below W.heap.size W w1):=Aa (Ad W) HB1W.out;have HRB:Hid (RB (w.heap.size+1) w1):=HB0.out.below HBW1.out;have hv:=(B4 HF.out HO0.out HR.out).len;have HR1:Hid (R = .ok (vB (Cm v.key (s.lists t)).isSome)):=by unfold Hid;rw [HR0.out,HR.out];rfl
     have hlk1:=HLK.out w1 HBW1.out;have HBA1:Hid (Below W.heap.size W (w1.alloc (.cells #[.bool false,.int .i64 0,.string ⟨#[]⟩] 157))):=Aa HBW1.out (br0.alloc lr0 _);have hlk1a:=HLK.out _ HBA1.out;have hin:=(HQ.out.below HBW1.out).lookOk (x:=v.str) (by unfold maxLen;omega);have hina:=(HQ.out.below HBA1.out).lookOk (x:=v.str) (by unfold maxLen;omega);obtain⟨⟨qt,qn,qs⟩,hqq⟩:∃u,u=(Cm v.key (s.lists t)).getD (vN 0):=⟨_,rfl⟩;obtain⟨IN,hIN⟩:∃u,u=(Cm v.key (s.lists t)).isSome:=⟨_,rfl⟩;unfold Vl.key at hqq HR1 hIN;rw [<-hIN] at hin hina HR1;rw [<-hqq] at hin hina;simp only at hin hina;obtain⟨X,hX⟩:∃X,X=v.str:=⟨_,rfl⟩;rw [<-hX] at hin hina ⊢;have hzw:W.heap.size<=w1.heap.size:=HBW1.out.size;have ne1:¬w1.heap.size=b:=by omega
     have ne2:¬w1.heap.size=w.heap.size:=by omega
     have ne3:¬w1.heap.size=c.r:=by omega
     have lt1:b<w1.heap.size:=by omega
     have lt2:w.heap.size<w1.heap.size:=by omega
     have lt3:c.r<w1.heap.size:=by omega
     have HG:Hid (w.heap.size+1 ≠ w1.heap.size/\w.heap.size<=w1.heap.size/\w.heap.size+1 ≠ W.heap.size/\w.heap.size<=W.heap.size):=by have:=HWZ.out;exact⟨by omega,by omega,by omega,by omega⟩
     have rl2:w1.cell? ⟨w.heap.size,2,none⟩=some (.string t):=(HBW1.out.cell (p:=⟨w.heap.size,2,none⟩) hw01).trans l2;have rl3:w1.cell? ⟨w.heap.size,3,none⟩=some (.slice (some ⟨b,off,none⟩) 1 cap):=(HBW1.out.cell (p:=⟨w.heap.size,3,none⟩) hw01).trans l3;have rq00:w1.cell? ⟨b,off,none⟩=some (.int .i64 k0):=(HBW1.out.cell (p:=⟨b,off,none⟩) hbw1).trans q00;have rq01:w1.cell? ⟨b,off+1,none⟩=some (.int .i64 n0):=(HBW1.out.cell (p:=⟨b,off+1,none⟩) hbw1).trans q01;have rq02:w1.cell? ⟨b,off+2,none⟩=some (.string s0):=(HBW1.out.cell (p:=⟨b,off+2,none⟩) hbw1).trans q02;have rq03:w1.cell? ⟨b,off+3,none⟩=some (.slice a0 len0 cap0):=(HBW1.out.cell (p:=⟨b,off+3,none⟩) hbw1).trans q03;have rc1:w1.cell? ⟨c.r,1,none⟩=some (.map (some bl)):=(HBW1.out.cell (p:=⟨c.r,1,none⟩) hr01).trans c1;clear HC0 HC1 HR hv hqq hX hIN)
  | (with_reducible refine Calls.mono HC1.out ?_
     rintro e w1 (⟨er,rfl,HE⟩ | ⟨v,rfl,HR,HB1,HB1W⟩)
     . go_wp2_with fail
       exact⟨rfl,HE.out⟩
     have HBW1:Hid (Below W.heap.size W w1):=Aa HBA.out HB1W.out;have HRB:Hid (RB (w.heap.size+1) w1):=HB0.out.below HBW1.out;have hv:=(B4 HF.out HO0.out HR.out).len;have HR1:Hid (R = .ok (vB (Cm v.key (s.lists t)).isSome)):=by unfold Hid;rw [HR0.out,HR.out];rfl
     have hlk1:=HLK.out w1 HBW1.out;have HBA1:Hid (Below W.heap.size W (w1.alloc (.cells #[.bool false,.int .i64 0,.string ⟨#[]⟩] 157))):=Aa HBW1.out (br0.alloc lr0 _);have hlk1a:=HLK.out _ HBA1.out;have hin:=(HQ.out.below HBW1.out).lookOk (x:=v.str) (by unfold maxLen;omega);have hina:=(HQ.out.below HBA1.out).lookOk (x:=v.str) (by unfold maxLen;omega);obtain⟨⟨qt,qn,qs⟩,hqq⟩:∃u,u=(Cm v.key (s.lists t)).getD (vN 0):=⟨_,rfl⟩;obtain⟨IN,hIN⟩:∃u,u=(Cm v.key (s.lists t)).isSome:=⟨_,rfl⟩;unfold Vl.key at hqq HR1 hIN;rw [<-hIN] at hin hina HR1;rw [<-hqq] at hin hina;simp only at hin hina;obtain⟨X,hX⟩:∃X,X=v.str:=⟨_,rfl⟩;rw [<-hX] at hin hina ⊢;have hzw:W.heap.size<=w1.heap.size:=HBW1.out.size;have ne1:¬w1.heap.size=b:=by omega
     have ne2:¬w1.heap.size=w.heap.size:=by omega
     have ne3:¬w1.heap.size=c.r:=by omega
     have lt1:b<w1.heap.size:=by omega
     have lt2:w.heap.size<w1.heap.size:=by omega
     have lt3:c.r<w1.heap.size:=by omega
     have HG:Hid (w.heap.size+1 ≠ w1.heap.size/\w.heap.size<=w1.heap.size/\w.heap.size+1 ≠ W.heap.size/\w.heap.size<=W.heap.size):=by have:=HWZ.out;exact⟨by omega,by omega,by omega,by omega⟩
     have rl2:w1.cell? ⟨w.heap.size,2,none⟩=some (.string t):=(HBW1.out.cell (p:=⟨w.heap.size,2,none⟩) hw01).trans l2;have rl3:w1.cell? ⟨w.heap.size,3,none⟩=some (.slice (some ⟨b,off,none⟩) 1 cap):=(HBW1.out.cell (p:=⟨w.heap.size,3,none⟩) hw01).trans l3;have rq00:w1.cell? ⟨b,off,none⟩=some (.int .i64 k0):=(HBW1.out.cell (p:=⟨b,off,none⟩) hbw1).trans q00;have rq01:w1.cell? ⟨b,off+1,none⟩=some (.int .i64 n0):=(HBW1.out.cell (p:=⟨b,off+1,none⟩) hbw1).trans q01;have rq02:w1.cell? ⟨b,off+2,none⟩=some (.string s0):=(HBW1.out.cell (p:=⟨b,off+2,none⟩) hbw1).trans q02;have rq03:w1.cell? ⟨b,off+3,none⟩=some (.slice a0 len0 cap0):=(HBW1.out.cell (p:=⟨b,off+3,none⟩) hbw1).trans q03;have rc1:w1.cell? ⟨c.r,1,none⟩=some (.map (some bl)):=(HBW1.out.cell (p:=⟨c.r,1,none⟩) hr01).trans c1;have z0:w1.cell? ⟨W.heap.size,0,none⟩=some (.bool false):=by rw [(Ar HB1W.out).1 _ _ (by simp)];simp [go_sem]
     have z1:w1.cell? ⟨W.heap.size,1,none⟩=some (.int .i64 0):=by rw [(Ar HB1W.out).1 _ _ (by simp)];simp [go_sem]
     have z2:w1.cell? ⟨W.heap.size,2,none⟩=some (.string ⟨#[]⟩):=by rw [(Ar HB1W.out).1 _ _ (by simp)];simp [go_sem]
     have zf0:w1.frozen? ⟨W.heap.size,0,none⟩=false:=by rw [(Ar HB1W.out).2 _ _ (by simp)];simp [go_sem]
     have zf1:w1.frozen? ⟨W.heap.size,1,none⟩=false:=by rw [(Ar HB1W.out).2 _ _ (by simp)];simp [go_sem]
     have zf2:w1.frozen? ⟨W.heap.size,2,none⟩=false:=by rw [(Ar HB1W.out).2 _ _ (by simp)];simp [go_sem]
     clear HC0 HC1 HR hv hqq hX hIN))
 all_goals go_wp2_with fail
 all_goals refine Calls.mono (F5 IN _) ?_
 all_goals rintro e w2 ⟨rfl,hb2⟩
 all_goals have HB2:Hid (Below w.heap.size w w2):=by first | exact Aa (Aa HB1.out (br0.alloc lr0 _)) hb2 | exact Aa (A1 HB1.out HG.out.2.2.2 _ _ _) hb2
 all_goals have HRB2:Hid (RB (w.heap.size+1) w2):=by first | exact (HRB.out.alloc _).below hb2 | exact (HRB.out.far3 HG.out.2.2.1 _ _ _).below hb2
 all_goals obtain⟨x0,x1,x2,y0,y1,y2⟩:=HRB2.out.cells
 all_goals clear hb2 HRB HG HBW1 HB1
 all_goals unfold vlV vB vN
 all_goals go_wp2
 all_goals exact bodyPost_ret (v:= .agg #[.bool false,.int .i64 (b2i IN),.string ⟨#[]⟩]) (by simp [results,results108,go_sem,x0,x1,x2]) rfl (Ej HB2.out (Nat.le_succ _) HR1.out)
end Go.Proofs.YtppcohadoilpgaaGreatDoor
namespace Go.Proofs.YtppcohadoilpgaaGreatDoor
open Go.RowKit Go.Proofs.Tryz
theorem Hw:∀m,Er m:=by
 intro m
 induction m with
 | zero=>intro c O w s j x cs hM hx;exact hx.elim
 | succ m ih =>
  intro c O w s j x cs hM hx hok;cases x with
  | mk k n t l =>
   have h:k=1\/k=2\/k=3\/k=4\/k=5\/k=6\/k=7\/k=8\/k=9\/k=10\/k=11\/k=12:=by
    obtain⟨h1,h2,_⟩:=hok;omega
   rcases h with rfl | rfl | rfl | rfl | rfl | rfl | rfl | rfl | rfl | rfl | rfl | rfl
   . exact Agk ih c O w s j n t l cs hM hx hok
   . exact Agl ih c O w s j n t l cs hM hx hok
   . exact Agm ih c O w s j n t l cs hM hx hok
   . exact Agn ih c O w s j n t l cs hM hx hok
   . exact Ago ih c O w s j n t l cs hM hx hok
   . exact Agp ih c O w s j n t l cs hM hx hok
   . exact Agq ih c O w s j n t l cs hM hx hok
   . exact Agr ih c O w s j n t l cs hM hx hok
   . exact Ags ih c O w s j n t l cs hM hx hok
   . exact Adx ih c O w s j n t l cs hM hx hok
   . exact Ady ih c O w s j n t l cs hM hx hok
   . exact Adz ih c O w s j n t l cs hM hx hok
end Go.Proofs.YtppcohadoilpgaaGreatDoor
