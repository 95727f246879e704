/-
  The machine's stmt, kind by kind, and all statements.
-/
import Derived.Test.YtodjbffhlklpkaaGreatDoorMEach
import Derived.Test.YtodjbffhlklpkaaGreatDoorMPlain
namespace Go.Proofs.YtodjbffhlklpkaaGreatDoor
open Go.ChangeShapes Go.WideShapes Go.ChangeAt Go.RowKit Go.Joins Go.Maps
set_option maxHeartbeats 4000000
set_option linter.unusedVariables false
set_option maxRecDepth 100000
theorem loadL_true (x:ByteArray):∀(l:List ByteArray) (i:Nat) (s s':Ms) (b:Bool),loadL x l i s = .go s' b->b=true
 | [],_,_,_,_,h=>by cases h;rfl
 | y :: l,i,s,s',b,h=>by
  have e:loadL x (y :: l) i s=(putM s x (Lib.itoa ((i+1:Nat):Int)) (vS y)).then (loadL x l (i+1)):=rfl
  rw [e] at h
  cases hp:putM s x (Lib.itoa ((i+1:Nat):Int)) (vS y) with
  | stop s2 er=>rw [then_stop hp] at h;cases h
  | go s2 b2 =>
   obtain⟨rfl,-⟩:=putM_go hp
   rw [then_go hp] at h
   exact loadL_true x l (i+1) s2 s' b h
theorem orM_true {α:Type} {s s':Ms} {x:Except Int α} {f:α->Om} {b:Bool} (hf:∀v,f v = .go s' b->b=true) (h:orM s x f = .go s' b):b=true:=by
 cases x with
 | ok v=>exact hf v h
 | error e=>cases h
theorem writeM_true {s s':Ms} {v:Vl} {t:ByteArray} {b:Bool} (h:writeM s v t = .go s' b):b=true:=by
 unfold writeM at h
 split at h
 . cases h
 . split at h
   . cases h
   . split at h
     . cases h
     . cases h;rfl
theorem printM_true {s s':Ms} {l:List ByteArray} {b:Bool} (h:printM s l = .go s' b):b=true:=by
 unfold printM at h
 split at h
 . cases h
 . cases h;rfl
theorem loadM_true {F:List Fl} {s s':Ms} {x t:ByteArray} {b:Bool} (h:loadM F s x t = .go s' b):b=true:=by
 unfold loadM at h
 split at h
 . cases h
 . exact loadL_true _ _ _ _ _ _ h
theorem plainM_true {F:List Fl} {m:Nat} {s s':Ms} {x:Sm} {b:Bool} (h:plainM F m s x = .go s' b):b=true:=by
 obtain⟨k,a,t,es,bd,el⟩:=x
 unfold plainM at h
 dsimp only at h
 by_cases h1:k=1
 . rw [if_pos h1] at h;exact orM_true (fun v e=>by cases e;rfl) h
 rw [if_neg h1] at h
 by_cases h2:k=2
 . rw [if_pos h2] at h;exact orM_true (fun v e=>orM_true (fun v e=>(putM_go e).1) e) h
 rw [if_neg h2] at h
 by_cases h3:k=3
 . rw [if_pos h3] at h;exact orM_true (fun v e=>orM_true (fun v e=>writeM_true e) e) h
 rw [if_neg h3] at h
 by_cases h4:k=4
 . rw [if_pos h4] at h;exact orM_true (fun v e=>printM_true e) h
 rw [if_neg h4] at h
 by_cases h9:k=9
 . rw [if_pos h9] at h;exact orM_true (fun v e=>by cases e;rfl) h
 rw [if_neg h9] at h
 by_cases h10:k=10
 . rw [if_pos h10] at h;exact loadM_true h
 . rw [if_neg h10] at h;cases h;rfl
theorem stmt_1 {m:Nat} (hS:DoC m) (c:Cx) (O:Own) (w:World) (s:Ms) (j:Nat) (a t:ByteArray) (es:List Ex) (bd el:List Sm) (cs:List Value) (hM:Mc c O w s j) (hx:SmA c.B w (m+1) cs (.mk 1 a t es bd el)) (hok:okS (m+1) (.mk 1 a t es bd el)) (hfe:fewS (m+1) (.mk 1 a t es bd el)) :
 Calls Tryz.prog 127 #[.pointer (some ⟨c.r,0,none⟩),.agg cs.toArray] w (DoAs c O w j (stmtM c.F (m+1) s (.mk 1 a t es bd el)) Value.bool):=by
 have HXX:=hid hx
 obtain⟨v1,v2,v3,rfl,wk,wa,wt,⟨ea,ecap,rfl,-,-⟩,⟨a2,cap2,rfl,-,-⟩,⟨a3,cap3,rfl,-,-⟩⟩:=hx
 obtain⟨R,hR⟩:∃R,R=stmtM c.F (m+1) s (.mk 1 a t es bd el):=⟨_,rfl⟩
 rw [<-hR]
 have HR0:Hid (R=burnM s fun s2=>plainM c.F m s2 (.mk 1 a t es bd el)):=by rw [hR];simp [stmtM,Hid]
 clear hR
 show Calls Tryz.prog 127 #[.pointer (some ⟨c.r,0,none⟩),.agg #[.int .i64 1,.string a,.string t,.slice ea es.length ecap,.slice a2 bd.length cap2,.slice a3 el.length cap3]] w _
 have HOK:Hid (okS (m+1) (.mk 1 a t es bd el)/\fewS (m+1) (.mk 1 a t es bd el)):=⟨hok,hfe⟩
 have HSS:=hid hS
 have hrw:c.r<w.heap.size:=hM.lt
 have hrn:¬c.r=w.heap.size:=by omega
 have HLO:Hid ((∀b,b<c.B->O b=none)/\c.B<=w.heap.size):=⟨hM.low,hM.lo.size⟩
 have HTOP:Hid (O w.heap.size=none):=hM.top _ (Nat.le_refl _)
 obtain⟨W,hW⟩:∃W,W=w.alloc (.cells #[.int .i64 1,.string a,.string t,.slice ea es.length ecap,.slice a2 bd.length cap2,.slice a3 el.length cap3] 108):=⟨_,rfl⟩
 have HW:Hid (Below w.heap.size w W):=by rw [hW];exact (Below.refl _ _).alloc (Nat.le_refl _) _
 have HM:Hid (Mc c O W s j):=hM.below HW.out
 have HWW:Hid (W=_):=hW
 have hws:w.heap.size<W.heap.size:=by rw [hW];simp
 have l0:W.cell? ⟨w.heap.size,0,none⟩=some (.int .i64 1):=by rw [hW];simp [go_sem]
 have l1:W.cell? ⟨w.heap.size,1,none⟩=some (.string a):=by rw [hW];simp [go_sem]
 have l2:W.cell? ⟨w.heap.size,2,none⟩=some (.string t):=by rw [hW];simp [go_sem]
 have l3:W.cell? ⟨w.heap.size,3,none⟩=some (.slice ea es.length ecap):=by rw [hW];simp [go_sem]
 have l4:W.cell? ⟨w.heap.size,4,none⟩=some (.slice a2 bd.length cap2):=by rw [hW];simp [go_sem]
 have l5:W.cell? ⟨w.heap.size,5,none⟩=some (.slice a3 el.length cap3):=by rw [hW];simp [go_sem]
 clear hM hW hok hfe hS wk wa wt
 by_cases h0:s.left=0
 . have HR1:Hid (R = .stop s 1):=by unfold Hid;rw [HR0.out];unfold burnM;rw [if_pos h0]
   have HBN:=hid (burn_no c O W s j HM.out h0)
   clear h0
   go_enter Tryz.func127,Tryz.ntmps127
   go_wp2_with fail
   rw [<-HWW.out]
   clear HWW
   refine Calls.mono HBN.out ?_
   rintro e w1 ⟨rfl,hb1⟩
   have HB1:Hid (Below w.heap.size w w1):=bl_trans HW.out hb1
   have HOU:Hid (Ou c O w1 s.out s.left):=(HM.out.below hb1).ou
   clear hb1 HBN
   go_wp2_with fail
   exact⟨rfl,DoAs.stop (Bts.of_below HB1.out) HR1.out (Gr.refl _ _) HOU.out⟩
 obtain⟨s2,hs2⟩:∃s2:Ms,s2 = { s with left:=s.left - 1 }:=⟨_,rfl⟩
 have HR1:Hid (R=plainM c.F m s2 (.mk 1 a t es bd el)):=by unfold Hid;rw [HR0.out];unfold burnM;rw [if_neg h0,hs2]
 have HBC:=hid (burn_c c O W s j HM.out h0)
 rw [<-hs2] at HBC
 clear h0 hs2 HR0
 go_enter Tryz.func127,Tryz.ntmps127
 go_wp2_with fail
 rw [<-HWW.out]
 clear HWW
 refine Calls.mono HBC.out ?_
 rintro e w1 ⟨rfl,hbt1,hM1⟩
 have HBT1:Hid (Bts O w w1):=(Bts.of_below (O:=O) HW.out).trans hbt1 (Gr.refl _ _)
 have r0:w1.cell? ⟨w.heap.size,0,none⟩=some (.int .i64 1):=(hbt1.cell hws HTOP.out _).trans l0
 have r1:w1.cell? ⟨w.heap.size,1,none⟩=some (.string a):=(hbt1.cell hws HTOP.out _).trans l1
 have r2:w1.cell? ⟨w.heap.size,2,none⟩=some (.string t):=(hbt1.cell hws HTOP.out _).trans l2
 have r3:w1.cell? ⟨w.heap.size,3,none⟩=some (.slice ea es.length ecap):=(hbt1.cell hws HTOP.out _).trans l3
 have r4:w1.cell? ⟨w.heap.size,4,none⟩=some (.slice a2 bd.length cap2):=(hbt1.cell hws HTOP.out _).trans l4
 have r5:w1.cell? ⟨w.heap.size,5,none⟩=some (.slice a3 el.length cap3):=(hbt1.cell hws HTOP.out _).trans l5
 have HC:=hid (plain_1 m c O w1 s2 j a t es bd el _ hM1 (HXX.out.below (HBT1.out.below HLO.out.2 HLO.out.1)) HOK.out.1)
 clear hbt1 hM1 HBC l0 l1 l2 l3 l4 l5
 go_wp2_with fail
 refine Calls.mono HC.out ?_
 intro e w2 hd
 have hd2:=DoAs.chain HBT1.out (Gr.refl _ _) (DoAs.same hd HR1.out)
 rcases hd2.cases with⟨s9,er,h9,rfl⟩ | ⟨s9,b9,O9,h9,rfl,hG9,hMc9⟩
 . have HF:Hid (DoAs c O w j R Value.bool (.panicked [endP er]) w2):=by
    obtain⟨f1,f2⟩:=hd2
    rw [h9] at f2 ⊢
    exact⟨f1,f2⟩
   clear hd hd2 h9 HC
   go_wp2_with fail
   exact⟨rfl,HF.out⟩
 obtain rfl:b9=true:=plainM_true (HR1.out.symm.trans h9)
 have HF:Hid (DoAs c O w j R Value.bool (.returned (.bool true)) w2):=DoAs.go (K:=Value.bool) hd2.1 h9 hG9 hMc9
 clear hd hd2 h9 hG9 hMc9 HC
 go_wp2_with fail
 go_ret
 exact HF.out
theorem stmt_2 {m:Nat} (hS:DoC m) (c:Cx) (O:Own) (w:World) (s:Ms) (j:Nat) (a t:ByteArray) (es:List Ex) (bd el:List Sm) (cs:List Value) (hM:Mc c O w s j) (hx:SmA c.B w (m+1) cs (.mk 2 a t es bd el)) (hok:okS (m+1) (.mk 2 a t es bd el)) (hfe:fewS (m+1) (.mk 2 a t es bd el)) :
 Calls Tryz.prog 127 #[.pointer (some ⟨c.r,0,none⟩),.agg cs.toArray] w (DoAs c O w j (stmtM c.F (m+1) s (.mk 2 a t es bd el)) Value.bool):=by
 have HXX:=hid hx
 obtain⟨v1,v2,v3,rfl,wk,wa,wt,⟨ea,ecap,rfl,-,-⟩,⟨a2,cap2,rfl,-,-⟩,⟨a3,cap3,rfl,-,-⟩⟩:=hx
 obtain⟨R,hR⟩:∃R,R=stmtM c.F (m+1) s (.mk 2 a t es bd el):=⟨_,rfl⟩
 rw [<-hR]
 have HR0:Hid (R=burnM s fun s2=>plainM c.F m s2 (.mk 2 a t es bd el)):=by rw [hR];simp [stmtM,Hid]
 clear hR
 show Calls Tryz.prog 127 #[.pointer (some ⟨c.r,0,none⟩),.agg #[.int .i64 2,.string a,.string t,.slice ea es.length ecap,.slice a2 bd.length cap2,.slice a3 el.length cap3]] w _
 have HOK:Hid (okS (m+1) (.mk 2 a t es bd el)/\fewS (m+1) (.mk 2 a t es bd el)):=⟨hok,hfe⟩
 have HSS:=hid hS
 have hrw:c.r<w.heap.size:=hM.lt
 have hrn:¬c.r=w.heap.size:=by omega
 have HLO:Hid ((∀b,b<c.B->O b=none)/\c.B<=w.heap.size):=⟨hM.low,hM.lo.size⟩
 have HTOP:Hid (O w.heap.size=none):=hM.top _ (Nat.le_refl _)
 obtain⟨W,hW⟩:∃W,W=w.alloc (.cells #[.int .i64 2,.string a,.string t,.slice ea es.length ecap,.slice a2 bd.length cap2,.slice a3 el.length cap3] 108):=⟨_,rfl⟩
 have HW:Hid (Below w.heap.size w W):=by rw [hW];exact (Below.refl _ _).alloc (Nat.le_refl _) _
 have HM:Hid (Mc c O W s j):=hM.below HW.out
 have HWW:Hid (W=_):=hW
 have hws:w.heap.size<W.heap.size:=by rw [hW];simp
 have l0:W.cell? ⟨w.heap.size,0,none⟩=some (.int .i64 2):=by rw [hW];simp [go_sem]
 have l1:W.cell? ⟨w.heap.size,1,none⟩=some (.string a):=by rw [hW];simp [go_sem]
 have l2:W.cell? ⟨w.heap.size,2,none⟩=some (.string t):=by rw [hW];simp [go_sem]
 have l3:W.cell? ⟨w.heap.size,3,none⟩=some (.slice ea es.length ecap):=by rw [hW];simp [go_sem]
 have l4:W.cell? ⟨w.heap.size,4,none⟩=some (.slice a2 bd.length cap2):=by rw [hW];simp [go_sem]
 have l5:W.cell? ⟨w.heap.size,5,none⟩=some (.slice a3 el.length cap3):=by rw [hW];simp [go_sem]
 clear hM hW hok hfe hS wk wa wt
 by_cases h0:s.left=0
 . have HR1:Hid (R = .stop s 1):=by unfold Hid;rw [HR0.out];unfold burnM;rw [if_pos h0]
   have HBN:=hid (burn_no c O W s j HM.out h0)
   clear h0
   go_enter Tryz.func127,Tryz.ntmps127
   go_wp2_with fail
   rw [<-HWW.out]
   clear HWW
   refine Calls.mono HBN.out ?_
   rintro e w1 ⟨rfl,hb1⟩
   have HB1:Hid (Below w.heap.size w w1):=bl_trans HW.out hb1
   have HOU:Hid (Ou c O w1 s.out s.left):=(HM.out.below hb1).ou
   clear hb1 HBN
   go_wp2_with fail
   exact⟨rfl,DoAs.stop (Bts.of_below HB1.out) HR1.out (Gr.refl _ _) HOU.out⟩
 obtain⟨s2,hs2⟩:∃s2:Ms,s2 = { s with left:=s.left - 1 }:=⟨_,rfl⟩
 have HR1:Hid (R=plainM c.F m s2 (.mk 2 a t es bd el)):=by unfold Hid;rw [HR0.out];unfold burnM;rw [if_neg h0,hs2]
 have HBC:=hid (burn_c c O W s j HM.out h0)
 rw [<-hs2] at HBC
 clear h0 hs2 HR0
 go_enter Tryz.func127,Tryz.ntmps127
 go_wp2_with fail
 rw [<-HWW.out]
 clear HWW
 refine Calls.mono HBC.out ?_
 rintro e w1 ⟨rfl,hbt1,hM1⟩
 have HBT1:Hid (Bts O w w1):=(Bts.of_below (O:=O) HW.out).trans hbt1 (Gr.refl _ _)
 have r0:w1.cell? ⟨w.heap.size,0,none⟩=some (.int .i64 2):=(hbt1.cell hws HTOP.out _).trans l0
 have r1:w1.cell? ⟨w.heap.size,1,none⟩=some (.string a):=(hbt1.cell hws HTOP.out _).trans l1
 have r2:w1.cell? ⟨w.heap.size,2,none⟩=some (.string t):=(hbt1.cell hws HTOP.out _).trans l2
 have r3:w1.cell? ⟨w.heap.size,3,none⟩=some (.slice ea es.length ecap):=(hbt1.cell hws HTOP.out _).trans l3
 have r4:w1.cell? ⟨w.heap.size,4,none⟩=some (.slice a2 bd.length cap2):=(hbt1.cell hws HTOP.out _).trans l4
 have r5:w1.cell? ⟨w.heap.size,5,none⟩=some (.slice a3 el.length cap3):=(hbt1.cell hws HTOP.out _).trans l5
 have HC:=hid (plain_2 m c O w1 s2 j a t es bd el _ hM1 (HXX.out.below (HBT1.out.below HLO.out.2 HLO.out.1)) HOK.out.1)
 clear hbt1 hM1 HBC l0 l1 l2 l3 l4 l5
 go_wp2_with fail
 refine Calls.mono HC.out ?_
 intro e w2 hd
 have hd2:=DoAs.chain HBT1.out (Gr.refl _ _) (DoAs.same hd HR1.out)
 rcases hd2.cases with⟨s9,er,h9,rfl⟩ | ⟨s9,b9,O9,h9,rfl,hG9,hMc9⟩
 . have HF:Hid (DoAs c O w j R Value.bool (.panicked [endP er]) w2):=by
    obtain⟨f1,f2⟩:=hd2
    rw [h9] at f2 ⊢
    exact⟨f1,f2⟩
   clear hd hd2 h9 HC
   go_wp2_with fail
   exact⟨rfl,HF.out⟩
 obtain rfl:b9=true:=plainM_true (HR1.out.symm.trans h9)
 have HF:Hid (DoAs c O w j R Value.bool (.returned (.bool true)) w2):=DoAs.go (K:=Value.bool) hd2.1 h9 hG9 hMc9
 clear hd hd2 h9 hG9 hMc9 HC
 go_wp2_with fail
 go_ret
 exact HF.out
theorem stmt_3 {m:Nat} (hS:DoC m) (c:Cx) (O:Own) (w:World) (s:Ms) (j:Nat) (a t:ByteArray) (es:List Ex) (bd el:List Sm) (cs:List Value) (hM:Mc c O w s j) (hx:SmA c.B w (m+1) cs (.mk 3 a t es bd el)) (hok:okS (m+1) (.mk 3 a t es bd el)) (hfe:fewS (m+1) (.mk 3 a t es bd el)) :
 Calls Tryz.prog 127 #[.pointer (some ⟨c.r,0,none⟩),.agg cs.toArray] w (DoAs c O w j (stmtM c.F (m+1) s (.mk 3 a t es bd el)) Value.bool):=by
 have HXX:=hid hx
 obtain⟨v1,v2,v3,rfl,wk,wa,wt,⟨ea,ecap,rfl,-,-⟩,⟨a2,cap2,rfl,-,-⟩,⟨a3,cap3,rfl,-,-⟩⟩:=hx
 obtain⟨R,hR⟩:∃R,R=stmtM c.F (m+1) s (.mk 3 a t es bd el):=⟨_,rfl⟩
 rw [<-hR]
 have HR0:Hid (R=burnM s fun s2=>plainM c.F m s2 (.mk 3 a t es bd el)):=by rw [hR];simp [stmtM,Hid]
 clear hR
 show Calls Tryz.prog 127 #[.pointer (some ⟨c.r,0,none⟩),.agg #[.int .i64 3,.string a,.string t,.slice ea es.length ecap,.slice a2 bd.length cap2,.slice a3 el.length cap3]] w _
 have HOK:Hid (okS (m+1) (.mk 3 a t es bd el)/\fewS (m+1) (.mk 3 a t es bd el)):=⟨hok,hfe⟩
 have HSS:=hid hS
 have hrw:c.r<w.heap.size:=hM.lt
 have hrn:¬c.r=w.heap.size:=by omega
 have HLO:Hid ((∀b,b<c.B->O b=none)/\c.B<=w.heap.size):=⟨hM.low,hM.lo.size⟩
 have HTOP:Hid (O w.heap.size=none):=hM.top _ (Nat.le_refl _)
 obtain⟨W,hW⟩:∃W,W=w.alloc (.cells #[.int .i64 3,.string a,.string t,.slice ea es.length ecap,.slice a2 bd.length cap2,.slice a3 el.length cap3] 108):=⟨_,rfl⟩
 have HW:Hid (Below w.heap.size w W):=by rw [hW];exact (Below.refl _ _).alloc (Nat.le_refl _) _
 have HM:Hid (Mc c O W s j):=hM.below HW.out
 have HWW:Hid (W=_):=hW
 have hws:w.heap.size<W.heap.size:=by rw [hW];simp
 have l0:W.cell? ⟨w.heap.size,0,none⟩=some (.int .i64 3):=by rw [hW];simp [go_sem]
 have l1:W.cell? ⟨w.heap.size,1,none⟩=some (.string a):=by rw [hW];simp [go_sem]
 have l2:W.cell? ⟨w.heap.size,2,none⟩=some (.string t):=by rw [hW];simp [go_sem]
 have l3:W.cell? ⟨w.heap.size,3,none⟩=some (.slice ea es.length ecap):=by rw [hW];simp [go_sem]
 have l4:W.cell? ⟨w.heap.size,4,none⟩=some (.slice a2 bd.length cap2):=by rw [hW];simp [go_sem]
 have l5:W.cell? ⟨w.heap.size,5,none⟩=some (.slice a3 el.length cap3):=by rw [hW];simp [go_sem]
 clear hM hW hok hfe hS wk wa wt
 by_cases h0:s.left=0
 . have HR1:Hid (R = .stop s 1):=by unfold Hid;rw [HR0.out];unfold burnM;rw [if_pos h0]
   have HBN:=hid (burn_no c O W s j HM.out h0)
   clear h0
   go_enter Tryz.func127,Tryz.ntmps127
   go_wp2_with fail
   rw [<-HWW.out]
   clear HWW
   refine Calls.mono HBN.out ?_
   rintro e w1 ⟨rfl,hb1⟩
   have HB1:Hid (Below w.heap.size w w1):=bl_trans HW.out hb1
   have HOU:Hid (Ou c O w1 s.out s.left):=(HM.out.below hb1).ou
   clear hb1 HBN
   go_wp2_with fail
   exact⟨rfl,DoAs.stop (Bts.of_below HB1.out) HR1.out (Gr.refl _ _) HOU.out⟩
 obtain⟨s2,hs2⟩:∃s2:Ms,s2 = { s with left:=s.left - 1 }:=⟨_,rfl⟩
 have HR1:Hid (R=plainM c.F m s2 (.mk 3 a t es bd el)):=by unfold Hid;rw [HR0.out];unfold burnM;rw [if_neg h0,hs2]
 have HBC:=hid (burn_c c O W s j HM.out h0)
 rw [<-hs2] at HBC
 clear h0 hs2 HR0
 go_enter Tryz.func127,Tryz.ntmps127
 go_wp2_with fail
 rw [<-HWW.out]
 clear HWW
 refine Calls.mono HBC.out ?_
 rintro e w1 ⟨rfl,hbt1,hM1⟩
 have HBT1:Hid (Bts O w w1):=(Bts.of_below (O:=O) HW.out).trans hbt1 (Gr.refl _ _)
 have r0:w1.cell? ⟨w.heap.size,0,none⟩=some (.int .i64 3):=(hbt1.cell hws HTOP.out _).trans l0
 have r1:w1.cell? ⟨w.heap.size,1,none⟩=some (.string a):=(hbt1.cell hws HTOP.out _).trans l1
 have r2:w1.cell? ⟨w.heap.size,2,none⟩=some (.string t):=(hbt1.cell hws HTOP.out _).trans l2
 have r3:w1.cell? ⟨w.heap.size,3,none⟩=some (.slice ea es.length ecap):=(hbt1.cell hws HTOP.out _).trans l3
 have r4:w1.cell? ⟨w.heap.size,4,none⟩=some (.slice a2 bd.length cap2):=(hbt1.cell hws HTOP.out _).trans l4
 have r5:w1.cell? ⟨w.heap.size,5,none⟩=some (.slice a3 el.length cap3):=(hbt1.cell hws HTOP.out _).trans l5
 have HC:=hid (plain_3 m c O w1 s2 j a t es bd el _ hM1 (HXX.out.below (HBT1.out.below HLO.out.2 HLO.out.1)) HOK.out.1)
 clear hbt1 hM1 HBC l0 l1 l2 l3 l4 l5
 go_wp2_with fail
 refine Calls.mono HC.out ?_
 intro e w2 hd
 have hd2:=DoAs.chain HBT1.out (Gr.refl _ _) (DoAs.same hd HR1.out)
 rcases hd2.cases with⟨s9,er,h9,rfl⟩ | ⟨s9,b9,O9,h9,rfl,hG9,hMc9⟩
 . have HF:Hid (DoAs c O w j R Value.bool (.panicked [endP er]) w2):=by
    obtain⟨f1,f2⟩:=hd2
    rw [h9] at f2 ⊢
    exact⟨f1,f2⟩
   clear hd hd2 h9 HC
   go_wp2_with fail
   exact⟨rfl,HF.out⟩
 obtain rfl:b9=true:=plainM_true (HR1.out.symm.trans h9)
 have HF:Hid (DoAs c O w j R Value.bool (.returned (.bool true)) w2):=DoAs.go (K:=Value.bool) hd2.1 h9 hG9 hMc9
 clear hd hd2 h9 hG9 hMc9 HC
 go_wp2_with fail
 go_ret
 exact HF.out
theorem stmt_4 {m:Nat} (hS:DoC m) (c:Cx) (O:Own) (w:World) (s:Ms) (j:Nat) (a t:ByteArray) (es:List Ex) (bd el:List Sm) (cs:List Value) (hM:Mc c O w s j) (hx:SmA c.B w (m+1) cs (.mk 4 a t es bd el)) (hok:okS (m+1) (.mk 4 a t es bd el)) (hfe:fewS (m+1) (.mk 4 a t es bd el)) :
 Calls Tryz.prog 127 #[.pointer (some ⟨c.r,0,none⟩),.agg cs.toArray] w (DoAs c O w j (stmtM c.F (m+1) s (.mk 4 a t es bd el)) Value.bool):=by
 have HXX:=hid hx
 obtain⟨v1,v2,v3,rfl,wk,wa,wt,⟨ea,ecap,rfl,-,-⟩,⟨a2,cap2,rfl,-,-⟩,⟨a3,cap3,rfl,-,-⟩⟩:=hx
 obtain⟨R,hR⟩:∃R,R=stmtM c.F (m+1) s (.mk 4 a t es bd el):=⟨_,rfl⟩
 rw [<-hR]
 have HR0:Hid (R=burnM s fun s2=>plainM c.F m s2 (.mk 4 a t es bd el)):=by rw [hR];simp [stmtM,Hid]
 clear hR
 show Calls Tryz.prog 127 #[.pointer (some ⟨c.r,0,none⟩),.agg #[.int .i64 4,.string a,.string t,.slice ea es.length ecap,.slice a2 bd.length cap2,.slice a3 el.length cap3]] w _
 have HOK:Hid (okS (m+1) (.mk 4 a t es bd el)/\fewS (m+1) (.mk 4 a t es bd el)):=⟨hok,hfe⟩
 have HSS:=hid hS
 have hrw:c.r<w.heap.size:=hM.lt
 have hrn:¬c.r=w.heap.size:=by omega
 have HLO:Hid ((∀b,b<c.B->O b=none)/\c.B<=w.heap.size):=⟨hM.low,hM.lo.size⟩
 have HTOP:Hid (O w.heap.size=none):=hM.top _ (Nat.le_refl _)
 obtain⟨W,hW⟩:∃W,W=w.alloc (.cells #[.int .i64 4,.string a,.string t,.slice ea es.length ecap,.slice a2 bd.length cap2,.slice a3 el.length cap3] 108):=⟨_,rfl⟩
 have HW:Hid (Below w.heap.size w W):=by rw [hW];exact (Below.refl _ _).alloc (Nat.le_refl _) _
 have HM:Hid (Mc c O W s j):=hM.below HW.out
 have HWW:Hid (W=_):=hW
 have hws:w.heap.size<W.heap.size:=by rw [hW];simp
 have l0:W.cell? ⟨w.heap.size,0,none⟩=some (.int .i64 4):=by rw [hW];simp [go_sem]
 have l1:W.cell? ⟨w.heap.size,1,none⟩=some (.string a):=by rw [hW];simp [go_sem]
 have l2:W.cell? ⟨w.heap.size,2,none⟩=some (.string t):=by rw [hW];simp [go_sem]
 have l3:W.cell? ⟨w.heap.size,3,none⟩=some (.slice ea es.length ecap):=by rw [hW];simp [go_sem]
 have l4:W.cell? ⟨w.heap.size,4,none⟩=some (.slice a2 bd.length cap2):=by rw [hW];simp [go_sem]
 have l5:W.cell? ⟨w.heap.size,5,none⟩=some (.slice a3 el.length cap3):=by rw [hW];simp [go_sem]
 clear hM hW hok hfe hS wk wa wt
 by_cases h0:s.left=0
 . have HR1:Hid (R = .stop s 1):=by unfold Hid;rw [HR0.out];unfold burnM;rw [if_pos h0]
   have HBN:=hid (burn_no c O W s j HM.out h0)
   clear h0
   go_enter Tryz.func127,Tryz.ntmps127
   go_wp2_with fail
   rw [<-HWW.out]
   clear HWW
   refine Calls.mono HBN.out ?_
   rintro e w1 ⟨rfl,hb1⟩
   have HB1:Hid (Below w.heap.size w w1):=bl_trans HW.out hb1
   have HOU:Hid (Ou c O w1 s.out s.left):=(HM.out.below hb1).ou
   clear hb1 HBN
   go_wp2_with fail
   exact⟨rfl,DoAs.stop (Bts.of_below HB1.out) HR1.out (Gr.refl _ _) HOU.out⟩
 obtain⟨s2,hs2⟩:∃s2:Ms,s2 = { s with left:=s.left - 1 }:=⟨_,rfl⟩
 have HR1:Hid (R=plainM c.F m s2 (.mk 4 a t es bd el)):=by unfold Hid;rw [HR0.out];unfold burnM;rw [if_neg h0,hs2]
 have HBC:=hid (burn_c c O W s j HM.out h0)
 rw [<-hs2] at HBC
 clear h0 hs2 HR0
 go_enter Tryz.func127,Tryz.ntmps127
 go_wp2_with fail
 rw [<-HWW.out]
 clear HWW
 refine Calls.mono HBC.out ?_
 rintro e w1 ⟨rfl,hbt1,hM1⟩
 have HBT1:Hid (Bts O w w1):=(Bts.of_below (O:=O) HW.out).trans hbt1 (Gr.refl _ _)
 have r0:w1.cell? ⟨w.heap.size,0,none⟩=some (.int .i64 4):=(hbt1.cell hws HTOP.out _).trans l0
 have r1:w1.cell? ⟨w.heap.size,1,none⟩=some (.string a):=(hbt1.cell hws HTOP.out _).trans l1
 have r2:w1.cell? ⟨w.heap.size,2,none⟩=some (.string t):=(hbt1.cell hws HTOP.out _).trans l2
 have r3:w1.cell? ⟨w.heap.size,3,none⟩=some (.slice ea es.length ecap):=(hbt1.cell hws HTOP.out _).trans l3
 have r4:w1.cell? ⟨w.heap.size,4,none⟩=some (.slice a2 bd.length cap2):=(hbt1.cell hws HTOP.out _).trans l4
 have r5:w1.cell? ⟨w.heap.size,5,none⟩=some (.slice a3 el.length cap3):=(hbt1.cell hws HTOP.out _).trans l5
 have HC:=hid (plain_4 m c O w1 s2 j a t es bd el _ hM1 (HXX.out.below (HBT1.out.below HLO.out.2 HLO.out.1)) HOK.out.1 HOK.out.2.1)
 clear hbt1 hM1 HBC l0 l1 l2 l3 l4 l5
 go_wp2_with fail
 refine Calls.mono HC.out ?_
 intro e w2 hd
 have hd2:=DoAs.chain HBT1.out (Gr.refl _ _) (DoAs.same hd HR1.out)
 rcases hd2.cases with⟨s9,er,h9,rfl⟩ | ⟨s9,b9,O9,h9,rfl,hG9,hMc9⟩
 . have HF:Hid (DoAs c O w j R Value.bool (.panicked [endP er]) w2):=by
    obtain⟨f1,f2⟩:=hd2
    rw [h9] at f2 ⊢
    exact⟨f1,f2⟩
   clear hd hd2 h9 HC
   go_wp2_with fail
   exact⟨rfl,HF.out⟩
 obtain rfl:b9=true:=plainM_true (HR1.out.symm.trans h9)
 have HF:Hid (DoAs c O w j R Value.bool (.returned (.bool true)) w2):=DoAs.go (K:=Value.bool) hd2.1 h9 hG9 hMc9
 clear hd hd2 h9 hG9 hMc9 HC
 go_wp2_with fail
 go_ret
 exact HF.out
theorem stmt_5 {m:Nat} (hS:DoC m) (c:Cx) (O:Own) (w:World) (s:Ms) (j:Nat) (a t:ByteArray) (es:List Ex) (bd el:List Sm) (cs:List Value) (hM:Mc c O w s j) (hx:SmA c.B w (m+1) cs (.mk 5 a t es bd el)) (hok:okS (m+1) (.mk 5 a t es bd el)) (hfe:fewS (m+1) (.mk 5 a t es bd el)) :
 Calls Tryz.prog 127 #[.pointer (some ⟨c.r,0,none⟩),.agg cs.toArray] w (DoAs c O w j (stmtM c.F (m+1) s (.mk 5 a t es bd el)) Value.bool):=by
 have HXX:=hid hx
 obtain⟨v1,v2,v3,rfl,wk,wa,wt,⟨ea,ecap,rfl,-,-⟩,⟨a2,cap2,rfl,-,-⟩,⟨a3,cap3,rfl,-,-⟩⟩:=hx
 obtain⟨R,hR⟩:∃R,R=stmtM c.F (m+1) s (.mk 5 a t es bd el):=⟨_,rfl⟩
 rw [<-hR]
 have HR0:Hid (R=burnM s fun s2=>orM s2 (askM s2 m (es.getD 0 default)) fun v=>if v.so then runM (stmtM c.F m) bd s2 else runM (stmtM c.F m) el s2):=by rw [hR];simp [stmtM,Hid]
 clear hR
 show Calls Tryz.prog 127 #[.pointer (some ⟨c.r,0,none⟩),.agg #[.int .i64 5,.string a,.string t,.slice ea es.length ecap,.slice a2 bd.length cap2,.slice a3 el.length cap3]] w _
 have HOK:Hid (okS (m+1) (.mk 5 a t es bd el)/\fewS (m+1) (.mk 5 a t es bd el)):=⟨hok,hfe⟩
 have HSS:=hid hS
 have hrw:c.r<w.heap.size:=hM.lt
 have hrn:¬c.r=w.heap.size:=by omega
 have HLO:Hid ((∀b,b<c.B->O b=none)/\c.B<=w.heap.size):=⟨hM.low,hM.lo.size⟩
 have HTOP:Hid (O w.heap.size=none):=hM.top _ (Nat.le_refl _)
 obtain⟨W,hW⟩:∃W,W=w.alloc (.cells #[.int .i64 5,.string a,.string t,.slice ea es.length ecap,.slice a2 bd.length cap2,.slice a3 el.length cap3] 108):=⟨_,rfl⟩
 have HW:Hid (Below w.heap.size w W):=by rw [hW];exact (Below.refl _ _).alloc (Nat.le_refl _) _
 have HM:Hid (Mc c O W s j):=hM.below HW.out
 have HWW:Hid (W=_):=hW
 have hws:w.heap.size<W.heap.size:=by rw [hW];simp
 have l0:W.cell? ⟨w.heap.size,0,none⟩=some (.int .i64 5):=by rw [hW];simp [go_sem]
 have l1:W.cell? ⟨w.heap.size,1,none⟩=some (.string a):=by rw [hW];simp [go_sem]
 have l2:W.cell? ⟨w.heap.size,2,none⟩=some (.string t):=by rw [hW];simp [go_sem]
 have l3:W.cell? ⟨w.heap.size,3,none⟩=some (.slice ea es.length ecap):=by rw [hW];simp [go_sem]
 have l4:W.cell? ⟨w.heap.size,4,none⟩=some (.slice a2 bd.length cap2):=by rw [hW];simp [go_sem]
 have l5:W.cell? ⟨w.heap.size,5,none⟩=some (.slice a3 el.length cap3):=by rw [hW];simp [go_sem]
 clear hM hW hok hfe hS wk wa wt
 by_cases h0:s.left=0
 . have HR1:Hid (R = .stop s 1):=by unfold Hid;rw [HR0.out];unfold burnM;rw [if_pos h0]
   have HBN:=hid (burn_no c O W s j HM.out h0)
   clear h0
   go_enter Tryz.func127,Tryz.ntmps127
   go_wp2_with fail
   rw [<-HWW.out]
   clear HWW
   refine Calls.mono HBN.out ?_
   rintro e w1 ⟨rfl,hb1⟩
   have HB1:Hid (Below w.heap.size w w1):=bl_trans HW.out hb1
   have HOU:Hid (Ou c O w1 s.out s.left):=(HM.out.below hb1).ou
   clear hb1 HBN
   go_wp2_with fail
   exact⟨rfl,DoAs.stop (Bts.of_below HB1.out) HR1.out (Gr.refl _ _) HOU.out⟩
 obtain⟨s2,hs2⟩:∃s2:Ms,s2 = { s with left:=s.left - 1 }:=⟨_,rfl⟩
 have HR1:Hid (R=orM s2 (askM s2 m (es.getD 0 default)) fun v=>if v.so then runM (stmtM c.F m) bd s2 else runM (stmtM c.F m) el s2):=by unfold Hid;rw [HR0.out];unfold burnM;rw [if_neg h0,hs2]
 have HBC:=hid (burn_c c O W s j HM.out h0)
 rw [<-hs2] at HBC
 clear h0 hs2 HR0
 go_enter Tryz.func127,Tryz.ntmps127
 go_wp2_with fail
 rw [<-HWW.out]
 clear HWW
 refine Calls.mono HBC.out ?_
 rintro e w1 ⟨rfl,hbt1,hM1⟩
 have HBT1:Hid (Bts O w w1):=(Bts.of_below (O:=O) HW.out).trans hbt1 (Gr.refl _ _)
 have r0:w1.cell? ⟨w.heap.size,0,none⟩=some (.int .i64 5):=(hbt1.cell hws HTOP.out _).trans l0
 have r1:w1.cell? ⟨w.heap.size,1,none⟩=some (.string a):=(hbt1.cell hws HTOP.out _).trans l1
 have r2:w1.cell? ⟨w.heap.size,2,none⟩=some (.string t):=(hbt1.cell hws HTOP.out _).trans l2
 have r3:w1.cell? ⟨w.heap.size,3,none⟩=some (.slice ea es.length ecap):=(hbt1.cell hws HTOP.out _).trans l3
 have r4:w1.cell? ⟨w.heap.size,4,none⟩=some (.slice a2 bd.length cap2):=(hbt1.cell hws HTOP.out _).trans l4
 have r5:w1.cell? ⟨w.heap.size,5,none⟩=some (.slice a3 el.length cap3):=(hbt1.cell hws HTOP.out _).trans l5
 have HC:=hid (branch_of HSS.out c O w1 s2 j a t es bd el _ hM1.less (HXX.out.below (HBT1.out.below HLO.out.2 HLO.out.1)) HOK.out.1 HOK.out.2)
 clear hbt1 hM1 HBC l0 l1 l2 l3 l4 l5
 go_wp2_with fail
 refine Calls.mono HC.out ?_
 intro e w2 hd
 have HF:=hid (DoAs.chain HBT1.out (Gr.refl _ _) (DoAs.same hd HR1.out))
 rcases hd.cases with⟨s9,er,h9,rfl⟩ | ⟨s9,b9,O9,h9,rfl,hG9,hMc9⟩
 . clear hd h9 HC
   go_wp2_with fail
   exact⟨rfl,HF.out⟩
 clear hd h9 hG9 hMc9 HC
 go_wp2_with fail
 go_ret
 exact HF.out
theorem stmt_6 {m:Nat} (hS:DoC m) (c:Cx) (O:Own) (w:World) (s:Ms) (j:Nat) (a t:ByteArray) (es:List Ex) (bd el:List Sm) (cs:List Value) (hM:Mc c O w s j) (hx:SmA c.B w (m+1) cs (.mk 6 a t es bd el)) (hok:okS (m+1) (.mk 6 a t es bd el)) (hfe:fewS (m+1) (.mk 6 a t es bd el)) :
 Calls Tryz.prog 127 #[.pointer (some ⟨c.r,0,none⟩),.agg cs.toArray] w (DoAs c O w j (stmtM c.F (m+1) s (.mk 6 a t es bd el)) Value.bool):=by
 have HXX:=hid hx
 obtain⟨v1,v2,v3,rfl,wk,wa,wt,⟨ea,ecap,rfl,-,-⟩,⟨a2,cap2,rfl,-,-⟩,⟨a3,cap3,rfl,-,-⟩⟩:=hx
 obtain⟨R,hR⟩:∃R,R=stmtM c.F (m+1) s (.mk 6 a t es bd el):=⟨_,rfl⟩
 rw [<-hR]
 have HR0:Hid (R=burnM s fun s2=>whileM (fun s=>askM s m (es.getD 0 default)) (runM (stmtM c.F m) bd) (s2.left+1) s2):=by rw [hR];simp [stmtM,Hid]
 clear hR
 show Calls Tryz.prog 127 #[.pointer (some ⟨c.r,0,none⟩),.agg #[.int .i64 6,.string a,.string t,.slice ea es.length ecap,.slice a2 bd.length cap2,.slice a3 el.length cap3]] w _
 have HOK:Hid (okS (m+1) (.mk 6 a t es bd el)/\fewS (m+1) (.mk 6 a t es bd el)):=⟨hok,hfe⟩
 have HSS:=hid hS
 have hrw:c.r<w.heap.size:=hM.lt
 have hrn:¬c.r=w.heap.size:=by omega
 have HLO:Hid ((∀b,b<c.B->O b=none)/\c.B<=w.heap.size):=⟨hM.low,hM.lo.size⟩
 have HTOP:Hid (O w.heap.size=none):=hM.top _ (Nat.le_refl _)
 obtain⟨W,hW⟩:∃W,W=w.alloc (.cells #[.int .i64 6,.string a,.string t,.slice ea es.length ecap,.slice a2 bd.length cap2,.slice a3 el.length cap3] 108):=⟨_,rfl⟩
 have HW:Hid (Below w.heap.size w W):=by rw [hW];exact (Below.refl _ _).alloc (Nat.le_refl _) _
 have HM:Hid (Mc c O W s j):=hM.below HW.out
 have HWW:Hid (W=_):=hW
 have hws:w.heap.size<W.heap.size:=by rw [hW];simp
 have l0:W.cell? ⟨w.heap.size,0,none⟩=some (.int .i64 6):=by rw [hW];simp [go_sem]
 have l1:W.cell? ⟨w.heap.size,1,none⟩=some (.string a):=by rw [hW];simp [go_sem]
 have l2:W.cell? ⟨w.heap.size,2,none⟩=some (.string t):=by rw [hW];simp [go_sem]
 have l3:W.cell? ⟨w.heap.size,3,none⟩=some (.slice ea es.length ecap):=by rw [hW];simp [go_sem]
 have l4:W.cell? ⟨w.heap.size,4,none⟩=some (.slice a2 bd.length cap2):=by rw [hW];simp [go_sem]
 have l5:W.cell? ⟨w.heap.size,5,none⟩=some (.slice a3 el.length cap3):=by rw [hW];simp [go_sem]
 clear hM hW hok hfe hS wk wa wt
 by_cases h0:s.left=0
 . have HR1:Hid (R = .stop s 1):=by unfold Hid;rw [HR0.out];unfold burnM;rw [if_pos h0]
   have HBN:=hid (burn_no c O W s j HM.out h0)
   clear h0
   go_enter Tryz.func127,Tryz.ntmps127
   go_wp2_with fail
   rw [<-HWW.out]
   clear HWW
   refine Calls.mono HBN.out ?_
   rintro e w1 ⟨rfl,hb1⟩
   have HB1:Hid (Below w.heap.size w w1):=bl_trans HW.out hb1
   have HOU:Hid (Ou c O w1 s.out s.left):=(HM.out.below hb1).ou
   clear hb1 HBN
   go_wp2_with fail
   exact⟨rfl,DoAs.stop (Bts.of_below HB1.out) HR1.out (Gr.refl _ _) HOU.out⟩
 obtain⟨s2,hs2⟩:∃s2:Ms,s2 = { s with left:=s.left - 1 }:=⟨_,rfl⟩
 have HR1:Hid (R=whileM (fun s=>askM s m (es.getD 0 default)) (runM (stmtM c.F m) bd) (s2.left+1) s2):=by unfold Hid;rw [HR0.out];unfold burnM;rw [if_neg h0,hs2]
 have HBC:=hid (burn_c c O W s j HM.out h0)
 rw [<-hs2] at HBC
 clear h0 hs2 HR0
 go_enter Tryz.func127,Tryz.ntmps127
 go_wp2_with fail
 rw [<-HWW.out]
 clear HWW
 refine Calls.mono HBC.out ?_
 rintro e w1 ⟨rfl,hbt1,hM1⟩
 have HBT1:Hid (Bts O w w1):=(Bts.of_below (O:=O) HW.out).trans hbt1 (Gr.refl _ _)
 have r0:w1.cell? ⟨w.heap.size,0,none⟩=some (.int .i64 6):=(hbt1.cell hws HTOP.out _).trans l0
 have r1:w1.cell? ⟨w.heap.size,1,none⟩=some (.string a):=(hbt1.cell hws HTOP.out _).trans l1
 have r2:w1.cell? ⟨w.heap.size,2,none⟩=some (.string t):=(hbt1.cell hws HTOP.out _).trans l2
 have r3:w1.cell? ⟨w.heap.size,3,none⟩=some (.slice ea es.length ecap):=(hbt1.cell hws HTOP.out _).trans l3
 have r4:w1.cell? ⟨w.heap.size,4,none⟩=some (.slice a2 bd.length cap2):=(hbt1.cell hws HTOP.out _).trans l4
 have r5:w1.cell? ⟨w.heap.size,5,none⟩=some (.slice a3 el.length cap3):=(hbt1.cell hws HTOP.out _).trans l5
 have HC:=hid (while_of HSS.out c O w1 s2 j a t es bd el _ hM1.less (HXX.out.below (HBT1.out.below HLO.out.2 HLO.out.1)) HOK.out.1 HOK.out.2)
 clear hbt1 hM1 HBC l0 l1 l2 l3 l4 l5
 go_wp2_with fail
 refine Calls.mono HC.out ?_
 intro e w2 hd
 have HF:=hid (DoAs.chain HBT1.out (Gr.refl _ _) (DoAs.same hd HR1.out))
 rcases hd.cases with⟨s9,er,h9,rfl⟩ | ⟨s9,b9,O9,h9,rfl,hG9,hMc9⟩
 . clear hd h9 HC
   go_wp2_with fail
   exact⟨rfl,HF.out⟩
 clear hd h9 hG9 hMc9 HC
 go_wp2_with fail
 go_ret
 exact HF.out
theorem stmt_7 {m:Nat} (hS:DoC m) (c:Cx) (O:Own) (w:World) (s:Ms) (j:Nat) (a t:ByteArray) (es:List Ex) (bd el:List Sm) (cs:List Value) (hM:Mc c O w s j) (hx:SmA c.B w (m+1) cs (.mk 7 a t es bd el)) (hok:okS (m+1) (.mk 7 a t es bd el)) (hfe:fewS (m+1) (.mk 7 a t es bd el)) :
 Calls Tryz.prog 127 #[.pointer (some ⟨c.r,0,none⟩),.agg cs.toArray] w (DoAs c O w j (stmtM c.F (m+1) s (.mk 7 a t es bd el)) Value.bool):=by
 have HXX:=hid hx
 obtain⟨v1,v2,v3,rfl,wk,wa,wt,⟨ea,ecap,rfl,-,-⟩,⟨a2,cap2,rfl,-,-⟩,⟨a3,cap3,rfl,-,-⟩⟩:=hx
 obtain⟨R,hR⟩:∃R,R=stmtM c.F (m+1) s (.mk 7 a t es bd el):=⟨_,rfl⟩
 rw [<-hR]
 have HR0:Hid (R=burnM s fun s2=>runM (fun s key=>burnM s fun s=>runM (stmtM c.F m) bd (setM s a (vS ⟨key.toArray⟩))) ((s2.lists t).map (·.1)) s2):=by rw [hR];simp [stmtM,Hid]
 clear hR
 show Calls Tryz.prog 127 #[.pointer (some ⟨c.r,0,none⟩),.agg #[.int .i64 7,.string a,.string t,.slice ea es.length ecap,.slice a2 bd.length cap2,.slice a3 el.length cap3]] w _
 have HOK:Hid (okS (m+1) (.mk 7 a t es bd el)/\fewS (m+1) (.mk 7 a t es bd el)):=⟨hok,hfe⟩
 have HSS:=hid hS
 have hrw:c.r<w.heap.size:=hM.lt
 have hrn:¬c.r=w.heap.size:=by omega
 have HLO:Hid ((∀b,b<c.B->O b=none)/\c.B<=w.heap.size):=⟨hM.low,hM.lo.size⟩
 have HTOP:Hid (O w.heap.size=none):=hM.top _ (Nat.le_refl _)
 obtain⟨W,hW⟩:∃W,W=w.alloc (.cells #[.int .i64 7,.string a,.string t,.slice ea es.length ecap,.slice a2 bd.length cap2,.slice a3 el.length cap3] 108):=⟨_,rfl⟩
 have HW:Hid (Below w.heap.size w W):=by rw [hW];exact (Below.refl _ _).alloc (Nat.le_refl _) _
 have HM:Hid (Mc c O W s j):=hM.below HW.out
 have HWW:Hid (W=_):=hW
 have hws:w.heap.size<W.heap.size:=by rw [hW];simp
 have l0:W.cell? ⟨w.heap.size,0,none⟩=some (.int .i64 7):=by rw [hW];simp [go_sem]
 have l1:W.cell? ⟨w.heap.size,1,none⟩=some (.string a):=by rw [hW];simp [go_sem]
 have l2:W.cell? ⟨w.heap.size,2,none⟩=some (.string t):=by rw [hW];simp [go_sem]
 have l3:W.cell? ⟨w.heap.size,3,none⟩=some (.slice ea es.length ecap):=by rw [hW];simp [go_sem]
 have l4:W.cell? ⟨w.heap.size,4,none⟩=some (.slice a2 bd.length cap2):=by rw [hW];simp [go_sem]
 have l5:W.cell? ⟨w.heap.size,5,none⟩=some (.slice a3 el.length cap3):=by rw [hW];simp [go_sem]
 clear hM hW hok hfe hS wk wa wt
 by_cases h0:s.left=0
 . have HR1:Hid (R = .stop s 1):=by unfold Hid;rw [HR0.out];unfold burnM;rw [if_pos h0]
   have HBN:=hid (burn_no c O W s j HM.out h0)
   clear h0
   go_enter Tryz.func127,Tryz.ntmps127
   go_wp2_with fail
   rw [<-HWW.out]
   clear HWW
   refine Calls.mono HBN.out ?_
   rintro e w1 ⟨rfl,hb1⟩
   have HB1:Hid (Below w.heap.size w w1):=bl_trans HW.out hb1
   have HOU:Hid (Ou c O w1 s.out s.left):=(HM.out.below hb1).ou
   clear hb1 HBN
   go_wp2_with fail
   exact⟨rfl,DoAs.stop (Bts.of_below HB1.out) HR1.out (Gr.refl _ _) HOU.out⟩
 obtain⟨s2,hs2⟩:∃s2:Ms,s2 = { s with left:=s.left - 1 }:=⟨_,rfl⟩
 have HR1:Hid (R=runM (fun s key=>burnM s fun s=>runM (stmtM c.F m) bd (setM s a (vS ⟨key.toArray⟩))) ((s2.lists t).map (·.1)) s2):=by unfold Hid;rw [HR0.out];unfold burnM;rw [if_neg h0,hs2]
 have HBC:=hid (burn_c c O W s j HM.out h0)
 rw [<-hs2] at HBC
 clear h0 hs2 HR0
 go_enter Tryz.func127,Tryz.ntmps127
 go_wp2_with fail
 rw [<-HWW.out]
 clear HWW
 refine Calls.mono HBC.out ?_
 rintro e w1 ⟨rfl,hbt1,hM1⟩
 have HBT1:Hid (Bts O w w1):=(Bts.of_below (O:=O) HW.out).trans hbt1 (Gr.refl _ _)
 have r0:w1.cell? ⟨w.heap.size,0,none⟩=some (.int .i64 7):=(hbt1.cell hws HTOP.out _).trans l0
 have r1:w1.cell? ⟨w.heap.size,1,none⟩=some (.string a):=(hbt1.cell hws HTOP.out _).trans l1
 have r2:w1.cell? ⟨w.heap.size,2,none⟩=some (.string t):=(hbt1.cell hws HTOP.out _).trans l2
 have r3:w1.cell? ⟨w.heap.size,3,none⟩=some (.slice ea es.length ecap):=(hbt1.cell hws HTOP.out _).trans l3
 have r4:w1.cell? ⟨w.heap.size,4,none⟩=some (.slice a2 bd.length cap2):=(hbt1.cell hws HTOP.out _).trans l4
 have r5:w1.cell? ⟨w.heap.size,5,none⟩=some (.slice a3 el.length cap3):=(hbt1.cell hws HTOP.out _).trans l5
 have HC:=hid (each_of HSS.out c O w1 s2 j a t es bd el _ hM1.less (HXX.out.below (HBT1.out.below HLO.out.2 HLO.out.1)) HOK.out.1 HOK.out.2)
 clear hbt1 hM1 HBC l0 l1 l2 l3 l4 l5
 go_wp2_with fail
 refine Calls.mono HC.out ?_
 intro e w2 hd
 have HF:=hid (DoAs.chain HBT1.out (Gr.refl _ _) (DoAs.same hd HR1.out))
 rcases hd.cases with⟨s9,er,h9,rfl⟩ | ⟨s9,b9,O9,h9,rfl,hG9,hMc9⟩
 . clear hd h9 HC
   go_wp2_with fail
   exact⟨rfl,HF.out⟩
 clear hd h9 hG9 hMc9 HC
 go_wp2_with fail
 go_ret
 exact HF.out
theorem stmt_8 {m:Nat} (hS:DoC m) (c:Cx) (O:Own) (w:World) (s:Ms) (j:Nat) (a t:ByteArray) (es:List Ex) (bd el:List Sm) (cs:List Value) (hM:Mc c O w s j) (hx:SmA c.B w (m+1) cs (.mk 8 a t es bd el)) (hok:okS (m+1) (.mk 8 a t es bd el)) (hfe:fewS (m+1) (.mk 8 a t es bd el)) :
 Calls Tryz.prog 127 #[.pointer (some ⟨c.r,0,none⟩),.agg cs.toArray] w (DoAs c O w j (stmtM c.F (m+1) s (.mk 8 a t es bd el)) Value.bool):=by
 have HXX:=hid hx
 obtain⟨v1,v2,v3,rfl,wk,wa,wt,⟨ea,ecap,rfl,-,-⟩,⟨a2,cap2,rfl,-,-⟩,⟨a3,cap3,rfl,-,-⟩⟩:=hx
 obtain⟨R,hR⟩:∃R,R=stmtM c.F (m+1) s (.mk 8 a t es bd el):=⟨_,rfl⟩
 rw [<-hR]
 have HR0:Hid (R=burnM s fun s2=> .go s2 false):=by rw [hR];simp [stmtM,Hid]
 clear hR
 show Calls Tryz.prog 127 #[.pointer (some ⟨c.r,0,none⟩),.agg #[.int .i64 8,.string a,.string t,.slice ea es.length ecap,.slice a2 bd.length cap2,.slice a3 el.length cap3]] w _
 have HOK:Hid (okS (m+1) (.mk 8 a t es bd el)/\fewS (m+1) (.mk 8 a t es bd el)):=⟨hok,hfe⟩
 have HSS:=hid hS
 have hrw:c.r<w.heap.size:=hM.lt
 have hrn:¬c.r=w.heap.size:=by omega
 have HLO:Hid ((∀b,b<c.B->O b=none)/\c.B<=w.heap.size):=⟨hM.low,hM.lo.size⟩
 have HTOP:Hid (O w.heap.size=none):=hM.top _ (Nat.le_refl _)
 obtain⟨W,hW⟩:∃W,W=w.alloc (.cells #[.int .i64 8,.string a,.string t,.slice ea es.length ecap,.slice a2 bd.length cap2,.slice a3 el.length cap3] 108):=⟨_,rfl⟩
 have HW:Hid (Below w.heap.size w W):=by rw [hW];exact (Below.refl _ _).alloc (Nat.le_refl _) _
 have HM:Hid (Mc c O W s j):=hM.below HW.out
 have HWW:Hid (W=_):=hW
 have hws:w.heap.size<W.heap.size:=by rw [hW];simp
 have l0:W.cell? ⟨w.heap.size,0,none⟩=some (.int .i64 8):=by rw [hW];simp [go_sem]
 have l1:W.cell? ⟨w.heap.size,1,none⟩=some (.string a):=by rw [hW];simp [go_sem]
 have l2:W.cell? ⟨w.heap.size,2,none⟩=some (.string t):=by rw [hW];simp [go_sem]
 have l3:W.cell? ⟨w.heap.size,3,none⟩=some (.slice ea es.length ecap):=by rw [hW];simp [go_sem]
 have l4:W.cell? ⟨w.heap.size,4,none⟩=some (.slice a2 bd.length cap2):=by rw [hW];simp [go_sem]
 have l5:W.cell? ⟨w.heap.size,5,none⟩=some (.slice a3 el.length cap3):=by rw [hW];simp [go_sem]
 clear hM hW hok hfe hS wk wa wt
 by_cases h0:s.left=0
 . have HR1:Hid (R = .stop s 1):=by unfold Hid;rw [HR0.out];unfold burnM;rw [if_pos h0]
   have HBN:=hid (burn_no c O W s j HM.out h0)
   clear h0
   go_enter Tryz.func127,Tryz.ntmps127
   go_wp2_with fail
   rw [<-HWW.out]
   clear HWW
   refine Calls.mono HBN.out ?_
   rintro e w1 ⟨rfl,hb1⟩
   have HB1:Hid (Below w.heap.size w w1):=bl_trans HW.out hb1
   have HOU:Hid (Ou c O w1 s.out s.left):=(HM.out.below hb1).ou
   clear hb1 HBN
   go_wp2_with fail
   exact⟨rfl,DoAs.stop (Bts.of_below HB1.out) HR1.out (Gr.refl _ _) HOU.out⟩
 obtain⟨s2,hs2⟩:∃s2:Ms,s2 = { s with left:=s.left - 1 }:=⟨_,rfl⟩
 have HR1:Hid (R = .go s2 false):=by unfold Hid;rw [HR0.out];unfold burnM;rw [if_neg h0,hs2]
 have HBC:=hid (burn_c c O W s j HM.out h0)
 rw [<-hs2] at HBC
 clear h0 hs2 HR0
 go_enter Tryz.func127,Tryz.ntmps127
 go_wp2_with fail
 rw [<-HWW.out]
 clear HWW
 refine Calls.mono HBC.out ?_
 rintro e w1 ⟨rfl,hbt1,hM1⟩
 have HBT1:Hid (Bts O w w1):=(Bts.of_below (O:=O) HW.out).trans hbt1 (Gr.refl _ _)
 have r0:w1.cell? ⟨w.heap.size,0,none⟩=some (.int .i64 8):=(hbt1.cell hws HTOP.out _).trans l0
 have r1:w1.cell? ⟨w.heap.size,1,none⟩=some (.string a):=(hbt1.cell hws HTOP.out _).trans l1
 have r2:w1.cell? ⟨w.heap.size,2,none⟩=some (.string t):=(hbt1.cell hws HTOP.out _).trans l2
 have r3:w1.cell? ⟨w.heap.size,3,none⟩=some (.slice ea es.length ecap):=(hbt1.cell hws HTOP.out _).trans l3
 have r4:w1.cell? ⟨w.heap.size,4,none⟩=some (.slice a2 bd.length cap2):=(hbt1.cell hws HTOP.out _).trans l4
 have r5:w1.cell? ⟨w.heap.size,5,none⟩=some (.slice a3 el.length cap3):=(hbt1.cell hws HTOP.out _).trans l5
 have HM1:=hid hM1.less
 clear hbt1 hM1 HBC l0 l1 l2 l3 l4 l5
 go_wp2_with fail
 go_ret
 exact DoAs.go (K:=Value.bool) HBT1.out HR1.out (Gr.refl _ _) HM1.out
theorem stmt_9 {m:Nat} (hS:DoC m) (c:Cx) (O:Own) (w:World) (s:Ms) (j:Nat) (a t:ByteArray) (es:List Ex) (bd el:List Sm) (cs:List Value) (hM:Mc c O w s j) (hx:SmA c.B w (m+1) cs (.mk 9 a t es bd el)) (hok:okS (m+1) (.mk 9 a t es bd el)) (hfe:fewS (m+1) (.mk 9 a t es bd el)) :
 Calls Tryz.prog 127 #[.pointer (some ⟨c.r,0,none⟩),.agg cs.toArray] w (DoAs c O w j (stmtM c.F (m+1) s (.mk 9 a t es bd el)) Value.bool):=by
 have HXX:=hid hx
 obtain⟨v1,v2,v3,rfl,wk,wa,wt,⟨ea,ecap,rfl,-,-⟩,⟨a2,cap2,rfl,-,-⟩,⟨a3,cap3,rfl,-,-⟩⟩:=hx
 obtain⟨R,hR⟩:∃R,R=stmtM c.F (m+1) s (.mk 9 a t es bd el):=⟨_,rfl⟩
 rw [<-hR]
 have HR0:Hid (R=burnM s fun s2=>plainM c.F m s2 (.mk 9 a t es bd el)):=by rw [hR];simp [stmtM,Hid]
 clear hR
 show Calls Tryz.prog 127 #[.pointer (some ⟨c.r,0,none⟩),.agg #[.int .i64 9,.string a,.string t,.slice ea es.length ecap,.slice a2 bd.length cap2,.slice a3 el.length cap3]] w _
 have HOK:Hid (okS (m+1) (.mk 9 a t es bd el)/\fewS (m+1) (.mk 9 a t es bd el)):=⟨hok,hfe⟩
 have HSS:=hid hS
 have hrw:c.r<w.heap.size:=hM.lt
 have hrn:¬c.r=w.heap.size:=by omega
 have HLO:Hid ((∀b,b<c.B->O b=none)/\c.B<=w.heap.size):=⟨hM.low,hM.lo.size⟩
 have HTOP:Hid (O w.heap.size=none):=hM.top _ (Nat.le_refl _)
 obtain⟨W,hW⟩:∃W,W=w.alloc (.cells #[.int .i64 9,.string a,.string t,.slice ea es.length ecap,.slice a2 bd.length cap2,.slice a3 el.length cap3] 108):=⟨_,rfl⟩
 have HW:Hid (Below w.heap.size w W):=by rw [hW];exact (Below.refl _ _).alloc (Nat.le_refl _) _
 have HM:Hid (Mc c O W s j):=hM.below HW.out
 have HWW:Hid (W=_):=hW
 have hws:w.heap.size<W.heap.size:=by rw [hW];simp
 have l0:W.cell? ⟨w.heap.size,0,none⟩=some (.int .i64 9):=by rw [hW];simp [go_sem]
 have l1:W.cell? ⟨w.heap.size,1,none⟩=some (.string a):=by rw [hW];simp [go_sem]
 have l2:W.cell? ⟨w.heap.size,2,none⟩=some (.string t):=by rw [hW];simp [go_sem]
 have l3:W.cell? ⟨w.heap.size,3,none⟩=some (.slice ea es.length ecap):=by rw [hW];simp [go_sem]
 have l4:W.cell? ⟨w.heap.size,4,none⟩=some (.slice a2 bd.length cap2):=by rw [hW];simp [go_sem]
 have l5:W.cell? ⟨w.heap.size,5,none⟩=some (.slice a3 el.length cap3):=by rw [hW];simp [go_sem]
 clear hM hW hok hfe hS wk wa wt
 by_cases h0:s.left=0
 . have HR1:Hid (R = .stop s 1):=by unfold Hid;rw [HR0.out];unfold burnM;rw [if_pos h0]
   have HBN:=hid (burn_no c O W s j HM.out h0)
   clear h0
   go_enter Tryz.func127,Tryz.ntmps127
   go_wp2_with fail
   rw [<-HWW.out]
   clear HWW
   refine Calls.mono HBN.out ?_
   rintro e w1 ⟨rfl,hb1⟩
   have HB1:Hid (Below w.heap.size w w1):=bl_trans HW.out hb1
   have HOU:Hid (Ou c O w1 s.out s.left):=(HM.out.below hb1).ou
   clear hb1 HBN
   go_wp2_with fail
   exact⟨rfl,DoAs.stop (Bts.of_below HB1.out) HR1.out (Gr.refl _ _) HOU.out⟩
 obtain⟨s2,hs2⟩:∃s2:Ms,s2 = { s with left:=s.left - 1 }:=⟨_,rfl⟩
 have HR1:Hid (R=plainM c.F m s2 (.mk 9 a t es bd el)):=by unfold Hid;rw [HR0.out];unfold burnM;rw [if_neg h0,hs2]
 have HBC:=hid (burn_c c O W s j HM.out h0)
 rw [<-hs2] at HBC
 clear h0 hs2 HR0
 go_enter Tryz.func127,Tryz.ntmps127
 go_wp2_with fail
 rw [<-HWW.out]
 clear HWW
 refine Calls.mono HBC.out ?_
 rintro e w1 ⟨rfl,hbt1,hM1⟩
 have HBT1:Hid (Bts O w w1):=(Bts.of_below (O:=O) HW.out).trans hbt1 (Gr.refl _ _)
 have r0:w1.cell? ⟨w.heap.size,0,none⟩=some (.int .i64 9):=(hbt1.cell hws HTOP.out _).trans l0
 have r1:w1.cell? ⟨w.heap.size,1,none⟩=some (.string a):=(hbt1.cell hws HTOP.out _).trans l1
 have r2:w1.cell? ⟨w.heap.size,2,none⟩=some (.string t):=(hbt1.cell hws HTOP.out _).trans l2
 have r3:w1.cell? ⟨w.heap.size,3,none⟩=some (.slice ea es.length ecap):=(hbt1.cell hws HTOP.out _).trans l3
 have r4:w1.cell? ⟨w.heap.size,4,none⟩=some (.slice a2 bd.length cap2):=(hbt1.cell hws HTOP.out _).trans l4
 have r5:w1.cell? ⟨w.heap.size,5,none⟩=some (.slice a3 el.length cap3):=(hbt1.cell hws HTOP.out _).trans l5
 have HC:=hid (plain_9 m c O w1 s2 j a t es bd el _ hM1 (HXX.out.below (HBT1.out.below HLO.out.2 HLO.out.1)) HOK.out.1)
 clear hbt1 hM1 HBC l0 l1 l2 l3 l4 l5
 go_wp2_with fail
 refine Calls.mono HC.out ?_
 intro e w2 hd
 have hd2:=DoAs.chain HBT1.out (Gr.refl _ _) (DoAs.same hd HR1.out)
 rcases hd2.cases with⟨s9,er,h9,rfl⟩ | ⟨s9,b9,O9,h9,rfl,hG9,hMc9⟩
 . have HF:Hid (DoAs c O w j R Value.bool (.panicked [endP er]) w2):=by
    obtain⟨f1,f2⟩:=hd2
    rw [h9] at f2 ⊢
    exact⟨f1,f2⟩
   clear hd hd2 h9 HC
   go_wp2_with fail
   exact⟨rfl,HF.out⟩
 obtain rfl:b9=true:=plainM_true (HR1.out.symm.trans h9)
 have HF:Hid (DoAs c O w j R Value.bool (.returned (.bool true)) w2):=DoAs.go (K:=Value.bool) hd2.1 h9 hG9 hMc9
 clear hd hd2 h9 hG9 hMc9 HC
 go_wp2_with fail
 go_ret
 exact HF.out
theorem stmt_10 {m:Nat} (hS:DoC m) (c:Cx) (O:Own) (w:World) (s:Ms) (j:Nat) (a t:ByteArray) (es:List Ex) (bd el:List Sm) (cs:List Value) (hM:Mc c O w s j) (hx:SmA c.B w (m+1) cs (.mk 10 a t es bd el)) (hok:okS (m+1) (.mk 10 a t es bd el)) (hfe:fewS (m+1) (.mk 10 a t es bd el)) :
 Calls Tryz.prog 127 #[.pointer (some ⟨c.r,0,none⟩),.agg cs.toArray] w (DoAs c O w j (stmtM c.F (m+1) s (.mk 10 a t es bd el)) Value.bool):=by
 have HXX:=hid hx
 obtain⟨v1,v2,v3,rfl,wk,wa,wt,⟨ea,ecap,rfl,-,-⟩,⟨a2,cap2,rfl,-,-⟩,⟨a3,cap3,rfl,-,-⟩⟩:=hx
 obtain⟨R,hR⟩:∃R,R=stmtM c.F (m+1) s (.mk 10 a t es bd el):=⟨_,rfl⟩
 rw [<-hR]
 have HR0:Hid (R=burnM s fun s2=>plainM c.F m s2 (.mk 10 a t es bd el)):=by rw [hR];simp [stmtM,Hid]
 clear hR
 show Calls Tryz.prog 127 #[.pointer (some ⟨c.r,0,none⟩),.agg #[.int .i64 10,.string a,.string t,.slice ea es.length ecap,.slice a2 bd.length cap2,.slice a3 el.length cap3]] w _
 have HOK:Hid (okS (m+1) (.mk 10 a t es bd el)/\fewS (m+1) (.mk 10 a t es bd el)):=⟨hok,hfe⟩
 have HSS:=hid hS
 have hrw:c.r<w.heap.size:=hM.lt
 have hrn:¬c.r=w.heap.size:=by omega
 have HLO:Hid ((∀b,b<c.B->O b=none)/\c.B<=w.heap.size):=⟨hM.low,hM.lo.size⟩
 have HTOP:Hid (O w.heap.size=none):=hM.top _ (Nat.le_refl _)
 obtain⟨W,hW⟩:∃W,W=w.alloc (.cells #[.int .i64 10,.string a,.string t,.slice ea es.length ecap,.slice a2 bd.length cap2,.slice a3 el.length cap3] 108):=⟨_,rfl⟩
 have HW:Hid (Below w.heap.size w W):=by rw [hW];exact (Below.refl _ _).alloc (Nat.le_refl _) _
 have HM:Hid (Mc c O W s j):=hM.below HW.out
 have HWW:Hid (W=_):=hW
 have hws:w.heap.size<W.heap.size:=by rw [hW];simp
 have l0:W.cell? ⟨w.heap.size,0,none⟩=some (.int .i64 10):=by rw [hW];simp [go_sem]
 have l1:W.cell? ⟨w.heap.size,1,none⟩=some (.string a):=by rw [hW];simp [go_sem]
 have l2:W.cell? ⟨w.heap.size,2,none⟩=some (.string t):=by rw [hW];simp [go_sem]
 have l3:W.cell? ⟨w.heap.size,3,none⟩=some (.slice ea es.length ecap):=by rw [hW];simp [go_sem]
 have l4:W.cell? ⟨w.heap.size,4,none⟩=some (.slice a2 bd.length cap2):=by rw [hW];simp [go_sem]
 have l5:W.cell? ⟨w.heap.size,5,none⟩=some (.slice a3 el.length cap3):=by rw [hW];simp [go_sem]
 clear hM hW hok hfe hS wk wa wt
 by_cases h0:s.left=0
 . have HR1:Hid (R = .stop s 1):=by unfold Hid;rw [HR0.out];unfold burnM;rw [if_pos h0]
   have HBN:=hid (burn_no c O W s j HM.out h0)
   clear h0
   go_enter Tryz.func127,Tryz.ntmps127
   go_wp2_with fail
   rw [<-HWW.out]
   clear HWW
   refine Calls.mono HBN.out ?_
   rintro e w1 ⟨rfl,hb1⟩
   have HB1:Hid (Below w.heap.size w w1):=bl_trans HW.out hb1
   have HOU:Hid (Ou c O w1 s.out s.left):=(HM.out.below hb1).ou
   clear hb1 HBN
   go_wp2_with fail
   exact⟨rfl,DoAs.stop (Bts.of_below HB1.out) HR1.out (Gr.refl _ _) HOU.out⟩
 obtain⟨s2,hs2⟩:∃s2:Ms,s2 = { s with left:=s.left - 1 }:=⟨_,rfl⟩
 have HR1:Hid (R=plainM c.F m s2 (.mk 10 a t es bd el)):=by unfold Hid;rw [HR0.out];unfold burnM;rw [if_neg h0,hs2]
 have HBC:=hid (burn_c c O W s j HM.out h0)
 rw [<-hs2] at HBC
 clear h0 hs2 HR0
 go_enter Tryz.func127,Tryz.ntmps127
 go_wp2_with fail
 rw [<-HWW.out]
 clear HWW
 refine Calls.mono HBC.out ?_
 rintro e w1 ⟨rfl,hbt1,hM1⟩
 have HBT1:Hid (Bts O w w1):=(Bts.of_below (O:=O) HW.out).trans hbt1 (Gr.refl _ _)
 have r0:w1.cell? ⟨w.heap.size,0,none⟩=some (.int .i64 10):=(hbt1.cell hws HTOP.out _).trans l0
 have r1:w1.cell? ⟨w.heap.size,1,none⟩=some (.string a):=(hbt1.cell hws HTOP.out _).trans l1
 have r2:w1.cell? ⟨w.heap.size,2,none⟩=some (.string t):=(hbt1.cell hws HTOP.out _).trans l2
 have r3:w1.cell? ⟨w.heap.size,3,none⟩=some (.slice ea es.length ecap):=(hbt1.cell hws HTOP.out _).trans l3
 have r4:w1.cell? ⟨w.heap.size,4,none⟩=some (.slice a2 bd.length cap2):=(hbt1.cell hws HTOP.out _).trans l4
 have r5:w1.cell? ⟨w.heap.size,5,none⟩=some (.slice a3 el.length cap3):=(hbt1.cell hws HTOP.out _).trans l5
 have HC:=hid (plain_10 m c O w1 s2 j a t es bd el _ hM1 (HXX.out.below (HBT1.out.below HLO.out.2 HLO.out.1)) HOK.out.1)
 clear hbt1 hM1 HBC l0 l1 l2 l3 l4 l5
 go_wp2_with fail
 refine Calls.mono HC.out ?_
 intro e w2 hd
 have hd2:=DoAs.chain HBT1.out (Gr.refl _ _) (DoAs.same hd HR1.out)
 rcases hd2.cases with⟨s9,er,h9,rfl⟩ | ⟨s9,b9,O9,h9,rfl,hG9,hMc9⟩
 . have HF:Hid (DoAs c O w j R Value.bool (.panicked [endP er]) w2):=by
    obtain⟨f1,f2⟩:=hd2
    rw [h9] at f2 ⊢
    exact⟨f1,f2⟩
   clear hd hd2 h9 HC
   go_wp2_with fail
   exact⟨rfl,HF.out⟩
 obtain rfl:b9=true:=plainM_true (HR1.out.symm.trans h9)
 have HF:Hid (DoAs c O w j R Value.bool (.returned (.bool true)) w2):=DoAs.go (K:=Value.bool) hd2.1 h9 hG9 hMc9
 clear hd hd2 h9 hG9 hMc9 HC
 go_wp2_with fail
 go_ret
 exact HF.out
theorem do_c:∀m,DoC m
 | 0=>fun c O w s j x cs hM hx=>by cases x;exact absurd hx (by unfold SmA;exact id)
 | m+1=>fun c O w s j x cs hM hx hok hfe=>by
  obtain⟨k,a,t,es,bd,el⟩:=x
  have h1:=hok.1
  have h2:=hok.2.1
  have hk:k=1\/k=2\/k=3\/k=4\/k=5\/k=6\/k=7\/k=8\/k=9\/k=10:=by omega
  have ih:=do_c m
  rcases hk with rfl | rfl | rfl | rfl | rfl | rfl | rfl | rfl | rfl | rfl
  . exact stmt_1 ih c O w s j a t es bd el cs hM hx hok hfe
  . exact stmt_2 ih c O w s j a t es bd el cs hM hx hok hfe
  . exact stmt_3 ih c O w s j a t es bd el cs hM hx hok hfe
  . exact stmt_4 ih c O w s j a t es bd el cs hM hx hok hfe
  . exact stmt_5 ih c O w s j a t es bd el cs hM hx hok hfe
  . exact stmt_6 ih c O w s j a t es bd el cs hM hx hok hfe
  . exact stmt_7 ih c O w s j a t es bd el cs hM hx hok hfe
  . exact stmt_8 ih c O w s j a t es bd el cs hM hx hok hfe
  . exact stmt_9 ih c O w s j a t es bd el cs hM hx hok hfe
  . exact stmt_10 ih c O w s j a t es bd el cs hM hx hok hfe
end Go.Proofs.YtodjbffhlklpkaaGreatDoor
