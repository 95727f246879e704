/-
  Contracts of syntax.isZero and of the checker's rule. / The deferred closure of syntax.Check: it catches what is wrong. / Contract of syntax.Check (P2.4).
-/
import Derived.Test.YtppcohadoilpgaaGreatDoorStmtT
import Derived.Defers
import Derived.Recover
namespace Go.Proofs.YtppcohadoilpgaaGreatDoor
open Go.ChangeShapes Go.WideShapes Go.ChangeAt Go.RowKit Go.Joins Go.Proofs.Tryz
set_option maxHeartbeats 16000000
set_option linter.unusedVariables false
theorem Yp (k n:Int) (s:ByteArray) (a:Option Addr) (l:List Ex) (cap:Nat) (w:World) (hl:l.length<=maxLen) :
 Calls prog 47 #[.agg #[.int .i64 k,.int .i64 n,.string s,.slice a l.length cap]] w fun e w'=>e = .returned (.bool (C5 (.mk k n s l)))/\Below w.heap.size w w':=by
 unfold maxLen at hl
 by_cases hk:k=0
 . subst hk
   by_cases hn:n=0
   . subst hn
     by_cases hs:0<s.size
     . have HN:Hid (C5 (.mk 0 0 s l)=false):=by have:¬s.size=0:=by omega
                                                simp [Hid,C5,this]
       have he:=Hz hs;go_enter func47,ntmps47
       go_wp2_with fail
       go_ret
       exact⟨Am HN.out.symm,by go_grown⟩
     . have HN:Hid (((l.length:Int) == 0)=C5 (.mk 0 0 s l)):=by
        have:s.size=0:=by omega
        unfold Hid;rw [Bool.eq_iff_iff];simp [C5,this]
       have he:=H0 hs;go_enter func47,ntmps47
       go_wp2_with fail
       go_ret
       exact⟨Am HN.out,by go_grown⟩
   . have HN:Hid (C5 (.mk 0 n s l)=false):=by simp [Hid,C5,hn]
     have b:(n == 0)=false:=by simpa using hn
     clear hn;go_enter func47,ntmps47
     go_wp2_with fail
     go_ret
     exact⟨Am HN.out.symm,by go_grown⟩
 . have HN:Hid (C5 (.mk k n s l)=false):=by simp [Hid,C5,hk]
   have b:(k == 0)=false:=by simpa using hk
   clear hk;go_enter func47,ntmps47
   go_wp2_with fail
   go_ret
   exact⟨Am HN.out.symm,by go_grown⟩
theorem Chk.setWhen {bc bm:Nat} {when:Int} {w:World} {st:St} {j:Nat} (h:Chk bc bm when w st j) (wh:Int):Chk bc bm wh (w.setCell ⟨bc,2,none⟩ (.int .i64 wh)) st j:=by
 obtain⟨n,D,g1,g2,g3⟩:=h.map;exact⟨h.ne,(World.cell?_setCell_other _ _ _ _ (by simp)).trans h.c0,(World.cell?_setCell_other _ _ _ _ (by simp)).trans h.c1,World.cell?_setCell_same _ _ _ h.c2,by simp [h.f1],by simp [h.f2],h.lo,h.hi,n,D,g1,Aq g2 (Below.heap_setCell _ _ _ _ (by simpa using h.ne.symm)),g3⟩
theorem Afo (m B bc bm:Nat) (when:Int) (r:Ru) (cs:List Value) (st:St) (w:World) (hx:RuA B w m cs r) (hc:Chk bc bm when w st 0) (hT:Tb B w) (hB1:B<=bc) (hB2:B<=bm) :
 Calls prog 30 #[.pointer (some ⟨bc,0,none⟩),.agg cs.toArray] w (Out bc bm r.when 0 w (ckR m r st)):=by
 obtain⟨wh,has,pat,bd⟩:=r;obtain⟨c0,c1,c2,c3,v,rfl,ww,hp,hsl⟩:=hx;simp only at hp hsl ww;have HP0:Hid (ExA B w m [c0,c1,c2,c3] pat):=hp;cases m with
 | zero=>exact hp.elim
 | succ m =>
 cases pat with
 | mk k n s l =>
 obtain⟨v1,e1,_,_,hws,a,cap,rfl,hlen,_⟩:=hp;simp only [List.cons.injEq,and_true] at e1;obtain⟨rfl,rfl,rfl,rfl⟩:=e1;have HS:Hid (Sl w B 6 v bd.length (fun i c=>∃x,bd[i]? = some x/\SmA B w (m+1) c x)):=hsl;obtain⟨a2,p2,rfl,hl2,_⟩:=hsl;have HP:Hid (ExA B w (m+1) [.int .i64 k,.int .i64 n,.string s,.slice a l.length cap] (.mk k n s l)):=HP0;have H:Hid (Chk bc bm when w st 0):=hc;have HT:Hid (Tb B w):=hT;have HBL:Hid (B<=w.heap.size):=by have:=hc.lt;unfold Hid;omega
 have g1:w.heap.size ≠ bc:=by have:=hc.lt;omega
 have g2:w.heap.size ≠ bm:=by have:=hc.lt;omega
 have HLEN:Hid (l.length<=maxLen):=hlen;clear HP0 hc hT hlen hl2 hws ww;obtain⟨o,ho⟩:∃o,o=Obj.cells #[.int .i64 wh,.bool has,.int .i64 k,.int .i64 n,.string s,.slice a l.length cap,.slice a2 bd.length p2] 34:=⟨_,rfl⟩;have HO0:Hid (But bc bm w (w.alloc o)):=(But.refl _ _ _).alloc o;have HC0:Hid (Chk bc bm when (w.alloc o) st 0):=H.out.alloc o;have HR0:Hid (Ao (w.alloc o) w.heap.size #[.int .i64 wh,.bool has,.int .i64 k,.int .i64 n,.string s,.slice a l.length cap,.slice a2 bd.length p2]):=by rw [ho];exact Ao.new w _ _
 change Calls prog 30 #[.pointer (some ⟨bc,0,none⟩),.agg #[.int .i64 wh,.bool has,.int .i64 k,.int .i64 n,.string s,.slice a l.length cap,.slice a2 bd.length p2]] w (Out bc bm wh 0 w (ckR (m+1) ⟨wh,has,.mk k n s l,bd⟩ st))
 have hne:¬bc=w.heap.size:=fun h=>g1 h.symm;have hne2:¬w.heap.size=bc:=g1
 by_cases hk1:wh<0
 . have HN:Hid (ckR (m+1) ⟨wh,has,.mk k n s l,bd⟩ st = .error 3):=by simp only [Hid,ckR];rw [if_pos (.inl hk1)]
   subst ho;go_enter func30,ntmps30
   go_wp2_with fail
   refine (Al 3 _).mono ?_;rintro e w99 ⟨rfl,rfl⟩;go_wp2_with fail
   refine⟨rfl,?_⟩;rw [HN.out];exact Ah HO0.out
 by_cases hk2:2<wh
 . have HN:Hid (ckR (m+1) ⟨wh,has,.mk k n s l,bd⟩ st = .error 3):=by simp only [Hid,ckR];rw [if_pos (.inr hk2)]
   subst ho;go_enter func30,ntmps30
   go_wp2_with fail
   refine (Al 3 _).mono ?_;rintro e w99 ⟨rfl,rfl⟩;go_wp2_with fail
   refine⟨rfl,?_⟩;rw [HN.out];exact Ah HO0.out
 have HK:Hid (¬(wh<0\/2<wh)):=by unfold Hid;omega
 have bk1:decide (wh<0)=false:=decide_eq_false hk1;have bk2:decide (2<wh)=false:=decide_eq_false hk2;cases has with
 | true =>
  by_cases h1:wh=1
  . subst h1;have HN0:Hid (ckR (m+1) ⟨1,true,.mk k n s l,bd⟩ st=(match ckE (m+1) (.mk k n s l) 1 st with
     | .error e=> .error e
     | .ok st1=>Au (fun x=>ckS 1 (m+1) x 1) bd st1)):=by simp [Hid,ckR];rfl
    have HC1:Hid (Chk bc bm 1 ((w.alloc o).setCell ⟨bc,2,none⟩ (.int .i64 1)) st 0):=HC0.out.setWhen 1;have HO1:Hid (But bc bm w ((w.alloc o).setCell ⟨bc,2,none⟩ (.int .i64 1))):=HO0.out.set 2 _;have HR1:Hid (Ao ((w.alloc o).setCell ⟨bc,2,none⟩ (.int .i64 1)) w.heap.size #[.int .i64 1,.bool true,.int .i64 k,.int .i64 n,.string s,.slice a l.length cap,.slice a2 bd.length p2]):=HR0.out.stays (Below.heap_setCell _ _ _ _ g1);have HT1:Hid (Tb B ((w.alloc o).setCell ⟨bc,2,none⟩ (.int .i64 1))):=HT.out.below (HO1.out.below HBL.out hB1 hB2);clear hk1 hk2 HK bk1 bk2;have q0:=HR0.out.cell 0;have q1:=HR0.out.cell 1;have q2:=HR0.out.cell 2;have q3:=HR0.out.cell 3;have q4:=HR0.out.cell 4;have q5:=HR0.out.cell 5;have q6:=HR0.out.cell 6;simp only [List.getElem?_toArray,List.getElem?_cons_zero,List.getElem?_cons_succ] at q0 q1 q2 q3 q4 q5 q6;have c2':=HC0.out.c2;have f2':=HC0.out.f2
    go_enter func30,ntmps30
    go_wp2_with fail
    rw [<-ho];clear ho
    try rw [bk1,bk2]
    refine (Af 3 _).mono ?_;rintro e w1 ⟨rfl,he1⟩;subst he1;go_wp2_with fail
    refine (Af 4 _).mono ?_;rintro e w2 ⟨rfl,he2⟩;subst he2;go_wp2_with fail
    refine (Jg (m+1) B bc bm 1 (.mk k n s l) [.int .i64 k,.int .i64 n,.string s,.slice a l.length cap] 1 st _ (HP.out.below (HO1.out.below HBL.out hB1 hB2)) HC1.out HT1.out hB1 hB2 (by omega) (by omega)).mono ?_;rintro e w3 ⟨hb3,hr⟩;have HO3:Hid (But bc bm w w3):=HO1.out.trans hb3;have HR3:Hid (Ao w3 w.heap.size #[.int .i64 1,.bool true,.int .i64 k,.int .i64 n,.string s,.slice a l.length cap,.slice a2 bd.length p2]):=hb3.box HR1.out g1 g2;have HT3:Hid (Tb B w3):=HT.out.below (HO3.out.below HBL.out hB1 hB2);clear hb3 q0 q1 q2 q3 q4 q5 q6 HO1 HC1 HR1 HT1 c2' f2';cases hE:ckE (m+1) (.mk k n s l) 1 st with
    | error er =>
     rw [hE] at hr;subst hr;have HN:Hid (ckR (m+1) ⟨1,true,.mk k n s l,bd⟩ st = .error er):=by rw [HN0.out,hE];rfl
     clear hE;go_wp2_with fail
     refine⟨rfl,?_⟩;rw [HN.out];exact Ah HO3.out
    | ok st1 =>
     rw [hE] at hr;obtain⟨rfl,hc3⟩:=hr;have HC3:Hid (Chk bc bm 1 w3 st1 0):=hc3;have HN1:Hid (ckR (m+1) ⟨1,true,.mk k n s l,bd⟩ st=Au (fun x=>ckS 1 (m+1) x 1) bd st1):=by rw [HN0.out,hE];rfl
     clear hE hc3;have q0:=HR3.out.cell 0;have q1:=HR3.out.cell 1;have q2:=HR3.out.cell 2;have q3:=HR3.out.cell 3;have q4:=HR3.out.cell 4;have q5:=HR3.out.cell 5;have q6:=HR3.out.cell 6;simp only [List.getElem?_toArray,List.getElem?_cons_zero,List.getElem?_cons_succ] at q0 q1 q2 q3 q4 q5 q6;go_wp2_with fail
     refine (Af 4 _).mono ?_;rintro e w4 ⟨rfl,he4⟩;subst he4;go_wp2_with fail
     refine (L9 (m+1) B bc bm 1 bd _ 1 st1 _ (HS.out.below (HO3.out.below HBL.out hB1 hB2) fun i c ⟨x,hx,he⟩=>⟨x,hx,he.below (HO3.out.below HBL.out hB1 hB2)⟩) HC3.out HT3.out hB1 hB2 (by omega) (by omega)).mono ?_;rintro e w9 ⟨hb9,hr⟩;have HO9:Hid (But bc bm w w9):=HO3.out.trans hb9;clear hb9 q0 q1 q2 q3 q4 q5 q6;cases hR:Au (fun x=>ckS 1 (m+1) x 1) bd st1 with
     | error er =>
      rw [hR] at hr;subst hr;have HN:Hid (ckR (m+1) ⟨1,true,.mk k n s l,bd⟩ st = .error er):=HN1.out.trans hR;clear hR;go_wp2_with fail
      refine⟨rfl,?_⟩;rw [HN.out];exact Ah HO9.out
     | ok st5 =>
      rw [hR] at hr;obtain⟨rfl,hc9⟩:=hr;have HC9:Hid (Chk bc bm 1 w9 st5 0):=hc9;have HN:Hid (ckR (m+1) ⟨1,true,.mk k n s l,bd⟩ st = .ok st5):=HN1.out.trans hR;clear hR hc9;go_wp2_with fail
      go_end0
      rw [HN.out];exact Bz HO9.out HC9.out
  . have HN:Hid (ckR (m+1) ⟨wh,true,.mk k n s l,bd⟩ st = .error 4):=by simp only [Hid,ckR];rw [if_neg HK.out,if_pos ⟨trivial,h1⟩]
    have b1:(wh != 1)=true:=by simpa using h1
    clear hk1 hk2 h1;have q0:=HR0.out.cell 0;have q1:=HR0.out.cell 1;have q2:=HR0.out.cell 2;have q3:=HR0.out.cell 3;have q4:=HR0.out.cell 4;have q5:=HR0.out.cell 5;have q6:=HR0.out.cell 6;simp only [List.getElem?_toArray,List.getElem?_cons_zero,List.getElem?_cons_succ] at q0 q1 q2 q3 q4 q5 q6;have c2':=HC0.out.c2;have f2':=HC0.out.f2;go_enter func30,ntmps30
    go_wp2_with fail
    rw [<-ho];clear ho
    try rw [bk1,bk2]
    refine (Af 3 _).mono ?_;rintro e w1 ⟨rfl,he1⟩;subst he1;go_wp2_with fail
    refine (Al 4 _).mono ?_;rintro e w99 ⟨rfl,rfl⟩;go_wp2_with fail
    refine⟨rfl,?_⟩;rw [HN.out];exact Ah HO0.out
 | false =>
  have HN0:Hid (ckR (m+1) ⟨wh,false,.mk k n s l,bd⟩ st=(if C5 (.mk k n s l)=false then .error 4 else Au (fun x=>ckS wh (m+1) x 1) bd st)):=by
   simp only [Hid,ckR];rw [if_neg HK.out];simp
  have HC1:Hid (Chk bc bm wh ((w.alloc o).setCell ⟨bc,2,none⟩ (.int .i64 wh)) st 0):=HC0.out.setWhen wh;have HO1:Hid (But bc bm w ((w.alloc o).setCell ⟨bc,2,none⟩ (.int .i64 wh))):=HO0.out.set 2 _;have HR1:Hid (Ao ((w.alloc o).setCell ⟨bc,2,none⟩ (.int .i64 wh)) w.heap.size #[.int .i64 wh,.bool false,.int .i64 k,.int .i64 n,.string s,.slice a l.length cap,.slice a2 bd.length p2]):=HR0.out.stays (Below.heap_setCell _ _ _ _ g1);clear hk1 hk2;have q0:=HR0.out.cell 0;have q1:=HR0.out.cell 1;have q2:=HR0.out.cell 2;have q3:=HR0.out.cell 3;have q4:=HR0.out.cell 4;have q5:=HR0.out.cell 5;have q6:=HR0.out.cell 6;simp only [List.getElem?_toArray,List.getElem?_cons_zero,List.getElem?_cons_succ] at q0 q1 q2 q3 q4 q5 q6;have c2':=HC0.out.c2;have f2':=HC0.out.f2;go_enter func30,ntmps30
  go_wp2_with fail
  rw [<-ho];clear ho
  try rw [bk1,bk2]
  refine (Af 3 _).mono ?_;rintro e w1 ⟨rfl,he1⟩;subst he1;go_wp2_with fail
  refine (Af 4 _).mono ?_;rintro e w2 ⟨rfl,he2⟩;subst he2;go_wp2_with fail
  refine (Yp k n s a l cap _ HLEN.out).mono ?_;rintro e w3 ⟨rfl,hb3⟩;have HO3:Hid (But bc bm w w3):=HO1.out.more hb3;have HC3:Hid (Chk bc bm wh w3 st 0):=HC1.out.below hb3;have HR3:Hid (Ao w3 w.heap.size #[.int .i64 wh,.bool false,.int .i64 k,.int .i64 n,.string s,.slice a l.length cap,.slice a2 bd.length p2]):=HR1.out.below hb3;have HT3:Hid (Tb B w3):=HT.out.below (HO3.out.below HBL.out hB1 hB2);clear hb3 q0 q1 q2 q3 q4 q5 q6 HO1 HC1 HR1 c2' f2';have q0:=HR3.out.cell 0;have q1:=HR3.out.cell 1;have q2:=HR3.out.cell 2;have q3:=HR3.out.cell 3;have q4:=HR3.out.cell 4;have q5:=HR3.out.cell 5;have q6:=HR3.out.cell 6;simp only [List.getElem?_toArray,List.getElem?_cons_zero,List.getElem?_cons_succ] at q0 q1 q2 q3 q4 q5 q6;cases hz:C5 (.mk k n s l) with
  | false =>
   have HN:Hid (ckR (m+1) ⟨wh,false,.mk k n s l,bd⟩ st = .error 4):=by rw [HN0.out,if_pos hz];rfl
   clear hz;go_wp2_with fail
   refine (Al 4 _).mono ?_;rintro e w99 ⟨rfl,rfl⟩;go_wp2_with fail
   refine⟨rfl,?_⟩;rw [HN.out];exact Ah HO3.out
  | true =>
   have HN1:Hid (ckR (m+1) ⟨wh,false,.mk k n s l,bd⟩ st=Au (fun x=>ckS wh (m+1) x 1) bd st):=by rw [HN0.out,if_neg (by rw [hz];decide)];rfl
   clear hz;go_wp2_with fail
   refine (Af 4 _).mono ?_;rintro e w4 ⟨rfl,he4⟩;subst he4;go_wp2_with fail
   refine (L9 (m+1) B bc bm wh bd _ 1 st _ (HS.out.below (HO3.out.below HBL.out hB1 hB2) fun i c ⟨x,hx,he⟩=>⟨x,hx,he.below (HO3.out.below HBL.out hB1 hB2)⟩) HC3.out HT3.out hB1 hB2 (by omega) (by omega)).mono ?_;rintro e w9 ⟨hb9,hr⟩;have HO9:Hid (But bc bm w w9):=HO3.out.trans hb9;clear hb9 q0 q1 q2 q3 q4 q5 q6;cases hR:Au (fun x=>ckS wh (m+1) x 1) bd st with
   | error er =>
    rw [hR] at hr;subst hr;have HN:Hid (ckR (m+1) ⟨wh,false,.mk k n s l,bd⟩ st = .error er):=HN1.out.trans hR;clear hR;go_wp2_with fail
    refine⟨rfl,?_⟩;rw [HN.out];exact Ah HO9.out
   | ok st5 =>
    rw [hR] at hr;obtain⟨rfl,hc9⟩:=hr;have HC9:Hid (Chk bc bm wh w9 st5 0):=hc9;have HN:Hid (ckR (m+1) ⟨wh,false,.mk k n s l,bd⟩ st = .ok st5):=HN1.out.trans hR;clear hR hc9;go_wp2_with fail
    go_end0
    rw [HN.out];exact Bz HO9.out HC9.out
theorem J6 (e:Int) (w:World):(Instr.typeAssert (.iface 40 (.int .i64 e)) 20 40 true).run prog w = .ok (.tuple #[.int .i64 e,.bool true]) w:=by kernel_rfl
theorem J5 (w:World):(Instr.typeAssert .nilIface 20 40 true).run prog w = .ok (.tuple #[.int .i64 0,.bool false]) w:=by kernel_rfl
theorem Gs (p:Addr) (x e:Int) (older:List PanicEntry) (w:World) (hc:w.cell? p=some (.int .i64 x)) (hz:w.frozen? p=false) :
 CallsD prog 29 #[.pointer (some p)] (.panicking (C2 e :: older)) w fun r u' w' =>
  r = .returned (.tuple #[])/\u' = .panicking ({ v:= .iface 40 (.int .i64 e),recovered:=true } :: older)/\w'=w.setCell p (.int .i64 e):=by
 unfold C2;refine callsD_of_wpS func29 rfl fun c₀ cs hu=>?_
 apply wpS_seq
 apply wpS_region
 simp [wpOpsS,go_sem,recoverD,hu,ntmps29,J6,Exit.thenS]
 apply wpS_seq
 apply wpS_region
 simp [wpOpsS,go_sem,Exit.thenS];refine wpS_cond (t:=true) (by simp [Act.eval,Array.replicate]) ?_;simp only [if_true]
 apply wpS_region
 simp [wpOpsS,go_sem,hc,hz,bodyPostS,results,results29]
theorem K3 (p:Addr) (w:World) :
 CallsD prog 29 #[.pointer (some p)] .returning w fun r u' w'=>r = .returned (.tuple #[])/\u' = .returning/\w'=w:=by
 refine callsD_of_wpS func29 rfl fun c₀ cs hu=>?_
 apply wpS_seq
 apply wpS_region
 simp [wpOpsS,go_sem,recoverD,hu,ntmps29,J5,Exit.thenS]
 apply wpS_seq
 apply wpS_region
 simp [wpOpsS,go_sem,Exit.thenS];refine wpS_cond (t:=false) (by simp [Act.eval,Array.replicate]) ?_;simp only [Bool.false_eq_true,if_false];refine wpS_of_wp (wp_skip ?_);cases c₀
 simp_all [bodyPostS,results,results29]
end Go.Proofs.YtppcohadoilpgaaGreatDoor
namespace Go.Proofs.YtppcohadoilpgaaGreatDoor
open Go.ChangeShapes Go.WideShapes Go.ChangeAt Go.RowKit Go.Joins Go.Maps Go.Proofs.Tryz
set_option maxHeartbeats 8000000
set_option linter.unusedVariables false
theorem RuA.shape {B:Nat} {w:World} {m:Nat} {cs:List Value} {r:Ru} (h:RuA B w m cs r):∃(k:Int) (h1:Bool) (k1 n1:Int) (s1:ByteArray) (a1:Option Addr) (len1 cap1:Nat) (a2:Option Addr) (len2 cap2:Nat),
 cs = [.int .i64 k,.bool h1,.int .i64 k1,.int .i64 n1,.string s1,.slice a1 len1 cap1,.slice a2 len2 cap2]:=by
 obtain⟨c0,c1,c2,c3,v,rfl,_,hp,a2,cap2,rfl,_⟩:=h;obtain⟨k1,n1,s1,a1,len1,cap1,e⟩:=hp.shape;simp only [List.cons.injEq,and_true] at e;obtain⟨rfl,rfl,rfl,rfl⟩:=e;exact⟨_,_,k1,n1,s1,a1,len1,cap1,a2,_,cap2,rfl⟩
theorem Abp (w:World) (o1 o2:Obj) (t:TypeId) (hm:o1=o1):Chk (w.heap.size+1+1+1) (w.heap.size+1+1) 0 ((((w.alloc o1).alloc o2).alloc (Obj.map #[] 0)).alloc (Obj.cells #[Value.map (some (w.heap.size+1+1)),Value.int .i64 0,Value.int .i64 0] t)) ⟨fun _=>0,0⟩ 0:=by
 have hs:((w.alloc o1).alloc o2).heap.size=w.heap.size+1+1:=by simp
 have hs2:(((w.alloc o1).alloc o2).alloc (Obj.map #[] 0)).heap.size=w.heap.size+1+1+1:=by simp
 have hr:=Ao.new (((w.alloc o1).alloc o2).alloc (Obj.map #[] 0)) #[Value.map (some (w.heap.size+1+1)),Value.int .i64 0,Value.int .i64 0] t;rw [hs2] at hr;have hf:∀o,((((w.alloc o1).alloc o2).alloc (Obj.map #[] 0)).alloc (Obj.cells #[Value.map (some (w.heap.size+1+1)),Value.int .i64 0,Value.int .i64 0] t)).frozen? ⟨w.heap.size+1+1+1,o,none⟩=false:=fun o=>by
  rw [<-hs2];simp [go_sem]
 have hm:=World.ownsMap_made (H:=Unit) ((w.alloc o1).alloc o2) prog 9 (plainElem prog 3);rw [hs] at hm;exact⟨by omega,hr.cell 0,hr.cell 1,hr.cell 2,hf 1,hf 2,by show (0:Int)<=0;omega,by show (0:Int)<=4000;omega,0,_,by show 0+0<=2 * (0:Int).toNat;omega,hm.alloc _,fun s=>rfl⟩
theorem Sy (m:Nat) (a:Option Addr) (cap:Nat) (w:World) :
 Calls prog 16 #[.agg #[.slice a ([]:List Ru).length cap]] w fun e w'=>e = .returned (.int .i64 (ckP m []))/\Below w.heap.size w w':=by
 have hmf:∀(fn:Fn) (first cap:Array Value) (w:World),(Instr.makeFunc fn first cap).run prog w = .ok (.func fn first cap) w:=fun _ _ _ _=>rfl;have hmm:=@run_makeMap prog;have HN:Hid (ckP m []=0):=rfl;show Calls prog 16 #[.agg #[.slice a 0 cap]] w _
 go_enter_defers func16,ntmps16
 go_wp2_with fail
 refine (Af 1 _).mono ?_;rintro e w1 ⟨rfl,he1⟩;subst he1;go_wp2_with fail
 go_loop [17] (fun v=>v = .int .i64 0) (fun _=>0)
 case atStart=>rfl
 case round =>
  subst hrel;go_wp2_with fail
  refine leaves_cons (f:=29) (args:= #[.pointer (some ⟨w.heap.size+1,0,none⟩)]) (by simp) (by simp [go_sem]) ?_;refine (K3 ⟨w.heap.size+1,0,none⟩ _).mono ?_;rintro e u' w'' ⟨rfl,rfl,rfl⟩;simp [Leaves,settle,results,results16,go_sem];exact⟨HN.out.symm,((((br0.alloc lr0 _).alloc (by simp;try omega) _).alloc (by simp;try omega) _).alloc (by simp;try omega) _)⟩
theorem Sz (m B:Nat) (l:List Ru) (a:Option Addr) (cap:Nat) (w:World) (hv:Sl w B 7 (.slice a l.length cap) l.length (fun i c=>∃x,l[i]? = some x/\RuA B w m c x)) (hT:Tb B w) (hB:B<=w.heap.size) (h20:¬20<l.length) (h0:0<l.length) :
 Calls prog 16 #[.agg #[.slice a l.length cap]] w fun e w'=>e = .returned (.int .i64 (ckP m l))/\Below w.heap.size w w':=by
 obtain⟨a',cap',e1,hl,hs⟩:=hv;simp only [Value.slice.injEq] at e1;obtain⟨rfl,_,rfl⟩:=e1;obtain⟨b,off,rfl,hb,hi⟩:=hs h0;have HI:Hid (∀i,i<l.length->∃cs:List Value,cs.length=7/\(∀j,j<7->w.cell? ⟨b,off+i * 7+j,none⟩=cs[j]?)/\∃x,l[i]? = some x/\RuA B w m cs x):=hi;have HT:Hid (Tb B w):=hT;have HB:Hid (B<=w.heap.size):=hB;have HL:Hid (¬20<l.length):=h20;unfold maxLen at hl;clear hT hB hs hi h0 h20;have hmf:∀(fn:Fn) (first cap:Array Value) (w:World),(Instr.makeFunc fn first cap).run prog w = .ok (.func fn first cap) w:=fun _ _ _ _=>rfl;have hmm:=@run_makeMap prog
 go_enter_defers func16,ntmps16
 go_wp2_with fail
 rw [decide_eq_false (show ¬(20:Int)<(l.length:Int) by have:=HL.out;omega)];refine (Af 1 _).mono ?_;rintro e w1 ⟨rfl,he1⟩;subst he1;go_wp2_with fail
 have HC:Hid (Chk (w.heap.size+1+1+1) (w.heap.size+1+1) 0 ((((w.alloc (Obj.cells #[Value.slice (some ⟨b,off,none⟩) l.length cap] 26)).alloc (Obj.cells #[Value.int .i64 0] 40)).alloc (Obj.map #[] 0)).alloc (Obj.cells #[Value.map (some (w.heap.size+1+1)),Value.int .i64 0,Value.int .i64 0] 79)) ⟨fun _=>0,0⟩ 0):=Abp w _ _ _ rfl
 have HE:Hid (((((w.alloc (Obj.cells #[Value.slice (some ⟨b,off,none⟩) l.length cap] 26)).alloc (Obj.cells #[Value.int .i64 0] 40)).alloc (Obj.map #[] 0)).alloc (Obj.cells #[Value.map (some (w.heap.size+1+1)),Value.int .i64 0,Value.int .i64 0] 79)).cell? ⟨w.heap.size+1,0,none⟩=some (.int .i64 0)/\((((w.alloc (Obj.cells #[Value.slice (some ⟨b,off,none⟩) l.length cap] 26)).alloc (Obj.cells #[Value.int .i64 0] 40)).alloc (Obj.map #[] 0)).alloc (Obj.cells #[Value.map (some (w.heap.size+1+1)),Value.int .i64 0,Value.int .i64 0] 79)).frozen? ⟨w.heap.size+1,0,none⟩=false/\w.heap.size+1<((((w.alloc (Obj.cells #[Value.slice (some ⟨b,off,none⟩) l.length cap] 26)).alloc (Obj.cells #[Value.int .i64 0] 40)).alloc (Obj.map #[] 0)).alloc (Obj.cells #[Value.map (some (w.heap.size+1+1)),Value.int .i64 0,Value.int .i64 0] 79)).heap.size):=⟨by simp [go_sem],by simp [go_sem],by simp⟩
 have HW:Hid (Below w.heap.size w ((((w.alloc (Obj.cells #[Value.slice (some ⟨b,off,none⟩) l.length cap] 26)).alloc (Obj.cells #[Value.int .i64 0] 40)).alloc (Obj.map #[] 0)).alloc (Obj.cells #[Value.map (some (w.heap.size+1+1)),Value.int .i64 0,Value.int .i64 0] 79))):=((((br0.alloc lr0 _).alloc (by simp;try omega) _).alloc (by simp;try omega) _).alloc (by simp;try omega) _);generalize ((((w.alloc (Obj.cells #[Value.slice (some ⟨b,off,none⟩) l.length cap] 26)).alloc (Obj.cells #[Value.int .i64 0] 40)).alloc (Obj.map #[] 0)).alloc (Obj.cells #[Value.map (some (w.heap.size+1+1)),Value.int .i64 0,Value.int .i64 0] 79))=w4 at HC HE HW ⊢
 go_loopw [17] (fun v wr=>∃(i:Nat) (wh:Int) (s:St),i<=l.length/\v = .int .i64 i/\Hid (But (w.heap.size+1+1+1) (w.heap.size+1+1) w4 wr/\Chk (w.heap.size+1+1+1) (w.heap.size+1+1) wh wr s 0/\Au (ckR m) (l.take i) ⟨fun _=>0,0⟩ = .ok s)) (fun v _=>l.length - (intOf v).toNat)
 case atStart=>exact⟨0,0,_,by omega,rfl,But.refl _ _ _,HC.out,rfl⟩
 case round =>
  obtain⟨i,wh,s,hil,rfl,HR⟩:=hrel;have HBW:Hid (Below B w wr):=(HW.out.mono HB.out).trans (HR.out.1.below (by have:=HW.out.size;have:=HB.out;omega) (by have:=HB.out;omega) (by have:=HB.out;omega))
  by_cases hlt:i<l.length
  . have i1:(i:Int)<(l.length:Int):=by omega
    have i2:(0:Int)<=(i:Int):=by omega
    obtain⟨cs,hcl,hcell,x,hx,hex⟩:=HI.out i hlt;obtain⟨k0,h1,k1,n1,s1,a1,len1,cap1,a2,len2,cap2,rfl⟩:=hex.shape;have q0:wr.cell? ⟨b,off+i * 7,none⟩=some (.int .i64 k0):=by rw [HBW.out.cell (p:=⟨b,off+i * 7,none⟩) hb];simpa using hcell 0 (by omega)
    have q1:wr.cell? ⟨b,off+i * 7+1,none⟩=some (.bool h1):=by rw [HBW.out.cell (p:=⟨b,off+i * 7+1,none⟩) hb];simpa using hcell 1 (by omega)
    have q2:wr.cell? ⟨b,off+i * 7+2,none⟩=some (.int .i64 k1):=by rw [HBW.out.cell (p:=⟨b,off+i * 7+2,none⟩) hb];simpa using hcell 2 (by omega)
    have q3:wr.cell? ⟨b,off+i * 7+3,none⟩=some (.int .i64 n1):=by rw [HBW.out.cell (p:=⟨b,off+i * 7+3,none⟩) hb];simpa using hcell 3 (by omega)
    have q4:wr.cell? ⟨b,off+i * 7+4,none⟩=some (.string s1):=by rw [HBW.out.cell (p:=⟨b,off+i * 7+4,none⟩) hb];simpa using hcell 4 (by omega)
    have q5:wr.cell? ⟨b,off+i * 7+5,none⟩=some (.slice a1 len1 cap1):=by rw [HBW.out.cell (p:=⟨b,off+i * 7+5,none⟩) hb];simpa using hcell 5 (by omega)
    have q6:wr.cell? ⟨b,off+i * 7+6,none⟩=some (.slice a2 len2 cap2):=by rw [HBW.out.cell (p:=⟨b,off+i * 7+6,none⟩) hb];simpa using hcell 6 (by omega)
    have HX:Hid (l[i]=x):=by rw [gee hlt] at hx;exact Option.some.inj hx
    have HEX:Hid (RuA B w m [.int .i64 k0,.bool h1,.int .i64 k1,.int .i64 n1,.string s1,.slice a1 len1 cap1,.slice a2 len2 cap2] x):=hex;clear hcell hx hex hcl;go_wp2_with fail
    refine (Afo m B _ _ wh x [.int .i64 k0,.bool h1,.int .i64 k1,.int .i64 n1,.string s1,.slice a1 len1 cap1,.slice a2 len2 cap2] s _ ((HEX.out.below HBW.out).below (br0.alloc (by have:=HBW.out.size;have:=HB.out;omega) _)) (HR.out.2.1.alloc _) ((HT.out.below HBW.out).below (br0.alloc (by have:=HBW.out.size;have:=HB.out;omega) _)) (by have:=HB.out;omega) (by have:=HB.out;omega)).mono ?_;rintro e w5 ⟨hb5,hr⟩;have HO:Hid (But (w.heap.size+1+1+1) (w.heap.size+1+1) w4 w5):=HR.out.1.trans ((But.of_below (br0.alloc lr0 _)).trans hb5);clear hb5 q0 q1 q2 q3 q4 q5 q6;cases hR:ckR m x s with
    | ok s' =>
     rw [hR] at hr;obtain⟨rfl,hc1⟩:=hr;have HN:Hid (But (w.heap.size+1+1+1) (w.heap.size+1+1) w4 w5/\Chk (w.heap.size+1+1+1) (w.heap.size+1+1) x.when w5 s' 0/\Au (ckR m) (l.take (i+1)) ⟨fun _=>0,0⟩ = .ok s'):=⟨HO.out,hc1,Ju hlt HR.out.2.2 (by rw [HX.out];exact hR)⟩;clear hc1 hR;go_wp2_with fail
     go_roundw
     case rel=>exact⟨i+1,x.when,s',by omega,by go_num,HN⟩
     case measure=>simp [intOf];omega
    | error er =>
     rw [hR] at hr;subst hr;have HN:Hid (ckP m l=er):=by
      have:=Jv hlt HR.out.2.2 (by rw [HX.out];exact hR);simp only [Hid,ckP];rw [if_neg HL.out,this]
     clear hR;have ce:w5.cell? ⟨w.heap.size+1,0,none⟩=some (.int .i64 0):=(HO.out.cell HE.out.2.2 (by omega) (by omega) 0).trans HE.out.1;have fe:w5.frozen? ⟨w.heap.size+1,0,none⟩=false:=(World.frozen?_of_block (a:=⟨w.heap.size+1,0,none⟩) (HO.out.block (w.heap.size+1) HE.out.2.2 (by omega) (by omega))).trans HE.out.2.1;go_wp2_with fail
     refine leaves_cons (f:=29) (args:= #[.pointer (some ⟨w.heap.size+1,0,none⟩)]) (by simp) (by simp [go_sem]) ?_;refine (Gs ⟨w.heap.size+1,0,none⟩ 0 er [] _ ce fe).mono ?_;rintro e u' w'' ⟨rfl,rfl,rfl⟩;simp [Leaves,settle,results,results16,go_sem,ce];exact⟨HN.out.symm,(HW.out.trans (HO.out.below HW.out.size (by omega) (by omega))).setCell (by show w.heap.size<=w.heap.size+1;omega) _⟩
  . have i1:¬(i:Int)<(l.length:Int):=by omega
    have HN:Hid (ckP m l=0):=by
     have:=L0 hlt HR.out.2.2;simp only [Hid,ckP];rw [if_neg HL.out,this]
    have ce:wr.cell? ⟨w.heap.size+1,0,none⟩=some (.int .i64 0):=(HR.out.1.cell HE.out.2.2 (by omega) (by omega) 0).trans HE.out.1;have fe:wr.frozen? ⟨w.heap.size+1,0,none⟩=false:=(World.frozen?_of_block (a:=⟨w.heap.size+1,0,none⟩) (HR.out.1.block (w.heap.size+1) HE.out.2.2 (by omega) (by omega))).trans HE.out.2.1;go_wp2_with fail
    refine leaves_cons (f:=29) (args:= #[.pointer (some ⟨w.heap.size+1,0,none⟩)]) (by simp) (by simp [go_sem]) ?_;refine (K3 ⟨w.heap.size+1,0,none⟩ _).mono ?_;rintro e u' w'' ⟨rfl,rfl,rfl⟩;simp [Leaves,settle,results,results16,go_sem,ce];exact⟨HN.out.symm,(HW.out.trans (HR.out.1.below HW.out.size (by omega) (by omega))).setCell (by show w.heap.size<=w.heap.size+1;omega) _⟩
theorem U5 (m B:Nat) (l:List Ru) (v:Value) (w:World) (hv:Sl w B 7 v l.length (fun i c=>∃x,l[i]? = some x/\RuA B w m c x)) (hT:Tb B w) (hB:B<=w.heap.size) :
 Calls prog 16 #[.agg #[v]] w fun e w'=>e = .returned (.int .i64 (ckP m l))/\Below w.heap.size w w':=by
 have HV:Hid (Sl w B 7 v l.length (fun i c=>∃x,l[i]? = some x/\RuA B w m c x)):=hv;obtain⟨a,cap,rfl,hl,hs⟩:=hv;have HT:Hid (Tb B w):=hT;have HB:Hid (B<=w.heap.size):=hB;unfold maxLen at hl;clear hT hB;have hmf:∀(fn:Fn) (first cap:Array Value) (w:World),(Instr.makeFunc fn first cap).run prog w = .ok (.func fn first cap) w:=fun _ _ _ _=>rfl;have hmm:=@run_makeMap prog
 by_cases h20:20<(l.length:Int)
 . have HN:Hid (ckP m l=1):=by simp only [Hid,ckP];rw [if_pos (by omega)]
   go_enter_defers func16,ntmps16
   go_wp2_with fail
   refine (Al 1 _).mono ?_;rintro e w1 ⟨rfl,rfl⟩;go_wp2_with fail
   refine leaves_cons (f:=29) (args:= #[.pointer (some ⟨w.heap.size+1,0,none⟩)]) (by simp) (by simp [go_sem]) ?_;refine (Gs ⟨w.heap.size+1,0,none⟩ 0 1 [] _ ?_ ?_).mono ?_
   . simp [go_sem]
   . simp [go_sem]
   rintro e u' w'' ⟨rfl,rfl,rfl⟩;simp [Leaves,settle,results,results16,go_sem];refine⟨HN.out.symm,?_⟩;exact (br0.alloc lr0 _).alloc (by simp) _
 . have HL:Hid (¬20<l.length):=by unfold Hid;omega
   by_cases h0:0<l.length
   . exact Sz m B l a cap w HV.out HT.out HB.out HL.out h0
   . have hl0:l = []:=List.eq_nil_of_length_eq_zero (by omega);subst hl0;exact Sy m a cap w
end Go.Proofs.YtppcohadoilpgaaGreatDoor
