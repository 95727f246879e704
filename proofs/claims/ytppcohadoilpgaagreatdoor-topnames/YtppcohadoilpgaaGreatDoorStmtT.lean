/-
  Contract of the checker's stmtTexts. / Contracts of syntax.hasBody and stmtHasItsParts. / Contracts of the checker's stmts and stmt, by the height of what they look at. / The checker's stmt, whatever the height.
-/
import Derived.Test.YtppcohadoilpgaaGreatDoorExprT
namespace Go.Proofs.YtppcohadoilpgaaGreatDoor
open Go.ChangeShapes Go.WideShapes Go.ChangeAt Go.RowKit Go.Joins Go.Proofs.Tryz
set_option maxHeartbeats 16000000
set_option linter.unusedVariables false
theorem Sb (B bc bm:Nat) (when:Int) (k:Int) (s t:ByteArray) (v1 v2 v3:Value) (st:St) (w:World) (h:Chk bc bm when w st 2) (hT:Tb B w) (hB1:B<=bc) (hB2:B<=bm) (hs:s.size<=maxLen) (ht:t.size<=maxLen) :
 Calls prog 104 #[.pointer (some ⟨bc,0,none⟩),.agg #[.int .i64 k,.string s,.string t,v1,v2,v3]] w (Out bc bm when 0 w (As when k s t st)):=by
 have H:Hid (Chk bc bm when w st 2):=h;have HT:Hid (Tb B w):=hT;have HS:Hid (s.size<=maxLen):=hs;have HST:Hid (t.size<=maxLen):=ht;have HBL:Hid (B<=w.heap.size):=by have:=h.lt;unfold Hid;omega
 have HA:Hid (∀o,Below B w (w.alloc o)):=fun o=>br0.alloc HBL.out o;have HB:Hid (∀o,But bc bm w (w.alloc o)):=fun o=>(But.refl _ _ _).alloc o;have g1:w.heap.size ≠ bc:=by have:=h.lt;omega
 have g2:w.heap.size ≠ bm:=by have:=h.lt;omega
 unfold maxLen at hs ht;clear h hT
 by_cases e1:k=1
 . skip
   subst e1;have HS1:Hid (Bi 1 s st=Bh s 1 st):=by simp [Hid,Bi]
   have HR0:Hid (Ao (w.alloc (.cells #[.int .i64 1,.string s,.string t,v1,v2,v3] 54)) w.heap.size #[.int .i64 1,.string s,.string t,v1,v2,v3]):=Ao.new w _ _;go_enter func104,ntmps104
   go_wp2_with fail
   refine (Ds B bc bm 1 when s 1 st _ (H.out.alloc _) (HT.out.below (HA.out _)) HS.out (.inl rfl)).mono ?_;rintro e w1 ⟨hb,hr⟩;have HO:Hid (But bc bm w w1):=(HB.out _).trans hb;have HR:Hid (Ao w1 w.heap.size #[.int .i64 1,.string s,.string t,v1,v2,v3]):=hb.box HR0.out g1 g2;have HT1:Hid (Tb B w1):=HT.out.below (HO.out.below HBL.out hB1 hB2);clear hb HR0;cases hR:Bh s 1 st with
   | error er =>
    rw [hR] at hr;subst hr;have HN:Hid (As when 1 s t st = .error er):=by simp only [Hid,As];rw [HS1.out,hR]
    clear hR;go_wp2_with fail
    refine⟨rfl,?_⟩;rw [HN.out];exact Ah HO.out
   | ok st1 =>
    rw [hR] at hr;obtain⟨rfl,hc1⟩:=hr;have HC:Hid (Chk bc bm when w1 st1 1):=hc1;have HP:Hid (As when 1 s t st=Bc 1 t st1):=by simp only [Hid,As];rw [HS1.out,hR];simp
    clear hR hc1;have q0:=HR.out.cell 0;have q1:=HR.out.cell 1;have q2:=HR.out.cell 2;simp only [List.getElem?_toArray,List.getElem?_cons_zero,List.getElem?_cons_succ] at q0 q1 q2;go_wp2_with fail
    refine (Af 7 _).mono ?_;rintro e w8 ⟨rfl,rfl⟩
    by_cases gt:0<t.size
    . have HN:Hid (As when 1 s t st = .error 4):=by rw [HP.out];simp [Hid,Bc,gt]
      have he2:=Hz gt;go_wp2_with fail
      refine (Al 4 _).mono ?_;rintro e w9 ⟨rfl,rfl⟩;go_wp2_with fail
      refine⟨rfl,?_⟩;rw [HN.out];exact Ah HO.out
    . have HN:Hid (As when 1 s t st = .ok st1):=by rw [HP.out];simp [Hid,Bc,gt]
      have he2:=H0 gt;go_wp2_with fail
      refine (Af 4 _).mono ?_;rintro e w9 ⟨rfl,rfl⟩;go_wp2_with fail
      go_end0
      rw [HN.out];exact Bz HO.out (HC.out.less (Nat.zero_le _))
 by_cases e7:k=7
 . skip
   subst e7;have HS1:Hid (Bi 7 s st=Bh s 1 st):=by simp [Hid,Bi]
   have HR0:Hid (Ao (w.alloc (.cells #[.int .i64 7,.string s,.string t,v1,v2,v3] 54)) w.heap.size #[.int .i64 7,.string s,.string t,v1,v2,v3]):=Ao.new w _ _;go_enter func104,ntmps104
   go_wp2_with fail
   refine (Ds B bc bm 1 when s 1 st _ (H.out.alloc _) (HT.out.below (HA.out _)) HS.out (.inl rfl)).mono ?_;rintro e w1 ⟨hb,hr⟩;have HO:Hid (But bc bm w w1):=(HB.out _).trans hb;have HR:Hid (Ao w1 w.heap.size #[.int .i64 7,.string s,.string t,v1,v2,v3]):=hb.box HR0.out g1 g2;have HT1:Hid (Tb B w1):=HT.out.below (HO.out.below HBL.out hB1 hB2);clear hb HR0;cases hR:Bh s 1 st with
   | error er =>
    rw [hR] at hr;subst hr;have HN:Hid (As when 7 s t st = .error er):=by simp only [Hid,As];rw [HS1.out,hR]
    clear hR;go_wp2_with fail
    refine⟨rfl,?_⟩;rw [HN.out];exact Ah HO.out
   | ok st1 =>
    rw [hR] at hr;obtain⟨rfl,hc1⟩:=hr;have HC:Hid (Chk bc bm when w1 st1 1):=hc1;have HP:Hid (As when 7 s t st=Bc 7 t st1):=by simp only [Hid,As];rw [HS1.out,hR];simp
    clear hR hc1;have q0:=HR.out.cell 0;have q1:=HR.out.cell 1;have q2:=HR.out.cell 2;simp only [List.getElem?_toArray,List.getElem?_cons_zero,List.getElem?_cons_succ] at q0 q1 q2;go_wp2_with fail
    refine (Af 7 _).mono ?_;rintro e w8 ⟨rfl,rfl⟩;go_wp2_with fail
    refine (Ds B bc bm 0 when t 2 st1 _ HC.out HT1.out HST.out (.inr rfl)).mono ?_;rintro e w2 ⟨hb2,hr2⟩;have HO2:Hid (But bc bm w w2):=HO.out.trans hb2;clear hb2;have HN2:Hid (As when 7 s t st=Bh t 2 st1):=by rw [HP.out];simp [Hid,Bc]
    cases hR2:Bh t 2 st1 with
    | ok st2 =>
     rw [hR2] at hr2;obtain⟨rfl,hc2⟩:=hr2;have HC2:Hid (Chk bc bm when w2 st2 0):=hc2;have HN:Hid (As when 7 s t st = .ok st2):=HN2.out.trans hR2;clear hc2 hR2;go_wp2_with fail
     go_end0
     rw [HN.out];exact Bz HO2.out HC2.out
    | error er =>
     rw [hR2] at hr2;subst hr2;have HN:Hid (As when 7 s t st = .error er):=HN2.out.trans hR2;clear hR2;go_wp2_with fail
     refine⟨rfl,?_⟩;rw [HN.out];exact Ah HO2.out
 by_cases e2:k=2
 . skip
   subst e2;have HS1:Hid (Bi 2 s st=Bh s 2 st):=by simp [Hid,Bi]
   have HR0:Hid (Ao (w.alloc (.cells #[.int .i64 2,.string s,.string t,v1,v2,v3] 54)) w.heap.size #[.int .i64 2,.string s,.string t,v1,v2,v3]):=Ao.new w _ _;go_enter func104,ntmps104
   go_wp2_with fail
   refine (Ds B bc bm 1 when s 2 st _ (H.out.alloc _) (HT.out.below (HA.out _)) HS.out (.inr rfl)).mono ?_;rintro e w1 ⟨hb,hr⟩;have HO:Hid (But bc bm w w1):=(HB.out _).trans hb;have HR:Hid (Ao w1 w.heap.size #[.int .i64 2,.string s,.string t,v1,v2,v3]):=hb.box HR0.out g1 g2;have HT1:Hid (Tb B w1):=HT.out.below (HO.out.below HBL.out hB1 hB2);clear hb HR0;cases hR:Bh s 2 st with
   | error er =>
    rw [hR] at hr;subst hr;have HN:Hid (As when 2 s t st = .error er):=by simp only [Hid,As];rw [HS1.out,hR]
    clear hR;go_wp2_with fail
    refine⟨rfl,?_⟩;rw [HN.out];exact Ah HO.out
   | ok st1 =>
    rw [hR] at hr;obtain⟨rfl,hc1⟩:=hr;have HC:Hid (Chk bc bm when w1 st1 1):=hc1;have HP:Hid (As when 2 s t st=Bc 2 t st1):=by simp only [Hid,As];rw [HS1.out,hR];simp
    clear hR hc1;have q0:=HR.out.cell 0;have q1:=HR.out.cell 1;have q2:=HR.out.cell 2;simp only [List.getElem?_toArray,List.getElem?_cons_zero,List.getElem?_cons_succ] at q0 q1 q2;go_wp2_with fail
    refine (Af 7 _).mono ?_;rintro e w8 ⟨rfl,rfl⟩
    by_cases gt:0<t.size
    . have HN:Hid (As when 2 s t st = .error 4):=by rw [HP.out];simp [Hid,Bc,gt]
      have he2:=Hz gt;go_wp2_with fail
      refine (Al 4 _).mono ?_;rintro e w9 ⟨rfl,rfl⟩;go_wp2_with fail
      refine⟨rfl,?_⟩;rw [HN.out];exact Ah HO.out
    . have HN:Hid (As when 2 s t st = .ok st1):=by rw [HP.out];simp [Hid,Bc,gt]
      have he2:=H0 gt;go_wp2_with fail
      refine (Af 4 _).mono ?_;rintro e w9 ⟨rfl,rfl⟩;go_wp2_with fail
      go_end0
      rw [HN.out];exact Bz HO.out (HC.out.less (Nat.zero_le _))
 by_cases e9:k=9
 . skip
   subst e9;have HS1:Hid (Bi 9 s st=Bh s 2 st):=by simp [Hid,Bi]
   have HR0:Hid (Ao (w.alloc (.cells #[.int .i64 9,.string s,.string t,v1,v2,v3] 54)) w.heap.size #[.int .i64 9,.string s,.string t,v1,v2,v3]):=Ao.new w _ _;go_enter func104,ntmps104
   go_wp2_with fail
   refine (Ds B bc bm 1 when s 2 st _ (H.out.alloc _) (HT.out.below (HA.out _)) HS.out (.inr rfl)).mono ?_;rintro e w1 ⟨hb,hr⟩;have HO:Hid (But bc bm w w1):=(HB.out _).trans hb;have HR:Hid (Ao w1 w.heap.size #[.int .i64 9,.string s,.string t,v1,v2,v3]):=hb.box HR0.out g1 g2;have HT1:Hid (Tb B w1):=HT.out.below (HO.out.below HBL.out hB1 hB2);clear hb HR0;cases hR:Bh s 2 st with
   | error er =>
    rw [hR] at hr;subst hr;have HN:Hid (As when 9 s t st = .error er):=by simp only [Hid,As];rw [HS1.out,hR]
    clear hR;go_wp2_with fail
    refine⟨rfl,?_⟩;rw [HN.out];exact Ah HO.out
   | ok st1 =>
    rw [hR] at hr;obtain⟨rfl,hc1⟩:=hr;have HC:Hid (Chk bc bm when w1 st1 1):=hc1;have HP:Hid (As when 9 s t st=Bc 9 t st1):=by simp only [Hid,As];rw [HS1.out,hR];simp
    clear hR hc1;have q0:=HR.out.cell 0;have q1:=HR.out.cell 1;have q2:=HR.out.cell 2;simp only [List.getElem?_toArray,List.getElem?_cons_zero,List.getElem?_cons_succ] at q0 q1 q2;go_wp2_with fail
    refine (Af 7 _).mono ?_;rintro e w8 ⟨rfl,rfl⟩
    by_cases gt:0<t.size
    . have HN:Hid (As when 9 s t st = .error 4):=by rw [HP.out];simp [Hid,Bc,gt]
      have he2:=Hz gt;go_wp2_with fail
      refine (Al 4 _).mono ?_;rintro e w9 ⟨rfl,rfl⟩;go_wp2_with fail
      refine⟨rfl,?_⟩;rw [HN.out];exact Ah HO.out
    . have HN:Hid (As when 9 s t st = .ok st1):=by rw [HP.out];simp [Hid,Bc,gt]
      have he2:=H0 gt;go_wp2_with fail
      refine (Af 4 _).mono ?_;rintro e w9 ⟨rfl,rfl⟩;go_wp2_with fail
      go_end0
      rw [HN.out];exact Bz HO.out (HC.out.less (Nat.zero_le _))
 by_cases e10:k=10
 . skip
   subst e10;have HS1:Hid (Bi 10 s st=Bh s 2 st):=by simp [Hid,Bi]
   have HR0:Hid (Ao (w.alloc (.cells #[.int .i64 10,.string s,.string t,v1,v2,v3] 54)) w.heap.size #[.int .i64 10,.string s,.string t,v1,v2,v3]):=Ao.new w _ _;go_enter func104,ntmps104
   go_wp2_with fail
   refine (Ds B bc bm 1 when s 2 st _ (H.out.alloc _) (HT.out.below (HA.out _)) HS.out (.inr rfl)).mono ?_;rintro e w1 ⟨hb,hr⟩;have HO:Hid (But bc bm w w1):=(HB.out _).trans hb;have HR:Hid (Ao w1 w.heap.size #[.int .i64 10,.string s,.string t,v1,v2,v3]):=hb.box HR0.out g1 g2;have HT1:Hid (Tb B w1):=HT.out.below (HO.out.below HBL.out hB1 hB2);clear hb HR0;cases hR:Bh s 2 st with
   | error er =>
    rw [hR] at hr;subst hr;have HN:Hid (As when 10 s t st = .error er):=by simp only [Hid,As];rw [HS1.out,hR]
    clear hR;go_wp2_with fail
    refine⟨rfl,?_⟩;rw [HN.out];exact Ah HO.out
   | ok st1 =>
    rw [hR] at hr;obtain⟨rfl,hc1⟩:=hr;have HC:Hid (Chk bc bm when w1 st1 1):=hc1;have HP:Hid (As when 10 s t st=(if (10:Int)=10/\when ≠ 0 then .error 7 else Bc 10 t st1)):=by simp only [Hid,As];rw [HS1.out,hR]
    clear hR hc1;have q0:=HR.out.cell 0;have q1:=HR.out.cell 1;have q2:=HR.out.cell 2;simp only [List.getElem?_toArray,List.getElem?_cons_zero,List.getElem?_cons_succ] at q0 q1 q2;have c2:=HC.out.c2
    by_cases gw:when=0
    . have HN1:Hid (As when 10 s t st=Bc 10 t st1):=by rw [HP.out,if_neg (by simp [gw])];rfl
      have bw:(when != 0)=false:=by simpa using gw
      clear gw;go_wp2_with fail
      refine (Af 7 _).mono ?_;rintro e w8 ⟨rfl,rfl⟩
      by_cases gt:200<(t.size:Int)
      . have HN:Hid (As when 10 s t st = .error 1):=by rw [HN1.out];simp only [Hid,Bc];rw [if_neg (by decide),if_pos trivial,if_pos (by omega)]
        go_wp2_with fail
        refine (Al 1 _).mono ?_;rintro e w9 ⟨rfl,rfl⟩;go_wp2_with fail
        refine⟨rfl,?_⟩;rw [HN.out];exact Ah HO.out
      . have HN:Hid (As when 10 s t st = .ok st1):=by rw [HN1.out];simp only [Hid,Bc];rw [if_neg (by decide),if_pos trivial,if_neg (by omega)]
        go_wp2_with fail
        try rw [decide_eq_false (show ¬(200:Int)<(t.size:Int) by omega)]
        refine (Af 1 _).mono ?_;rintro e w9 ⟨rfl,rfl⟩;go_wp2_with fail
        go_end0
        rw [HN.out];exact Bz HO.out (HC.out.less (Nat.zero_le _))
    . have HN:Hid (As when 10 s t st = .error 7):=by rw [HP.out,if_pos ⟨rfl,gw⟩];rfl
      have bw:(when != 0)=true:=by simpa using gw
      clear gw;go_wp2_with fail
      refine (Al 7 _).mono ?_;rintro e w9 ⟨rfl,rfl⟩;go_wp2_with fail
      refine⟨rfl,?_⟩;rw [HN.out];exact Ah HO.out
 have f1:(k == 1)=false:=by simpa using e1
 have f7:(k == 7)=false:=by simpa using e7
 have f2:(k == 2)=false:=by simpa using e2
 have f9:(k == 9)=false:=by simpa using e9
 have f10:(k == 10)=false:=by simpa using e10
 have HS1:Hid (Bi k s st=(if 0<s.size then .error 4 else .ok st)):=by simp only [Hid,Bi];rw [if_neg (by omega),if_neg (by omega)]
 have HS2:Hid (Bc k t st=(if 0<t.size then .error 4 else .ok st)):=by simp only [Hid,Bc];rw [if_neg e7,if_neg e10]
 have HNX:Hid (¬(k=10/\when ≠ 0)):=fun h=>e10 h.1;clear e1 e7 e2 e9 e10
 by_cases gs:0<s.size
 . have HN:Hid (As when k s t st = .error 4):=by simp only [Hid,As];rw [HS1.out,if_pos gs]
   have he:=Hz gs;go_enter func104,ntmps104
   go_wp2_with fail
   refine (Al 4 _).mono ?_;rintro e w9 ⟨rfl,rfl⟩;go_wp2_with fail
   refine⟨rfl,?_⟩;rw [HN.out];exact Ah (HB.out _)
 . have HP:Hid (As when k s t st=Bc k t st):=by simp only [Hid,As];rw [HS1.out,if_neg gs];exact if_neg HNX.out
   have he:=H0 gs
   by_cases gt:0<t.size
   . have HN:Hid (As when k s t st = .error 4):=by rw [HP.out,HS2.out,if_pos gt];rfl
     have he2:=Hz gt;go_enter func104,ntmps104
     go_wp2_with fail
     refine (Af 4 _).mono ?_;rintro e w8 ⟨rfl,rfl⟩;go_wp2_with fail
     refine (Af 7 _).mono ?_;rintro e w7 ⟨rfl,rfl⟩;go_wp2_with fail
     refine (Al 4 _).mono ?_;rintro e w9 ⟨rfl,rfl⟩;go_wp2_with fail
     refine⟨rfl,?_⟩;rw [HN.out];exact Ah (HB.out _)
   . have HN:Hid (As when k s t st = .ok st):=by rw [HP.out,HS2.out,if_neg gt];rfl
     have he2:=H0 gt;go_enter func104,ntmps104
     go_wp2_with fail
     refine (Af 4 _).mono ?_;rintro e w8 ⟨rfl,rfl⟩;go_wp2_with fail
     refine (Af 7 _).mono ?_;rintro e w7 ⟨rfl,rfl⟩;go_wp2_with fail
     refine (Af 4 _).mono ?_;rintro e w9 ⟨rfl,rfl⟩;go_wp2_with fail
     go_end0
     rw [HN.out];exact Bz (HB.out _) ((H.out.alloc _).less (Nat.zero_le _))
theorem Wb (k:Int) (w:World):Calls prog 128 #[.int .i64 k] w fun e w'=>e = .returned (.bool (decide (5<=k/\k<=7)))/\w'=w:=by
 by_cases h5:k=5
 . subst h5;go_enter func128,ntmps128
   go_wp2_with fail
   go_ret
   exact⟨rfl,rfl⟩
 by_cases h6:k=6
 . subst h6;go_enter func128,ntmps128
   go_wp2_with fail
   go_ret
   exact⟨rfl,rfl⟩
 by_cases h7:k=7
 . subst h7;go_enter func128,ntmps128
   go_wp2_with fail
   go_ret
   exact⟨rfl,rfl⟩
 have b5:(k == 5)=false:=by simpa using h5
 have b6:(k == 6)=false:=by simpa using h6
 have b7:(k == 7)=false:=by simpa using h7
 have HN:Hid (decide (5<=k/\k<=7)=false):=decide_eq_false (by omega);clear h5 h6 h7;go_enter func128,ntmps128
 go_wp2_with fail
 go_ret
 exact⟨Am HN.out.symm,rfl⟩
theorem Ye (q n:Nat) (h:1<=q) (h2:q<=10):Ek (q:Int) n=(((n:Int) == Fy.getD q 0) || (((q:Int) == 4) && decide (Fy.getD q 0<(n:Int)))):=by
 have key:∀q,q<11->1<=q->q=1\/q=2\/q=3\/q=4\/q=5\/q=6\/q=7\/q=8\/q=9\/q=10:=by omega
 rcases key q (by omega) h with h | h | h | h | h | h | h | h | h | h
 all_goals subst h
 all_goals simp [Ek,Fy,List.getD]
 all_goals (rw [Bool.eq_iff_iff];simp;try omega)
theorem R9 (q:Nat) (s t:ByteArray) (a1 a2 a3:Option Addr) (n1 n2 n3 p1 p2 p3:Nat) (w:World) (B:Nat) (hT:Tb B w) (k1:1<=q) (k2:q<=10) (l1:n1<=maxLen) (l2:n2<=maxLen) (l3:n3<=maxLen) :
 Calls prog 103 #[.agg #[.int .i64 q,.string s,.string t,.slice a1 n1 p1,.slice a2 n2 p2,.slice a3 n3 p3]] w fun e w'=>e = .returned (.bool (Dw q n1 n2 n3))/\Below w.heap.size w w':=by
 unfold maxLen at l1 l2 l3;have hcell:w.cell? ⟨4,q,none⟩=some (.int .i64 (Fy.getD q 0)):=by
  rw [hT.exprs.2.cell];simp only [J8,List.getElem?_toArray,List.getElem?_map];rw [gee (show q<Fy.length by show q<11;omega)];simp [List.getD,gee (show q<Fy.length by show q<11;omega)]
 have HA:=Ye q n1 k1 k2;obtain⟨c,hc⟩:∃c,c=Fy.getD q 0:=⟨_,rfl⟩;rw [<-hc] at hcell HA;have HX:Hid (Ek (q:Int) n1=(((n1:Int) == c) || (((q:Int) == 4) && decide (c<(n1:Int))))):=HA;have hg:=hT.exprs.2.lt;have i1:(q:Int)<11:=by omega
 have i0:(0:Int)<=(q:Int):=by omega
 have hl:4<w.heap.size+1:=by omega
 have hne:¬4=w.heap.size:=by omega
 clear hT HA hc k1 k2
 by_cases h2:(n2:Int)=0
 . have b2:((n2:Int) == 0)=true:=by simpa using h2
   go_enter func103,ntmps103
   go_wp2_with fail
   go_region
   all_goals go_wp2_with fail
   all_goals go_ret
   all_goals (refine⟨Am ?_,by go_grown⟩)
   all_goals (have hx:=HX.out;have h2':n2=0:=by omega)
   all_goals (simp_all [Dw])
   all_goals (first | omega | (rw [Bool.eq_iff_iff];simp;omega))
 . have b2:((n2:Int) == 0)=false:=by simpa using h2
   go_enter func103,ntmps103
   go_wp2_with fail
   go_region
   all_goals go_wp2_with (first | (go_at_call 128;refine (Wb _ _).mono ?_;rintro e w1 ⟨rfl,rfl⟩))
   all_goals go_ret
   all_goals (refine⟨Am ?_,by go_grown⟩)
   all_goals (have hx:=HX.out;have h2':¬n2=0:=by omega)
   all_goals (simp_all [Dw])
   all_goals (first | omega | (rw [Bool.eq_iff_iff];simp;omega))
def Uz (m:Nat):Prop:=∀(B bc bm:Nat) (when:Int) (x:Sm) (cs:List Value) (d:Int) (st:St) (w:World),SmA B w m cs x->Chk bc bm when w st 0->Tb B w->B<=bc->B<=bm->1<=d->d<=21 ->
 Calls prog 75 #[.pointer (some ⟨bc,0,none⟩),.agg cs.toArray,.int .i64 d] w (Out bc bm when 0 w (ckS when m x d st))
def Ot (m:Nat):Prop:=∀(B bc bm:Nat) (when:Int) (l:List Sm) (v:Value) (d:Int) (st:St) (w:World),Sl w B 6 v l.length (fun i c=>∃x,l[i]? = some x/\SmA B w m c x)->Chk bc bm when w st 0->Tb B w->B<=bc->B<=bm->1<=d->d<=21 ->
 Calls prog 48 #[.pointer (some ⟨bc,0,none⟩),v,.int .i64 d] w (Out bc bm when 0 w (Au (fun x=>ckS when m x d) l st))
theorem SmA.shape {B:Nat} {w:World} {m:Nat} {cs:List Value} {x:Sm} (h:SmA B w m cs x):∃(k:Int) (s t:ByteArray) (a0:Option Addr) (len0 cap0:Nat) (a1:Option Addr) (len1 cap1:Nat) (a2:Option Addr) (len2 cap2:Nat),
 cs = [.int .i64 k,.string s,.string t,.slice a0 len0 cap0,.slice a1 len1 cap1,.slice a2 len2 cap2]:=by
 cases m with
 | zero=>exact h.elim
 | succ m =>
  cases x with
  | mk k s t es b e =>
   obtain⟨v1,v2,v3,rfl,_,_,_,⟨a0,cap0,rfl,_⟩,⟨a1,cap1,rfl,_⟩,⟨a2,cap2,rfl,_⟩⟩:=h;exact⟨k,s,t,a0,_,cap0,a1,_,cap1,a2,_,cap2,rfl⟩
theorem Sc {m:Nat} (hE:Uz m):Ot m:=by
 intro B bc bm when l v d st w hv hc hT hB1 hB2 hd1 hd2;obtain⟨a,cap,rfl,hl,hs⟩:=hv;have HE:Hid (Uz m):=hE;have H:Hid (Chk bc bm when w st 0):=hc;have HT:Hid (Tb B w):=hT;have HBL:Hid (B<=w.heap.size):=by have:=hc.lt;unfold Hid;omega
 unfold maxLen at hl;clear hE hc hT
 by_cases h0:0<l.length
 . obtain⟨b,off,rfl,hb,hi⟩:=hs h0;have HI:Hid (∀i,i<l.length->∃cs:List Value,cs.length=6/\(∀j,j<6->w.cell? ⟨b,off+i * 6+j,none⟩=cs[j]?)/\∃x,l[i]? = some x/\SmA B w m cs x):=hi;clear hi hs h0;go_enter func48,ntmps48
   go_wp2_with fail
   go_loopw [10] (fun v wr=>∃(i:Nat) (s:St),i<=l.length/\v = .int .i64 i/\Hid (But bc bm w wr/\Chk bc bm when wr s 0/\Au (fun x=>ckS when m x d) (l.take i) st = .ok s)) (fun v _=>l.length - (intOf v).toNat)
   case atStart=>exact⟨0,st,by omega,rfl,But.refl _ _ _,H.out,rfl⟩
   case round =>
    obtain⟨i,s,hil,rfl,HR⟩:=hrel
    by_cases hlt:i<l.length
    . have i1:(i:Int)<(l.length:Int):=by omega
      have i2:(0:Int)<=(i:Int):=by omega
      obtain⟨cs,hcl,hcell,x,hx,hex⟩:=HI.out i hlt;obtain⟨k0,s0,t0,a0,len0,cap0,a1,len1,cap1,a2,len2,cap2,rfl⟩:=hex.shape;have HBW:Hid (Below B w wr):=HR.out.1.below HBL.out hB1 hB2;have q0:wr.cell? ⟨b,off+i * 6,none⟩=some (.int .i64 k0):=by rw [HBW.out.cell (p:=⟨b,off+i * 6,none⟩) hb];simpa using hcell 0 (by omega)
      have q1:wr.cell? ⟨b,off+i * 6+1,none⟩=some (.string s0):=by rw [HBW.out.cell (p:=⟨b,off+i * 6+1,none⟩) hb];simpa using hcell 1 (by omega)
      have q2:wr.cell? ⟨b,off+i * 6+2,none⟩=some (.string t0):=by rw [HBW.out.cell (p:=⟨b,off+i * 6+2,none⟩) hb];simpa using hcell 2 (by omega)
      have q3:wr.cell? ⟨b,off+i * 6+3,none⟩=some (.slice a0 len0 cap0):=by rw [HBW.out.cell (p:=⟨b,off+i * 6+3,none⟩) hb];simpa using hcell 3 (by omega)
      have q4:wr.cell? ⟨b,off+i * 6+4,none⟩=some (.slice a1 len1 cap1):=by rw [HBW.out.cell (p:=⟨b,off+i * 6+4,none⟩) hb];simpa using hcell 4 (by omega)
      have q5:wr.cell? ⟨b,off+i * 6+5,none⟩=some (.slice a2 len2 cap2):=by rw [HBW.out.cell (p:=⟨b,off+i * 6+5,none⟩) hb];simpa using hcell 5 (by omega)
      have HX:Hid (l[i]=x):=by rw [gee hlt] at hx;exact Option.some.inj hx
      have HEX:Hid (SmA B w m [.int .i64 k0,.string s0,.string t0,.slice a0 len0 cap0,.slice a1 len1 cap1,.slice a2 len2 cap2] x):=hex;clear hcell hx hex hcl;go_wp2_with fail
      refine (HE.out B bc bm when x [.int .i64 k0,.string s0,.string t0,.slice a0 len0 cap0,.slice a1 len1 cap1,.slice a2 len2 cap2] d s _ ((HEX.out.below HBW.out).below (br0.alloc (by have:=HBW.out.size;have:=HBL.out;omega) _)) (HR.out.2.1.alloc _) ((HT.out.below HBW.out).below (br0.alloc (by have:=HBW.out.size;have:=HBL.out;omega) _)) hB1 hB2 hd1 hd2).mono ?_;rintro e w1 ⟨hb1,hr⟩;have HO:Hid (But bc bm w w1):=HR.out.1.trans ((But.of_below (br0.alloc lr0 _)).trans hb1);clear hb1 q0 q1 q2 q3 q4 q5;cases hR:ckS when m x d s with
      | ok s' =>
       rw [hR] at hr;obtain⟨rfl,hc1⟩:=hr;have HN:Hid (But bc bm w w1/\Chk bc bm when w1 s' 0/\Au (fun x=>ckS when m x d) (l.take (i+1)) st = .ok s'):=⟨HO.out,hc1,Ju hlt HR.out.2.2 (by rw [HX.out];exact hR)⟩;clear hc1 hR;go_wp2_with fail
       go_roundw
       case rel=>exact⟨i+1,s',by omega,by go_num,HN⟩
       case measure=>simp [intOf];omega
      | error er =>
       rw [hR] at hr;subst hr;have HN:Hid (Au (fun x=>ckS when m x d) l st = .error er):=Jv hlt HR.out.2.2 (by rw [HX.out];exact hR);clear hR;go_wp2_with fail
       refine⟨rfl,?_⟩;rw [HN.out];exact Ah HO.out
    . have i1:¬(i:Int)<(l.length:Int):=by omega
      have HN:Hid (Au (fun x=>ckS when m x d) l st = .ok s):=L0 hlt HR.out.2.2;go_wp2_with fail
      go_end0
      rw [HN.out];exact Bz HR.out.1 HR.out.2.1
 . have hl0:l = []:=List.eq_nil_of_length_eq_zero (by omega);subst hl0;have HN:Hid (Au (fun x=>ckS when m x d) [] st = .ok st):=rfl;clear hs h0;go_enter func48,ntmps48
   go_wp2_with fail
   go_loop [10] (fun v=>v = .int .i64 0) (fun _=>0)
   case atStart=>rfl
   case round =>
    subst hrel;go_wp2_with fail
    go_end0
    rw [HN.out];exact Bz (But.refl _ _ _) H.out
theorem Sa (k:Int) (s t:ByteArray) (a1 a2 a3:Option Addr) (n1 n2 n3 p1 p2 p3:Nat) (w:World) (B:Nat) (hT:Tb B w) (k1:1<=k) (k2:k<=10) (l1:n1<=maxLen) (l2:n2<=maxLen) (l3:n3<=maxLen) :
 Calls prog 103 #[.agg #[.int .i64 k,.string s,.string t,.slice a1 n1 p1,.slice a2 n2 p2,.slice a3 n3 p3]] w fun e w'=>e = .returned (.bool (Dw k n1 n2 n3))/\Below w.heap.size w w':=by
 obtain⟨q,rfl⟩:∃q:Nat,k=q:=⟨k.toNat,by omega⟩;exact R9 q s t a1 a2 a3 n1 n2 n3 p1 p2 p3 w B hT (by omega) (by omega) l1 l2 l3
theorem Acw {m:Nat} (hX:Jb m) (hY:Ot m):Uz (m+1):=by
 intro B bc bm when x cs d st w hx hc hT hB1 hB2 hd1 hd2;cases x with
 | mk k s t es bd el =>
 obtain⟨v1,v2,v3,rfl,wk,ws,wt,hs1,hs2,hs3⟩:=hx;have HS1:Hid (Sl w B 4 v1 es.length (fun i c=>∃x,es[i]? = some x/\ExA B w m c x)):=hs1;have HS2:Hid (Sl w B 6 v2 bd.length (fun i c=>∃x,bd[i]? = some x/\SmA B w m c x)):=hs2;have HS3:Hid (Sl w B 6 v3 el.length (fun i c=>∃x,el[i]? = some x/\SmA B w m c x)):=hs3;obtain⟨a1,p1,rfl,hl1,_⟩:=hs1;obtain⟨a2,p2,rfl,hl2,_⟩:=hs2;obtain⟨a3,p3,rfl,hl3,_⟩:=hs3;have HX:Hid (Jb m):=hX;have HY:Hid (Ot m):=hY;have H:Hid (Chk bc bm when w st 0):=hc;have HT:Hid (Tb B w):=hT;have HBL:Hid (B<=w.heap.size):=by have:=hc.lt;unfold Hid;omega
 have g1:w.heap.size ≠ bc:=by have:=hc.lt;omega
 have g2:w.heap.size ≠ bm:=by have:=hc.lt;omega
 have HL1:Hid (es.length<=maxLen):=hl1;have HL2:Hid (bd.length<=maxLen):=hl2;have HL3:Hid (el.length<=maxLen):=hl3;have HWS:Hid (s.size<=maxLen):=ws;have HWT:Hid (t.size<=maxLen):=wt;have hw:wrap64 (d+1)=d+1:=by unfold wrap64;omega
 have hwr:IntKind.i64.wrap (d+1)=d+1:=by rw [Go.PlainAid.i64_is];exact hw
 clear hX hY hc hT hl1 hl2 hl3 ws wt wk;obtain⟨o,ho⟩:∃o,o=Obj.cells #[.int .i64 k,.string s,.string t,.slice a1 es.length p1,.slice a2 bd.length p2,.slice a3 el.length p3] 54:=⟨_,rfl⟩;have HO0:Hid (But bc bm w (w.alloc o)):=(But.refl _ _ _).alloc o;have HC0:Hid (Chk bc bm when (w.alloc o) st 0):=H.out.alloc o;have HR0:Hid (Ao (w.alloc o) w.heap.size #[.int .i64 k,.string s,.string t,.slice a1 es.length p1,.slice a2 bd.length p2,.slice a3 el.length p3]):=by rw [ho];exact Ao.new w _ _
 go_enter func75,ntmps75
 go_wp2_with fail
 rw [<-ho];refine (Yv bc bm when d st _ HC0.out).mono ?_;rintro e w1 ⟨hb1,hr⟩;have HO1:Hid (But bc bm w w1):=HO0.out.trans hb1;have HR1:Hid (Ao w1 w.heap.size #[.int .i64 k,.string s,.string t,.slice a1 es.length p1,.slice a2 bd.length p2,.slice a3 el.length p3]):=hb1.box HR0.out g1 g2;clear hb1 HO0 HC0 HR0 ho;cases hP:B6 d st with
 | error er =>
  rw [hP] at hr;subst hr;have HN:Hid (ckS when (m+1) (.mk k s t es bd el) d st = .error er):=by simp only [Hid,ckS,hP]
  clear hP;go_wp2_with fail
  refine⟨rfl,?_⟩;rw [HN.out];exact Ah HO1.out
 | ok st1 =>
  rw [hP] at hr;obtain⟨rfl,hc1⟩:=hr;have HC1:Hid (Chk bc bm when w1 st1 2):=hc1;have HT1:Hid (Tb B w1):=HT.out.below (HO1.out.below HBL.out hB1 hB2);have hd3:d<=20:=by
   unfold B6 at hP;split at hP
   . cases hP
   . omega
  have HN0:Hid (ckS when (m+1) (.mk k s t es bd el) d st=(if k<1\/10<k then .error 3 else if Dw k es.length bd.length el.length=false then .error 4 else match As when k s t st1 with
   | .error r=> .error r
   | .ok st2=>if k=8/\when ≠ 1 then .error 7 else match Au (fun x=>ckE m x (d+1)) es st2 with
    | .error r=> .error r
    | .ok st3=>match Au (fun x=>ckS when m x (d+1)) bd st3 with
     | .error r=> .error r
     | .ok st4=>Au (fun x=>ckS when m x (d+1)) el st4)):=by simp only [Hid,ckS,hP];rfl
  clear hc1 hP;have q0:=HR1.out.cell 0;have q1:=HR1.out.cell 1;have q2:=HR1.out.cell 2;have q3:=HR1.out.cell 3;have q4:=HR1.out.cell 4;have q5:=HR1.out.cell 5;simp only [List.getElem?_toArray,List.getElem?_cons_zero,List.getElem?_cons_succ] at q0 q1 q2 q3 q4 q5
  by_cases hk1:k<1
  . have HN:Hid (ckS when (m+1) (.mk k s t es bd el) d st = .error 3):=by rw [HN0.out,if_pos (.inl hk1)];rfl
    go_wp2_with fail
    refine (Al 3 _).mono ?_;rintro e w99 ⟨rfl,rfl⟩;go_wp2_with fail
    refine⟨rfl,?_⟩;rw [HN.out];exact Ah HO1.out
  by_cases hk2:10<k
  . have HN:Hid (ckS when (m+1) (.mk k s t es bd el) d st = .error 3):=by rw [HN0.out,if_pos (.inr hk2)];rfl
    go_wp2_with fail
    refine (Al 3 _).mono ?_;rintro e w99 ⟨rfl,rfl⟩;go_wp2_with fail
    refine⟨rfl,?_⟩;rw [HN.out];exact Ah HO1.out
  go_wp2_with fail
  rw [decide_eq_false (show ¬k<1 by omega),decide_eq_false (show ¬10<k by omega)];refine (Af 3 _).mono ?_;rintro e w2 ⟨rfl,rfl⟩;have HN1:=HN0.out;rw [if_neg (by omega)] at HN1;have HN2:Hid (ckS when (m+1) (.mk k s t es bd el) d st=(if Dw k es.length bd.length el.length=false then .error 4 else match As when k s t st1 with
   | .error r=> .error r
   | .ok st2=>if k=8/\when ≠ 1 then .error 7 else match Au (fun x=>ckE m x (d+1)) es st2 with
    | .error r=> .error r
    | .ok st3=>match Au (fun x=>ckS when m x (d+1)) bd st3 with
     | .error r=> .error r
     | .ok st4=>Au (fun x=>ckS when m x (d+1)) el st4)):=HN1
  clear HN1 HN0;go_wp2_with fail
  refine (Sa k s t a1 a2 a3 es.length bd.length el.length p1 p2 p3 _ B HT1.out (by omega) (by omega) HL1.out HL2.out HL3.out).mono ?_;rintro e w3 ⟨rfl,hb3⟩;have HO3:Hid (But bc bm w w3):=HO1.out.more hb3;have HC3:Hid (Chk bc bm when w3 st1 2):=HC1.out.below hb3;have HR3:Hid (Ao w3 w.heap.size #[.int .i64 k,.string s,.string t,.slice a1 es.length p1,.slice a2 bd.length p2,.slice a3 el.length p3]):=HR1.out.below hb3;have HT3:Hid (Tb B w3):=HT.out.below (HO3.out.below HBL.out hB1 hB2);clear hb3 q0 q1 q2 q3 q4 q5 HO1 HC1 HR1 HT1 hk1 hk2;have q0:=HR3.out.cell 0;have q1:=HR3.out.cell 1;have q2:=HR3.out.cell 2;have q3:=HR3.out.cell 3;have q4:=HR3.out.cell 4;have q5:=HR3.out.cell 5;simp only [List.getElem?_toArray,List.getElem?_cons_zero,List.getElem?_cons_succ] at q0 q1 q2 q3 q4 q5;cases hpa:Dw k es.length bd.length el.length with
  | false =>
   have HN:Hid (ckS when (m+1) (.mk k s t es bd el) d st = .error 4):=by rw [HN2.out,if_pos hpa];rfl
   clear hpa;go_wp2_with fail
   refine (Al 4 _).mono ?_;rintro e w99 ⟨rfl,rfl⟩;go_wp2_with fail
   refine⟨rfl,?_⟩;rw [HN.out];exact Ah HO3.out
  | true =>
   have HN3:Hid (ckS when (m+1) (.mk k s t es bd el) d st=(match As when k s t st1 with
    | .error r=> .error r
    | .ok st2=>if k=8/\when ≠ 1 then .error 7 else match Au (fun x=>ckE m x (d+1)) es st2 with
     | .error r=> .error r
     | .ok st3=>match Au (fun x=>ckS when m x (d+1)) bd st3 with
      | .error r=> .error r
      | .ok st4=>Au (fun x=>ckS when m x (d+1)) el st4)):=by rw [HN2.out,if_neg (by rw [hpa];decide)];rfl
   clear hpa HN2;go_wp2_with fail
   refine (Af 4 _).mono ?_;rintro e w4 ⟨rfl,rfl⟩;go_wp2_with fail
   refine (Sb B bc bm when k s t _ _ _ st1 _ HC3.out HT3.out hB1 hB2 HWS.out HWT.out).mono ?_;rintro e w5 ⟨hb5,hr⟩;have HO5:Hid (But bc bm w w5):=HO3.out.trans hb5;have HR5:Hid (Ao w5 w.heap.size #[.int .i64 k,.string s,.string t,.slice a1 es.length p1,.slice a2 bd.length p2,.slice a3 el.length p3]):=hb5.box HR3.out g1 g2;have HT5:Hid (Tb B w5):=HT.out.below (HO5.out.below HBL.out hB1 hB2);clear hb5 q0 q1 q2 q3 q4 q5 HO3 HC3 HR3 HT3;have q0:=HR5.out.cell 0;have q1:=HR5.out.cell 1;have q2:=HR5.out.cell 2;have q3:=HR5.out.cell 3;have q4:=HR5.out.cell 4;have q5:=HR5.out.cell 5;simp only [List.getElem?_toArray,List.getElem?_cons_zero,List.getElem?_cons_succ] at q0 q1 q2 q3 q4 q5;cases hte:As when k s t st1 with
   | error er =>
    rw [hte] at hr;subst hr;have HN:Hid (ckS when (m+1) (.mk k s t es bd el) d st = .error er):=by rw [HN3.out,hte];rfl
    clear hte;go_wp2_with fail
    refine⟨rfl,?_⟩;rw [HN.out];exact Ah HO5.out
   | ok st2 =>
    rw [hte] at hr;obtain⟨rfl,hc5⟩:=hr;have HC5:Hid (Chk bc bm when w5 st2 0):=hc5;have HN4:Hid (ckS when (m+1) (.mk k s t es bd el) d st=(if k=8/\when ≠ 1 then .error 7 else match Au (fun x=>ckE m x (d+1)) es st2 with
     | .error r=> .error r
     | .ok st3=>match Au (fun x=>ckS when m x (d+1)) bd st3 with
      | .error r=> .error r
      | .ok st4=>Au (fun x=>ckS when m x (d+1)) el st4)):=by rw [HN3.out,hte];rfl
    have c2:=hc5.c2;clear hte hc5 HN3
    -- a Next where it may not be
    by_cases hnx:k=8/\when ≠ 1
    . have HN:Hid (ckS when (m+1) (.mk k s t es bd el) d st = .error 7):=by rw [HN4.out,if_pos hnx];rfl
      have b8:(k == 8)=true:=by simpa using hnx.1
      have bw:(when != 1)=true:=by simpa using hnx.2
      clear hnx;go_wp2_with fail
      refine (Al 7 _).mono ?_;rintro e w99 ⟨rfl,rfl⟩;go_wp2_with fail
      refine⟨rfl,?_⟩;rw [HN.out];exact Ah HO5.out
    have HN5:Hid (ckS when (m+1) (.mk k s t es bd el) d st=(match Au (fun x=>ckE m x (d+1)) es st2 with
     | .error r=> .error r
     | .ok st3=>match Au (fun x=>ckS when m x (d+1)) bd st3 with
      | .error r=> .error r
      | .ok st4=>Au (fun x=>ckS when m x (d+1)) el st4)):=by rw [HN4.out,if_neg hnx];rfl
    have HNX:Hid (((k == 8) && (when != 1))=false):=by
     unfold Hid;rw [Bool.eq_false_iff];simpa using hnx
    clear HN4 hnx;have after:Calls prog 22 #[.bool false,.int .i64 7] w5 fun r w'=>r = .returned (.tuple #[])/\w'=w5:=Af 7 w5
    by_cases h8:k=8
    . have b8:(k == 8)=true:=by simpa using h8
      have bw:(when != 1)=false:=by have:=HNX.out;rw [b8] at this;simpa using this
      clear after h8;go_wp2_with fail
      refine (Af 7 _).mono ?_;rintro e w6 ⟨rfl,rfl⟩;go_wp2_with fail
      refine (HX.out B bc bm when es _ (d+1) st2 _ (HS1.out.below (HO5.out.below HBL.out hB1 hB2) fun i c ⟨x,hx,he⟩=>⟨x,hx,he.below (HO5.out.below HBL.out hB1 hB2)⟩) HC5.out HT5.out hB1 hB2 (by omega) (by omega)).mono ?_;rintro e w7 ⟨hb7,hr⟩;have HO7:Hid (But bc bm w w7):=HO5.out.trans hb7;have HR7:Hid (Ao w7 w.heap.size #[.int .i64 k,.string s,.string t,.slice a1 es.length p1,.slice a2 bd.length p2,.slice a3 el.length p3]):=hb7.box HR5.out g1 g2;have HT7:Hid (Tb B w7):=HT.out.below (HO7.out.below HBL.out hB1 hB2);clear hb7 q0 q1 q2 q3 q4 q5 c2;have q0:=HR7.out.cell 0;have q1:=HR7.out.cell 1;have q2:=HR7.out.cell 2;have q3:=HR7.out.cell 3;have q4:=HR7.out.cell 4;have q5:=HR7.out.cell 5;simp only [List.getElem?_toArray,List.getElem?_cons_zero,List.getElem?_cons_succ] at q0 q1 q2 q3 q4 q5;cases hR:Au (fun x=>ckE m x (d+1)) es st2 with
      | error er =>
       rw [hR] at hr;subst hr;have HN:Hid (ckS when (m+1) (.mk k s t es bd el) d st = .error er):=by rw [HN5.out,hR];rfl
       clear hR;go_wp2_with fail
       refine⟨rfl,?_⟩;rw [HN.out];exact Ah HO7.out
      | ok st3 =>
       rw [hR] at hr;obtain⟨rfl,hc7⟩:=hr;have HC7:Hid (Chk bc bm when w7 st3 0):=hc7;have HN6:Hid (ckS when (m+1) (.mk k s t es bd el) d st=(match Au (fun x=>ckS when m x (d+1)) bd st3 with
        | .error r=> .error r
        | .ok st4=>Au (fun x=>ckS when m x (d+1)) el st4)):=by rw [HN5.out,hR];rfl
       clear hR hc7;go_wp2_with fail
       refine (HY.out B bc bm when bd _ (d+1) st3 _ (HS2.out.below (HO7.out.below HBL.out hB1 hB2) fun i c ⟨x,hx,he⟩=>⟨x,hx,he.below (HO7.out.below HBL.out hB1 hB2)⟩) HC7.out HT7.out hB1 hB2 (by omega) (by omega)).mono ?_;rintro e w8 ⟨hb8,hr⟩;have HO8:Hid (But bc bm w w8):=HO7.out.trans hb8;have HR8:Hid (Ao w8 w.heap.size #[.int .i64 k,.string s,.string t,.slice a1 es.length p1,.slice a2 bd.length p2,.slice a3 el.length p3]):=hb8.box HR7.out g1 g2;have HT8:Hid (Tb B w8):=HT.out.below (HO8.out.below HBL.out hB1 hB2);clear hb8 q0 q1 q2 q3 q4 q5;have q0:=HR8.out.cell 0;have q1:=HR8.out.cell 1;have q2:=HR8.out.cell 2;have q3:=HR8.out.cell 3;have q4:=HR8.out.cell 4;have q5:=HR8.out.cell 5;simp only [List.getElem?_toArray,List.getElem?_cons_zero,List.getElem?_cons_succ] at q0 q1 q2 q3 q4 q5;cases hR:Au (fun x=>ckS when m x (d+1)) bd st3 with
       | error er =>
        rw [hR] at hr;subst hr;have HN:Hid (ckS when (m+1) (.mk k s t es bd el) d st = .error er):=by rw [HN6.out,hR];rfl
        clear hR;go_wp2_with fail
        refine⟨rfl,?_⟩;rw [HN.out];exact Ah HO8.out
       | ok st4 =>
        rw [hR] at hr;obtain⟨rfl,hc8⟩:=hr;have HC8:Hid (Chk bc bm when w8 st4 0):=hc8;have HN7:Hid (ckS when (m+1) (.mk k s t es bd el) d st=Au (fun x=>ckS when m x (d+1)) el st4):=by rw [HN6.out,hR];rfl
        clear hR hc8;go_wp2_with fail
        refine (HY.out B bc bm when el _ (d+1) st4 _ (HS3.out.below (HO8.out.below HBL.out hB1 hB2) fun i c ⟨x,hx,he⟩=>⟨x,hx,he.below (HO8.out.below HBL.out hB1 hB2)⟩) HC8.out HT8.out hB1 hB2 (by omega) (by omega)).mono ?_;rintro e w9 ⟨hb9,hr⟩;have HO9:Hid (But bc bm w w9):=HO8.out.trans hb9;clear hb9 q0 q1 q2 q3 q4 q5;cases hR:Au (fun x=>ckS when m x (d+1)) el st4 with
        | error er =>
         rw [hR] at hr;subst hr;have HN:Hid (ckS when (m+1) (.mk k s t es bd el) d st = .error er):=HN7.out.trans hR;clear hR;go_wp2_with fail
         refine⟨rfl,?_⟩;rw [HN.out];exact Ah HO9.out
        | ok st5 =>
         rw [hR] at hr;obtain⟨rfl,hc9⟩:=hr;have HC9:Hid (Chk bc bm when w9 st5 0):=hc9;have HN:Hid (ckS when (m+1) (.mk k s t es bd el) d st = .ok st5):=HN7.out.trans hR;clear hR hc9;go_wp2_with fail
         go_end0
         rw [HN.out];exact Bz HO9.out HC9.out
    . have b8:(k == 8)=false:=by simpa using h8
      clear after h8;go_wp2_with fail
      refine (Af 7 _).mono ?_;rintro e w6 ⟨rfl,rfl⟩;go_wp2_with fail
      refine (HX.out B bc bm when es _ (d+1) st2 _ (HS1.out.below (HO5.out.below HBL.out hB1 hB2) fun i c ⟨x,hx,he⟩=>⟨x,hx,he.below (HO5.out.below HBL.out hB1 hB2)⟩) HC5.out HT5.out hB1 hB2 (by omega) (by omega)).mono ?_;rintro e w7 ⟨hb7,hr⟩;have HO7:Hid (But bc bm w w7):=HO5.out.trans hb7;have HR7:Hid (Ao w7 w.heap.size #[.int .i64 k,.string s,.string t,.slice a1 es.length p1,.slice a2 bd.length p2,.slice a3 el.length p3]):=hb7.box HR5.out g1 g2;have HT7:Hid (Tb B w7):=HT.out.below (HO7.out.below HBL.out hB1 hB2);clear hb7 q0 q1 q2 q3 q4 q5 c2;have q0:=HR7.out.cell 0;have q1:=HR7.out.cell 1;have q2:=HR7.out.cell 2;have q3:=HR7.out.cell 3;have q4:=HR7.out.cell 4;have q5:=HR7.out.cell 5;simp only [List.getElem?_toArray,List.getElem?_cons_zero,List.getElem?_cons_succ] at q0 q1 q2 q3 q4 q5;cases hR:Au (fun x=>ckE m x (d+1)) es st2 with
      | error er =>
       rw [hR] at hr;subst hr;have HN:Hid (ckS when (m+1) (.mk k s t es bd el) d st = .error er):=by rw [HN5.out,hR];rfl
       clear hR;go_wp2_with fail
       refine⟨rfl,?_⟩;rw [HN.out];exact Ah HO7.out
      | ok st3 =>
       rw [hR] at hr;obtain⟨rfl,hc7⟩:=hr;have HC7:Hid (Chk bc bm when w7 st3 0):=hc7;have HN6:Hid (ckS when (m+1) (.mk k s t es bd el) d st=(match Au (fun x=>ckS when m x (d+1)) bd st3 with
        | .error r=> .error r
        | .ok st4=>Au (fun x=>ckS when m x (d+1)) el st4)):=by rw [HN5.out,hR];rfl
       clear hR hc7;go_wp2_with fail
       refine (HY.out B bc bm when bd _ (d+1) st3 _ (HS2.out.below (HO7.out.below HBL.out hB1 hB2) fun i c ⟨x,hx,he⟩=>⟨x,hx,he.below (HO7.out.below HBL.out hB1 hB2)⟩) HC7.out HT7.out hB1 hB2 (by omega) (by omega)).mono ?_;rintro e w8 ⟨hb8,hr⟩;have HO8:Hid (But bc bm w w8):=HO7.out.trans hb8;have HR8:Hid (Ao w8 w.heap.size #[.int .i64 k,.string s,.string t,.slice a1 es.length p1,.slice a2 bd.length p2,.slice a3 el.length p3]):=hb8.box HR7.out g1 g2;have HT8:Hid (Tb B w8):=HT.out.below (HO8.out.below HBL.out hB1 hB2);clear hb8 q0 q1 q2 q3 q4 q5;have q0:=HR8.out.cell 0;have q1:=HR8.out.cell 1;have q2:=HR8.out.cell 2;have q3:=HR8.out.cell 3;have q4:=HR8.out.cell 4;have q5:=HR8.out.cell 5;simp only [List.getElem?_toArray,List.getElem?_cons_zero,List.getElem?_cons_succ] at q0 q1 q2 q3 q4 q5;cases hR:Au (fun x=>ckS when m x (d+1)) bd st3 with
       | error er =>
        rw [hR] at hr;subst hr;have HN:Hid (ckS when (m+1) (.mk k s t es bd el) d st = .error er):=by rw [HN6.out,hR];rfl
        clear hR;go_wp2_with fail
        refine⟨rfl,?_⟩;rw [HN.out];exact Ah HO8.out
       | ok st4 =>
        rw [hR] at hr;obtain⟨rfl,hc8⟩:=hr;have HC8:Hid (Chk bc bm when w8 st4 0):=hc8;have HN7:Hid (ckS when (m+1) (.mk k s t es bd el) d st=Au (fun x=>ckS when m x (d+1)) el st4):=by rw [HN6.out,hR];rfl
        clear hR hc8;go_wp2_with fail
        refine (HY.out B bc bm when el _ (d+1) st4 _ (HS3.out.below (HO8.out.below HBL.out hB1 hB2) fun i c ⟨x,hx,he⟩=>⟨x,hx,he.below (HO8.out.below HBL.out hB1 hB2)⟩) HC8.out HT8.out hB1 hB2 (by omega) (by omega)).mono ?_;rintro e w9 ⟨hb9,hr⟩;have HO9:Hid (But bc bm w w9):=HO8.out.trans hb9;clear hb9 q0 q1 q2 q3 q4 q5;cases hR:Au (fun x=>ckS when m x (d+1)) el st4 with
        | error er =>
         rw [hR] at hr;subst hr;have HN:Hid (ckS when (m+1) (.mk k s t es bd el) d st = .error er):=HN7.out.trans hR;clear hR;go_wp2_with fail
         refine⟨rfl,?_⟩;rw [HN.out];exact Ah HO9.out
        | ok st5 =>
         rw [hR] at hr;obtain⟨rfl,hc9⟩:=hr;have HC9:Hid (Chk bc bm when w9 st5 0):=hc9;have HN:Hid (ckS when (m+1) (.mk k s t es bd el) d st = .ok st5):=HN7.out.trans hR;clear hR hc9;go_wp2_with fail
         go_end0
         rw [HN.out];exact Bz HO9.out HC9.out
theorem N1:∀m,Uz m
 | 0=>fun _ _ _ _ _ _ _ _ _ h=>h.elim
 | m+1=>Acw (S4 m) (Sc (N1 m))
theorem L9 (m:Nat):Ot m:=Sc (N1 m)
end Go.Proofs.YtppcohadoilpgaaGreatDoor
