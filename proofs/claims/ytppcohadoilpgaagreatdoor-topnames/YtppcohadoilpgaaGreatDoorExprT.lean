/-
  Contract of the checker's exprTexts. / exprHasItsParts of a Call whose function there is not. / Contracts of syntax.exprHasItsParts, hasBody and stmtHasItsParts. / Contracts of the checker's expr and exprs, by the height of what they look at. / The checker's expr, whatever the height.
-/
import Derived.Test.YtppcohadoilpgaaGreatDoorChk
import Derived.Handy
import Derived.Deep.QuietTactic
import Derived.Deep.RegionHeld3
import Derived.Deep.RegionWith
namespace Go.Proofs.YtppcohadoilpgaaGreatDoor
open Go.ChangeShapes Go.WideShapes Go.ChangeAt Go.RowKit Go.Joins Go.Proofs.Tryz
set_option maxHeartbeats 8000000
set_option linter.unusedVariables false
theorem Chk.but {bc bm:Nat} {when:Int} {w:World} {st:St} {j:Nat} {R:Res} {w':World} {r:Ending} (o:Obj) (h:Out bc bm when j (w.alloc o) R r w'):Out bc bm when j w R r w' :=
 ⟨(But.of_below (br0.alloc lr0 o)).trans h.1,h.2⟩
theorem Ah {bc bm:Nat} {when:Int} {j:Nat} {w w':World} {e:Int} (hb:But bc bm w w'):Out bc bm when j w (.error e) (.panicked [C2 e]) w':=⟨hb,rfl⟩
theorem Bz {bc bm:Nat} {when:Int} {j:Nat} {w w':World} {st:St} (hb:But bc bm w w') (hc:Chk bc bm when w' st j):Out bc bm when j w (.ok st) (.returned (.tuple #[])) w':=⟨hb,rfl,hc⟩
theorem Q5 (B bc bm:Nat) (when:Int) (k n:Int) (s:ByteArray) (v:Value) (st:St) (w:World) (h:Chk bc bm when w st 2) (hT:Tb B w) (hB1:B<=bc) (hB2:B<=bm) (hs:s.size<=maxLen) :
 Calls prog 73 #[.pointer (some ⟨bc,0,none⟩),.agg #[.int .i64 k,.int .i64 n,.string s,v]] w (Out bc bm when 0 w (Ay k s st)):=by
 have H:Hid (Chk bc bm when w st 2):=h;have HT:Hid (Tb B w):=hT;have HS:Hid (s.size<=maxLen):=hs;have HBL:Hid (B<=w.heap.size):=by have:=h.lt;unfold Hid;omega
 have HA:Hid (∀o,Below B w (w.alloc o)):=fun o=>br0.alloc HBL.out o;have HB:Hid (∀o,But bc bm w (w.alloc o)):=fun o=>(But.refl _ _ _).alloc o;unfold maxLen at hs;clear h hT
 by_cases e2:k=2
 . subst e2
   by_cases g:200<(s.size:Int)
   . have HP:Hid (Ay 2 s st = .error 1):=by simp only [Hid,Ay,if_true];rw [if_pos (by omega)]
     go_enter func73,ntmps73
     go_wp2_with fail
     refine (Al 1 _).mono ?_;rintro e w1 ⟨rfl,rfl⟩;go_wp2_with fail
     refine⟨rfl,?_⟩;rw [HP.out];exact Ah (HB.out _)
   . have HP:Hid (Ay 2 s st = .ok st):=by simp only [Hid,Ay,if_true];rw [if_neg (by omega)]
     go_enter func73,ntmps73
     go_wp2_with fail
     refine (Af 1 _).mono ?_;rintro e w1 ⟨rfl,rfl⟩;go_wp2_with fail
     go_end0
     rw [HP.out];exact Bz (HB.out _) ((H.out.alloc _).less (Nat.zero_le _))
 by_cases e3:k=3
 . subst e3;have HP:Hid (Ay 3 s st=Bh s 1 st):=by simp [Hid,Ay]
   clear e2;go_enter func73,ntmps73
   go_wp2_with fail
   refine (Ds B bc bm 1 when s 1 st _ (H.out.alloc _) (HT.out.below (HA.out _)) HS.out (.inl rfl)).mono ?_;rintro e w1 ⟨hb,hr⟩;have HO:Hid (But bc bm w w1):=(HB.out _).trans hb;clear hb;rw [HP.out];cases hR:Bh s 1 st with
   | ok st' =>
    rw [hR] at hr;obtain⟨rfl,hc⟩:=hr;have HC:Hid (Chk bc bm when w1 st' 1):=hc;have HQ:Hid (Ay 3 s st = .ok st'):=HP.out.trans hR;clear hc hR;go_wp2_with fail
    go_end0
    rw [HQ.out];exact Bz HO.out (HC.out.less (Nat.zero_le _))
   | error er =>
    rw [hR] at hr;subst hr;clear hR;go_wp2_with fail
    exact⟨rfl,Ah HO.out⟩
 by_cases e5:k=5
 . subst e5;have HP:Hid (Ay 5 s st=Bh s 2 st):=by simp [Hid,Ay]
   clear e2 e3;go_enter func73,ntmps73
   go_wp2_with fail
   refine (Ds B bc bm 1 when s 2 st _ (H.out.alloc _) (HT.out.below (HA.out _)) HS.out (.inr rfl)).mono ?_;rintro e w1 ⟨hb,hr⟩;have HO:Hid (But bc bm w w1):=(HB.out _).trans hb;clear hb;rw [HP.out];cases hR:Bh s 2 st with
   | ok st' =>
    rw [hR] at hr;obtain⟨rfl,hc⟩:=hr;have HC:Hid (Chk bc bm when w1 st' 1):=hc;have HQ:Hid (Ay 5 s st = .ok st'):=HP.out.trans hR;clear hc hR;go_wp2_with fail
    go_end0
    rw [HQ.out];exact Bz HO.out (HC.out.less (Nat.zero_le _))
   | error er =>
    rw [hR] at hr;subst hr;clear hR;go_wp2_with fail
    exact⟨rfl,Ah HO.out⟩
 by_cases e9:k=9
 . subst e9;have HP:Hid (Ay 9 s st=Bh s 2 st):=by simp [Hid,Ay]
   clear e2 e3 e5;go_enter func73,ntmps73
   go_wp2_with fail
   refine (Ds B bc bm 1 when s 2 st _ (H.out.alloc _) (HT.out.below (HA.out _)) HS.out (.inr rfl)).mono ?_;rintro e w1 ⟨hb,hr⟩;have HO:Hid (But bc bm w w1):=(HB.out _).trans hb;clear hb;rw [HP.out];cases hR:Bh s 2 st with
   | ok st' =>
    rw [hR] at hr;obtain⟨rfl,hc⟩:=hr;have HC:Hid (Chk bc bm when w1 st' 1):=hc;have HQ:Hid (Ay 9 s st = .ok st'):=HP.out.trans hR;clear hc hR;go_wp2_with fail
    go_end0
    rw [HQ.out];exact Bz HO.out (HC.out.less (Nat.zero_le _))
   | error er =>
    rw [hR] at hr;subst hr;clear hR;go_wp2_with fail
    exact⟨rfl,Ah HO.out⟩
 by_cases e6:k=6
 . subst e6;clear e2 e3 e5 e9;go_enter func73,ntmps73
   go_wp2_with fail
   refine (Pk s _ ((HT.out.below (HA.out _)).levels.2)).mono ?_;rintro e w1 ⟨rfl,hb⟩;have HO:Hid (But bc bm w w1):=(HB.out _).more hb;have HC:Hid (Chk bc bm when w1 st 2):=(H.out.alloc _).below hb;clear hb
   by_cases g:0<lvl s
   . have HP:Hid (Ay 6 s st = .ok st):=by simp [Hid,Ay,g]
     rw [decide_eq_true g];clear g;go_wp2_with fail
     refine (Af 4 _).mono ?_;rintro e w2 ⟨rfl,rfl⟩;go_wp2_with fail
     go_end0
     rw [HP.out];exact Bz HO.out (HC.out.less (Nat.zero_le _))
   . have HP:Hid (Ay 6 s st = .error 4):=by simp [Hid,Ay,g]
     rw [decide_eq_false g];clear g;go_wp2_with fail
     refine (Al 4 _).mono ?_;rintro e w2 ⟨rfl,rfl⟩;go_wp2_with fail
     refine⟨rfl,?_⟩;rw [HP.out];exact Ah HO.out
 by_cases e12:k=12
 . subst e12;clear e2 e3 e5 e9 e6
   by_cases g1:s.toList = [78,82]
   . have HP:Hid (Ay 12 s st = .ok st):=by simp [Hid,Ay,g1]
     have b1:(s.toList == [78,82])=true:=by simp [g1]
     clear g1;go_enter func73,ntmps73
     go_wp2_with fail
     refine (Af 4 _).mono ?_;rintro e w2 ⟨rfl,rfl⟩;go_wp2_with fail
     go_end0
     rw [HP.out];exact Bz (HB.out _) ((H.out.alloc _).less (Nat.zero_le _))
   . have b1:(s.toList == [78,82])=false:=by simpa using g1
     by_cases g2:s.toList = [78,70]
     . have HP:Hid (Ay 12 s st = .ok st):=by simp [Hid,Ay,g2]
       have b2:(s.toList == [78,70])=true:=by simp [g2]
       clear g1 g2;go_enter func73,ntmps73
       go_wp2_with fail
       refine (Af 4 _).mono ?_;rintro e w2 ⟨rfl,rfl⟩;go_wp2_with fail
       go_end0
       rw [HP.out];exact Bz (HB.out _) ((H.out.alloc _).less (Nat.zero_le _))
     . have HP:Hid (Ay 12 s st = .error 4):=by simp [Hid,Ay,g1,g2]
       have b2:(s.toList == [78,70])=false:=by simpa using g2
       clear g1 g2;go_enter func73,ntmps73
       go_wp2_with fail
       refine (Al 4 _).mono ?_;rintro e w2 ⟨rfl,rfl⟩;go_wp2_with fail
       refine⟨rfl,?_⟩;rw [HP.out];exact Ah (HB.out _)
 by_cases e11:k=11
 . subst e11;have HP:Hid (Ay 11 s st = .ok st):=by simp [Hid,Ay]
   clear e2 e3 e5 e9 e6 e12;go_enter func73,ntmps73
   go_wp2_with fail
   go_end0
   rw [HP.out];exact Bz (HB.out _) ((H.out.alloc _).less (Nat.zero_le _))
 have f2:(k == 2)=false:=by simpa using e2
 have f3:(k == 3)=false:=by simpa using e3
 have f5:(k == 5)=false:=by simpa using e5
 have f9:(k == 9)=false:=by simpa using e9
 have f6:(k == 6)=false:=by simpa using e6
 have f12:(k == 12)=false:=by simpa using e12
 have f11:(k == 11)=false:=by simpa using e11
 by_cases g:0<s.size
 . have HP:Hid (Ay k s st = .error 4):=by simp [Hid,Ay,e2,e3,e5,e9,e6,e12,e11,g]
   have he:=Hz g;clear e2 e3 e5 e9 e6 e12 e11;go_enter func73,ntmps73
   go_wp2_with fail
   refine (Al 4 _).mono ?_;rintro e w2 ⟨rfl,rfl⟩;go_wp2_with fail
   refine⟨rfl,?_⟩;rw [HP.out];exact Ah (HB.out _)
 . have HP:Hid (Ay k s st = .ok st):=by simp only [Hid,Ay];rw [if_neg e2,if_neg e3,if_neg (by omega),if_neg e6,if_neg e12,if_neg e11,if_neg g]
   have he:=H0 g;clear e2 e3 e5 e9 e6 e12 e11;go_enter func73,ntmps73
   go_wp2_with fail
   refine (Af 4 _).mono ?_;rintro e w2 ⟨rfl,rfl⟩;go_wp2_with fail
   go_end0
   rw [HP.out];exact Bz (HB.out _) ((H.out.alloc _).less (Nat.zero_le _))
theorem Aap (s:ByteArray):0<=Dn s:=by unfold Dn;split <;> (try split) <;> (try split) <;> omega
theorem Q4 (s:ByteArray) (a:Option Addr) (len cap:Nat) (w:World) (hF:Ao w 3 Fd) (hz:Dn s=0) :
 Calls prog 72 #[.agg #[.int .i64 11,.int .i64 0,.string s,.slice a len cap]] w fun e w'=>e = .returned (.bool (Bt 11 0 s len))/\Below w.heap.size w w':=by
 have HP:Hid (Bt 11 0 s len=false):=by simp [Hid,Bt,hz]
 have HZ:Hid (Dn s=0):=hz;have HF:Hid (Ao w 3 Fd):=hF;clear hz hF;go_enter func72,ntmps72
 go_wp2_with fail
 refine wp_region_quiet (C:=fun w'=>Below w.heap.size w w'/\w'.cell? ⟨w.heap.size,2,none⟩=some (.string s)) (by kernel_rfl) (by kernel_rfl) ?_ ?_
 . refine⟨(show Below w.heap.size w (World.drew _) from (br0.alloc lr0 _).drew),?_⟩;exact (Ao.new w _ _).cell 2
 rw [List.toList_toArray]
 repeat (quiet_step (first
  | (exact fun _ _=>rfl)
  | (intro hb hc;refine (Ip s _ (HF.out.below hb)).mono ?_;rintro e w2 ⟨rfl,hb2⟩;rw [Kp,HZ.out];exact⟨rfl,hb.trans (hb2.mono hb.size),(hb2.cell (p:=⟨w.heap.size,2,none⟩) (World.block_lt_of_cell? _ ⟨w.heap.size,2,none⟩ hc)).trans hc⟩)
  | (intro hb hc;go_simp;rfl)))
 refine wpQuiet_nil ?_;rintro w' ⟨hb,_⟩;have HB:Hid (Below w.heap.size w w'):=hb;clear hb;go_wp2
 go_ret
 exact⟨Am HP.out.symm,HB.out⟩
theorem Aam (q:Nat) (h:q<13) (h2:q ≠ 11) (s:ByteArray):D1 (q:Int) s=Hv.getD q 0:=by
 have key:∀q:Nat,q<13->q ≠ 11->(if (q:Int)=4\/(q:Int)=5\/(q:Int)=7\/(q:Int)=8\/(q:Int)=9 then (1:Int) else if (q:Int)=6 then 2 else if (q:Int)=10 then 3 else 0)=Hv.getD q 0:=by decide
 rw [<-key q h h2];unfold D1;rw [if_neg (by omega)]
theorem Q3 (k n:Int) (s:ByteArray) (a:Option Addr) (len cap:Nat) (w:World) (B:Nat) (hT:Tb B w) (k1:1<=k) (k2:k<=12) (hlen:len<=maxLen) :
 Calls prog 72 #[.agg #[.int .i64 k,.int .i64 n,.string s,.slice a len cap]] w fun e w'=>e = .returned (.bool (Bt k n s len))/\Below w.heap.size w w':=by
 unfold maxLen at hlen;have HF:Hid (Ao w 3 Fd):=hT.funcs.2
 by_cases h1:¬k=1/\¬n=0
 . have HP:Hid (Bt k n s len=false):=by simp [Hid,Bt,h1.1,h1.2]
   have b1:(k != 1)=true:=by simpa using h1.1
   have b2:(n != 0)=true:=by simpa using h1.2
   clear hT h1;go_enter func72,ntmps72
   go_wp2_with fail
   go_ret
   exact⟨Am HP.out.symm,by go_grown⟩
 . have HN:Hid (k=1\/n=0):=by unfold Hid;omega
   by_cases h2:k=11
   . subst h2;have h3:n=0:=by rcases HN.out with h | h <;> omega
     subst h3;clear h1 hT k1 k2
     by_cases h4:0<Dn s
     . have HP:Hid (((len:Int) == Dn s)=Bt 11 0 s len):=by simp [Hid,Bt,D1,h4,BEq.beq]
       go_enter func72,ntmps72
       go_wp2_with fail
       go_region_held3 (fun w'=>w'.cell? ⟨w.heap.size,2,none⟩=some (.string s)/\w'.cell? ⟨w.heap.size,3,none⟩=some (.slice a len cap)) (go_keep) (first
        | (go_at_call 100;refine (Ip s _ ?_).mono ?_;exact HF.out.below (by go_grown);rintro e w1 ⟨rfl,hb⟩;rw [Kp s];obtain⟨hc,hf⟩:=Ar hb;have HB1:Hid (Below w.heap.size w w1):=Aa (by go_grown) hb;have hz:w.heap.size<w1.heap.size:=(by have:=hb.size;simp at this;omega))
        | (go_at_call 100;refine (Ip s _ ?_).mono ?_;exact HF.out.below HB1.out;rintro e w2 ⟨rfl,hb2⟩;rw [Kp s];obtain⟨hc2,hf2⟩:=Ar hb2;have HB2:Hid (Below w.heap.size w w2):=Aa HB1.out hb2;have hz2:w.heap.size<w2.heap.size:=(by have:=hb2.size;omega)))
       go_wp2
       go_ret
       exact⟨Am HP.out,HB2.out⟩
     . exact Q4 s a len cap w HF.out (by have:=Aap s;omega)
   . obtain⟨q,rfl⟩:∃q:Nat,k=q:=⟨k.toNat,by omega⟩;have hq:q<13:=by omega
     have hq2:q ≠ 11:=by omega
     have hcell:w.cell? ⟨1,q,none⟩=some (.int .i64 (Hv.getD q 0)):=by
      rw [hT.args.2.cell];simp only [J8,List.getElem?_toArray,List.getElem?_map];rw [gee (show q<Hv.length from hq)];simp [List.getD,gee (show q<Hv.length from hq)]
     have hA:D1 (q:Int) s=Hv.getD q 0:=Aam q hq hq2 s;obtain⟨c,hc⟩:∃c,c=Hv.getD q 0:=⟨_,rfl⟩;rw [<-hc] at hcell hA;have hg:=hT.args.2.lt;have HP:Hid (((len:Int) == c)=Bt q n s len):=by
      simp only [Hid,Bt,hA];rw [decide_eq_true HN.out,decide_eq_true (show ((q:Int)=11->0<Dn s) from fun h=>absurd h h2)];simp [BEq.beq]
     have i1:(q:Int)<13:=by omega
     have i0:(0:Int)<=(q:Int):=by omega
     have b11:((q:Int) == 11)=false:=by simpa using h2
     have hl:1<w.heap.size+1:=by omega
     have hne:¬1=w.heap.size:=by omega
     clear hT hA hc;rcases HN.out with h | h
     . have b1:((q:Int) != 1)=false:=by simpa using h
       clear h h1 k1 k2 hq hq2 h2 HN;go_enter func72,ntmps72
       go_wp2_with fail
       go_region
       all_goals go_wp2
       all_goals go_ret
       all_goals exact⟨Am HP.out,by go_grown⟩
     . subst h;have b1:((0:Int) != 0)=false:=rfl;clear h1 k1 k2 hq hq2 h2 HN
       by_cases hq1:(q:Int)=1
       . have b2:((q:Int) != 1)=false:=by simpa using hq1
         clear hq1;go_enter func72,ntmps72
         go_wp2_with fail
         go_region
         all_goals go_wp2
         all_goals go_ret
         all_goals exact⟨Am HP.out,by go_grown⟩
       . have b2:((q:Int) != 1)=true:=by simpa using hq1
         clear hq1;go_enter func72,ntmps72
         go_wp2_with fail
         go_region
         all_goals go_wp2
         all_goals go_ret
         all_goals exact⟨Am HP.out,by go_grown⟩
def Ux (m:Nat):Prop:=∀(B bc bm:Nat) (when:Int) (x:Ex) (cs:List Value) (d:Int) (st:St) (w:World),ExA B w m cs x->Chk bc bm when w st 0->Tb B w->B<=bc->B<=bm->1<=d->d<=21 ->
 Calls prog 46 #[.pointer (some ⟨bc,0,none⟩),.agg cs.toArray,.int .i64 d] w (Out bc bm when 0 w (ckE m x d st))
def Jb (m:Nat):Prop:=∀(B bc bm:Nat) (when:Int) (l:List Ex) (v:Value) (d:Int) (st:St) (w:World),Sl w B 4 v l.length (fun i c=>∃x,l[i]? = some x/\ExA B w m c x)->Chk bc bm when w st 0->Tb B w->B<=bc->B<=bm->1<=d->d<=21 ->
 Calls prog 74 #[.pointer (some ⟨bc,0,none⟩),v,.int .i64 d] w (Out bc bm when 0 w (Au (fun x=>ckE m x d) l st))
theorem ExA.shape {B:Nat} {w:World} {m:Nat} {cs:List Value} {x:Ex} (h:ExA B w m cs x):∃(k n:Int) (s:ByteArray) (a:Option Addr) (len cap:Nat),cs = [.int .i64 k,.int .i64 n,.string s,.slice a len cap]:=by
 cases m with
 | zero=>exact h.elim
 | succ m =>
  cases x with
  | mk k n s l =>
   obtain⟨v,rfl,_,_,_,a,cap,rfl,_⟩:=h;exact⟨k,n,s,a,_,cap,rfl⟩
theorem four {cs:List Value} (h:cs.length=4):∃c0 c1 c2 c3,cs = [c0,c1,c2,c3]:=by
 match cs,h with
 | [c0,c1,c2,c3],_=>exact⟨c0,c1,c2,c3,rfl⟩
theorem Q6 {m:Nat} (hE:Ux m):Jb m:=by
 intro B bc bm when l v d st w hv hc hT hB1 hB2 hd1 hd2;obtain⟨a,cap,rfl,hl,hs⟩:=hv;have HE:Hid (Ux m):=hE;have H:Hid (Chk bc bm when w st 0):=hc;have HT:Hid (Tb B w):=hT;have HBL:Hid (B<=w.heap.size):=by have:=hc.lt;unfold Hid;omega
 unfold maxLen at hl;clear hE hc hT
 by_cases h0:0<l.length
 . obtain⟨b,off,rfl,hb,hi⟩:=hs h0;have HI:Hid (∀i,i<l.length->∃cs:List Value,cs.length=4/\(∀j,j<4->w.cell? ⟨b,off+i * 4+j,none⟩=cs[j]?)/\∃x,l[i]? = some x/\ExA B w m cs x):=hi;clear hi hs h0;go_enter func74,ntmps74
   go_wp2_with fail
   go_loopw [10] (fun v wr=>∃(i:Nat) (s:St),i<=l.length/\v = .int .i64 i/\Hid (But bc bm w wr/\Chk bc bm when wr s 0/\Au (fun x=>ckE m x d) (l.take i) st = .ok s)) (fun v _=>l.length - (intOf v).toNat)
   case atStart=>exact⟨0,st,by omega,rfl,But.refl _ _ _,H.out,rfl⟩
   case round =>
    obtain⟨i,s,hil,rfl,HR⟩:=hrel
    by_cases hlt:i<l.length
    . have i1:(i:Int)<(l.length:Int):=by omega
      have i2:(0:Int)<=(i:Int):=by omega
      obtain⟨cs,hcl,hcell,x,hx,hex⟩:=HI.out i hlt;obtain⟨k0,n0,s0,a0,len0,cap0,rfl⟩:=hex.shape;have HBW:Hid (Below B w wr):=HR.out.1.below HBL.out hB1 hB2;have q0:wr.cell? ⟨b,off+i * 4,none⟩=some (.int .i64 k0):=by rw [HBW.out.cell (p:=⟨b,off+i * 4,none⟩) hb];simpa using hcell 0 (by omega)
      have q1:wr.cell? ⟨b,off+i * 4+1,none⟩=some (.int .i64 n0):=by rw [HBW.out.cell (p:=⟨b,off+i * 4+1,none⟩) hb];simpa using hcell 1 (by omega)
      have q2:wr.cell? ⟨b,off+i * 4+2,none⟩=some (.string s0):=by rw [HBW.out.cell (p:=⟨b,off+i * 4+2,none⟩) hb];simpa using hcell 2 (by omega)
      have q3:wr.cell? ⟨b,off+i * 4+3,none⟩=some (.slice a0 len0 cap0):=by rw [HBW.out.cell (p:=⟨b,off+i * 4+3,none⟩) hb];simpa using hcell 3 (by omega)
      have HX:Hid (l[i]=x):=by rw [gee hlt] at hx;exact Option.some.inj hx
      have HEX:Hid (ExA B w m [.int .i64 k0,.int .i64 n0,.string s0,.slice a0 len0 cap0] x):=hex;clear hcell hx hex hcl;go_wp2_with fail
      refine (HE.out B bc bm when x [.int .i64 k0,.int .i64 n0,.string s0,.slice a0 len0 cap0] d s _ ((HEX.out.below HBW.out).below (br0.alloc (by have:=HBW.out.size;have:=HBL.out;omega) _)) (HR.out.2.1.alloc _) ((HT.out.below HBW.out).below (br0.alloc (by have:=HBW.out.size;have:=HBL.out;omega) _)) hB1 hB2 hd1 hd2).mono ?_;rintro e w1 ⟨hb1,hr⟩;have HO:Hid (But bc bm w w1):=HR.out.1.trans ((But.of_below (br0.alloc lr0 _)).trans hb1);clear hb1 q0 q1 q2 q3;cases hR:ckE m x d s with
      | ok s' =>
       rw [hR] at hr;obtain⟨rfl,hc1⟩:=hr;have HN:Hid (But bc bm w w1/\Chk bc bm when w1 s' 0/\Au (fun x=>ckE m x d) (l.take (i+1)) st = .ok s'):=⟨HO.out,hc1,Ju hlt HR.out.2.2 (by rw [HX.out];exact hR)⟩;clear hc1 hR;go_wp2_with fail
       go_roundw
       case rel=>exact⟨i+1,s',by omega,by go_num,HN⟩
       case measure=>simp [intOf];omega
      | error er =>
       rw [hR] at hr;subst hr;have HN:Hid (Au (fun x=>ckE m x d) l st = .error er):=Jv hlt HR.out.2.2 (by rw [HX.out];exact hR);clear hR;go_wp2_with fail
       refine⟨rfl,?_⟩;rw [HN.out];exact Ah HO.out
    . have i1:¬(i:Int)<(l.length:Int):=by omega
      have HN:Hid (Au (fun x=>ckE m x d) l st = .ok s):=L0 hlt HR.out.2.2;go_wp2_with fail
      go_end0
      rw [HN.out];exact Bz HR.out.1 HR.out.2.1
 . have hl0:l = []:=List.eq_nil_of_length_eq_zero (by omega);subst hl0;have HN:Hid (Au (fun x=>ckE m x d) [] st = .ok st):=rfl;clear hs h0;go_enter func74,ntmps74
   go_wp2_with fail
   go_loop [10] (fun v=>v = .int .i64 0) (fun _=>0)
   case atStart=>rfl
   case round =>
    subst hrel;go_wp2_with fail
    go_end0
    rw [HN.out];exact Bz (But.refl _ _ _) H.out
theorem But.box {bc bm:Nat} {w w':World} {g:Nat} {cs:Array Value} (h:But bc bm w w') (hr:Ao w g cs) (h1:g ≠ bc) (h2:g ≠ bm):Ao w' g cs:=hr.stays (h.block g hr.lt h1 h2)
theorem Aa9 {m:Nat} (hX:Jb m):Ux (m+1):=by
 intro B bc bm when x cs d st w hx hc hT hB1 hB2 hd1 hd2;cases x with
 | mk k n s l =>
 obtain⟨v,rfl,wk,wn,ws,a,cap,rfl,hlen,hsl⟩:=hx;have HSL:Hid (Sl w B 4 (.slice a l.length cap) l.length (fun i c=>∃x,l[i]? = some x/\ExA B w m c x)):=⟨a,cap,rfl,hlen,hsl⟩;have HX:Hid (Jb m):=hX;have H:Hid (Chk bc bm when w st 0):=hc;have HT:Hid (Tb B w):=hT;have HBL:Hid (B<=w.heap.size):=by have:=hc.lt;unfold Hid;omega
 have g1:w.heap.size ≠ bc:=by have:=hc.lt;omega
 have g2:w.heap.size ≠ bm:=by have:=hc.lt;omega
 have HLEN:Hid (l.length<=maxLen):=hlen;have HWS:Hid (s.size<=maxLen):=ws;have hw:wrap64 (d+1)=d+1:=by unfold wrap64;omega
 have hwr:IntKind.i64.wrap (d+1)=d+1:=by rw [Go.PlainAid.i64_is];exact hw
 clear hX hc hT hsl hlen ws wk wn
 -- the box
 obtain⟨o,ho⟩:∃o,o=Obj.cells #[.int .i64 k,.int .i64 n,.string s,.slice a l.length cap] 31:=⟨_,rfl⟩;have HA:Hid (Below B w (w.alloc o)):=br0.alloc HBL.out o;have HO0:Hid (But bc bm w (w.alloc o)):=(But.refl _ _ _).alloc o;have HC0:Hid (Chk bc bm when (w.alloc o) st 0):=H.out.alloc o;have HR0:Hid (Ao (w.alloc o) w.heap.size #[.int .i64 k,.int .i64 n,.string s,.slice a l.length cap]):=by rw [ho];exact Ao.new w _ _
 go_enter func46,ntmps46
 go_wp2_with fail
 rw [<-ho];refine (Yv bc bm when d st _ HC0.out).mono ?_;rintro e w1 ⟨hb1,hr⟩;have HO1:Hid (But bc bm w w1):=HO0.out.trans hb1;have HR1:Hid (Ao w1 w.heap.size #[.int .i64 k,.int .i64 n,.string s,.slice a l.length cap]):=hb1.box HR0.out g1 g2;clear hb1 HA HO0 HC0 HR0 ho;cases hP:B6 d st with
 | error er =>
  rw [hP] at hr;subst hr;have HN:Hid (ckE (m+1) (.mk k n s l) d st = .error er):=by simp only [Hid,ckE,hP]
  clear hP;go_wp2_with fail
  refine⟨rfl,?_⟩;rw [HN.out];exact Ah HO1.out
 | ok st1 =>
  rw [hP] at hr;obtain⟨rfl,hc1⟩:=hr;have HC1:Hid (Chk bc bm when w1 st1 2):=hc1;have HT1:Hid (Tb B w1):=HT.out.below (HO1.out.below HBL.out hB1 hB2);have hd3:d<=20:=by
   unfold B6 at hP;split at hP
   . cases hP
   . omega
  have HN0:Hid (ckE (m+1) (.mk k n s l) d st=(if k<1\/12<k then .error 3 else if Bt k n s l.length=false then .error 4 else match Ay k s st1 with
   | .error e=> .error e
   | .ok st2=>if n<0\/1099511627776<n then .error 2 else Au (fun x=>ckE m x (d+1)) l st2)):=by simp only [Hid,ckE,hP];rfl
  clear hc1 hP;have q0:=HR1.out.cell 0;have q1:=HR1.out.cell 1;have q2:=HR1.out.cell 2;have q3:=HR1.out.cell 3;simp only [List.getElem?_toArray,List.getElem?_cons_zero,List.getElem?_cons_succ] at q0 q1 q2 q3
  by_cases hk1:k<1
  . have HN:Hid (ckE (m+1) (.mk k n s l) d st = .error 3):=by rw [HN0.out,if_pos (.inl hk1)];rfl
    go_wp2_with fail
    refine (Al 3 _).mono ?_;rintro e w2 ⟨rfl,rfl⟩;go_wp2_with fail
    refine⟨rfl,?_⟩;rw [HN.out];exact Ah HO1.out
  by_cases hk2:12<k
  . have HN:Hid (ckE (m+1) (.mk k n s l) d st = .error 3):=by rw [HN0.out,if_pos (.inr hk2)];rfl
    go_wp2_with fail
    refine (Al 3 _).mono ?_;rintro e w2 ⟨rfl,rfl⟩;go_wp2_with fail
    refine⟨rfl,?_⟩;rw [HN.out];exact Ah HO1.out
  go_wp2_with fail
  rw [decide_eq_false (show ¬k<1 by omega),decide_eq_false (show ¬12<k by omega)];refine (Af 3 _).mono ?_;rintro e w2 ⟨rfl,rfl⟩;have HN1:=HN0.out;rw [if_neg (by omega)] at HN1;have HN2:Hid (ckE (m+1) (.mk k n s l) d st=(if Bt k n s l.length=false then .error 4 else match Ay k s st1 with
   | .error e=> .error e
   | .ok st2=>if n<0\/1099511627776<n then .error 2 else Au (fun x=>ckE m x (d+1)) l st2)):=HN1
  clear HN1 HN0;go_wp2_with fail
  refine (Q3 k n s a l.length cap _ B HT1.out (by omega) (by omega) HLEN.out).mono ?_;rintro e w3 ⟨rfl,hb3⟩;have HO3:Hid (But bc bm w w3):=HO1.out.more hb3;have HC3:Hid (Chk bc bm when w3 st1 2):=HC1.out.below hb3;have HR3:Hid (Ao w3 w.heap.size #[.int .i64 k,.int .i64 n,.string s,.slice a l.length cap]):=HR1.out.below hb3;have HT3:Hid (Tb B w3):=HT.out.below (HO3.out.below HBL.out hB1 hB2);clear hb3 q0 q1 q2 q3 HO1 HC1 HR1 HT1 hk1 hk2;have q0:=HR3.out.cell 0;have q1:=HR3.out.cell 1;have q2:=HR3.out.cell 2;have q3:=HR3.out.cell 3;simp only [List.getElem?_toArray,List.getElem?_cons_zero,List.getElem?_cons_succ] at q0 q1 q2 q3;cases hpa:Bt k n s l.length with
  | false =>
   have HN:Hid (ckE (m+1) (.mk k n s l) d st = .error 4):=by rw [HN2.out,if_pos hpa];rfl
   clear hpa;go_wp2_with fail
   refine (Al 4 _).mono ?_;rintro e w4 ⟨rfl,rfl⟩;go_wp2_with fail
   refine⟨rfl,?_⟩;rw [HN.out];exact Ah HO3.out
  | true =>
   have HN3:Hid (ckE (m+1) (.mk k n s l) d st=(match Ay k s st1 with
    | .error e=> .error e
    | .ok st2=>if n<0\/1099511627776<n then .error 2 else Au (fun x=>ckE m x (d+1)) l st2)):=by rw [HN2.out,if_neg (by rw [hpa];decide)];rfl
   clear hpa HN2;go_wp2_with fail
   refine (Af 4 _).mono ?_;rintro e w4 ⟨rfl,rfl⟩;go_wp2_with fail
   refine (Q5 B bc bm when k n s _ st1 _ HC3.out HT3.out hB1 hB2 HWS.out).mono ?_;rintro e w5 ⟨hb5,hr⟩;have HO5:Hid (But bc bm w w5):=HO3.out.trans hb5;have HR5:Hid (Ao w5 w.heap.size #[.int .i64 k,.int .i64 n,.string s,.slice a l.length cap]):=hb5.box HR3.out g1 g2;have HT5:Hid (Tb B w5):=HT.out.below (HO5.out.below HBL.out hB1 hB2);clear hb5 q0 q1 q2 q3 HO3 HC3 HR3 HT3;have q0:=HR5.out.cell 0;have q1:=HR5.out.cell 1;have q2:=HR5.out.cell 2;have q3:=HR5.out.cell 3;simp only [List.getElem?_toArray,List.getElem?_cons_zero,List.getElem?_cons_succ] at q0 q1 q2 q3;cases hte:Ay k s st1 with
   | error er =>
    rw [hte] at hr;subst hr;have HN:Hid (ckE (m+1) (.mk k n s l) d st = .error er):=by rw [HN3.out,hte];rfl
    clear hte;go_wp2_with fail
    refine⟨rfl,?_⟩;rw [HN.out];exact Ah HO5.out
   | ok st2 =>
    rw [hte] at hr;obtain⟨rfl,hc5⟩:=hr;have HC5:Hid (Chk bc bm when w5 st2 0):=hc5;have HN4:Hid (ckE (m+1) (.mk k n s l) d st=(if n<0\/1099511627776<n then .error 2 else Au (fun x=>ckE m x (d+1)) l st2)):=by rw [HN3.out,hte];rfl
    clear hte hc5 HN3
    by_cases hn1:n<0
    . have HN:Hid (ckE (m+1) (.mk k n s l) d st = .error 2):=by rw [HN4.out,if_pos (.inl hn1)];rfl
      go_wp2_with fail
      refine (Al 2 _).mono ?_;rintro e w6 ⟨rfl,rfl⟩;go_wp2_with fail
      refine⟨rfl,?_⟩;rw [HN.out];exact Ah HO5.out
    by_cases hn2:1099511627776<n
    . have HN:Hid (ckE (m+1) (.mk k n s l) d st = .error 2):=by rw [HN4.out,if_pos (.inr hn2)];rfl
      go_wp2_with fail
      refine (Al 2 _).mono ?_;rintro e w6 ⟨rfl,rfl⟩;go_wp2_with fail
      refine⟨rfl,?_⟩;rw [HN.out];exact Ah HO5.out
    have HN5:Hid (ckE (m+1) (.mk k n s l) d st=Au (fun x=>ckE m x (d+1)) l st2):=by rw [HN4.out,if_neg (by omega)];rfl
    clear HN4;go_wp2_with fail
    rw [decide_eq_false (show ¬n<0 by omega),decide_eq_false (show ¬1099511627776<n by omega)];refine (Af 2 _).mono ?_;rintro e w6 ⟨rfl,rfl⟩;clear hn1 hn2;go_wp2_with fail
    refine (HX.out B bc bm when l _ (d+1) st2 _ (HSL.out.below (HO5.out.below HBL.out hB1 hB2) fun i c ⟨x,hx,he⟩=>⟨x,hx,he.below (HO5.out.below HBL.out hB1 hB2)⟩) HC5.out HT5.out hB1 hB2 (by omega) (by omega)).mono ?_;rintro e w7 ⟨hb7,hr⟩;have HO7:Hid (But bc bm w w7):=HO5.out.trans hb7;clear hb7 q0 q1 q2 q3;cases hR:Au (fun x=>ckE m x (d+1)) l st2 with
    | error er =>
     rw [hR] at hr;subst hr;have HN:Hid (ckE (m+1) (.mk k n s l) d st = .error er):=HN5.out.trans hR;clear hR;go_wp2_with fail
     refine⟨rfl,?_⟩;rw [HN.out];exact Ah HO7.out
    | ok st3 =>
     rw [hR] at hr;obtain⟨rfl,hc7⟩:=hr;have HC7:Hid (Chk bc bm when w7 st3 0):=hc7;have HN:Hid (ckE (m+1) (.mk k n s l) d st = .ok st3):=HN5.out.trans hR;clear hR hc7;go_wp2_with fail
     go_end0
     rw [HN.out];exact Bz HO7.out HC7.out
theorem Jg:∀m,Ux m
 | 0=>fun _ _ _ _ _ _ _ _ _ h=>h.elim
 | m+1=>Aa9 (Q6 (Jg m))
theorem S4 (m:Nat):Jb m:=Q6 (Jg m)
end Go.Proofs.YtppcohadoilpgaaGreatDoor
