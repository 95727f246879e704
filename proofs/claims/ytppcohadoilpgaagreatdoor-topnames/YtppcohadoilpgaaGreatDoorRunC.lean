/-
  Contract of eval.Run (P3.2): it answers what the function runR says, in new memory. / slices.Equal on two rows of texts. / What statements that read programs share: a program that was read; the tables that they ask of. / What statements of package tillagekeep share that run programs: a run of a program that was read.
-/
import Derived.Test.YtppcohadoilpgaaGreatDoorMRules
import Derived.Test.YtppcohadoilpgaaGreatDoorMFin
import Derived.Test.YtppcohadoilpgaaGreatDoorWdMem
import Derived.Test.YtppcohadoilpgaaGreatDoorMStep
import Derived.Deep.RegionHeld3
import Derived.Test.YtppcohadoilpgaaGreatDoorRdRead
import Derived.Test.YtppcohadoilpgaaGreatDoorPrShelf
import Derived.Test.YtppcohadoilpgaaGreatDoorMMem
import Derived.HandedShaped
import Derived.Lib.LaidTab
import Derived.Test.YtppcohadoilpgaaGreatDoorMPrint
namespace Go.Proofs.YtppcohadoilpgaaGreatDoor
open Go.ChangeShapes Go.WideShapes Go.ChangeAt Go.RowKit Go.Joins Go.Maps Go.Proofs.Tryz
set_option maxHeartbeats 4000000
set_option linter.unusedVariables false
set_option maxRecDepth 100000
def Kj (m:Nat) (l:List Ru) (F:List Fl) (ls:List ByteArray) (fuel:Int):Except Int (List ByteArray × Int × Int) :=
 if ckP m l ≠ 0 then .error (ckP m l)
 else if B3 F ls ≠ 0 then .error (B3 F ls)
 else if fuel<0\/200000<fuel then .error 2
 else .ok ((B0 (Be F m l ls (Cj fuel.toNat))).2.1,(B0 (Be F m l ls (Cj fuel.toNat))).1,fuel - ((B0 (Be F m l ls (Cj fuel.toNat))).2.2:Int))
def M8 (v:Value):Prop:=∃a len cap,v = .slice a len cap/\len<=cap
theorem M8.le {a:Option Addr} {len cap:Nat} (h:M8 (.slice a len cap)):len<=cap:=by
 obtain⟨_,_,_,e,h⟩:=h;cases e;exact h
theorem Acl {w:World} {b t z n:Nat} {v:Value} {xs:List Value} (h:w.ownsRow b t z v n xs):M8 v:=by
 rcases h.2 with⟨rfl,-⟩ | ⟨g,cap,cur,rfl,-,-,hn,-⟩
 . exact⟨_,_,_,rfl,Nat.zero_le _⟩
 . exact⟨_,_,_,rfl,hn⟩
def Aai (w:World) (R:Except Int (List ByteArray × Int × Int)) (e:Ending) (w':World):Prop:=Below w.heap.size w w'/\match R with
 | .error er=>e = .returned (.tuple #[.agg #[.slice none 0 0,.int .i64 0,.int .i64 0],.int .i64 er])
 | .ok r=>∃v,e = .returned (.tuple #[.agg #[v,.int .i64 r.2.1,.int .i64 r.2.2],.int .i64 0])/\w'.ownsRow 0 9 1 v r.1.length (r.1.map Value.string)/\(∀g,v.ownBlock=some g->w.heap.size<=g)/\(∀x ∈ r.1,x.size<=200)/\r.1.length<=2000/\M8 v
def Ads (w:World) (R:Except Int (List ByteArray × Int × Int)) (e:Ending) (w':World):Prop:=Below w.heap.size w w'/\match R with
 | .error er=>e = .returned (.tuple #[.agg #[.slice none 0 0,.int .i64 0,.int .i64 0],.int .i64 er])
 | .ok r=>∃v,e = .returned (.tuple #[.agg #[v,.int .i64 r.2.1,.int .i64 r.2.2],.int .i64 0])/\TxL w' w'.heap.size v r.1/\r.1.length<=2000/\M8 v
theorem Li {l:List ByteArray} (h:Cq l=0):∀x ∈ l,x.size<=200:=by
 unfold Cq at h;split at h
 . rename_i ha;intro x hx;have:=List.all_eq_true.1 ha x hx;unfold C4 at this;simp only [Bool.and_eq_true,decide_eq_true_eq] at this;exact this.1
 . omega
theorem Uq {fs:List Fl} {ls:List ByteArray} (h:B3 fs ls=0):ls.length<=200/\(∀x ∈ ls,x.size<=200)/\∀f ∈ fs,f.lines.length<=100/\∀l ∈ f.lines,l.size<=200:=by
 unfold B3 at h;split at h
 . omega
 . rename_i h8;cases hf:((List.range fs.length).map fun i=>Cd (fs.getD i default) (fs.take i)).find? (· != 0) with
   | some x =>
    rw [hf] at h;have:=List.find?_some hf;simp only [Option.getD_some] at h;rw [h] at this;cases this
   | none =>
    rw [hf] at h;refine⟨by omega,Li h,fun f hfm=>?_⟩;obtain⟨i,hi,rfl⟩:=List.getElem_of_mem hfm;have h1:=List.find?_eq_none.1 hf (Cd (fs.getD i default) (fs.take i)) (List.mem_map.2 ⟨i,List.mem_range.2 hi,rfl⟩);have h2:Cd (fs.getD i default) (fs.take i)=0:=by simpa using h1
    rw [List.getD_eq_getElem?_getD,gee hi,Option.getD_some] at h2;unfold Cd at h2;split at h2
    . omega
    . split at h2
      . omega
      . exact⟨by omega,Li h2⟩
theorem Ef.texts {O:Own} {ro:Ro} {w:World} {v:Value} {l:List ByteArray} (h:Ef O ro w v l) (hl:∀x ∈ l,x.size<=200) (hn:l.length<=2000):TxL w w.heap.size v l:=by
 have hr:=h.1;rcases h.1.2 with⟨rfl,h0⟩ | ⟨g,cap,cur,rfl,-,hg,-⟩
 . have e:l = []:=List.length_eq_zero_iff.1 h0;subst e;exact⟨none,0,rfl,by unfold maxLen;simp,fun h=>absurd h (by simp)⟩
 . refine⟨some ⟨g,0,none⟩,cap,rfl,by unfold maxLen;omega,fun _=>⟨g,0,rfl,(Array.getElem?_eq_some_iff.1 hg).1,fun i hi=>⟨[.string l[i]],rfl,fun j hj=>?_,l[i],gee hi,rfl,?_⟩⟩⟩
   . have e:j=0:=by omega
     subst e;have:=hr.cells (g:=g) rfl i (.string l[i]) (by simp [hi]);have e2:(⟨g,0,none⟩:Addr).add i = ⟨g,i,none⟩:=by
      unfold Addr.add;split
      . rename_i h;subst h;rfl
      . simp
     rw [e2] at this;simpa using this
   . have:=hl _ (List.getElem_mem hi);unfold maxLen;omega
theorem Jr {w:World} {v:Value} {l:List ByteArray} (h:w.ownsRow 0 9 1 v l.length (l.map Value.string)) (hl:∀x ∈ l,x.size<=200) (hn:l.length<=2000):TxL w w.heap.size v l :=
 Ef.texts (O:=fun _=>some .outs) (ro:= .outs) ⟨h,fun _ _=>rfl⟩ hl hn
def Ob (g:Nat) (w:World):Prop:=w.heap[g]? = some (.cells #[.slice none 0 0,.int .i64 0,.int .i64 0] 39 (0,0))
theorem Ob.below {g:Nat} {w w':World} (h:Ob g w) (hb:Below w.heap.size w w'):Ob g w':=(hb.block g (Array.getElem?_eq_some_iff.1 h).1).trans h
theorem bx3 {g:Nat} {w:World} (h:Ob g w):w.cell? ⟨g,0,none⟩=some (.slice none 0 0)/\w.cell? ⟨g,1,none⟩=some (.int .i64 0)/\w.cell? ⟨g,2,none⟩=some (.int .i64 0)/\w.frozen? ⟨g,0,none⟩=false/\w.frozen? ⟨g,1,none⟩=false/\w.frozen? ⟨g,2,none⟩=false:=by
 unfold Ob at h;have hz:∀o,w.frozen? ⟨g,o,none⟩=false:=fun o=>Lib.frozen_of_heap h o;exact⟨by simp [World.cell?,h],by simp [World.cell?,h],by simp [World.cell?,h],hz 0,hz 1,hz 2⟩
theorem Rr {B b:Nat} {w w':World} {x y z:Value} (h:Below B w w') (hb:B<=b):Below B w (((w'.setCell ⟨b,0,none⟩ x).setCell ⟨b,1,none⟩ y).setCell ⟨b,2,none⟩ z):=((h.setCell (p:=⟨b,0,none⟩) hb _).setCell (p:=⟨b,1,none⟩) hb _).setCell (p:=⟨b,2,none⟩) hb _
theorem Zp (m B:Nat) (l:List Ru) (F:List Fl) (ls:List ByteArray) (rv fv lv:Value) (fuel:Int) (w:World) (hv:Sl w B 7 rv l.length (fun i c=>∃x,l[i]? = some x/\RuA B w m c x)) (hF:FlL w B fv F) (hL:TxL w B lv ls) (hT:Tb B w) (hP:D4 B w) (hX:MxB B w) (hB:B<=w.heap.size) (hf1: -9223372036854775808<=fuel) (hf2:fuel<=9223372036854775807) :
 Calls prog 8 #[.agg #[rv],fv,lv,.int .i64 fuel] w (Aai w (Kj m l F ls fuel)):=by
 have hv2:=hv;obtain⟨a1,cap1,rfl,-,-⟩:=hv2;have hF2:=hF;obtain⟨⟨a2,len2,cap2,rfl,-⟩,-⟩:=hF2;have hL2:=hL;obtain⟨a3,cap3,rfl,-,-⟩:=hL2;obtain⟨R,hR⟩:∃R,R=Kj m l F ls fuel:=⟨_,rfl⟩;rw [<-hR];have HR:Hid (R=Kj m l F ls fuel):=hR;obtain⟨W,hW⟩:∃W,W=(w.alloc (.cells #[.slice a1 l.length cap1] 26)).alloc (.cells #[.slice none 0 0,.int .i64 0,.int .i64 0] 39):=⟨_,rfl⟩;have hA:Below w.heap.size w W:=by rw [hW];exact (br0.alloc lr0 _).alloc (by simp) _
 have HA:=hid hA;have HWS:Hid (W.heap.size=w.heap.size+2):=by rw [hW];simp [Hid]
 have hAB:Below B w W:=hA.mono hB;have HV:Hid (Sl W B 7 (.slice a1 l.length cap1) l.length (fun i c=>∃x,l[i]? = some x/\RuA B W m c x)):=hv.below hAB fun _ _ ⟨x,hx,he⟩=>⟨x,hx,he.below hAB⟩;have HF:Hid (FlL W B (.slice a2 len2 cap2) F):=hF.below hAB;have HL:Hid (TxL W B (.slice a3 ls.length cap3) ls):=hL.below hAB;have HT:Hid (Tb B W/\D4 B W/\MxB B W/\B<=W.heap.size):=⟨hT.below hAB,hP.low hAB.block,hX.below hAB,lq0 hB hA.size⟩;have HCK:=hid (U5 m B l (.slice a1 l.length cap1) W HV.out HT.out.1 HT.out.2.2.2);have HWW:Hid (W=_):=hW;have c0:W.cell? ⟨w.heap.size,0,none⟩=some (.slice a1 l.length cap1):=by rw [hW];simp [go_sem]
 have HBX:Hid (Ob (w.heap.size+1) W):=by
  have hz:(w.alloc (.cells #[.slice a1 l.length cap1] 26)).heap.size=w.heap.size+1:=by simp
  rw [hW,<-hz];unfold Ob;show (Array.push (w.alloc (.cells #[.slice a1 l.length cap1] 26)).heap _)[_]? = _;rw [Array.getElem?_push_size]
 have HC0:Hid (W.cell? ⟨w.heap.size,0,none⟩=some (.slice a1 l.length cap1)):=c0;obtain⟨ck,hck⟩:∃ck,ck=ckP m l:=⟨_,rfl⟩;rw [<-hck] at HCK;have HCKE:Hid (ck=ckP m l):=hck;clear hv hF hL hT hP hX hR hW hA hAB hck;go_enter func8,ntmps8
 go_wp2_with fail
 rw [<-HWW.out];clear HWW c0;refine Calls.mono HCK.out ?_;rintro e w1 ⟨rfl,hb1⟩;have HB1:Hid (Below W.heap.size W w1):=hb1;clear hb1 HCK;obtain⟨b,hb⟩:∃b,b=w.heap.size+1:=⟨_,rfl⟩;have HBB:Hid (b=w.heap.size+1):=hb;rw [<-hb] at HBX ⊢;clear hb
 by_cases hk:ck=0
 case neg =>
  have HE:Hid (R = .error ck):=by unfold Hid;rw [HR.out];unfold Kj;rw [<-HCKE.out,if_pos hk]
  obtain⟨e0,e1,e2,z0,z1,z2⟩:=bx3 (HBX.out.below HB1.out);have hk2:(ck != 0)=true:=by simpa using hk
  have HLW:Hid (Below w.heap.size w w1):=Aa HA.out HB1.out;clear HB1 HV HF HL HT HCKE HR HC0;go_wp2_with fail
  simp [bodyPost,results,results8,go_sem,e0,e1,e2];exact⟨Rr HLW.out (by have:=HBB.out;omega),by rw [HE.out]⟩
 have hk2:(ck != 0)=false:=by simp [hk]
 have HLW:Hid (Below w.heap.size w w1):=Aa HA.out HB1.out;have h1B:Below B W w1:=HB1.out.mono HT.out.2.2.2;have HCW:=hid (O8 B F ls (.slice a2 len2 cap2) (.slice a3 ls.length cap3) w1 (HF.out.below h1B) (HL.out.below h1B) (lq0 HT.out.2.2.2 HB1.out.size));obtain⟨wd,hwd⟩:∃wd,wd=B3 F ls:=⟨_,rfl⟩;rw [<-hwd] at HCW;have HWD:Hid (wd=B3 F ls):=hwd;have HCK0:Hid (ckP m l=0):=HCKE.out.symm.trans hk;clear hwd h1B hk HCKE;go_wp2_with fail
 refine Calls.mono HCW.out ?_;rintro e w2 ⟨rfl,hb2⟩;have HB2:Hid (Below W.heap.size W w2):=Aa HB1.out hb2;have HLW2:Hid (Below w.heap.size w w2):=Aa HLW.out hb2;clear hb2 HCW HB1 HLW hk2
 by_cases hk:wd=0
 case neg =>
  have HE:Hid (R = .error wd):=by unfold Hid;rw [HR.out];unfold Kj;rw [HCK0.out,if_neg (by simp),<-HWD.out,if_pos hk]
  obtain⟨e0,e1,e2,z0,z1,z2⟩:=bx3 (HBX.out.below HB2.out);have hk2:(wd != 0)=true:=by simpa using hk
  clear HB2 HV HF HL HT HR HC0 HWD;go_wp2_with fail
  simp [bodyPost,results,results8,go_sem,e0,e1,e2];exact⟨Rr HLW2.out (by have:=HBB.out;omega),by rw [HE.out]⟩
 have hk2:(wd != 0)=false:=by simp [hk]
 have HWD0:Hid (B3 F ls=0):=HWD.out.symm.trans hk;clear hk HWD
 by_cases hfu:fuel<0\/200000<fuel
 case pos =>
  have HE:Hid (R = .error 2):=by unfold Hid;rw [HR.out];unfold Kj;rw [HCK0.out,if_neg (by simp),HWD0.out,if_neg (by simp),if_pos hfu]
  obtain⟨e0,e1,e2,z0,z1,z2⟩:=bx3 (HBX.out.below HB2.out);clear HB2 HV HF HL HT HR HC0;rcases hfu with hfu | hfu
  . go_wp2_with fail
    simp [bodyPost,results,results8,go_sem,e0,e1,e2];exact⟨Rr HLW2.out (by have:=HBB.out;omega),by rw [HE.out]⟩
  . have hfu2:¬fuel<0:=by omega
    go_wp2_with fail
    simp [bodyPost,results,results8,go_sem,e0,e1,e2];exact⟨Rr HLW2.out (by have:=HBB.out;omega),by rw [HE.out]⟩
 have hfa:¬fuel<0:=by omega
 have hfb:¬200000<fuel:=by omega
 have HRR:Hid (R = .ok ((B0 (Be F m l ls (Cj fuel.toNat))).2.1,(B0 (Be F m l ls (Cj fuel.toNat))).1,fuel - ((B0 (Be F m l ls (Cj fuel.toNat))).2.2:Int))):=by unfold Hid;rw [HR.out];unfold Kj;rw [HCK0.out,if_neg (by simp),HWD0.out,if_neg (by simp),if_neg hfu]
 clear hfu HR;have HNW:=hid (Ahd w2 fuel a1 l.length cap1 a2 len2 cap2);have c2:w2.cell? ⟨w.heap.size,0,none⟩=some (.slice a1 l.length cap1):=(HB2.out.cell (p:=⟨w.heap.size,0,none⟩) (by have:=HWS.out;show w.heap.size<_;omega)).trans HC0.out;go_wp2_with fail
 refine Calls.mono HNW.out ?_;rintro e w3 ⟨rfl,hw3⟩;obtain⟨w2a,hw2a⟩:∃w2a,w2a=w2.alloc (.cells #[.slice a1 l.length cap1] 26):=⟨_,rfl⟩;rw [<-hw2a] at hw3;have hz2:w2a.heap.size=w2.heap.size+1:=by rw [hw2a];simp
 have hb2a:Below w2.heap.size w2 w2a:=by rw [hw2a];exact br0.alloc lr0 _
 have hW2:Below W.heap.size W w2a:=Aa HB2.out hb2a;have hBW:=HT.out.2.2.2;have hBB:Below B W w2a:=hW2.mono hBW;obtain⟨c,hc⟩:∃c:Cx,c = ⟨w2.heap.size+3,B,fuel.toNat,m,F,l,.slice a1 l.length cap1,.slice a2 len2 cap2⟩:=⟨_,rfl⟩;have hfit:=Uq HWD0.out;have hvv:=HV.out.below hBB (F:=fun i c=>∃x,l[i]? = some x/\RuA B w2a m c x) fun _ _ ⟨x,hx,he⟩=>⟨x,hx,he.below hBB⟩;have hlo:Lo c w2a:=by
  rw [hc];exact⟨HT.out.2.1.low hBB.block,HT.out.2.2.1.below hBB,hvv,(U6 hvv HCK0.out).1,HF.out.below hBB,hfit.2.2,by show fuel.toNat<=200000;omega,lq0 hBW hW2.size⟩
 have hMc:=Ahc c w2a 0 hlo (by rw [hc,hz2]) (by rw [hc];exact lq0 hBW hW2.size) (by rw [hc];show 0+fuel.toNat<=400000;omega);have hfc:(c.fuel:Int)=fuel:=by rw [hc];show (fuel.toNat:Int)=fuel;omega
 have hw3b:w3=Pp w2a (c.fuel:Int) c.rv c.fv:=by rw [hw3,hfc,hc]
 rw [<-hw3b] at hMc;have hfew:=Aaw hvv HCK0.out;have hRu:Oo c:=fun O w s j when hM=>Ws c O w s j when hM (by rw [hc];exact hfew);have hTa:U0 c:=fun O w s j x hM hx=>Af8 c O w s j x hM hx;have h23:Below w2a.heap.size w2a w3:=by rw [hw3];exact Ln _ _ _ _
 have hfi:=Yh c (Po w2a.heap.size) w3 (Cj c.fuel) 0 ls (.slice a3 ls.length cap3) hRu hTa hMc rfl (by rw [hc];exact (HL.out.below hBB).below (h23.mono (lq0 hBW hW2.size))) hfit.1 hfit.2.1;have HFI:Hid (Calls prog 19 #[.pointer (some ⟨w2.heap.size+3,0,none⟩),.slice a3 ls.length cap3] w3 fun e w4=>∃oa olen ocap E U out,e = .returned (.agg #[.slice oa olen ocap,.int .i64 E,.int .i64 U])/\Hid (R = .ok (out,E,U)/\Below w.heap.size w w4/\Below W.heap.size W w4/\∀w5:World,w4.heap.size<=w5.heap.size->(∀k,k ≠ b->w5.heap[k]? = w4.heap[k]?)->w5.ownsRow 0 9 1 (.slice oa olen ocap) out.length (out.map Value.string)/\(∀g,(Value.slice oa olen ocap).ownBlock=some g->w.heap.size<=g)/\(∀x ∈ out,x.size<=200)/\out.length<=2000/\M8 (.slice oa olen ocap))):=by
  have hcr:c.r=w2.heap.size+3:=by rw [hc]
  rw [hcr] at hfi;refine hfi.mono fun e w4 hd=>?_;obtain⟨ol,rfl,hbt,O',hg,hrow,-,h2000,h200⟩:=hd;have hcap:=Acl hrow.1;obtain⟨oa,olen,ocap,rfl⟩:=Nw hrow.1;have hlow:∀k,k<w2a.heap.size->Po w2a.heap.size k=none:=fun k hk=>by unfold Po;rw [if_neg (by omega),if_neg (by omega),if_neg (by omega)]
  have h34:Below w2a.heap.size w3 w4:=hbt.below h23.size hlow;have h24:Below w2a.heap.size w2a w4:=h23.trans h34;have hW4:Below W.heap.size W w4:=hW2.trans (h24.mono hW2.size);have hbO:O' b=none:=by
   have hs:=HWS.out;have hs2:=hW2.size;have hs3:=h23.size;have hb':=HBB.out;exact hg b (by omega) (hlow b (by omega))
  have hcF:c.F=F/\c.m=m/\c.R=l/\c.fuel=fuel.toNat:=by rw [hc];exact⟨rfl,rfl,rfl,rfl⟩
  rw [hcF.1,hcF.2.1,hcF.2.2.1] at hrow h2000 h200 ⊢;refine⟨oa,olen,ocap,_,_,_,rfl,?_,HA.out.trans (hW4.mono HA.out.size),hW4,fun w5 hs5 h5=>⟨?_,fun g hog=>?_,h200,h2000,hcap⟩⟩
  . rw [HRR.out,hfc,hcF.2.2.2]
  . exact (hrow.stays (O':=O') fun k e l=>⟨e,h5 k fun e2=>by rw [e2,hbO] at e;cases e⟩).1
  . refine Nat.le_of_not_lt fun hk=>?_;have e:=hrow.2 g hog;have hs1:=HA.out.size;have hs2:=hW2.size;have hs3:=h23.size;rw [hg g (by omega) (hlow g (by omega))] at e;cases e
 clear hw3 hw2a hz2 hb2a hW2 hBW hBB hc hfit hvv hlo hMc hfc hw3b hfew hRu hTa h23 hfi c2 HNW HRR HV HF HL HT HB2 HLW2 HC0 hk2 HCK0 HWD0;go_wp2_with fail
 refine Calls.mono HFI.out ?_;rintro e w4 ⟨oa,olen,ocap,E,U,out,rfl,HZ⟩;obtain⟨e0,e1,e2,z0,z1,z2⟩:=bx3 (HBX.out.below HZ.out.2.2.1);clear HFI HBX;go_wp2_with fail
 simp [bodyPost,results,results8,go_sem,e0,e1,e2];refine⟨Rr HZ.out.2.1 (by have:=HBB.out;omega),?_⟩;rw [HZ.out.1];exact⟨_,rfl,HZ.out.2.2.2 _ (by simp [World.setCell]) fun k hk=>(Ae hk).trans ((Ae hk).trans (Ae hk))⟩
theorem Ahq (m B:Nat) (l:List Ru) (F:List Fl) (ls:List ByteArray) (rv fv lv:Value) (fuel:Int) (w:World) (hv:Sl w B 7 rv l.length (fun i c=>∃x,l[i]? = some x/\RuA B w m c x)) (hF:FlL w B fv F) (hL:TxL w B lv ls) (hT:Tb B w) (hP:D4 B w) (hX:MxB B w) (hB:B<=w.heap.size) (hf1: -9223372036854775808<=fuel) (hf2:fuel<=9223372036854775807) :
 Calls prog 8 #[.agg #[rv],fv,lv,.int .i64 fuel] w (Ads w (Kj m l F ls fuel)):=(Zp m B l F ls rv fv lv fuel w hv hF hL hT hP hX hB hf1 hf2).mono fun e w' ⟨hb,h⟩=>⟨hb,by
 cases hR:Kj m l F ls fuel with
 | error er=>rw [hR] at h;exact h
 | ok r =>
  rw [hR] at h;obtain⟨v,h1,h2,-,h3,h4,h5⟩:=h;exact⟨v,h1,Jr h2 h3 h4,h4,h5⟩⟩
theorem Aa6 (B1 B2:Nat) (l1 l2:List ByteArray) (v1 v2:Value) (w:World) (h1:TxL w B1 v1 l1) (h2:TxL w B2 v2 l2) (hB1:B1<=w.heap.size) (hB2:B2<=w.heap.size) :
 Calls prog 11 #[v1,v2] w fun e w'=>e = .returned (.bool (decide (l1=l2)))/\Below w.heap.size w w':=by
 obtain⟨a1,c1,rfl,hm1,hs1⟩:=h1;obtain⟨a2,c2,rfl,hm2,hs2⟩:=h2;unfold maxLen at hm1 hm2
 by_cases hn:l1.length=l2.length
 case neg =>
  have i1:¬(l1.length:Int)=(l2.length:Int):=by omega
  have HE:Hid (decide (l1=l2)=false):=by unfold Hid;rw [decide_eq_false];intro e;exact hn (by rw [e])
  clear hs1 hs2;go_enter func11,ntmps11
  go_wp2_with fail
  go_ret
  exact⟨Am (by rw [HE.out]),Below.refl _ _⟩
 have HS1:Hid _:=hs1;have HS2:Hid _:=hs2;have HN:Hid _:=hn;obtain⟨n,hn1⟩:∃n,n=l1.length:=⟨_,rfl⟩;rw [<-hn,<-hn1];rw [<-hn1] at hm1;have HN1:Hid _:=hn1;have HM1:Hid ((n:Int)<=9223372036854775807):=by unfold Hid;omega
 have HBS:Hid (B1<=w.heap.size/\B2<=w.heap.size):=⟨hB1,hB2⟩;clear hm1 hB1 hB2;clear hs1 hs2 hm2 hn hn1;go_enter func11,ntmps11
 go_wp2_with fail
 go_loopw [13] (fun v13 wr=>∃i:Nat,i<=n/\v13 = .int .i64 i/\Hid (Below w.heap.size w wr/\l1.take i=l2.take i)) (fun v13 _=>n - (intOf v13).toNat)
 case atStart=>exact⟨0,Nat.zero_le _,rfl,Below.refl _ _,by simp⟩
 case round =>
  obtain⟨i,hil,rfl,HV⟩:=hrel
  by_cases hlt:i<n
  . have i1:(i:Int)<(n:Int):=by omega
    have i2:(0:Int)<=(i:Int):=by omega
    have i3: -9223372036854775808<=(i:Int)+1:=by omega
    have i4:(i:Int)+1<=9223372036854775807:=by have:=HM1.out;omega
    have hl1:i<l1.length:=by rw [<-HN1.out];exact hlt
    have hl2:i<l2.length:=by rw [<-HN.out];exact hl1
    obtain⟨b1,o1,rfl,hb1,hc1⟩:=HS1.out (by omega);obtain⟨b2,o2,rfl,hb2,hc2⟩:=HS2.out (by omega);obtain⟨cs1,-,hq1,x1,hx1,rfl,-⟩:=hc1 i hl1;obtain⟨cs2,-,hq2,x2,hx2,rfl,-⟩:=hc2 i hl2;have q1:wr.cell? ⟨b1,o1+i,none⟩=some (.string x1):=(HV.out.1.cell (p:=⟨b1,o1+i,none⟩) (by have:=HBS.out.1;show b1<_;omega)).trans (by simpa using hq1 0 (by omega));have q2:wr.cell? ⟨b2,o2+i,none⟩=some (.string x2):=(HV.out.1.cell (p:=⟨b2,o2+i,none⟩) (by have:=HBS.out.2;show b2<_;omega)).trans (by simpa using hq2 0 (by omega));have r1:wr.drew.cell? ⟨b1,o1+i,none⟩=some (.string x1):=q1;have r2:wr.drew.cell? ⟨b2,o2+i,none⟩=some (.string x2):=q2;have HBD:Hid (Below w.heap.size w wr.drew):=HV.out.1.trans ((Ad wr).mono HV.out.1.size);rw [gee hl1,Option.some.injEq] at hx1;rw [gee hl2,Option.some.injEq] at hx2;have HXX:Hid (l1[i]=x1/\l2[i]=x2):=⟨hx1,hx2⟩;have HTK:Hid (l1.take i=l2.take i):=HV.out.2
    clear hq1 hq2 hx1 hx2 hc1 hc2 HS1 HS2 HV;go_wp2_with fail
    go_region_held3 (fun w'=>w'.cell? ⟨b1,o1+i,none⟩=some (.string x1)/\w'.cell? ⟨b2,o2+i,none⟩=some (.string x2)) (go_keep) (fail)
    rename_i hheld;clear hheld
    by_cases hxx:x1=x2
    . have e1:(x1.toList == x2.toList)=true:=by rw [hxx];simp
      have HNX:Hid (l1.take (i+1)=l2.take (i+1)):=by
       unfold Hid;rw [List.take_succ_eq_append_getElem hl1,List.take_succ_eq_append_getElem hl2,HTK.out,HXX.out.1,HXX.out.2,hxx]
      clear hxx HXX HTK hb1 hb2 q1 q2 r1 r2 hl1 hl2;rw [e1];clear e1;simp only [Bool.not_true];go_wp2_with fail
      go_roundw
      case rel=>exact⟨i+1,by omega,by go_num,HBD.out,HNX.out⟩
      case measure=>simp [intOf];omega
    . have e1:(x1.toList == x2.toList)=false:=by
       rw [beq_eq_false_iff_ne];intro e;rw [ByteArray.toList_eq,ByteArray.toList_eq] at e;exact hxx (ByteArray.ext (Array.ext' e))
      have HE:Hid (decide (l1=l2)=false):=by
       unfold Hid;rw [decide_eq_false_iff_not];intro e;subst e;exact hxx (HXX.out.1.symm.trans HXX.out.2)
      clear hxx HXX HTK hb1 hb2 q1 q2 r1 r2 hl1 hl2;rw [e1];clear e1;simp only [Bool.not_false];go_wp2_with fail
      go_ret
      exact⟨Am (by rw [HE.out]),HBD.out⟩
  . have i1:¬(i:Int)<(n:Int):=by omega
    have HE:Hid (decide (l1=l2)=true):=by
     unfold Hid;rw [decide_eq_true_eq];have:=HV.out.2
     rwa [List.take_of_length_le (by rw [<-HN1.out];omega),List.take_of_length_le (by rw [<-HN.out,<-HN1.out];omega)] at this
    have HBD:Hid (Below w.heap.size w wr):=HV.out.1;clear HV;go_wp2_with fail
    go_ret
    exact⟨Am (by rw [HE.out]),HBD.out⟩
theorem Sl.up {w:World} {B B' sz:Nat} {v:Value} {len:Nat} {E F:Nat->List Value->Prop} (h:Sl w B sz v len E) (hB:B<=B') (hEF:∀i cs,E i cs->F i cs):Sl w B' sz v len F:=by
 obtain⟨a,cap,hv,hl,hs⟩:=h;refine⟨a,cap,hv,hl,fun h0=>?_⟩;obtain⟨b,off,ha,hb,hi⟩:=hs h0;exact⟨b,off,ha,lle hb hB,fun i hi'=>let ⟨cs,h1,h2,h3⟩:=hi i hi'; ⟨cs,h1,h2,hEF i cs h3⟩⟩
theorem ExA.up {B B':Nat} {w:World} (hB:B<=B'):∀ {m:Nat} {cs:List Value} {x:Ex},ExA B w m cs x->ExA B' w m cs x:=by
 intro m
 induction m with
 | zero=>intro cs x h;exact h.elim
 | succ m ih =>
  intro cs x h;cases x with
  | mk k n s l =>
   obtain⟨v,h1,h2,h3,h4,h5⟩:=h;exact⟨v,h1,h2,h3,h4,h5.up hB fun i c ⟨x,hx,he⟩=>⟨x,hx,ih he⟩⟩
theorem SmA.up {B B':Nat} {w:World} (hB:B<=B'):∀ {m:Nat} {cs:List Value} {x:Sm},SmA B w m cs x->SmA B' w m cs x:=by
 intro m
 induction m with
 | zero=>intro cs x h;exact h.elim
 | succ m ih =>
  intro cs x h;cases x with
  | mk k s t es b e =>
   obtain⟨v1,v2,v3,h1,h2,h3,h4,h5,h6,h7⟩:=h;exact⟨v1,v2,v3,h1,h2,h3,h4,h5.up hB fun i c ⟨x,hx,he⟩=>⟨x,hx,he.up hB⟩,h6.up hB fun i c ⟨x,hx,he⟩=>⟨x,hx,ih he⟩,h7.up hB fun i c ⟨x,hx,he⟩=>⟨x,hx,ih he⟩⟩
theorem RuA.up {B B':Nat} {w:World} {m:Nat} {cs:List Value} {r:Ru} (h:RuA B w m cs r) (hB:B<=B'):RuA B' w m cs r:=by
 obtain⟨c0,c1,c2,c3,v,h1,h2,h3,h4⟩:=h;exact⟨c0,c1,c2,c3,v,h1,h2,h3.up hB,h4.up hB fun i c ⟨x,hx,he⟩=>⟨x,hx,he.up hB⟩⟩
theorem TxL.up {w:World} {B B':Nat} {v:Value} {l:List ByteArray} (h:TxL w B v l) (hB:B<=B'):TxL w B' v l:=Sl.up h hB fun _ _ h=>h
def Gy (w:World) (v:Value) (l:List Ru):Prop:=Sl w w.heap.size 7 v l.length (fun i c=>∃x,l[i]? = some x/\RuA w.heap.size w 6000 c x)
theorem Gy.stays {w w':World} {v:Value} {l:List Ru} (h:Gy w v l) (hb:Below w.heap.size w w'):Gy w' v l :=
 Sl.up (E:=fun i c=>∃x,l[i]? = some x/\RuA w.heap.size w' 6000 c x) (Sl.below h hb fun i c ⟨x,hx,he⟩=>⟨x,hx,he.below hb⟩) hb.size fun i c ⟨x,hx,he⟩=>⟨x,hx,he.up hb.size⟩
def Gg (w:World) (v:Value) (l:List ByteArray):Prop:=TxL w w.heap.size v l
theorem Gg.stays {w w':World} {v:Value} {l:List ByteArray} (h:Gg w v l) (hb:Below w.heap.size w w'):Gg w' v l:=(TxL.below h hb).up hb.size
structure Kr (w:World):Prop where
 tr:Tr w
 pw:Pow w
 mx:MxB w.heap.size w
theorem Kr.stays {w w':World} (h:Kr w) (hb:Below w.heap.size w w'):Kr w':=by
 have hm:=h.mx.below hb;exact⟨h.tr.stays hb,h.pw.stays hb,⟨lle hm.1 hb.size,hm.2⟩⟩
theorem Afg {s:ByteArray} {l:List Ru} {w:World} (hR:Ch s.toList = .ok l) (hs:s.size<=100000) (hT:Kr w) :
 Calls prog 12 #[.string s] w fun e w'=>∃a cap,e = .returned (.tuple #[.agg #[.slice a l.length cap],.int .i64 0])/\Below w.heap.size w w'/\Gy w' (.slice a l.length cap) l:=by
 refine (T5 s w (by unfold maxLen;omega) hT.tr).mono fun e w' hr=>?_;obtain⟨hb,hr⟩:=hr;rw [hR] at hr;obtain⟨v,he,hv⟩:=hr;have h5:SlP (fun b=>b<w'.heap.size) w' 7 v l.length (fun i c=>∃x,l[i]? = some x/\RuP (fun b=>b<w'.heap.size) w' 6000 c x) :=
  (hv.old (by decide) fun i c ⟨x,hx,he⟩=>⟨x,hx,(RuP.stays (fun b hb=>hb.2) (fun _ _ _=>rfl) (RuP.old he)).le (by omega)⟩).mono (fun b hb=>hb.2) fun _ _ h=>h
 have h6:Gy w' v l:=h5.low fun i c ⟨x,hx,he⟩=>⟨x,hx,he.low⟩;have h7:=h6;obtain⟨a,cap,rfl,-⟩:=h7;exact⟨a,cap,he,hb,h6⟩
theorem Ae9 {W : World} {r : List (String × DataW Unit)} (hL : laidMet prog (("internal/strconv.uint64pow10", Rows.laid_internal_strconv_uint64pow10) :: r) W) : Pow W := by
 obtain⟨g,hg⟩:=Aen;have ht:(prog.globals[g]?).map (·.type)=some 206:=by
  have e : (match prog.globalNamed "internal/strconv.uint64pow10" with | some g => (prog.globals[g]?).map (·.type) | none => none) = some 206 := by kernel_rfl
  rw [hg] at e;exact e
 exact Lib.tabIs_of_head hg ht underlying206 underlying168 (by kernel_rfl) (by kernel_rfl) hL
theorem Aha {W:World} (h:W.ShapedOpen prog):MxB W.heap.size W:=by
 obtain⟨m,hm⟩:=Tryz.laysM144.s1_3 W h;have hm':W.cell? ⟨5,0,none⟩=some (.int .i64 m):=hm;exact⟨World.block_lt_of_cell? W ⟨5,0,none⟩ hm',m,hm'⟩
theorem Yj {H:Type} {enc:TypeId × Value->H} {C:Checked} {os:Os} {f:FuncId} {fn:Func} {s:ChangeSpec} {conds:List PathCond} {apart fresh handsOn again:Bool} {X:World->Prop}
 (hX:∀w w':World,w.heap=w'.heap->X w->X w')
 (own:ownKnob C.prog.godebug=none) (started:os.Started) (noInit:C.prog.inits.idxOf? f=none) (hfn:C.prog.funcs[f]? = some fn)
 (first:∃(w:World) (tape:Tape) (i:Input),w.os=os/\(w.forCall tape i).Shaped C.prog/\i.vars = []/\Input.okWide C.prog (w.forCall tape i) .any w.heap.size f i /\
  ((s.pre enc C.prog fn conds apart (w.forCall tape i).memory i.args/\X (w.forCall tape i).memory)/\sizedMet enc C.prog fn (OpenSpec.ofChange s) apart (w.forCall tape i).memory i.args)/\({}:Assume).holds C.prog (lone (Frame.enter C.prog f i.args .normal) [] (w.forCall tape i)))
 (body:∀(W:World) (base:Nat) (args:Array Value) (ds gs:List (DataW H)) (before:List MemPlace),
  (∀(j:Nat) t v,fn.params[j]? = some t->args[j]? = some v->Value.okWide C.prog W .any base t v) ->
  DataW.Whole enc C.prog fn.params.toList s.vars apart W args.toList ds gs before->X W->W.ShapedOpen C.prog ->
  Calls C.prog f args W fun e W'=>∃v,e = .returned v/\s.post enc C.prog fn apart fresh handsOn again W args v W') :
 ReturnsInHanded {} C os f .any (fun w args=>(s.pre enc C.prog fn conds apart w args/\X w)/\sizedMet enc C.prog fn (OpenSpec.ofChange s) apart w args) (s.post enc C.prog fn apart fresh handsOn again):=by
 refine returnsInHanded_of_calls own started noInit first fun w tape i _ shape _ okin pre _=>?_;obtain⟨_,_,_,fn2,hfn2,_,_,_,_,vals⟩:=okin;obtain rfl:fn2=fn:=Option.some.inj (hfn2.symm.trans hfn);obtain⟨⟨⟨ds,gs,before,whole,_⟩,hx⟩,_⟩:=pre;refine (body (w.forCall tape i) w.heap.size i.args ds gs before vals (DataW.Whole.of_heap (w':=w.forCall tape i) (by rfl) whole) (hX _ _ (by rfl) hx) shape).mono fun e W' he=>?_;obtain⟨v,rfl,hp⟩:=he;exact ChangeSpec.post_blind hp
theorem Ahp {l:List Ru} {ls:List ByteArray} {v lv:Value} {fuel:Int} {w:World} (hp:Gy w v l) (hL:Gg w lv ls) (hT:Kr w) (hck:ckP 6000 l=0) (hw:B3 [] ls=0) (hf1:0<=fuel) (hf2:fuel<=200000) :
 Calls prog 8 #[.agg #[v],.slice none 0 0,lv,.int .i64 fuel] w fun e w'=>∃a len cap,e = .returned (.tuple #[.agg #[.slice a len cap,.int .i64 (B0 (Be [] 6000 l ls (Cj fuel.toNat))).1,.int .i64 (fuel - ((B0 (Be [] 6000 l ls (Cj fuel.toNat))).2.2:Int))],.int .i64 0])/\len=(B0 (Be [] 6000 l ls (Cj fuel.toNat))).2.1.length/\Below w.heap.size w w'/\Gg w' (.slice a len cap) (B0 (Be [] 6000 l ls (Cj fuel.toNat))).2.1/\len<=cap:=by
 refine (Ahq 6000 w.heap.size l [] ls v (.slice none 0 0) lv fuel w hp ⟨⟨none,0,0,rfl,Nat.le_refl _⟩,none,0,rfl,Nat.zero_le _,fun h=>absurd h (by simp)⟩ hL hT.tr.tb (D4.of hT.pw) hT.mx lr0 (by omega) (by omega)).mono fun e w' hr=>?_;obtain⟨hb,hr⟩:=hr;unfold Kj at hr;rw [hck,if_neg (by simp),hw,if_neg (by simp),if_neg (by omega)] at hr;obtain⟨u,he,hu,-,hc⟩:=hr;have hu2:=hu;obtain⟨a,cap,rfl,-⟩:=hu2;exact⟨a,_,cap,he,rfl,hb,hu,hc.le⟩
end Go.Proofs.YtppcohadoilpgaaGreatDoor
