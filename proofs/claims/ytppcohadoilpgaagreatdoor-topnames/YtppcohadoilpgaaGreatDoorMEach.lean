/-
  The machine's Keys: those of a list, in the order of their bytes. / The machine's each.
-/
import Derived.Test.YtppcohadoilpgaaGreatDoorMStep
import Derived.Test.YtppcohadoilpgaaGreatDoorIter
import Derived.Maps.Ext
import Derived.Test.YtppcohadoilpgaaGreatDoorMBran
import Derived.Deep.RegionHeld2
import Derived.OwnWalk
namespace Go.Proofs.YtppcohadoilpgaaGreatDoor
open Go.ChangeShapes Go.WideShapes Go.ChangeAt Go.RowKit Go.Joins Go.Maps Go.Proofs.Tryz
set_option maxHeartbeats 4000000
set_option linter.unusedVariables false
set_option maxRecDepth 100000
theorem Nf:∀(a b:List UInt8),bytesBefore a b=true->a<=b
 | [],[],h=>by simp [bytesBefore] at h
 | [],y :: b,h=>by simp
 | x :: a,[],h=>by simp [bytesBefore] at h
 | x :: a,y :: b,h=>by
  simp only [bytesBefore,Bool.or_eq_true,decide_eq_true_eq,Bool.and_eq_true,beq_iff_eq] at h;rw [List.cons_le_cons_iff];rcases h with h | ⟨h1,h2⟩
  . exact .inl h
  . exact .inr ⟨h1,Nf a b h2⟩
theorem Rg {w:World} {b n:Nat} {t:Tab} (h:w.ownsMap prog 9 Gh b n (Em t)):(t.map (·.1)).Pairwise (fun x y=>x<=y):=by
 obtain⟨es,he,hp,_⟩:=h.canon Iy;unfold Em at he;cases he;rw [List.pairwise_map] at hp ⊢;exact hp.imp fun {p q} h=>Nf _ _ h
theorem Yr (t:Tab):Go.strKeys (Em t)=t.map (·.1):=by
 show (t.map Kk).map _=_;rw [List.map_map];rfl
def Qe (B:Nat) (w:World) (v:Value) (l:List (List UInt8)):Prop:=w.ownsRow B 9 1 v l.length (l.map encStr)
theorem Aex (c:Cx) (O:Own) (w:World) (s:Ms) (j:Nat) (x:ByteArray) (hM:Mc c O w s j) (hx:x.size<=200) :
 Calls prog 173 #[.pointer (some ⟨c.r,0,none⟩),.string x] w fun e w'=>∃v,e = .returned v/\Qe w.heap.size w' v ((s.lists x).map (·.1))/\Below w.heap.size w w':=by
 obtain⟨bv,bl,fl,ol,m1,m2,m3,m4,m5⟩:=hM.mem;have c1:=m1.c1;obtain⟨q,hlk,hq⟩:=m3.look (t:=x) (by unfold maxLen;omega);have hlk0:=hlk w rfl;have hf:=hM.fit.few x;rcases hq with⟨rfl,h0⟩ | ⟨k,rfl,hk,hown⟩
 . have HK:=hid (callsIn_wide.1 (Tryz.maps_Keys_191 none w));have HS:=hid (callsIn_wide.1 (Tryz.slices_Sorted_keys_nil_190_191 w));have HE:Hid ((s.lists x).map (·.1) = []):=by rw [h0];rfl
   clear hM m1 m2 m3 m4 m5 hlk h0 hf;go_enter func173,ntmps173
   go_wp2_with fail
   refine Calls.mono HK.out ?_;rintro e w1 ⟨rfl,hw1⟩;rw [hw1];clear hw1 w1 HK;go_wp2_with fail
   refine Calls.mono HS.out ?_;rintro e w2 ⟨v,ss,rfl,rfl,hrow,-,hb⟩;have HF:Hid (Qe w.heap.size w2 v ((s.lists x).map (·.1))/\Below w.heap.size w w2):=by
    refine⟨?_,Aa (br0.alloc lr0 _) hb⟩;rw [HE.out];refine⟨by simp,?_⟩;rcases hrow.2 with⟨h1,h2⟩ | ⟨g,cap,cur,h1,h2,h3⟩
    . exact .inl ⟨h1,rfl⟩
    . exact .inr ⟨g,cap,cur,h1,by simp at h2;omega,by simpa using h3⟩
   clear hrow hb HS;go_wp2_with fail
   go_ret
   exact⟨_,rfl,HF.out⟩
 . have HK:=hid (callsIn_wide.1 (Tryz.maps_Keys_191 (some k) w));have hsz:Maps.size (Em (s.lists x))=(s.lists x).length:=Jz _;have HS:=hid (callsIn_wide.1 (Tryz.slices_Sorted_keys_190_191 k _ _ Gh w hown (by rw [hsz];unfold maxLen;omega) (by rw [hsz];omega)));have HSO:Hid (((s.lists x).map (·.1)).Pairwise (fun x y=>x<=y)):=Rg hown;clear hM m1 m2 m3 m4 m5 hlk hsz hf hown;go_enter func173,ntmps173
   go_wp2_with fail
   refine Calls.mono HK.out ?_;rintro e w1 ⟨rfl,hw1⟩;rw [hw1];clear hw1 w1 HK;go_wp2_with fail
   refine Calls.mono HS.out ?_;rintro e w2 ⟨v,ss,rfl,hp,hrow,-,hb⟩;have HF:Hid (Qe w.heap.size w2 v ((s.lists x).map (·.1))/\Below w.heap.size w w2):=by
    refine⟨?_,Aa (br0.alloc lr0 _) hb⟩;rw [Yr] at hp;have e1:ss.mergeSort (fun x y=>decide (x<=y))=(s.lists x).map (·.1):=by
     have h1:=Go.mergeSort_of_perm hp;have h2:((s.lists x).map (·.1)).mergeSort (fun x y=>decide (x<=y))=(s.lists x).map (·.1):=List.mergeSort_of_pairwise (HSO.out.imp fun h=>by simpa using h);exact h1.trans h2
    rw [e1,hp.length_eq] at hrow;refine⟨hrow.1,?_⟩;rcases hrow.2 with⟨h1,h2⟩ | ⟨g,cap,cur,h1,h2,h3⟩
    . exact .inl ⟨h1,h2⟩
    . exact .inr ⟨g,cap,cur,h1,by simp at h2;omega,h3⟩
   clear hp hrow hb HS;go_wp2_with fail
   go_ret
   exact⟨_,rfl,HF.out⟩
theorem Qe.parts {B:Nat} {w:World} {v:Value} {l:List (List UInt8)} (h:Qe B w v l):∃(ka:Option Addr) (kcap:Nat),v = .slice ka l.length kcap/\l.length<=maxLen/\(0<l.length->∃g,ka=some ⟨g,0,none⟩/\B<=g/\g<w.heap.size/\∀i (hi:i<l.length),w.cell? ⟨g,i,none⟩=some (.string ⟨l[i].toArray⟩)):=by
 have h0:w.ownsRow B 9 1 v l.length (l.map encStr):=h;rcases h0.2 with⟨rfl,e⟩ | ⟨g,cap,cur,rfl,h1,h2,h3,h4,-⟩
 . exact⟨none,0,by rw [e],by omega,fun hl=>by omega⟩
 . refine⟨_,cap,rfl,lq0 h3 h4,fun _=>⟨g,rfl,(h0.lt g rfl).1,(h0.lt g rfl).2,fun i hi=>?_⟩⟩;have:=h0.cells (g:=g) rfl i (.string ⟨l[i].toArray⟩) (by rw [List.getElem?_map,gee hi];rfl);rw [Addr.add_lit,Nat.zero_add] at this;exact this
def EaI (c:Cx) (O:Own) (w wr:World) (j:Nat) (f:Ms->List UInt8->Om) (K:List (List UInt8)) (R:Om) (i:Nat):Prop:=∃O' s',Gr w O O'/\Bts O w wr/\Mc c O' wr s' j/\R=A0 f (K.drop i) s'
theorem Aa4 {m:Nat} (hS:DoC m) (c:Cx) (O:Own) (w:World) (s:Ms) (j:Nat) (a t:ByteArray) (es:List Ex) (bd el:List Sm) (cs:List Value) (hM:Mc c O w s j) (hx:SmA c.B w (m+1) cs (.mk 7 a t es bd el)) (hok:okS (m+1) (.mk 7 a t es bd el)) (hfe:C6 (m+1) (.mk 7 a t es bd el)) :
 Calls prog 147 #[.pointer (some ⟨c.r,0,none⟩),.agg cs.toArray] w (Ak c O w j (A0 (fun s key=>Az s fun s=>A0 (Ag c.F m) bd (Dz s a (vS ⟨key.toArray⟩))) ((s.lists t).map (·.1)) s) Value.bool):=by
 obtain⟨v1,v2,v3,rfl,wk,wa,wt,⟨ea,ecap,rfl,hmax,hsl⟩,hv2,hv3⟩:=hx;obtain⟨-,-,hpa,hs2,ht2,hall,hob,hoe⟩:=hok;obtain⟨-,hfb,hfl⟩:=hfe;obtain⟨R,hR⟩:∃R,R=A0 (fun s key=>Az s fun s=>A0 (Ag c.F m) bd (Dz s a (vS ⟨key.toArray⟩))) ((s.lists t).map (·.1)) s:=⟨_,rfl⟩;rw [<-hR];have HR0:Hid (R=_):=hR;clear hR;have hrw:c.r<w.heap.size:=hM.lt;have hrn:¬c.r=w.heap.size:=by omega
 have HLO:Hid ((∀b,b<c.B->O b=none)/\c.B<=w.heap.size):=⟨hM.low,hM.lo.size⟩;have HTOP:Hid (O w.heap.size=none):=hM.top _ lr0;obtain⟨a2,cap2,hq2,-⟩:=id hv2;subst hq2;obtain⟨a3,cap3,hq3,-⟩:=id hv3;subst hq3;have HST:Hid (∀(Z:World) (O':Own) (s':Ms) (j':Nat),Below c.B w Z->Mc c O' Z s' j'->(Calls prog 80 #[.pointer (some ⟨c.r,0,none⟩),.slice a2 bd.length cap2] Z (Ak c O' Z j' (A0 (Ag c.F m) bd s') Value.bool))/\Calls prog 80 #[.pointer (some ⟨c.r,0,none⟩),.slice a3 el.length cap3] Z (Ak c O' Z j' (A0 (Ag c.F m) el s') Value.bool)):=fun Z O' s' j' hZ hM'=>⟨D7 hS c O' Z s' j' bd _ hM' (Ea hv2 hZ) hob hfb,D7 hS c O' Z s' j' el _ hM' (Ea hv3 hZ) hoe hfl⟩;show Calls prog 147 #[.pointer (some ⟨c.r,0,none⟩),.agg #[.int .i64 7,.string a,.string t,.slice ea es.length ecap,.slice a2 bd.length cap2,.slice a3 el.length cap3]] w _
 obtain⟨W,hW⟩:∃W,W=w.alloc (.cells #[.int .i64 7,.string a,.string t,.slice ea es.length ecap,.slice a2 bd.length cap2,.slice a3 el.length cap3] 54):=⟨_,rfl⟩;have HW:Hid (Below w.heap.size w W):=by rw [hW];exact br0.alloc lr0 _
 have HM:Hid (Mc c O W s j):=hM.below HW.out;have HWW:Hid (W=_):=hW;have hws:w.heap.size<W.heap.size:=by rw [hW];simp
 have l1:W.cell? ⟨w.heap.size,1,none⟩=some (.string a):=by rw [hW];simp [go_sem]
 have l2:W.cell? ⟨w.heap.size,2,none⟩=some (.string t):=by rw [hW];simp [go_sem]
 have l4:W.cell? ⟨w.heap.size,4,none⟩=some (.slice a2 bd.length cap2):=by rw [hW];simp [go_sem]
 have HKE:=hid (Aex c O W s j t HM.out ht2);obtain⟨f,hf⟩:∃f:Ms->List UInt8->Om,f=fun s key=>Az s fun s=>A0 (Ag c.F m) bd (Dz s a (vS ⟨key.toArray⟩)):=⟨_,rfl⟩;rw [<-hf] at HR0;have HFE:Hid (∀s key,f s key=Az s fun s=>A0 (Ag c.F m) bd (Dz s a (vS ⟨key.toArray⟩))):=fun s key=>by rw [hf]
 clear hsl hall wk wa wt hM hW hpa hv2 hv3 hob hoe hfb hfl hS hmax hf;go_enter func147,ntmps147
 go_wp2_with fail
 rw [<-HWW.out];clear HWW;refine Calls.mono HKE.out ?_;rintro e w1 ⟨kv,rfl,hrow,hb1⟩;obtain⟨K,hK⟩:∃K,K=(s.lists t).map (·.1):=⟨_,rfl⟩;have HKS:Hid (∀k ∈ K,k.length<=200):=fun k hk=>by
  rw [hK] at hk;obtain⟨p,hp,rfl⟩:=List.mem_map.1 hk;exact (HM.out.fit.lists t p hp).2
 rw [<-hK] at hrow HR0;obtain⟨ka,kcap,rfl,hkm,hkc⟩:=hrow.parts;have HRW:=hid hkc;have HBW1:=hid hb1;have HM1:=hid (HM.out.below hb1);have HT:Hid (∀g,W.heap.size<=g->O g=none):=fun g hg=>HM.out.top g hg;have hw1:w.heap.size<w1.heap.size:=lle hws hb1.size;have hr1:c.r<w1.heap.size:=HM1.out.lt;have HBW:Hid (Bts O w w1):=Bts.of_below (Aa HW.out hb1);have m1:w1.cell? ⟨w.heap.size,1,none⟩=some (.string a):=(hb1.cell (p:=⟨w.heap.size,1,none⟩) hws).trans l1;have m4:w1.cell? ⟨w.heap.size,4,none⟩=some (.slice a2 bd.length cap2):=(hb1.cell (p:=⟨w.heap.size,4,none⟩) hws).trans l4;have HMX:Hid ((K.length:Int)<=9223372036854775807):=by unfold Hid;unfold maxLen at hkm;omega
 have HI0:Hid (EaI c O w1 w1 j f K R 0):=⟨O,s,Gr.refl _ _,Bts.refl _ _,HM1.out,HR0.out⟩;clear hrow hb1 hkc hK hkm l1 l2 l4 HKE HM1 HM HR0 HW;go_wp2_with fail
 go_loopw [12] (fun v12 wr=>∃i:Nat,i<=K.length/\v12 = .int .i64 i/\Hid (EaI c O w1 wr j f K R i)) (fun v12 _=>K.length - (intOf v12).toNat)
 case atStart=>exact⟨0,Nat.zero_le _,rfl,HI0.out⟩
 case round =>
  obtain⟨i,hil,rfl,HV⟩:=hrel;obtain⟨O1,s1,hG,hbt,hM1,hR⟩:=HV.out;have HD:=hid (And.intro hG (And.intro hbt (And.intro hM1 hR)));clear HV HI0
  by_cases hlt:i<K.length
  . have i1:(i:Int)<(K.length:Int):=by omega
    have i2:(0:Int)<=(i:Int):=by omega
    have i3: -9223372036854775808<=(i:Int)+1:=by omega
    have i4:(i:Int)+1<=9223372036854775807:=by have:=HMX.out;omega
    obtain⟨g,rfl,hgW,hg1,hcell⟩:=HRW.out (by omega);obtain⟨ky,hky⟩:∃ky:ByteArray,ky = ⟨K[i].toArray⟩:=⟨_,rfl⟩;have hcl:=hcell i hlt;rw [<-hky] at hcl;have kc:wr.cell? ⟨g,i,none⟩=some (.string ky):=(hbt.cell hg1 (HT.out g hgW) _).trans hcl;have HKL:Hid (ky.size<=200):=by
     have:=HKS.out K[i] (List.getElem_mem hlt);unfold Hid;rw [hky,show (⟨K[i].toArray⟩:ByteArray).size=K[i].length by simp [ByteArray.size]];exact this
    have HRX:Hid (R=(Az s1 fun s=>A0 (Ag c.F m) bd (Dz s a (vS ky))).then (A0 f (K.drop (i+1)))):=by
     unfold Hid;rw [hR,List.drop_eq_getElem_cons hlt,hky,<-HFE.out];rfl
    have HBR:Hid (Bts O w wr):=HBW.out.trans hbt (Gr.refl _ _);have HGR:Hid (Gr w O O1):=hG.after HBW.out.size;have HMR:Hid (Mc c O1 wr s1 j):=hM1;have hwr:w.heap.size<wr.heap.size:=lle hw1 hbt.size;have HON:Hid (O1 w.heap.size=none):=hG _ hw1 HTOP.out;have r1:wr.cell? ⟨w.heap.size,1,none⟩=some (.string a):=(hbt.cell hw1 HTOP.out _).trans m1;have r4:wr.cell? ⟨w.heap.size,4,none⟩=some (.slice a2 bd.length cap2):=(hbt.cell hw1 HTOP.out _).trans m4;clear hG hbt hM1 hR hcell hcl hky m1 m4 HRW hgW hg1 HFE HKS
    by_cases h0:s1.left=0
    . have HR3:Hid (R = .stop s1 1):=by unfold Hid;rw [HRX.out];unfold Az;rw [if_pos h0];rfl
      have HBN:=hid (C0 c O1 wr s1 j HMR.out h0);clear h0 HST;go_wp2_with fail
      refine Calls.mono HBN.out ?_;rintro e w2 ⟨rfl,hb2⟩;have HB2:Hid (Below wr.heap.size wr w2):=hb2;clear hb2 HBN;go_wp2_with fail
      exact⟨rfl,Ak.stop (HBR.out.more HB2.out) HR3.out HGR.out (HMR.out.below HB2.out).ou⟩
    have HR3:Hid (R=(A0 (Ag c.F m) bd (Dz { s1 with left:=s1.left - 1 } a (vS ky))).then (A0 f (K.drop (i+1)))):=by unfold Hid;rw [HRX.out];unfold Az;rw [if_neg h0]
    have HBC:=hid (D5 c O1 wr s1 j HMR.out h0);obtain⟨s2,hs2e⟩:∃s2:Ms,s2 = { s1 with left:=s1.left - 1 }:=⟨_,rfl⟩;rw [<-hs2e] at HR3 HBC;clear h0 hs2e HRX;go_wp2_with fail
    refine Calls.mono HBC.out ?_;rintro e w2 ⟨rfl,hbt2,hM2⟩;have HBT2:Hid (Bts O w w2):=HBR.out.trans hbt2 HGR.out;have HM2:=hid hM2;obtain⟨bv,bl,d0,d1,hbv,hbl⟩:=hM2.maps;have n1:w2.cell? ⟨w.heap.size,1,none⟩=some (.string a):=(hbt2.cell hwr HON.out _).trans r1;have n4:w2.cell? ⟨w.heap.size,4,none⟩=some (.slice a2 bd.length cap2):=(hbt2.cell hwr HON.out _).trans r4;have hrw2:c.r<w2.heap.size:=hM2.lt;have hsw2:w.heap.size<w2.heap.size:=lle hwr hbt2.size;have hvr:¬c.r=bv:=fun e=>by have h:=hM2.own;rw [e,hbv] at h;cases h
    have hvw:¬w.heap.size=bv:=fun e=>by have h:=HON.out;rw [e,hbv] at h;cases h
    have HBV:Hid (O1 bv=some .vars):=hbv;have HBA:Hid (Bts O1 wr w2):=hbt2;have HTX:=hid (J0 ky w2.drew);clear hbt2 hM2 HBC kc r1 r4 d1 hbl hbv;go_wp2_with fail
    go_region_held2 (fun w'=>w'.cell? ⟨c.r,0,none⟩=some (.map (some bv))/\w'.cell? ⟨w.heap.size,1,none⟩=some (.string a)/\w'.cell? ⟨w.heap.size,4,none⟩=some (.slice a2 bd.length cap2)) (go_keep) (first
     | (with_reducible refine Calls.mono HTX.out ?_
        rintro e w3 ⟨rfl,hb3⟩;have HB3:Hid (Below w2.heap.size w2 w3):=Aa (Ad _) hb3;have rd0:w3.cell? ⟨c.r,0,none⟩=some (.map (some bv)):=(HB3.out.cell (p:=⟨c.r,0,none⟩) hrw2).trans d0;have rn1:w3.cell? ⟨w.heap.size,1,none⟩=some (.string a):=(HB3.out.cell (p:=⟨w.heap.size,1,none⟩) hsw2).trans n1;have rn4:w3.cell? ⟨w.heap.size,4,none⟩=some (.slice a2 bd.length cap2):=(HB3.out.cell (p:=⟨w.heap.size,4,none⟩) hsw2).trans n4;obtain⟨w4,hrun,h1,-,hMc⟩:=(HM2.out.below HB3.out).setVar (nm:=a) (by unfold maxLen;omega) (N9 HKL.out) rd0;unfold vS at hrun;simp only at hrun;have hz3:w2.heap.size<=w3.heap.size:=HB3.out.size;have vd0:w4.cell? ⟨c.r,0,none⟩=some (.map (some bv)):=(World.cell?_of_block (a:=⟨c.r,0,none⟩) (h1.block _ (by simp only;omega) (by simp only;assumption))).trans rd0
        have vn1:w4.cell? ⟨w.heap.size,1,none⟩=some (.string a):=(World.cell?_of_block (a:=⟨w.heap.size,1,none⟩) (h1.block _ (by simp only;omega) (by simp only;assumption))).trans rn1;have vn4:w4.cell? ⟨w.heap.size,4,none⟩=some (.slice a2 bd.length cap2):=(World.cell?_of_block (a:=⟨w.heap.size,4,none⟩) (h1.block _ (by simp only;omega) (by simp only;assumption))).trans rn4;have HM4:Hid (Mc c O1 w4 (Dz s2 a (vS ky)) j):=hMc;have HB4:Hid (Bts O1 w2 w4):=(Bts.of_below (O:=O1) HB3.out).trans (h1.bts HBV.out) (Gr.refl _ _);have HBT4:Hid (Bts O w w4):=HBT2.out.trans HB4.out HGR.out;clear hMc h1 hb3 HTX))
    have HSS:=hid ((HST.out w4 O1 _ j (HBT4.out.below HLO.out.2 HLO.out.1) HM4.out).1);clear HST;go_wp2_with fail
    refine Calls.mono HSS.out ?_;intro e w5 hd;have HB5:Hid (Bts O1 wr w5):=(HBA.out.trans HB4.out (Gr.refl _ _)).trans hd.1 (Gr.refl _ _);have HSZ:Hid (wr.heap.size<=w4.heap.size):=lq0 HBA.out.size HB4.out.size;rcases hd.cases with⟨s9,er,h9,rfl⟩ | ⟨s9,b9,O9,h9,rfl,hG9,hMc9⟩
    . have HF:=hid (Ak.chain HBT4.out HGR.out (Ak.same (R':=R) hd (by rw [HR3.out,Gd h9,h9])));clear hd h9 HSS;go_wp2_with fail
      exact⟨rfl,HF.out⟩
    cases b9 with
    | false =>
     have HF:=hid (Ak.chain HBT4.out HGR.out (Ak.same (R':=R) hd (by rw [HR3.out,Hq h9,h9])));clear hd h9 hG9 hMc9 HSS;go_wp2_with fail
     go_ret
     exact HF.out
    | true =>
     have HNX:Hid (EaI c O w1 w5 j f K R (i+1)):=⟨O9,s9,HD.out.1.trans (hG9.after HSZ.out) HD.out.2.1.size,HD.out.2.1.trans HB5.out HD.out.1,hMc9,by rw [HR3.out,I7 h9]⟩;clear hd h9 hG9 hMc9 HSS;go_wp2_with fail
     go_roundw
     case rel=>exact⟨i+1,by omega,by go_num,HNX.out⟩
     case measure=>simp [intOf];omega
  . have i1:¬(i:Int)<(K.length:Int):=by omega
    have HE:Hid (R = .go s1 true):=by unfold Hid;rw [hR,List.drop_eq_nil_of_le (by omega)];rfl
    clear hG hbt hM1 hR;go_wp2_with fail
    go_ret
    exact Ak.go (K:=Value.bool) (HBW.out.trans HD.out.2.1 (Gr.refl _ _)) HE.out (HD.out.1.after HBW.out.size) HD.out.2.2.1
end Go.Proofs.YtppcohadoilpgaaGreatDoor
