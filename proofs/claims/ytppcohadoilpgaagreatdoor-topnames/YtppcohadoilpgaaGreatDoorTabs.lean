/-
  The tables of package syntax (words, levels, functions, how many parts a kind has), cell by cell, from the row's own list. / Contract of syntax.isWord. / Contracts of syntax.Name and of the document's own: In, isWord, NameMay (P2.1).
-/
import Derived.Test.YtppcohadoilpgaaGreatDoorGround
import Derived.Lay
import Derived.LaidMore
import Derived.Lib.LaidTab
import Derived.Deep.MidRow
import Derived.Laws.Rows
namespace Go.Proofs.YtppcohadoilpgaaGreatDoor
open Go.ChangeShapes Go.WideShapes Go.ChangeAt Go.RowKit Go.Joins Go.Proofs.Tryz
set_option maxHeartbeats 1000000
theorem Ie {P:Program} {W:World} {name:String} {g:Nat} {t:TypeId} {d:DataW Unit} {r:List (String × DataW Unit)}
 (hg:P.globalNamed name=some g) (hty:(P.globals[g]?).map (·.type)=some t) (h:laidMet P ((name,d) :: r) W) :
 ∃cs u fr,W.heap[g]? = some (.cells cs u fr)/\∃fuel p,DataW.trod (H:=Unit) (fun _=>()) P W 0 (fun _=>true) false fuel t cs.toList=some (d,p):=by
 obtain⟨ps,⟨g',t',cs,fuel,p,q,hg',ht',hvar,hd,_,_⟩,_⟩:=h;obtain rfl:=Option.some.inj (hg.symm.trans hg');obtain rfl:=Option.some.inj (hty.symm.trans ht');simp only [World.var?,hg,Option.bind_some] at hvar;split at hvar
 . rename_i c u fr hh;obtain rfl:=Option.some.inj hvar;exact⟨_,_,_,hh,fuel,p,hd⟩
 . cases hvar
def Zy (l:List UInt8):Value:= .string ⟨l.toArray⟩
theorem Ma {H:Type} {enc:TypeId × Value->H} {P:Program} {W:World} {base:Nat} {sp:Nat->Bool} {held:Bool} {fuel:Nat} {t e:TypeId} {n:Nat} {l:List (List UInt8)} {cs:List Value} {p:List MemPlace}
 (ht:P.underlying t=some (.array n e)) (he:P.underlying e=some .string) (hce:P.cellsOf e=1) (hct:P.cellsOf t=n)
 (hd:DataW.trod enc P W base sp held fuel t cs=some (.agg (l.map fun b=> .lit (.string b)),p)):cs=l.map Zy:=by
 obtain⟨xs,m,_,hx,hl,hxl,hi⟩:=DataW.trod_array ht hd;have hx1:=congrArg Prod.fst hx;simp only [DataW.agg.injEq] at hx1;have hlen:l.length=n:=by have:=congrArg List.length hx1;simp at this;omega
 apply List.ext_getElem?
 intro i
 by_cases hil:i<n
 . have h1:=hi i hil;rw [hce,Nat.mul_one,gee (by omega)] at h1;obtain⟨s,e1,e2,_⟩:=DataW.trod_string he h1;have h2:(xs.map (·.1))[i]? = some (.lit (.string (l.getD i []))):=by rw [<-hx1];simp [List.getD,hlen,hil]
   rw [List.getElem?_map,gee (by omega),e2] at h2;simp only [Option.map_some,Option.some.injEq,DataW.lit.injEq,Lit.string.injEq] at h2;have h3:cs[i]? = some (.string s):=by
    have:=congrArg (fun z:List Value=>z[0]?) e1;simpa [List.getElem?_take,List.getElem?_drop] using this
   rw [h3,List.getElem?_map,gee (by omega)];simp only [List.getD,gee (show i<l.length by omega),Option.getD_some] at h2;simp only [Option.map_some,Option.some.injEq,Zy,Value.string.injEq];rw [<-h2]
 . rw [List.getElem?_eq_none (by omega),List.getElem?_eq_none (by simp;omega)]
def F8 (b:List UInt8 × Int):List Value:= [.string ⟨b.1.toArray⟩,.int .i64 b.2]
theorem Hc {H:Type} {enc:TypeId × Value->H} {P:Program} {W:World} {base:Nat} {sp:Nat->Bool} {held:Bool} {fuel:Nat} {t e:TypeId} {n:Nat} {f0 f1:Field} {l:List (List UInt8 × Int)} {cs:List Value} {p:List MemPlace}
 (ht:P.underlying t=some (.array n e)) (he:P.underlying e=some (.struct #[f0,f1])) (hce:P.cellsOf e=2) (hct:P.cellsOf t=n * 2)
 (o0:f0.offset=0) (o1:f1.offset=1) (c0:P.cellsOf f0.type=1) (c1:P.cellsOf f1.type=1) (h0:P.underlying f0.type=some .string) (h1:P.underlying f1.type=some (.int .i64))
 (hd:DataW.trod enc P W base sp held fuel t cs=some (.agg (l.map fun b=> .agg [.lit (.string b.1),.lit (.int .i64 b.2)]),p)):cs=l.flatMap F8:=by
 obtain⟨xs,m,_,hx,hl,hxl,hi⟩:=DataW.trod_array ht hd;have hx1:=congrArg Prod.fst hx;simp only [DataW.agg.injEq] at hx1;have hlen:l.length=n:=by have:=congrArg List.length hx1;simp at this;omega
 have each:∀i (hil:i<l.length),(cs.drop (i * 2)).take 2=F8 l[i]:=by
  intro i hil;have k1:=hi i (by omega);rw [hce,gee (by omega)] at k1;obtain⟨ys,m2,_,hy,hyl,hys,hf⟩:=DataW.trod_struct he k1;have k2:(xs.map (·.1))[i]? = some (.agg [.lit (.string l[i].1),.lit (.int .i64 l[i].2)]):=by rw [<-hx1];simp [hil]
  rw [List.getElem?_map,gee (by omega),hy] at k2
  match ys,hys with
  | [y0,y1],_ =>
   have g0:=hf 0 f0 rfl;have g1:=hf 1 f1 rfl;simp only [o0,o1,c0,c1,List.getElem?_cons_zero,List.getElem?_cons_succ] at g0 g1;obtain⟨s,e0,z0,_⟩:=DataW.trod_string h0 g0;obtain⟨v,e1,z1,_⟩:=DataW.trod_int h1 g1;subst z0 z1;simp only [List.map_cons,List.map_nil,Option.map_some,Option.some.injEq,DataW.agg.injEq,List.cons.injEq,DataW.lit.injEq,Lit.string.injEq,Lit.int.injEq,true_and,and_true] at k2;rw [hce] at hyl
   match hq:(cs.drop (i * 2)).take 2,hyl with
   | [a,b],_ =>
    rw [hq] at e0 e1;simp at e0 e1;subst e0 e1;simp only [F8];rw [<-k2.1,<-k2.2]
 have key:∀(k:Nat) (r:List (List UInt8 × Int)),l=l.take k ++ r->r.length+k=l.length->cs.drop (k * 2)=r.flatMap F8:=by
  intro k r
  induction r generalizing k with
  | nil=>intro _ hk;rw [List.length_nil] at hk;simp [List.drop_eq_nil_iff];omega
  | cons y r ih =>
   intro h2 hk;have hk2:k<l.length:=by rw [List.length_cons] at hk;omega
   have hy:l[k]=y:=by
    have h3:(l.take k ++ y :: r)[k]? = some y:=by rw [List.getElem?_append_right (by rw [List.length_take];omega),List.length_take,Nat.min_eq_left (by omega),Nat.sub_self];rfl
    rw [<-h2] at h3;rw [gee hk2] at h3;exact Option.some.inj h3
   have h4:=ih (k+1) (by rw [List.take_succ_eq_append_getElem hk2,hy];simpa using h2) (by rw [List.length_cons] at hk;omega);have h5:=each k hk2;rw [hy] at h5;rw [List.flatMap_cons,<-h4,<-h5,show (k+1) * 2=k * 2+2 by omega,<-List.drop_drop,List.take_append_drop]
 have:=key 0 l (by simp) (by simp);simpa using this
def Ig:Array Value:=(C9.map Zy).toArray
def Cp:List (List UInt8 × Int):= [([124,124],1),([38,38],2),([60],3),([60,61],3),([61,61],3),([33,61],3),([62],3),([62,61],3),([105,110],3),([46,46],4),([43],5),([45],5),([42],6),([47],6),([37],6)]
def Ed:Array Value:=(Cp.flatMap F8).toArray
def Dp:List (List UInt8 × Int):= [([108,101,110,103,116,104],1),([105,110,100,101,120],2),([115,117,98,115,116,114],3)]
def Fd:Array Value:=(Dp.flatMap F8).toArray
def Hv:List Int:= [0,0,0,0,1,1,2,1,1,1,3,0,0]
def Fy:List Int:= [0,1,2,2,1,1,1,0,0,1,0]
def J8 (l:List Int):Array Value:=(l.map fun z=>Value.int .i64 z).toArray
def Ao (w:World) (g:Nat) (cs:Array Value):Prop:=∃u fr,w.heap[g]? = some (.cells cs u fr)
theorem Ao.lt {w:World} {g:Nat} {cs:Array Value} (h:Ao w g cs):g<w.heap.size:=by
 obtain⟨u,fr,h⟩:=h;exact (Array.getElem?_eq_some_iff.1 h).1
theorem Ao.stays {w w':World} {g:Nat} {cs:Array Value} (h:Ao w g cs) (hb:w'.heap[g]? = w.heap[g]?):Ao w' g cs:=by
 obtain⟨u,fr,h⟩:=h;exact⟨u,fr,hb.trans h⟩
theorem Ao.below {w w':World} {g:Nat} {cs:Array Value} (h:Ao w g cs) (hb:Below w.heap.size w w'):Ao w' g cs:=h.stays (hb.block _ h.lt)
theorem Ao.cell {w:World} {g:Nat} {cs:Array Value} (h:Ao w g cs) (i:Nat):w.cell? ⟨g,i,none⟩=cs[i]? := by
 obtain⟨u,fr,h⟩:=h;simp [World.cell?,h]
theorem Ao.new (w:World) (cs:Array Value) (t:TypeId):Ao (w.alloc (.cells cs t)) w.heap.size cs:=⟨t,(0,0),by show (w.heap.push _)[w.heap.size]? = _;simp⟩
theorem Ao.load {P:Program} {w:World} {g:Nat} {cs:Array Value} (h:Ao w g cs) {ty:TypeId} {d:TypeDesc} (hu:P.underlying ty=some d) (hd:d.isRow=true) (hi:(P.info? ty).map (·.size)=some cs.size) :
 (Instr.loadAt ty (.pointer (some ⟨g,0,none⟩))).run P w = .ok (.agg cs) w:=by
 have:=run_loadAt_mid (P:=P) w g 0 ty cs.toList d (fun j v hv=>by rw [Nat.zero_add,h.cell j];simpa using hv) hu hd (by simpa using hi);simpa using this
theorem H6 {P:Program} {t e:TypeId} {n:Nat} {d:TypeDesc} {cs:Array Value} {i:Nat} {v:Value} (w:World) (ht:P.underlying t=some (.array n e)) (he:P.underlying e=some d) (hd:d.isRow=false)
 (hs:(P.info? e).map (·.size)=some 1) (hi:i<n) (hv:cs[i]? = some v):(Instr.index t (.agg cs) (.int .i64 (i:Int))).run P w = .ok v w:=by
 cases hq:P.info? e with
 | none=>simp [hq] at hs
 | some f =>
  have hs1:f.size=1:=by simpa [hq] using hs
  have hb:(0<=(i:Int)/\(i:Int)<(n:Int)):=⟨by omega,by omega⟩;have hagg:(isAgg e).run P w = .ok false w:=by
   unfold isAgg;rw [Sem.run_bind,run_underlying he w];cases d <;> simp_all
  simp [Instr.index,run_underlying ht,asIntOf,hb,go_sem,part,hagg,sizeOf,typeInfo,hq,hs1,hv,hi]
theorem F1 {P:Program} {t e:TypeId} {n:Nat} {d:TypeDesc} {cs:Array Value} {i:Nat} {x y:Value} (w:World) (ht:P.underlying t=some (.array n e)) (he:P.underlying e=some d) (hd:d.isRow=true)
 (hs:(P.info? e).map (·.size)=some 2) (hi:i<n) (hv:cs.extract (i * 2) (i * 2+2) = #[x,y]):(Instr.index t (.agg cs) (.int .i64 (i:Int))).run P w = .ok (.agg #[x,y]) w:=by
 cases hq:P.info? e with
 | none=>simp [hq] at hs
 | some f =>
  have hs1:f.size=2:=by simpa [hq] using hs
  have hb:(0<=(i:Int)/\(i:Int)<(n:Int)):=⟨by omega,by omega⟩;have hagg:(isAgg e).run P w = .ok true w:=by
   unfold isAgg;rw [Sem.run_bind,run_underlying he w];cases d <;> simp_all
  simp [Instr.index,run_underlying ht,asIntOf,hb,go_sem,part,hagg,sizeOf,typeInfo,hq,hs1,hv,hi]
def Ij (w:World):Prop:=Ao w 12 Ig
theorem Aep : prog.globalNamed "tillage/syntax.words" = some 12 := by kernel_rfl
theorem Sq {W : World} {r : List (String × DataW Unit)} (hL : laidMet prog (("tillage/syntax.words", Rows.laid_tillage_syntax_words) :: r) W) : Ij W := by
 obtain⟨cs,u,fr,hh,fuel,p,hd⟩:=Ie (t:=232) Aep (by kernel_rfl) hL;have:=Ma (l:=C9) underlying232 underlying9 (by kernel_rfl) (by kernel_rfl) hd;exact⟨u,fr,by rw [hh,Ig,<-this]⟩
set_option maxRecDepth 4000 in
theorem Yo (s:ByteArray) (w:World) (hW:Ij w) :
 Calls prog 157 #[.string s] w fun e w'=>e = .returned (.bool (Eu s))/\w'=w:=by
 have hr:w.rangeAt 12 0 Ig.toList:=fun j v hv=>by rw [Nat.zero_add,hW.cell j];simpa using hv
 obtain⟨A,hA⟩:∃A,A=Ig.toList:=⟨_,rfl⟩;rw [<-hA] at hr;have hn:(prog.info? 232).map (·.size)=some A.length:=by rw [hA];kernel_rfl
 have HR:Hid (w.rangeAt 12 0 A):=hr;have HN:Hid ((prog.info? 232).map (·.size)=some A.length):=hn;have HA:Hid (A=Ig.toList):=hA;clear hA hr hn hW;go_enter func157,ntmps157
 go_wp2_with (refine wpList_load_mid rfl 232 _ rfl 12 0 rfl A _ HR.out underlying232 rfl HN.out ?_)
 go_loop [6] (fun v=>∃k:Nat,k<=16/\v = .int .i64 k/\∀q,q<k->¬s.toList=C9.getD q []) (fun v=>16 - (intOf v).toNat)
 case atStart=>exact⟨0,by omega,rfl,fun q hq=>absurd hq (Nat.not_lt_zero _)⟩
 case round =>
  obtain⟨k,hk,rfl,hq⟩:=hrel;have HQ:Hid (∀q,q<k->¬s.toList=C9.getD q []):=hq;clear hq
  by_cases hk2:k<16
  . have i1:(k:Int)<16:=by omega
    obtain⟨x,hx⟩:∃x:ByteArray,x = ⟨(C9.getD k []).toArray⟩:=⟨_,rfl⟩;have hxl:x.toList=C9.getD k []:=by rw [hx,ByteArray.toList_eq]
    have HX:Hid (x.toList=C9.getD k []):=hxl;have hix:=H6 (P:=prog) (cs:=A.toArray) (v:= .string x) w underlying232 underlying9 rfl (by kernel_rfl) hk2 (by
     rw [HA.out,hx];simp only [Ig,List.getElem?_toArray,List.getElem?_map];rw [gee (by show k<C9.length;exact hk2)];simp [Zy,List.getD,gee (show k<C9.length from hk2)];rfl)
    clear hx hxl
    by_cases he:x.toList=s.toList
    . have hb:(x.toList == s.toList)=true:=by simp [he]
      have HE:Hid (Eu s=true):=by
       unfold Eu;rw [<-he,HX.out];have:∀k,k<16->C9.contains (C9.getD k [])=true:=by decide
       exact this k hk2
      clear he;go_wp2
      go_ret
      exact⟨Am HE.out.symm,rfl⟩
    . have hb:(x.toList == s.toList)=false:=by simp [he]
      have HE:Hid (¬s.toList=C9.getD k []):=fun h=>he (HX.out.trans h.symm);clear he;go_wp2
      go_round
      case rel=>exact⟨k+1,by omega,by go_num,fun q hq=>by
       by_cases e:q=k
       . subst e;exact HE.out
       . exact HQ.out q (by omega)⟩
      case measure=>simp [intOf];omega
  . have i1:¬(k:Int)<16:=by omega
    go_wp2
    go_ret
    refine⟨Am ?_,rfl⟩;unfold Eu
    symm
    have:∀l:List (List UInt8),(∀q,q<l.length->¬s.toList=l.getD q [])->l.contains s.toList=false:=fun l h=>by
     simp only [List.contains_eq_mem,decide_eq_false_iff_not];intro hm;obtain⟨q,hq,e⟩:=List.getElem_of_mem hm;exact h q hq (by simp [List.getD,gee hq,e])
    exact this C9 (fun q hq=>HQ.out q (by have:q<16:=hq;omega))
theorem Ic {s:ByteArray} {k:Nat} (hk:k<s.size):s.toList[k]? = some s[k]:=by
 rw [ByteArray.toList_eq];simp [hk];rfl
set_option maxRecDepth 4000 in
theorem Jo (s:ByteArray) (w:World) (hs:s.size<=maxLen) (hW:Ij w) :
 Calls prog 123 #[.string s] w fun e w'=>e = .returned (.bool (Ct s))/\w'=w:=by
 unfold maxLen at hs
 by_cases h1:(s.size:Int)<1
 . have HN:Hid (Ct s=false):=by simp [Hid,Ct];omega
   go_enter func123,ntmps123
   go_wp2_with fail
   go_ret
   exact⟨Am HN.out.symm,rfl⟩
 . by_cases h2:8<(s.size:Int)
   . have HN:Hid (Ct s=false):=by simp [Hid,Ct];omega
     go_enter func123,ntmps123
     go_wp2_with fail
     go_ret
     exact⟨Am HN.out.symm,rfl⟩
   . have HW:Hid (Ij w):=hW;clear hW;go_enter func123,ntmps123
     go_wp2_with fail
     refine (Yo s w HW.out).mono ?_;rintro e w1 ⟨rfl,rfl⟩;cases hw:Eu s
     . have HL:Hid (Eu s=false):=hw;clear hw;go_wp2_with fail
       go_loop [18] (fun v=>∃k:Nat,k<=s.size/\v = .int .i64 k/\Hid (∀q (hq:q<s.size),q<k->97<=s[q].toNat/\s[q].toNat<=122)) (fun v=>s.size - (intOf v).toNat)
       case atStart=>exact⟨0,by omega,rfl,fun q _ hq=>absurd hq (Nat.not_lt_zero _)⟩
       case round =>
        obtain⟨k,hk,rfl,HQ⟩:=hrel
        by_cases hk2:k<s.size
        . have i1:(k:Int)<(s.size:Int):=by omega
          have i2:(0:Int)<=(k:Int):=by omega
          have hx:s[k]? = some s[k]:=by simp [hk2]
          by_cases a1:(s[k].toNat:Int)<97
          . have hn:Ct s=false:=by
             have:Dr s=false:=by
              unfold Dr;rw [List.all_eq_false];exact⟨s[k],List.mem_of_getElem? (Ic hk2),by simp;omega⟩
             simp [Ct,this]
            have HN:Hid (Ct s=false):=hn;clear hn;go_wp2
            go_ret
            exact⟨Am HN.out.symm,rfl⟩
          . by_cases a2:122<(s[k].toNat:Int)
            . have hn:Ct s=false:=by
               have:Dr s=false:=by
                unfold Dr;rw [List.all_eq_false];exact⟨s[k],List.mem_of_getElem? (Ic hk2),by simp;omega⟩
               simp [Ct,this]
              have HN:Hid (Ct s=false):=hn;clear hn;go_wp2
              go_ret
              exact⟨Am HN.out.symm,rfl⟩
            . have HE:Hid (97<=s[k].toNat/\s[k].toNat<=122):=⟨by omega,by omega⟩;go_wp2
              go_round
              case rel=>exact⟨k+1,by omega,by go_num,fun q h hq=>by
               by_cases e:q=k
               . subst e;exact HE.out
               . exact HQ.out q h (by omega)⟩
              case measure=>simp [intOf];omega
        . have i1:¬(k:Int)<(s.size:Int):=by omega
          have hn:Ct s=true:=by
           have:Dr s=true:=by
            unfold Dr;rw [List.all_eq_true];intro c hc;obtain⟨q,hq,e⟩:=List.getElem_of_mem hc;have hq2:q<s.size:=by rw [ByteArray.toList_eq] at hq;simpa using hq
            have e2:s[q]=c:=by
             have:=Ic hq2;rw [gee hq,e] at this;exact (Option.some.inj this).symm
            have:=HQ.out q hq2 (by omega);rw [e2] at this;exact decide_eq_true this
           simp [Ct,this,HL.out];omega
          have HN:Hid (Ct s=true):=hn;clear hn;go_wp2
          go_ret
          exact⟨Am HN.out.symm,rfl⟩
     . have HN:Hid (Ct s=false):=by simp [Hid,Ct,hw]
       go_wp2_with fail
       go_ret
       exact⟨Am HN.out.symm,rfl⟩
end Go.Proofs.YtppcohadoilpgaaGreatDoor
