/-
  The tables of package syntax (words, levels, functions, how many parts a kind has), cell by cell, from the row's own list. / Contract of syntax.isWord. / Contracts of syntax.Name and of the document's own: In, isWord, NameMay (P2.1).
-/
import Derived.Test.YtodjbffhlklpkaaGreatDoorGround
import Derived.Lay
import Derived.LaidMore
import Derived.Lib.LaidTab
import Derived.Deep.MidRow
import Derived.Laws.Rows
namespace Go.Proofs.YtodjbffhlklpkaaGreatDoor
open Go.ChangeShapes Go.WideShapes Go.ChangeAt Go.RowKit Go.Joins
set_option maxHeartbeats 1000000
theorem row_of {P:Program} {W:World} {name:String} {g:Nat} {t:TypeId} {d:DataW Unit} {r:List (String × DataW Unit)}
 (hg:P.globalNamed name=some g) (hty:(P.globals[g]?).map (·.type)=some t) (h:laidMet P ((name,d) :: r) W) :
 ∃cs u fr,W.heap[g]? = some (.cells cs u fr)/\∃fuel p,DataW.trod (H:=Unit) (fun _=>()) P W 0 (fun _=>true) false fuel t cs.toList=some (d,p):=by
 obtain⟨ps,⟨g',t',cs,fuel,p,q,hg',ht',hvar,hd,_,_⟩,_⟩:=h
 obtain rfl:=Option.some.inj (hg.symm.trans hg')
 obtain rfl:=Option.some.inj (hty.symm.trans ht')
 simp only [World.var?,hg,Option.bind_some] at hvar
 split at hvar
 . rename_i c u fr hh
   obtain rfl:=Option.some.inj hvar
   exact⟨_,_,_,hh,fuel,p,hd⟩
 . cases hvar
def strV (l:List UInt8):Value:= .string ⟨l.toArray⟩
theorem strs_cells {H:Type} {enc:TypeId × Value->H} {P:Program} {W:World} {base:Nat} {sp:Nat->Bool} {held:Bool} {fuel:Nat} {t e:TypeId} {n:Nat} {l:List (List UInt8)} {cs:List Value} {p:List MemPlace}
 (ht:P.underlying t=some (.array n e)) (he:P.underlying e=some .string) (hce:P.cellsOf e=1) (hct:P.cellsOf t=n)
 (hd:DataW.trod enc P W base sp held fuel t cs=some (.agg (l.map fun b=> .lit (.string b)),p)):cs=l.map strV:=by
 obtain⟨xs,m,_,hx,hl,hxl,hi⟩:=DataW.trod_array ht hd
 have hx1:=congrArg Prod.fst hx
 simp only [DataW.agg.injEq] at hx1
 have hlen:l.length=n:=by have:=congrArg List.length hx1;simp at this;omega
 apply List.ext_getElem?
 intro i
 by_cases hil:i<n
 . have h1:=hi i hil
   rw [hce,Nat.mul_one,List.getElem?_eq_getElem (by omega)] at h1
   obtain⟨s,e1,e2,_⟩:=DataW.trod_string he h1
   have h2:(xs.map (·.1))[i]? = some (.lit (.string (l.getD i []))):=by rw [<-hx1];simp [List.getD,hlen,hil]
   rw [List.getElem?_map,List.getElem?_eq_getElem (by omega),e2] at h2
   simp only [Option.map_some,Option.some.injEq,DataW.lit.injEq,Lit.string.injEq] at h2
   have h3:cs[i]? = some (.string s):=by
    have:=congrArg (fun z:List Value=>z[0]?) e1
    simpa [List.getElem?_take,List.getElem?_drop] using this
   rw [h3,List.getElem?_map,List.getElem?_eq_getElem (by omega)]
   simp only [List.getD,List.getElem?_eq_getElem (show i<l.length by omega),Option.getD_some] at h2
   simp only [Option.map_some,Option.some.injEq,strV,Value.string.injEq]
   rw [<-h2]
 . rw [List.getElem?_eq_none (by omega),List.getElem?_eq_none (by simp;omega)]
def pairV (b:List UInt8 × Int):List Value:= [.string ⟨b.1.toArray⟩,.int .i64 b.2]
theorem pairs_cells {H:Type} {enc:TypeId × Value->H} {P:Program} {W:World} {base:Nat} {sp:Nat->Bool} {held:Bool} {fuel:Nat} {t e:TypeId} {n:Nat} {f0 f1:Field} {l:List (List UInt8 × Int)} {cs:List Value} {p:List MemPlace}
 (ht:P.underlying t=some (.array n e)) (he:P.underlying e=some (.struct #[f0,f1])) (hce:P.cellsOf e=2) (hct:P.cellsOf t=n * 2)
 (o0:f0.offset=0) (o1:f1.offset=1) (c0:P.cellsOf f0.type=1) (c1:P.cellsOf f1.type=1) (h0:P.underlying f0.type=some .string) (h1:P.underlying f1.type=some (.int .i64))
 (hd:DataW.trod enc P W base sp held fuel t cs=some (.agg (l.map fun b=> .agg [.lit (.string b.1),.lit (.int .i64 b.2)]),p)):cs=l.flatMap pairV:=by
 obtain⟨xs,m,_,hx,hl,hxl,hi⟩:=DataW.trod_array ht hd
 have hx1:=congrArg Prod.fst hx
 simp only [DataW.agg.injEq] at hx1
 have hlen:l.length=n:=by have:=congrArg List.length hx1;simp at this;omega
 have each:∀i (hil:i<l.length),(cs.drop (i * 2)).take 2=pairV l[i]:=by
  intro i hil
  have k1:=hi i (by omega)
  rw [hce,List.getElem?_eq_getElem (by omega)] at k1
  obtain⟨ys,m2,_,hy,hyl,hys,hf⟩:=DataW.trod_struct he k1
  have k2:(xs.map (·.1))[i]? = some (.agg [.lit (.string l[i].1),.lit (.int .i64 l[i].2)]):=by rw [<-hx1];simp [hil]
  rw [List.getElem?_map,List.getElem?_eq_getElem (by omega),hy] at k2
  match ys,hys with
  | [y0,y1],_ =>
   have g0:=hf 0 f0 rfl
   have g1:=hf 1 f1 rfl
   simp only [o0,o1,c0,c1,List.getElem?_cons_zero,List.getElem?_cons_succ] at g0 g1
   obtain⟨s,e0,z0,_⟩:=DataW.trod_string h0 g0
   obtain⟨v,e1,z1,_⟩:=DataW.trod_int h1 g1
   subst z0 z1
   simp only [List.map_cons,List.map_nil,Option.map_some,Option.some.injEq,DataW.agg.injEq,List.cons.injEq,DataW.lit.injEq,Lit.string.injEq,Lit.int.injEq,true_and,and_true] at k2
   rw [hce] at hyl
   match hq:(cs.drop (i * 2)).take 2,hyl with
   | [a,b],_ =>
    rw [hq] at e0 e1
    simp at e0 e1
    subst e0 e1
    simp only [pairV]
    rw [<-k2.1,<-k2.2]
 have key:∀(k:Nat) (r:List (List UInt8 × Int)),l=l.take k ++ r->r.length+k=l.length->cs.drop (k * 2)=r.flatMap pairV:=by
  intro k r
  induction r generalizing k with
  | nil=>intro _ hk;rw [List.length_nil] at hk;simp [List.drop_eq_nil_iff];omega
  | cons y r ih =>
   intro h2 hk
   have hk2:k<l.length:=by rw [List.length_cons] at hk;omega
   have hy:l[k]=y:=by
    have h3:(l.take k ++ y :: r)[k]? = some y:=by rw [List.getElem?_append_right (by rw [List.length_take];omega),List.length_take,Nat.min_eq_left (by omega),Nat.sub_self];rfl
    rw [<-h2] at h3
    rw [List.getElem?_eq_getElem hk2] at h3
    exact Option.some.inj h3
   have h4:=ih (k+1) (by rw [List.take_succ_eq_append_getElem hk2,hy];simpa using h2) (by rw [List.length_cons] at hk;omega)
   have h5:=each k hk2
   rw [hy] at h5
   rw [List.flatMap_cons,<-h4,<-h5,show (k+1) * 2=k * 2+2 by omega,<-List.drop_drop,List.take_append_drop]
 have:=key 0 l (by simp) (by simp)
 simpa using this
def wordsA:Array Value:=(wordsL.map strV).toArray
def levelsL:List (List UInt8 × Int):= [([124,124],1),([38,38],2),([60],3),([60,61],3),([61,61],3),([33,61],3),([62],3),([62,61],3),([105,110],3),([46,46],4),([43],5),([45],5),([42],6),([47],6),([37],6)]
def levelsA:Array Value:=(levelsL.flatMap pairV).toArray
def funcsL:List (List UInt8 × Int):= [([108,101,110,103,116,104],1),([105,110,100,101,120],2),([115,117,98,115,116,114],3)]
def funcsA:Array Value:=(funcsL.flatMap pairV).toArray
def argsL:List Int:= [0,0,0,0,1,1,2,1,1,1,3,0,0]
def exprsL:List Int:= [0,1,2,2,1,1,1,0,0,1,0]
def intsA (l:List Int):Array Value:=(l.map fun z=>Value.int .i64 z).toArray
def RowAt (w:World) (g:Nat) (cs:Array Value):Prop:=∃u fr,w.heap[g]? = some (.cells cs u fr)
theorem RowAt.lt {w:World} {g:Nat} {cs:Array Value} (h:RowAt w g cs):g<w.heap.size:=by
 obtain⟨u,fr,h⟩:=h
 exact (Array.getElem?_eq_some_iff.1 h).1
theorem RowAt.stays {w w':World} {g:Nat} {cs:Array Value} (h:RowAt w g cs) (hb:w'.heap[g]? = w.heap[g]?):RowAt w' g cs:=by
 obtain⟨u,fr,h⟩:=h
 exact⟨u,fr,hb.trans h⟩
theorem RowAt.below {w w':World} {g:Nat} {cs:Array Value} (h:RowAt w g cs) (hb:Below w.heap.size w w'):RowAt w' g cs:=h.stays (hb.block _ h.lt)
theorem RowAt.cell {w:World} {g:Nat} {cs:Array Value} (h:RowAt w g cs) (i:Nat):w.cell? ⟨g,i,none⟩=cs[i]? := by
 obtain⟨u,fr,h⟩:=h
 simp [World.cell?,h]
theorem RowAt.new (w:World) (cs:Array Value) (t:TypeId):RowAt (w.alloc (.cells cs t)) w.heap.size cs:=⟨t,(0,0),by show (w.heap.push _)[w.heap.size]? = _;simp⟩
theorem RowAt.load {P:Program} {w:World} {g:Nat} {cs:Array Value} (h:RowAt w g cs) {ty:TypeId} {d:TypeDesc} (hu:P.underlying ty=some d) (hd:d.isRow=true) (hi:(P.info? ty).map (·.size)=some cs.size) :
 (Instr.loadAt ty (.pointer (some ⟨g,0,none⟩))).run P w = .ok (.agg cs) w:=by
 have:=run_loadAt_mid (P:=P) w g 0 ty cs.toList d (fun j v hv=>by rw [Nat.zero_add,h.cell j];simpa using hv) hu hd (by simpa using hi)
 simpa using this
theorem run_index_one {P:Program} {t e:TypeId} {n:Nat} {d:TypeDesc} {cs:Array Value} {i:Nat} {v:Value} (w:World) (ht:P.underlying t=some (.array n e)) (he:P.underlying e=some d) (hd:d.isRow=false)
 (hs:(P.info? e).map (·.size)=some 1) (hi:i<n) (hv:cs[i]? = some v):(Instr.index t (.agg cs) (.int .i64 (i:Int))).run P w = .ok v w:=by
 cases hq:P.info? e with
 | none=>simp [hq] at hs
 | some f =>
  have hs1:f.size=1:=by simpa [hq] using hs
  have hb:(0<=(i:Int)/\(i:Int)<(n:Int)):=⟨by omega,by omega⟩
  have hagg:(isAgg e).run P w = .ok false w:=by
   unfold isAgg
   rw [Sem.run_bind,run_underlying he w]
   cases d <;> simp_all
  simp [Instr.index,run_underlying ht,asIntOf,hb,go_sem,part,hagg,sizeOf,typeInfo,hq,hs1,hv,hi]
theorem run_index_two {P:Program} {t e:TypeId} {n:Nat} {d:TypeDesc} {cs:Array Value} {i:Nat} {x y:Value} (w:World) (ht:P.underlying t=some (.array n e)) (he:P.underlying e=some d) (hd:d.isRow=true)
 (hs:(P.info? e).map (·.size)=some 2) (hi:i<n) (hv:cs.extract (i * 2) (i * 2+2) = #[x,y]):(Instr.index t (.agg cs) (.int .i64 (i:Int))).run P w = .ok (.agg #[x,y]) w:=by
 cases hq:P.info? e with
 | none=>simp [hq] at hs
 | some f =>
  have hs1:f.size=2:=by simpa [hq] using hs
  have hb:(0<=(i:Int)/\(i:Int)<(n:Int)):=⟨by omega,by omega⟩
  have hagg:(isAgg e).run P w = .ok true w:=by
   unfold isAgg
   rw [Sem.run_bind,run_underlying he w]
   cases d <;> simp_all
  simp [Instr.index,run_underlying ht,asIntOf,hb,go_sem,part,hagg,sizeOf,typeInfo,hq,hs1,hv,hi]
def WordsAt (w:World):Prop:=RowAt w 12 wordsA
theorem gWords : Tryz.prog.globalNamed "tillage/syntax.words" = some 12 := by kernel_rfl
theorem words_of {W : World} {r : List (String × DataW Unit)} (hL : laidMet Tryz.prog (("tillage/syntax.words", Rows.laid_tillage_syntax_words) :: r) W) : WordsAt W := by
 obtain⟨cs,u,fr,hh,fuel,p,hd⟩:=row_of (t:=218) gWords (by kernel_rfl) hL
 have:=strs_cells (l:=wordsL) Tryz.underlying218 Tryz.underlying9 (by kernel_rfl) (by kernel_rfl) hd
 exact⟨u,fr,by rw [hh,wordsA,<-this]⟩
set_option maxRecDepth 4000 in
theorem isWord_c (s:ByteArray) (w:World) (hW:WordsAt w) :
 Calls Tryz.prog 141 #[.string s] w fun e w'=>e = .returned (.bool (isWordB s))/\w'=w:=by
 have hr:w.rangeAt 12 0 wordsA.toList:=fun j v hv=>by rw [Nat.zero_add,hW.cell j];simpa using hv
 obtain⟨A,hA⟩:∃A,A=wordsA.toList:=⟨_,rfl⟩
 rw [<-hA] at hr
 have hn:(Tryz.prog.info? 218).map (·.size)=some A.length:=by rw [hA];kernel_rfl
 have HR:Hid (w.rangeAt 12 0 A):=hr
 have HN:Hid ((Tryz.prog.info? 218).map (·.size)=some A.length):=hn
 have HA:Hid (A=wordsA.toList):=hA
 clear hA hr hn hW
 go_enter Tryz.func141,Tryz.ntmps141
 go_wp2_with (refine wpList_load_mid rfl 218 _ rfl 12 0 rfl A _ HR.out Tryz.underlying218 rfl HN.out ?_)
 go_loop [6] (fun v=>∃k:Nat,k<=16/\v = .int .i64 k/\∀q,q<k->¬s.toList=wordsL.getD q []) (fun v=>16 - (intOf v).toNat)
 case atStart=>exact⟨0,by omega,rfl,fun q hq=>absurd hq (Nat.not_lt_zero _)⟩
 case round =>
  obtain⟨k,hk,rfl,hq⟩:=hrel
  have HQ:Hid (∀q,q<k->¬s.toList=wordsL.getD q []):=hq
  clear hq
  by_cases hk2:k<16
  . have i1:(k:Int)<16:=by omega
    obtain⟨x,hx⟩:∃x:ByteArray,x = ⟨(wordsL.getD k []).toArray⟩:=⟨_,rfl⟩
    have hxl:x.toList=wordsL.getD k []:=by rw [hx,ByteArray.toList_eq]
    have HX:Hid (x.toList=wordsL.getD k []):=hxl
    have hix:=run_index_one (P:=Tryz.prog) (cs:=A.toArray) (v:= .string x) w Tryz.underlying218 Tryz.underlying9 rfl (by kernel_rfl) hk2 (by
     rw [HA.out,hx]
     simp only [wordsA,List.getElem?_toArray,List.getElem?_map]
     rw [List.getElem?_eq_getElem (by show k<wordsL.length;exact hk2)]
     simp [strV,List.getD,List.getElem?_eq_getElem (show k<wordsL.length from hk2)]
     rfl)
    clear hx hxl
    by_cases he:x.toList=s.toList
    . have hb:(x.toList == s.toList)=true:=by simp [he]
      have HE:Hid (isWordB s=true):=by
       unfold isWordB
       rw [<-he,HX.out]
       have:∀k,k<16->wordsL.contains (wordsL.getD k [])=true:=by decide
       exact this k hk2
      clear he
      go_wp2
      go_ret
      exact⟨ret_bool HE.out.symm,rfl⟩
    . have hb:(x.toList == s.toList)=false:=by simp [he]
      have HE:Hid (¬s.toList=wordsL.getD k []):=fun h=>he (HX.out.trans h.symm)
      clear he
      go_wp2
      go_round
      case rel=>exact⟨k+1,by omega,by go_num,fun q hq=>by
       by_cases e:q=k
       . subst e;exact HE.out
       . exact HQ.out q (by omega)⟩
      case measure=>simp [intOf];omega
  . have i1:¬(k:Int)<16:=by omega
    go_wp2
    go_ret
    refine⟨ret_bool ?_,rfl⟩
    unfold isWordB
    symm
    have:∀l:List (List UInt8),(∀q,q<l.length->¬s.toList=l.getD q [])->l.contains s.toList=false:=fun l h=>by
     simp only [List.contains_eq_mem,decide_eq_false_iff_not]
     intro hm
     obtain⟨q,hq,e⟩:=List.getElem_of_mem hm
     exact h q hq (by simp [List.getD,List.getElem?_eq_getElem hq,e])
    exact this wordsL (fun q hq=>HQ.out q (by have:q<16:=hq;omega))
theorem nth_letter {s:ByteArray} {k:Nat} (hk:k<s.size):s.toList[k]? = some s[k]:=by
 rw [ByteArray.toList_eq]
 simp [hk]
 rfl
set_option maxRecDepth 4000 in
theorem name_c (s:ByteArray) (w:World) (hs:s.size<=maxLen) (hW:WordsAt w) :
 Calls Tryz.prog 117 #[.string s] w fun e w'=>e = .returned (.bool (nameB s))/\w'=w:=by
 unfold maxLen at hs
 by_cases h1:(s.size:Int)<1
 . have HN:Hid (nameB s=false):=by simp [Hid,nameB];omega
   go_enter Tryz.func117,Tryz.ntmps117
   go_wp2_with fail
   go_ret
   exact⟨ret_bool HN.out.symm,rfl⟩
 . by_cases h2:8<(s.size:Int)
   . have HN:Hid (nameB s=false):=by simp [Hid,nameB];omega
     go_enter Tryz.func117,Tryz.ntmps117
     go_wp2_with fail
     go_ret
     exact⟨ret_bool HN.out.symm,rfl⟩
   . have HW:Hid (WordsAt w):=hW
     clear hW
     go_enter Tryz.func117,Tryz.ntmps117
     go_wp2_with fail
     refine (isWord_c s w HW.out).mono ?_
     rintro e w1 ⟨rfl,rfl⟩
     cases hw:isWordB s
     . have HL:Hid (isWordB s=false):=hw
       clear hw
       go_wp2_with fail
       go_loop [18] (fun v=>∃k:Nat,k<=s.size/\v = .int .i64 k/\Hid (∀q (hq:q<s.size),q<k->97<=s[q].toNat/\s[q].toNat<=122)) (fun v=>s.size - (intOf v).toNat)
       case atStart=>exact⟨0,by omega,rfl,fun q _ hq=>absurd hq (Nat.not_lt_zero _)⟩
       case round =>
        obtain⟨k,hk,rfl,HQ⟩:=hrel
        by_cases hk2:k<s.size
        . have i1:(k:Int)<(s.size:Int):=by omega
          have i2:(0:Int)<=(k:Int):=by omega
          have hx:s[k]? = some s[k]:=by simp [hk2]
          by_cases a1:(s[k].toNat:Int)<97
          . have hn:nameB s=false:=by
             have:lettersB s=false:=by
              unfold lettersB
              rw [List.all_eq_false]
              exact⟨s[k],List.mem_of_getElem? (nth_letter hk2),by simp;omega⟩
             simp [nameB,this]
            have HN:Hid (nameB s=false):=hn
            clear hn
            go_wp2
            go_ret
            exact⟨ret_bool HN.out.symm,rfl⟩
          . by_cases a2:122<(s[k].toNat:Int)
            . have hn:nameB s=false:=by
               have:lettersB s=false:=by
                unfold lettersB
                rw [List.all_eq_false]
                exact⟨s[k],List.mem_of_getElem? (nth_letter hk2),by simp;omega⟩
               simp [nameB,this]
              have HN:Hid (nameB s=false):=hn
              clear hn
              go_wp2
              go_ret
              exact⟨ret_bool HN.out.symm,rfl⟩
            . have HE:Hid (97<=s[k].toNat/\s[k].toNat<=122):=⟨by omega,by omega⟩
              go_wp2
              go_round
              case rel=>exact⟨k+1,by omega,by go_num,fun q h hq=>by
               by_cases e:q=k
               . subst e;exact HE.out
               . exact HQ.out q h (by omega)⟩
              case measure=>simp [intOf];omega
        . have i1:¬(k:Int)<(s.size:Int):=by omega
          have hn:nameB s=true:=by
           have:lettersB s=true:=by
            unfold lettersB
            rw [List.all_eq_true]
            intro c hc
            obtain⟨q,hq,e⟩:=List.getElem_of_mem hc
            have hq2:q<s.size:=by rw [ByteArray.toList_eq] at hq;simpa using hq
            have e2:s[q]=c:=by
             have:=nth_letter hq2
             rw [List.getElem?_eq_getElem hq,e] at this
             exact (Option.some.inj this).symm
            have:=HQ.out q hq2 (by omega)
            rw [e2] at this
            exact decide_eq_true this
           simp [nameB,this,HL.out]
           omega
          have HN:Hid (nameB s=true):=hn
          clear hn
          go_wp2
          go_ret
          exact⟨ret_bool HN.out.symm,rfl⟩
     . have HN:Hid (nameB s=false):=by simp [Hid,nameB,hw]
       go_wp2_with fail
       go_ret
       exact⟨ret_bool HN.out.symm,rfl⟩
end Go.Proofs.YtodjbffhlklpkaaGreatDoor
