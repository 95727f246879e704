/-
  TopNames: for every three lists of raw numbers the law returns true: a program whose variables and lists have other names prints as much, ends so, and burns as much. The row lists tables of package syntax and of the library, tied to the text of the program. No condition.
-/
import Derived.Test.YtppcohadoilpgaaGreatDoorNamesW
import Derived.Test.YtppcohadoilpgaaGreatDoorTopRq
import Derived.Test.YtppcohadoilpgaaGreatDoorTie
import Derived.Test.YtppcohadoilpgaaGreatDoorCards
namespace Go.Proofs.YtppcohadoilpgaaGreatDoor.topNames
open Go.ChangeShapes Go.WideShapes Go.ChangeAt Go.RowKit Go.Joins Go.Proofs.Tryz
set_option linter.unusedVariables false
set_option maxRecDepth 100000
set_option maxRecDepth 100000 in
theorem lifted (os:Os) (started:os.Started) (H:Type) (enc:TypeId × Value->H) :
 ReturnsInHanded {} Tryz.checked os 3 .any (fun w args=>(Rows.topNamesSpec.pre enc prog Tryz.f3 Rows.topNamesRow.domain false w args/\laidMetH prog Rows.topNamesRow.laid w)/\sizedMet enc prog Tryz.f3 (OpenSpec.ofChange Rows.topNamesSpec) false w args)
  (Rows.topNamesSpec.post enc prog Tryz.f3 false true false false):=by
 refine Yj (C:=Tryz.checked) (X:=fun w=>laidMetH prog Rows.topNamesRow.laid w) (fun _ _ hh h=>h.of_heap hh) own started (by kernel_rfl) func3
  (ChangeSpec.witness_shaped (enc:=enc) (C:=Tryz.checked) (os:=os) (X:=fun w _=>laidMetH prog Rows.topNamesRow.laid w) false (World.laidAll prog os Rows.topNamesRow.laid) #[.slice none 0 0,.slice none 0 0,.slice none 0 0] 8 (World.laidAll_os _ _ _)
   (World.shaped_of_ZipB (by kernel_rfl) (by kernel_rfl)) (by kernel_rfl) (by kernel_rfl) (by kernel_rfl)
   (by rw [MakeChecks.laidMetH_plain _ _ _ (by kernel_rfl)];exact laidMet_laidAll _ (by kernel_rfl) (by kernel_rfl))) ?_
 intro W base args ds gs before hval0 hW hL hSh;rw [MakeChecks.laidMetH_plain _ _ _ (by kernel_rfl)] at hL;have hval:∀(j:Nat) t v,Tryz.f3.params[j]? = some t->args[j]? = some v->Value.okWide prog W .any base t v:=hval0;have hW':=hW;obtain⟨p,q,hA0,hV,rfl,hfz,hnd⟩:=hW;have hA:DataW.TrodAll enc prog W 0 (fun _=>true) true Tryz.f3.params.toList args.toList ds p:=hA0;rw [params3] at hA hval
 have hK:Kr W:=⟨Ahv (show laidMet prog ((_,Rows.laid_tillage_syntax_words) :: _) W from (laidMet.tail (laidMet.tail (laidMet.tail (laidMet.tail (laidMet.tail (laidMet.tail (hL)))))))) (show laidMet prog ((_,Rows.laid_tillage_syntax_levels) :: _) W from (laidMet.tail (laidMet.tail (laidMet.tail (laidMet.tail (laidMet.tail (laidMet.tail (laidMet.tail (laidMet.tail (hL)))))))))) (show laidMet prog ((_,Rows.laid_tillage_syntax_functions) :: _) W from (laidMet.tail (laidMet.tail (laidMet.tail (laidMet.tail (laidMet.tail (laidMet.tail (laidMet.tail (laidMet.tail (laidMet.tail (laidMet.tail (hL)))))))))))) (show laidMet prog ((_,Rows.laid_tillage_syntax_argsOfKind) :: _) W from (laidMet.tail (laidMet.tail (laidMet.tail (laidMet.tail (laidMet.tail (laidMet.tail (laidMet.tail (laidMet.tail (laidMet.tail (laidMet.tail (laidMet.tail (hL))))))))))))) (show laidMet prog ((_,Rows.laid_tillage_syntax_exprsOfKind) :: _) W from (laidMet.tail (laidMet.tail (laidMet.tail (laidMet.tail (laidMet.tail (laidMet.tail (laidMet.tail (laidMet.tail (laidMet.tail (laidMet.tail (laidMet.tail (laidMet.tail (hL)))))))))))))) (show laidMet prog ((_,Rows.laid_tillage_syntax_prefixes) :: _) W from (laidMet.tail (laidMet.tail (laidMet.tail (laidMet.tail (laidMet.tail (laidMet.tail (laidMet.tail (laidMet.tail (laidMet.tail (hL))))))))))) (show laidMet prog ((_,Rows.laid_tillage_syntax_signs) :: _) W from (laidMet.tail (laidMet.tail (laidMet.tail (laidMet.tail (laidMet.tail (laidMet.tail (laidMet.tail (hL))))))))) (show laidMet prog ((_,Rows.laid_strconv_ErrRange) :: _) W from (laidMet.tail (laidMet.tail (laidMet.tail (laidMet.tail (hL)))))),Ae9 (show laidMet prog ((_,Rows.laid_internal_strconv_uint64pow10) :: _) W from (laidMet.tail (laidMet.tail (hL)))),Aha hSh⟩
 obtain⟨v0,vs0,d0,ds0,p0,q0,hargs,rfl,rfl,h0,r0⟩:=trodAll_cons hA;obtain⟨v1,vs1,d1,ds1,p1,q1,rfl,rfl,rfl,h1,r1⟩:=trodAll_cons r0;obtain⟨v2,vs2,d2,ds2,p2,q2,rfl,rfl,rfl,h2,r2⟩:=trodAll_cons r1;obtain⟨rfl,rfl,rfl⟩:=trodAll_nil r2;obtain rfl:args = #[v0,v1,v2]:=by cases args;simp_all
 obtain⟨rfl,rfl⟩:=trodVars_none hV;have k0:=h0;have lt0:∀x ∈ p0,x.block<W.heap.size:=by obtain⟨m,hm⟩:=k0;exact DataW.trod_lt m _ _ _ hm
 obtain⟨a0,len0,cap0,rfl⟩:=okWide_slice underlying22 (hval 0 22 v0 rfl rfl);obtain⟨fuel0,hf0⟩:=h0;obtain⟨u0,l0,hv0,op0⟩:=Jq hf0;obtain rfl:Value.slice a0 len0 cap0=u0:=(List.cons.inj (show [Value.slice a0 len0 cap0] = [u0] from hv0)).1;have k1:=h1;have lt1:∀x ∈ p1,x.block<W.heap.size:=by obtain⟨m,hm⟩:=k1;exact DataW.trod_lt m _ _ _ hm
 obtain⟨a1,len1,cap1,rfl⟩:=okWide_slice underlying22 (hval 1 22 v1 rfl rfl);obtain⟨fuel1,hf1⟩:=h1;obtain⟨u1,l1,hv1,op1⟩:=Jq hf1;obtain rfl:Value.slice a1 len1 cap1=u1:=(List.cons.inj (show [Value.slice a1 len1 cap1] = [u1] from hv1)).1;have k2:=h2;have lt2:∀x ∈ p2,x.block<W.heap.size:=by obtain⟨m,hm⟩:=k2;exact DataW.trod_lt m _ _ _ hm
 obtain⟨a2,len2,cap2,rfl⟩:=okWide_slice underlying22 (hval 2 22 v2 rfl rfl);obtain⟨fuel2,hf2⟩:=h2;obtain⟨u2,l2,hv2,op2⟩:=Jq hf2;obtain rfl:Value.slice a2 len2 cap2=u2:=(List.cons.inj (show [Value.slice a2 len2 cap2] = [u2] from hv2)).1;clear hA0 hval0;refine (walk l0 _ l1 _ l2 _ W hK op0 op1 op2).mono fun e W' ⟨he,bel⟩=>?_;subst he;exact⟨_,rfl,_,_,_,[],_,[],hW',trodAll_mk1 (shut_bool underlying4 _),(trodAll_cons_mk (Below.trod Pl (by kernel_rfl) (of_decide_eq_true (by kernel_rfl)) k0 bel lt0) (trodAll_cons_mk (Below.trod Pl (by kernel_rfl) (of_decide_eq_true (by kernel_rfl)) k1 bel lt1) (trodAll_cons_mk (Below.trod Pl (by kernel_rfl) (of_decide_eq_true (by kernel_rfl)) k2 bel lt2) trodAll_mk0))),rfl,bel.frame _,fun h=>by cases h⟩
theorem over:Rows.topNamesRow.holds Tryz.pinned (OpenSpec.ofChange Rows.topNamesSpec) :=
 OpenClaim.holds_of_wide 3 Tryz.f3 rfl rfl rfl rfl rfl rfl rfl ⟨rfl,rfl,rfl,rfl,rfl⟩ rfl rfl rfl rfl rfl (by kernel_rfl) func3 (by kernel_rfl)
  (of_decide_eq_true (by kernel_rfl)) (by unfold Func.isWrapper;rw [if_neg (of_decide_eq_false (by kernel_rfl))];exact⟨rfl,rfl⟩)
  (fun os started H enc _=>lifted os started H enc)
theorem card:Rows.TopNamesCardSaid :=
 Claim7.holds_tied_plain_at .later [] [.data, .data, .data, .data, .sentinel, .sentinel, .data, .data, .data, .data, .data, .data, .data, .pinned] true (true, "dcff6440721fe45c16d8574da316c7d06f2cc9932c0e14e7e4c2028e84b440c0") true
  over (fun _ h=>by cases h) (by kernel_rfl) (fun _ h=>by cases h) topNames_row_tie rfl ⟨rfl,rfl⟩ (by kernel_rfl) rfl
  (fun f fn hf hfn=>by
   obtain rfl:f=3:=Option.some.inj ((show prog.funcNamed Rows.topNamesRow.func=some 3 by kernel_rfl).symm.trans hf) |>.symm;obtain rfl:fn=Tryz.f3:=(Option.some.inj (func3.symm.trans hfn)).symm;exact⟨by kernel_rfl,fun j t ht=>by
    rw [params3] at ht;have hm:t ∈ [22,22,22]:=by simpa using Array.mem_of_getElem? ht
    have hall:([22,22,22].all fun u=> !prog.wantsStandIn u)=true:=by kernel_rfl
    exact (show prog.wantsStandIn t=false by simpa using List.all_eq_true.1 hall t hm)⟩)
  (by kernel_rfl)
end Go.Proofs.YtppcohadoilpgaaGreatDoor.topNames
namespace Go.Proofs.YtppcohadoilpgaaGreatDoor
theorem topNames_card:Rows.TopNamesCardSaid:=topNames.card
#print axioms topNames_card
end Go.Proofs.YtppcohadoilpgaaGreatDoor
