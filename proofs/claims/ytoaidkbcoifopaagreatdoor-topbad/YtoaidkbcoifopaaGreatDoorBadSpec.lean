/-
  Files, lines and a program that may not be. Of data alone.
-/
import Derived.Test.YtoaidkbcoifopaaGreatDoorWdMem
namespace Go.Proofs.YtoaidkbcoifopaaGreatDoor
open Go.RowKit
set_option linter.unusedVariables false
set_option maxRecDepth 100000
def txN:ByteArray:=⟨#[]⟩
def oddF (k:Nat) (L:ByteArray):List (List Fl):= [List.replicate (8+k) ⟨txN,[]⟩,[⟨⟨#[97]⟩,[]⟩,⟨⟨#[97]⟩,[]⟩],[⟨txN,[L]⟩],[⟨txN,[⟨#[97,10,98]⟩]⟩],[⟨txN,List.replicate (100+k) txN⟩]]
def oddE:List Int:= [1,9,4,4,1]
theorem line_long {L:ByteArray} {k:Nat} (hk:1<=k) (hL:L.size=200+k):linesR [L]=4:=by
 have h:lineB L=false:=by unfold lineB;rw [decide_eq_false (by omega)];rfl
 unfold linesR
 simp [h]
theorem odd_world {k i:Nat} {L:ByteArray} {F:List Fl} (hk:1<=k) (hL:L.size=200+k) (h:(oddF k L)[i]? = some F):∃er,oddE[i]? = some er/\er ≠ 0/\worldR F []=er:=by
 match i with
 | 0 =>
  obtain rfl:=Option.some.inj h
  exact⟨1,rfl,by decide,by unfold worldR;rw [if_pos (by rw [List.length_replicate];omega)]⟩
 | 1 =>
  obtain rfl:=Option.some.inj h
  exact⟨9,rfl,by decide,by kernel_rfl⟩
 | 2 =>
  obtain rfl:=Option.some.inj h
  have e:worldR [⟨txN,[L]⟩] []=(([linesR [L]]).find? (· != 0)).getD 0:=rfl
  exact⟨4,rfl,by decide,by rw [e,line_long hk hL];rfl⟩
 | 3 =>
  obtain rfl:=Option.some.inj h
  exact⟨4,rfl,by decide,by kernel_rfl⟩
 | 4 =>
  obtain rfl:=Option.some.inj h
  have e:fileR ⟨txN,List.replicate (100+k) txN⟩ []=1:=by unfold fileR;rw [if_pos (by rw [List.length_replicate];omega)]
  have e2:worldR [⟨txN,List.replicate (100+k) txN⟩] []=(([fileR ⟨txN,List.replicate (100+k) txN⟩ []]).find? (· != 0)).getD 0:=rfl
  exact⟨1,rfl,by decide,by rw [e2,e];rfl⟩
 | i+5=>simp [oddF] at h
theorem world_long {L:ByteArray} {k:Nat} (hk:1<=k) (hL:L.size=200+k):worldR [] [L]=4:=by
 have e:worldR [] [L]=linesR [L]:=rfl
 rw [e,line_long hk hL]
theorem world_many {k:Nat} (hk:1<=k):worldR [] (List.replicate (200+k) txN)=1:=by unfold worldR;rw [if_pos (by rw [List.length_replicate];omega)]
def badP (k:Nat):List Ru:= [⟨2+(k:Int),false,.mk 0 0 ⟨#[]⟩ [],[]⟩]
theorem bad_ck {k:Nat} (hk:1<=k):ckP 6000 (badP k)=3:=by
 unfold ckP badP
 simp only [List.length_cons,List.length_nil,runL,ckR]
 rw [if_neg (by decide),if_pos (by omega)]
end Go.Proofs.YtoaidkbcoifopaaGreatDoor
