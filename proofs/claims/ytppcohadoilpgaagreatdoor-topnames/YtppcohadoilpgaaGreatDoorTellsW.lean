/-
  Operators of all levels: two ways to write a program are read as one. Of data alone. / ProgramTells returns true: a program of one line is read and run.
-/
import Derived.Test.YtppcohadoilpgaaGreatDoorGround
import Derived.Test.YtppcohadoilpgaaGreatDoorKeepOut
import Derived.Test.YtppcohadoilpgaaGreatDoorRunSpec
namespace Go.Proofs.YtppcohadoilpgaaGreatDoor
open Go.RowKit Go.Proofs.Tryz
set_option linter.unusedVariables false
set_option maxRecDepth 100000
def Adm:List UInt8:= [69,78,68,32,123,32,112,114,105,110,116,32,49,32,43,32,50,59,32,125]
def N5:List Ru:= [⟨2,false,.mk 0 0 ⟨#[]⟩ [],[.mk 4 ⟨#[]⟩ ⟨#[]⟩ [.mk 6 0 ⟨#[43]⟩ [.mk 1 1 ⟨#[]⟩ [],.mk 1 2 ⟨#[]⟩ []]] [] []]⟩]
theorem Xa:Ch Adm = .ok N5:=by kernel_rfl
theorem Acy:ckP 6000 N5=0:=by kernel_rfl
end Go.Proofs.YtppcohadoilpgaaGreatDoor
namespace Go.Proofs.YtppcohadoilpgaaGreatDoor
open Go.ChangeShapes Go.WideShapes Go.ChangeAt Go.RowKit Go.Joins Go.Proofs.Tryz
set_option maxHeartbeats 2000000
set_option linter.unusedVariables false
set_option maxRecDepth 100000
theorem Sf:(B0 (Be [] 6000 N5 [] (Cj (Int.toNat 1000)))).1=0/\(B0 (Be [] 6000 N5 [] (Cj (Int.toNat 1000)))).2.1 = [⟨#[51]⟩]:=⟨by kernel_rfl,by kernel_rfl⟩
theorem Acz (w:World) (hK:Kr w):Calls prog 4 #[] w fun e w'=>e = .returned (.bool true)/\Below w.heap.size w w':=by
 have HR:=hid (Afi (w:=w) (s:=⟨#[69,78,68,32,123,32,112,114,105,110,116,32,49,32,43,32,50,59,32,125]⟩) (L:=Adm) (l:=N5) rfl Xa (by decide) hK);have HK:Hid (Kr w):=hK;clear hK;go_enter func4,ntmps4
 go_wp2_with fail
 refine Calls.mono HR.out ?_;rintro e w2 ⟨a,cap,rfl,hb2,hp2⟩;have HB2:Hid (Below w.heap.size w w2):=hb2;have HRN:Hid (∀W,Below w2.heap.size w2 W->_):=fun W hW=>Ahp (fuel:=1000) (ls:= []) (hp2.stays hW) (lv:= .slice none 0 0) ⟨none,0,rfl,Nat.zero_le _,fun h=>absurd h (Nat.lt_irrefl 0)⟩ ((HK.out.stays hb2).stays hW) Acy (by decide) (by decide) (by decide);clear hb2 hp2 HR HK;go_wp2_with fail
 have HA:Hid (Below w2.heap.size w2 (w2.alloc (.cells #[.slice a 1 cap] 26))):=br0.alloc lr0 _;refine Calls.mono (HRN.out _ HA.out) ?_;rintro e w3 ⟨a4,n4,cap4,rfl,hn4,hb3,hl3,-⟩;have HB3:Hid (Below w.heap.size w w3):=Aa (Aa HB2.out HA.out) hb3;obtain⟨us,hus⟩:∃us:Int,us=1000 - ↑(B0 (Be [] 6000 N5 [] (Cj (Int.toNat 1000)))).2.2:=⟨_,rfl⟩;rw [Sf.1,<-hus];rw [Sf.2] at hn4 hl3;simp only [List.length_cons,List.length_nil,Nat.zero_add] at hn4;subst hn4;clear hus hb3 HRN HB2 HA;obtain⟨a5,c5,hv5,hm5,hs5⟩:=hl3;cases hv5;obtain⟨b,off,rfl,hbb,hi⟩:=hs5 (by decide);obtain⟨cs,hcl,hcc,x,hx,rfl,hxs⟩:=hi 0 (by decide);obtain rfl:x = ⟨#[51]⟩:=(Option.some.inj hx).symm;have c0:w3.cell? ⟨b,off,none⟩=some (.string ⟨#[51]⟩):=hcc 0 (by decide);have hne:¬b=w3.heap.size:=by omega
 clear hi hcl hcc hx hm5 hs5 hxs;go_wp2_with fail
 go_ret
 exact⟨rfl,HB3.out.alloc HB3.out.size _⟩
end Go.Proofs.YtppcohadoilpgaaGreatDoor
