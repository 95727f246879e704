/-
  Runs of some fuel, and their outcomes in memory.
-/
import Derived.Test.YtppcohadoilpgaaGreatDoorTopRq
import Derived.Test.YtppcohadoilpgaaGreatDoorTopLn
import Derived.Test.YtppcohadoilpgaaGreatDoorTellsW
import Derived.Test.YtppcohadoilpgaaGreatDoorRunC
namespace Go.Proofs.YtppcohadoilpgaaGreatDoor
open Go.ChangeShapes Go.WideShapes Go.ChangeAt Go.RowKit Go.Joins Go.Proofs.Tryz
set_option linter.unusedVariables false
set_option linter.unusedSimpArgs false
set_option maxRecDepth 100000
def Kh (F:List Fl) (p:List Ru) (ls:List ByteArray) (k:Nat):Int × List ByteArray × Nat:=B0 (Be F 6000 p ls (Cj k))
theorem RwA.stays {w w':World} {v:Value} {l:List Rw} (h:RwA w w.heap.size v l) (hb:Below w.heap.size w w'):RwA w' w'.heap.size v l:=by
 have h2:=h.low fun k hk=>hb.block k hk;obtain⟨a,cap,h1,h2,h3,h4⟩:=h2;exact⟨a,cap,h1,h2,h3,fun h0=>by obtain⟨b,off,e1,e2,e3⟩:=h4 h0;exact⟨b,off,e1,lle e2 hb.size,e3⟩⟩
def Qi (B:Nat) (w:World) (v:Value) (l:List ByteArray):Prop:=w.ownsRow 0 9 1 v l.length (l.map Value.string)/\(∀g,v.ownBlock=some g->B<=g)/\(∀x ∈ l,x.size<=200)/\l.length<=2000
theorem Qi.stays {B:Nat} {w w':World} {v:Value} {l:List ByteArray} (h:Qi B w v l) (hb:∀g,B<=g->g<w.heap.size->w'.heap[g]? = w.heap[g]?):Qi B w' v l :=
 ⟨A9 h.1 fun g hg=>hb g (h.2.1 g hg) (h.1.lt g hg).2,h.2⟩
theorem Qi.txs {B:Nat} {w:World} {v:Value} {l:List ByteArray} (h:Qi B w v l):Gg w v l:=Jr h.1 h.2.2.1 h.2.2.2
theorem Adk {p:List Ru} {v fv lv:Value} {F:List Fl} {ls:List ByteArray} {k:Nat} {z:Int} {w:World} (hz:z=(k:Int)) (hp:Gy w v p) (hK:Kr w) (hF:Oj w fv F) (hL:Gg w lv ls) (hck:ckP 6000 p=0) (hw:B3 F ls=0) (hk:k<=200000) :
 Calls prog 8 #[.agg #[v],fv,lv,.int .i64 z] w fun e w'=>∃a cap,e = .returned (.tuple #[.agg #[.slice a (Kh F p ls k).2.1.length cap,.int .i64 (Kh F p ls k).1,.int .i64 (z - ((Kh F p ls k).2.2:Int))],.int .i64 0])/\Below w.heap.size w w'/\Qi w.heap.size w' (.slice a (Kh F p ls k).2.1.length cap) (Kh F p ls k).2.1/\(Kh F p ls k).2.1.length<=cap:=by
 subst hz;refine (Zp 6000 w.heap.size p F ls v fv lv (k:Int) w hp hF hL hK.tr.tb (D4.of hK.pw) hK.mx lr0 (by omega) (by omega)).mono fun e w' hr=>?_;obtain⟨hb,hr⟩:=hr;unfold Kj at hr;rw [hck,if_neg (by simp),hw,if_neg (by simp),if_neg (by omega),Int.toNat_natCast] at hr;obtain⟨u,he,h1,h2,h3,h4,hc⟩:=hr;have hu2:=Jr h1 h3 h4;obtain⟨a,cap,rfl,-⟩:=hu2;exact⟨a,cap,he,hb,⟨h1,h2,h3,h4⟩,hc.le⟩
structure Qg (V W:World) (g:Nat) (x:Option Addr) (n cp:Nat) (E U:Int) (O:List ByteArray):Prop where
 low:Below V.heap.size V W
 c0:W.cell? ⟨g,0,none⟩=some (.slice x n cp)
 c1:W.cell? ⟨g,1,none⟩=some (.int .i64 E)
 c2:W.cell? ⟨g,2,none⟩=some (.int .i64 U)
 lt:g<W.heap.size
 ge:V.heap.size<=g
 txs:Gg W (.slice x n cp) O
theorem Qg.stays {V W W':World} {g:Nat} {x:Option Addr} {n cp:Nat} {E U:Int} {O:List ByteArray} (h:Qg V W g x n cp E U O) (hb:Below W.heap.size W W'):Qg V W' g x n cp E U O :=
 ⟨Aa h.low hb,(hb.cell (p:=⟨g,0,none⟩) h.lt).trans h.c0,(hb.cell (p:=⟨g,1,none⟩) h.lt).trans h.c1,(hb.cell (p:=⟨g,2,none⟩) h.lt).trans h.c2,lle h.lt hb.size,h.ge,h.txs.stays hb⟩
theorem Vn {V w8:World} {B:Nat} {x:Option Addr} {n cp t:Nat} {E U:Int} {O:List ByteArray} (hV:Below V.heap.size V w8) (hK:Qi B w8 (.slice x n cp) O) :
 Qg V (w8.alloc (.cells #[.slice x n cp,.int .i64 E,.int .i64 U] t)) w8.heap.size x n cp E U O :=
 ⟨hV.alloc hV.size _,(Ao.new w8 _ t).cell 0,(Ao.new w8 _ t).cell 1,(Ao.new w8 _ t).cell 2,by simp,hV.size,(hK.stays fun b _ hb=>Below.heap_alloc _ _ _ hb).txs⟩
theorem Hl {V w7 w8:World} {g:Nat} {x:Option Addr} {n cp:Nat} {E U:Int} {O:List ByteArray} (hV:Below V.heap.size V w8) (h8:Below w7.heap.size w7 w8) (hK:Qi w7.heap.size w8 (.slice x n cp) O) (hg:V.heap.size<=g)
 (q0:w7.cell? ⟨g,0,none⟩=some (.slice none 0 0)) (q1:w7.cell? ⟨g,1,none⟩=some (.int .i64 0)) (q2:w7.cell? ⟨g,2,none⟩=some (.int .i64 0)) :
 Qg V (((w8.setCell ⟨g,0,none⟩ (.slice x n cp)).setCell ⟨g,1,none⟩ (.int .i64 E)).setCell ⟨g,2,none⟩ (.int .i64 U)) g x n cp E U O:=by
 have hlt:g<w7.heap.size:=World.block_lt_of_cell? w7 ⟨g,0,none⟩ q0;have e0:=(h8.cell (p:=⟨g,0,none⟩) hlt).trans q0;have e1:=(h8.cell (p:=⟨g,1,none⟩) hlt).trans q1;have e2:=(h8.cell (p:=⟨g,2,none⟩) hlt).trans q2;have hsz:=h8.size;refine⟨((hV.setCell (p:=⟨g,0,none⟩) hg _).setCell (p:=⟨g,1,none⟩) hg _).setCell (p:=⟨g,2,none⟩) hg _,by simp [go_sem,e0],by simp [go_sem,e0,e1],by simp [go_sem,e0,e1,e2],by simp [World.setCell];omega,hg,(hK.stays fun b hb1 hb2=>?_).txs⟩;have hne:b ≠ g:=by omega
 exact (Ae hne).trans ((Ae hne).trans (Ae hne))
end Go.Proofs.YtppcohadoilpgaaGreatDoor
