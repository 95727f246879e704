/-
  out: a source is read and done on lines; what it prints, and how it ends. / Rows of texts that a call makes itself, side by side; rows of numbers that came in.
-/
import Derived.Test.YtppcohadoilpgaaGreatDoorRunC
namespace Go.Proofs.YtppcohadoilpgaaGreatDoor
open Go.ChangeShapes Go.WideShapes Go.ChangeAt Go.RowKit Go.Joins Go.Proofs.Tryz
set_option maxHeartbeats 2000000
set_option linter.unusedVariables false
set_option maxRecDepth 100000
theorem Afi {s:ByteArray} {L:List UInt8} {l:List Ru} {w:World} (hs:s=bs L) (hR:Ch L = .ok l) (hl:L.length<=6000) (hK:Kr w) :
 Calls prog 12 #[.string s] w fun e w'=>∃a cap,e = .returned (.tuple #[.agg #[.slice a l.length cap],.int .i64 0])/\Below w.heap.size w w'/\Gy w' (.slice a l.length cap) l :=
 Afg (by rw [hs,B5];exact hR) (by rw [hs,Ba];omega) hK
theorem Gg.take {w:World} {a:Option Addr} {len cap:Nat} {l:List ByteArray} (h:Gg w (.slice a len cap) l) (j:Nat) (hj:j<=l.length):Gg w (.slice a j cap) (l.take j):=by
 obtain⟨a1,c1,hv,hl,hs⟩:=h;cases hv;have hn:(l.take j).length=j:=by rw [List.length_take];omega
 refine⟨a,cap,by rw [hn],by rw [hn];omega,fun h0=>?_⟩;rw [hn] at h0;obtain⟨b,off,ha,hb,hi⟩:=hs (by omega);refine⟨b,off,ha,hb,fun i hi'=>?_⟩;rw [hn] at hi';obtain⟨cs,h1,h2,x,hx,h3⟩:=hi i (by omega);exact⟨cs,h1,h2,x,by rw [List.getElem?_take_of_lt hi'];exact hx,h3⟩
def E9 (w wr:World) (v:Value) (l:List ByteArray):Prop:=wr.ownsRow w.heap.size 9 1 v l.length (l.map Value.string)
theorem E9.nil (w wr:World):E9 w wr (.slice none 0 0) []:=World.ownsRow_nil _ _ _ _
theorem E9.stays {w wr w':World} {v:Value} {l:List ByteArray} (h:E9 w wr v l) (hb:Below wr.heap.size wr w'):E9 w w' v l:=A9 h fun g hg=>hb.block g (h.lt g hg).2
theorem E9.shape {w wr:World} {v:Value} {l:List ByteArray} (h:E9 w wr v l):∃a cap,v = .slice a l.length cap/\l.length<=cap:=by
 rcases h.2 with⟨rfl,h0⟩ | ⟨g,cap,cur,rfl,-,-,hn,-⟩
 . exact⟨none,0,by rw [h0],by omega⟩
 . exact⟨_,_,rfl,hn⟩
theorem E9.texts {w wr:World} {v:Value} {l:List ByteArray} (h:E9 w wr v l) (hl:∀x ∈ l,x.size<=maxLen) (hn:l.length<=maxLen):Gg wr v l:=by
 obtain⟨a,cap,rfl,-⟩:=h.shape;refine⟨a,cap,rfl,hn,fun h0=>?_⟩;rcases h.2 with⟨he,h1⟩ | ⟨g,cap8,cur,he,-⟩
 . omega
 cases he;refine⟨g,0,rfl,(h.lt g rfl).2,fun i hi=>⟨[.string l[i]],rfl,fun j hj=>?_,l[i],gee hi,rfl,hl _ (List.getElem_mem hi)⟩⟩;obtain rfl:j=0:=by omega
 have h1:=h.cells (g:=g) rfl i (.string l[i]) (by rw [List.getElem?_map,gee hi];rfl);rw [Addr.add_lit] at h1;simpa using h1
structure Hu (w wr:World) (v1:Value) (l1:List ByteArray) (v2:Value) (l2:List ByteArray):Prop where
 one:E9 w wr v1 l1
 two:E9 w wr v2 l2
 ne:∀g,v1.ownBlock=some g->v2.ownBlock ≠ some g
 low:Below w.heap.size w wr
theorem Hu.nil (w:World):Hu w w (.slice none 0 0) [] (.slice none 0 0) []:=⟨E9.nil _ _,E9.nil _ _,fun _ h=>(by cases h),Below.refl _ _⟩
theorem Hu.stays {w wr w':World} {v1 v2:Value} {l1 l2:List ByteArray} (h:Hu w wr v1 l1 v2 l2) (hb:Below wr.heap.size wr w'):Hu w w' v1 l1 v2 l2:=⟨h.one.stays hb,h.two.stays hb,h.ne,Aa h.low hb⟩
theorem Hu.push {w w2 w5:World} {v1 v2 v':Value} {l1 l2:List ByteArray} {X:ByteArray} {o:Obj} (h:Hu w w2 v1 l1 v2 l2)
 (hown:w5.ownsRow w.heap.size 9 1 v' (l1.length+1) (l1.map Value.string ++ [.string X])) (hg:(w2.alloc o).grownBy w5 v1.ownBlock) (hloc:v'.ownBlock=v1.ownBlock\/v'.ownBlock=some (w2.alloc o).heap.size) :
 Hu w w5 v' (l1 ++ [X]) v2 l2:=by
 have hs:(w2.alloc o).heap.size=w2.heap.size+1:=by simp
 have ha:Below w2.heap.size w2 (w2.alloc o):=br0.alloc lr0 _;have k1:∀k,k<w2.heap.size->some k ≠ v1.ownBlock->w5.heap[k]? = w2.heap[k]? := fun k hk hne=>(hg.block k (by omega) hne).trans (ha.block k hk);refine⟨?_,?_,?_,?_⟩
 . unfold E9;rw [lap,List.map_append];exact hown
 . exact A9 h.two fun g hg2=>k1 g (h.two.lt g hg2).2 fun e=>h.ne g e.symm hg2
 . intro g h1 h2;rcases hloc with h3 | h3
   . exact h.ne g (h3 ▸ h1) h2
   . rw [h3] at h1;cases h1;have:=(h.two.lt _ h2).2;omega
 . have hz:=h.low.size;refine⟨(hg.os.trans ha.os).trans h.low.os,(hg.tape.trans ha.tape).trans h.low.tape,(hg.output.trans ha.output).trans h.low.output,lq0 hz (lq0 ha.size hg.size),fun k hk=>(k1 k (lle hk hz) fun e=>?_).trans (h.low.block k hk)⟩;have:=(h.one.lt k e.symm).1;omega
theorem E9.last {w wr:World} {v:Value} {l:List ByteArray} {X:ByteArray} {i:Nat} (h:E9 w wr v (l ++ [X])) (hl:l.length=i):∃g cap,v = .slice (some ⟨g,0,none⟩) (i+1) cap/\wr.cell? ⟨g,i,none⟩=some (.string X)/\g<wr.heap.size:=by
 rcases h.2 with⟨_,h0⟩ | ⟨g,cap,cur,he,-⟩
 . simp at h0
 refine⟨g,cap,by rw [he,lap,hl];rfl,?_,(h.lt g (by rw [he];rfl)).2⟩;have h1:=h.cells (g:=g) (by rw [he];rfl) i (.string X) (by rw [List.getElem?_map,List.getElem?_append_right (by omega),hl,Nat.sub_self];rfl);rw [Addr.add_lit] at h1;simpa using h1
end Go.Proofs.YtppcohadoilpgaaGreatDoor
