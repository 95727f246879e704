/-
  Contracts of strings.Builder's WriteString and WriteByte at this program: applications of the library's theorems. / The table of powers of ten that strconv.Itoa reads, and what leaves it as it is.
-/
import Derived.Test.YtppcohadoilpgaaGreatDoorShelf
import Derived.Test.YtppcohadoilpgaaGreatDoorGround
import Derived.Lib.QuietBelow
import Derived.WalkKit
import Derived.ProofKit
import Derived.PlainAid
import Derived.Handy
import Derived.Lib.AppendIntMem
import Derived.Lib.ItoaMem
namespace Go.Proofs.YtppcohadoilpgaaGreatDoor
open Go.Shelf Go.RowKit Go.Proofs.Tryz
theorem Ss (B b:Nat) (l:List Value) (s:ByteArray) (w:World) (h:Lib.IsBuilder 144 5 B b l w) (hlen:l.length+s.size<=140737488355328) (hBw:B<=w.heap.size) :
 Calls prog 205 #[.pointer (some ⟨b,0,none⟩),.string s] w fun e w'=>e = .returned (.tuple #[.int .i64 s.size,.nilIface])/\(Lib.BuilderAt 144 5 B b (.pointer (some ⟨b,0,none⟩)) (l ++ Lib.strCells s) w'/\Below B w w') :=
 Any.Builder_WriteString { Tryz.lays156 with } Tryz.Builder_Extra_156 B b l s w h hlen hBw
def Zh:Ren:=⟨fun | 167=>88 | n=>Tryz.lays156_ren.f n,Tryz.lays156_ren.t,fun n=>n⟩
theorem Abj:Lays.n167 prog Zh:={
 mixed:=by kernel_rfl
 f167:=func88.trans (congrArg some (by kernel_rfl))
 f240:=Tryz.lays156.f240.trans (congrArg some (by kernel_rfl))
 f276:=Tryz.lays156.f276.trans (congrArg some (by kernel_rfl))
 t0:=Tryz.lays156.t0,a0:=Tryz.lays156.a0,z0:=Tryz.lays156.z0,v0:=Tryz.lays156.v0
 t4:=Tryz.lays156.t4,a4:=Tryz.lays156.a4,z4:=Tryz.lays156.z4,v4:=Tryz.lays156.v4
 t5:=Tryz.Builder_Extra_156.t5,a5:=Tryz.Builder_Extra_156.a5,z5:=Tryz.Builder_Extra_156.z5,v5:=Tryz.Builder_Extra_156.v5
 t9:=Tryz.lays156.t9,a9:=Tryz.lays156.a9,z9:=Tryz.lays156.z9,v9:=Tryz.lays156.v9
 t20:=Tryz.lays156.t20,a20:=Tryz.lays156.a20,z20:=Tryz.lays156.z20,v20:=Tryz.lays156.v20
 t37:=Tryz.lays156.t37,a37:=Tryz.lays156.a37,z37:=Tryz.lays156.z37,v37:=Tryz.lays156.v37
 t70:=Tryz.lays156.t70,a70:=Tryz.lays156.a70,z70:=Tryz.lays156.z70,v70:=Tryz.lays156.v70
 t72:=Tryz.lays156.t72,a72:=Tryz.lays156.a72,z72:=Tryz.lays156.z72,v72:=Tryz.lays156.v72
 t75:=Tryz.lays156.t75,a75:=Tryz.lays156.a75,z75:=Tryz.lays156.z75,v75:=Tryz.lays156.v75
 t164:=Tryz.lays156.t164,a164:=Tryz.lays156.a164,z164:=Tryz.lays156.z164,v164:=Tryz.lays156.v164 }
theorem Yf:Builder.Extra prog Zh:={
 sizeBuilder:=by kernel_rfl
 liesBuilder:=by kernel_rfl
 t5:=underlying5
 a5:=Tryz.isAgg5
 z5:=Tryz.sizeOf5
 v5:=Tryz.zeroValue5
 infoByte:=by kernel_rfl
 cellsByte:=by kernel_rfl
 sizeByte:=by kernel_rfl
 neB5:=by decide }
theorem Xg (B b:Nat) (l:List Value) (c:Int) (w:World) (h:Lib.IsBuilder 144 5 B b l w) (hlen:l.length+1<=140737488355328) (hBw:B<=w.heap.size) :
 Calls prog 88 #[.pointer (some ⟨b,0,none⟩),.int .u8 c] w fun e w'=>e = .returned .nilIface/\(Lib.BuilderAt 144 5 B b (.pointer (some ⟨b,0,none⟩)) (l ++ [.int .u8 c]) w'/\Below B w w') :=
 Any.Builder_WriteByte Abj Yf B b l c w h hlen hBw
def Bd (B b:Nat) (t:List UInt8) (w:World):Prop:=Lib.IsBuilder 144 5 B b (Lib.byteCells t) w
theorem Bd.lt {B b:Nat} {t:List UInt8} {w:World} (h:Bd B b t w):b<w.heap.size:=by
 rcases h with h | h <;> exact h.lt
theorem Bd.below {B b:Nat} {t:List UInt8} {w w':World} (h:Bd B b t w) (hb:Below w.heap.size w w'):Bd B b t w':=by
 have key:∀p,Lib.BuilderAt 144 5 B b p (Lib.byteCells t) w->Lib.BuilderAt 144 5 B b p (Lib.byteCells t) w':=fun p h=>by
  have hl:=h.lt;obtain⟨h1,v,h2,h3,h4⟩:=h;refine⟨h1,v,by rw [hb.block b hl];exact h2,?_,h4⟩;obtain⟨e,h3⟩:=h3;refine⟨e,?_⟩;rcases h3 with h3 | ⟨g,cap,cur,hv,hg,hh,r⟩
  . exact .inl h3
  . have hgl:g<w.heap.size:=by
     rcases Nat.lt_or_ge g w.heap.size with h' | h'
     . exact h'
     . simp [Array.getElem?_eq_none h'] at hh
    exact .inr ⟨g,cap,cur,hv,hg,by rw [hb.block g hgl];exact hh,r⟩
 rcases h with h | h
 . exact .inl (key _ h)
 . exact .inr (key _ h)
theorem Sd (s:ByteArray):Lib.strCells s=Lib.byteCells s.toList:=by
 rw [ByteArray.toList_eq];simp [Lib.strCells,Lib.byteCells]
theorem Bd.write {B b:Nat} {t:List UInt8} {w:World} (h:Bd B b t w) (s:ByteArray) (hlen:t.length+s.size<=140737488355328) (hBw:B<=w.heap.size) :
 Calls prog 205 #[.pointer (some ⟨b,0,none⟩),.string s] w fun e w'=>e = .returned (.tuple #[.int .i64 s.size,.nilIface])/\Bd B b (t ++ s.toList) w'/\Below B w w':=by
 refine (Ss B b _ s w h (by simpa [Lib.byteCells] using hlen) hBw).mono ?_;rintro e w' ⟨rfl,h1,h2⟩;rw [Sd] at h1;refine⟨rfl,.inr ?_,h2⟩;have:Lib.byteCells t ++ Lib.byteCells s.toList=Lib.byteCells (t ++ s.toList):=by simp [Lib.byteCells]
 rwa [this] at h1
theorem Bd.byte {B b:Nat} {t:List UInt8} {w:World} (h:Bd B b t w) (c:UInt8) (hlen:t.length+1<=140737488355328) (hBw:B<=w.heap.size) :
 Calls prog 88 #[.pointer (some ⟨b,0,none⟩),.int .u8 c.toNat] w fun e w'=>e = .returned .nilIface/\Bd B b (t ++ [c]) w'/\Below B w w':=by
 refine (Xg B b _ c.toNat w h (by simpa [Lib.byteCells] using hlen) hBw).mono ?_;rintro e w' ⟨rfl,h1,h2⟩;refine⟨rfl,.inr ?_,h2⟩;have:Lib.byteCells t ++ [.int .u8 c.toNat]=Lib.byteCells (t ++ [c]):=by simp [Lib.byteCells]
 rwa [this] at h1
theorem Bd.string {B b:Nat} {t:List UInt8} {w:World} (h:Bd B b t w) (hBw:B<=w.heap.size) :
 Calls prog 87 #[.pointer (some ⟨b,0,none⟩)] w fun e w'=>e = .returned (.string (bs t))/\Below B w w' :=
 Tryz.Builder_String_any B b t w h hBw
theorem Bd.new (w:World):Bd w.heap.size w.heap.size [] (w.alloc (.cells #[.pointer none,.slice none 0 0] 144)):=Lib.fresh_isBuilder _ _ w
end Go.Proofs.YtppcohadoilpgaaGreatDoor
namespace Go.Proofs.YtppcohadoilpgaaGreatDoor
open Go.ChangeShapes Go.WideShapes Go.ChangeAt Go.RowKit Go.Joins Go.Proofs.Tryz
set_option linter.unusedVariables false
set_option maxRecDepth 100000
def Pow (w : World) : Prop := Lib.TabIs prog w "internal/strconv.uint64pow10" .u64 Lib.pow10Tab
theorem Aen : ∃ g, prog.globalNamed "internal/strconv.uint64pow10" = some g := by
 cases h : prog.globalNamed "internal/strconv.uint64pow10" with
 | none =>
  have e : (prog.globalNamed "internal/strconv.uint64pow10").isSome = true := by kernel_rfl
  rw [h] at e;cases e
 | some g=>exact⟨g,rfl⟩
theorem Pow.stays {w w':World} (h:Pow w) (hb:Below w.heap.size w w'):Pow w':=by
 obtain⟨g,hg⟩:=Aen;exact tab_stays hg h hb lr0
theorem Hy {w w':World} (h:∃k os,w'=Sort.grow (w.drewN k) os):Below w.heap.size w w':=by
 obtain⟨k,os,rfl⟩:=h;exact Lib.below_grow w.heap.size w lr0 k os
def D4 (r : Nat) (w : World) : Prop := ∃ g, prog.globalNamed "internal/strconv.uint64pow10" = some g /\ g < r /\ Pow w
theorem D4.low {r:Nat} {w w':World} (h:D4 r w) (hw:∀k,k<r->w'.heap[k]? = w.heap[k]?):D4 r w':=by
 obtain⟨g,hg,hl,h⟩:=h;refine⟨g,hg,hl,?_⟩;unfold Pow Lib.TabIs World.var? at h ⊢;rw [hg] at h ⊢;simp only [Option.bind_some] at h ⊢;rw [hw g hl];exact h
theorem D4.of {w:World} (h:Pow w):D4 w.heap.size w:=by
 obtain⟨g,hg⟩:=Aen;refine⟨g,hg,?_,h⟩;unfold Pow Lib.TabIs World.var? at h;rw [hg] at h;simp only [Option.bind_some] at h
 by_cases hl:g<w.heap.size
 . exact hl
 . rw [Array.getElem?_eq_none (by omega)] at h;cases h
end Go.Proofs.YtppcohadoilpgaaGreatDoor
