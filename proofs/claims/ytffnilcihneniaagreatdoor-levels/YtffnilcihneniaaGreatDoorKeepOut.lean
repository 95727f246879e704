/-
  out: a source is read and done on lines; what it prints, and how it ends.
-/
import Derived.Test.YtffnilcihneniaaGreatDoorRunC
namespace Go.Proofs.YtffnilcihneniaaGreatDoor
open Go.ChangeShapes Go.WideShapes Go.ChangeAt Go.RowKit Go.Joins
set_option maxHeartbeats 2000000
set_option linter.unusedVariables false
set_option maxRecDepth 100000
theorem read_s {s : ByteArray} {L : List UInt8} {l : List Ru} {w : World} (hs : s = bs L) (hR : readR L = .ok l) (hl : L.length <= 6000) (hK : Kr w) :
 Calls Tryz.prog 11 #[.string s] w fun e w' => ∃ a cap, e = .returned (.tuple #[.agg #[.slice a l.length cap], .int .i64 0]) /\ Below w.heap.size w w' /\ PrgA w' (.slice a l.length cap) l :=
 readOk (by rw [hs, bs_list]; exact hR) (by rw [hs, bs_size]; omega) hK
theorem TxsA.take {w : World} {a : Option Addr} {len cap : Nat} {l : List ByteArray} (h : TxsA w (.slice a len cap) l) (j : Nat) (hj : j <= l.length) : TxsA w (.slice a j cap) (l.take j) := by
 obtain ⟨a1, c1, hv, hl, hs⟩ := h
 cases hv
 have hn : (l.take j).length = j := by rw [List.length_take]; omega
 refine ⟨a, cap, by rw [hn], by rw [hn]; omega, fun h0 => ?_⟩
 rw [hn] at h0
 obtain ⟨b, off, ha, hb, hi⟩ := hs (by omega)
 refine ⟨b, off, ha, hb, fun i hi' => ?_⟩
 rw [hn] at hi'
 obtain ⟨cs, h1, h2, x, hx, h3⟩ := hi i (by omega)
 exact ⟨cs, h1, h2, x, by rw [List.getElem?_take_of_lt hi']; exact hx, h3⟩
theorem outs_c {s : ByteArray} {l : List Ru} {ls : List ByteArray} {lv : Value} {w : World} (hR : readR s.toList = .ok l) (hs : s.size <= 100000) (hck : ckP 6000 l = 0) (hw : worldR [] ls = 0) (hL : TxsA w lv ls) (hK : Kr w) :
 Calls Tryz.prog 15 #[.string s, lv] w fun e w' => ∃ a len cap, e = .returned (.tuple #[.slice a len cap, .int .i64 (endOf (finishM [] 6000 l ls (startM 50000))).1]) /\ len = (endOf (finishM [] 6000 l ls (startM 50000))).2.1.length /\ Below w.heap.size w w' /\ TxsA w' (.slice a len cap) (endOf (finishM [] 6000 l ls (startM 50000))).2.1 := by
 have HR : Hid _ := readOk hR hs hK
 have HK : Hid (Kr w) := hK
 have HL : Hid (TxsA w lv ls) := hL
 have HCK : Hid (ckP 6000 l = 0 /\ worldR [] ls = 0) := ⟨hck, hw⟩
 have hL2 := hL
 obtain ⟨a3, cap3, rfl, -, -⟩ := hL2
 clear hR hs hck hw hK hL
 go_enter Tryz.func15, Tryz.ntmps15
 go_wp2_with fail
 refine Calls.mono HR.out ?_
 rintro e w2 ⟨a, cap, rfl, hb2, hp2⟩
 have HB2 : Hid (Below w.heap.size w w2) := hb2
 have HRN : Hid (∀ W, Below w2.heap.size w2 W -> _) := fun W hW => runOk (fuel := 50000) (hp2.stays hW) ((HL.out.stays hb2).stays hW) ((HK.out.stays hb2).stays hW) HCK.out.1 HCK.out.2 (by decide) (by decide)
 clear hb2 hp2 HR HL HCK HK
 obtain ⟨len, hlen⟩ : ∃ len, len = l.length := ⟨_, rfl⟩
 rw [<- hlen] at HRN ⊢
 clear hlen
 go_wp2_with fail
 have HA : Hid (Below w2.heap.size w2 (w2.alloc (.cells #[.slice a len cap] 27))) := (Below.refl _ _).alloc (Nat.le_refl _) _
 refine Calls.mono (HRN.out _ HA.out) ?_
 rintro e w3 ⟨a4, n4, cap4, rfl, hn4, hb3, hl3, -⟩
 have HB3 : Hid (Below w.heap.size w w3) := bl_trans (bl_trans HB2.out HA.out) hb3
 have HL3 : Hid _ := hl3
 have HN4 : Hid _ := hn4
 clear hb3 hl3 hn4 HRN HB2 HA
 obtain ⟨en, hen⟩ : ∃ en, en = (endOf (finishM [] 6000 l ls (startM (Int.toNat 50000)))).1 := ⟨_, rfl⟩
 obtain ⟨us, hus⟩ : ∃ us : Int, us = 50000 - ↑(endOf (finishM [] 6000 l ls (startM (Int.toNat 50000)))).2.2 := ⟨_, rfl⟩
 rw [<- hen, <- hus]
 have HEN : Hid _ := hen
 clear hen hus
 go_wp2_with fail
 obtain ⟨b, hb⟩ : ∃ b, b = w3.heap.size := ⟨_, rfl⟩
 obtain ⟨W, hW⟩ : ∃ W, W = w3.alloc (.cells #[.slice a4 n4 cap4, .int .i64 en, .int .i64 us] 47) := ⟨_, rfl⟩
 have c0 : W.cell? ⟨b, 0, none⟩ = some (.slice a4 n4 cap4) := by rw [hW, hb]; simp [go_sem]
 have c1 : W.cell? ⟨b, 1, none⟩ = some (.int .i64 en) := by rw [hW, hb]; simp [go_sem]
 have HBW : Hid (Below w.heap.size w W /\ Below w3.heap.size w3 W) := by rw [hW]; exact ⟨HB3.out.alloc HB3.out.size _, (Below.refl _ _).alloc (Nat.le_refl _) _⟩
 rw [<- hW, <- hb]
 clear hW hb HB3
 have d0 : W.drew.cell? ⟨b, 0, none⟩ = some (.slice a4 n4 cap4) := c0
 have d1 : W.drew.cell? ⟨b, 1, none⟩ = some (.int .i64 en) := c1
 go_region_held3 (fun w' => w'.cell? ⟨b, 0, none⟩ = some (.slice a4 n4 cap4) /\ w'.cell? ⟨b, 1, none⟩ = some (.int .i64 en)) (go_keep) (fail)
 rename_i hheld
 clear hheld c0 c1 d0 d1
 go_wp2_with fail
 go_ret2
 refine ⟨a4, n4, cap4, ?_, HN4.out, HBW.out.1.trans ((below_drew W).mono HBW.out.1.size), TxsA.stays (TxsA.stays HL3.out HBW.out.2) (below_drew W)⟩
 rw [HEN.out]
 rfl
end Go.Proofs.YtffnilcihneniaaGreatDoor
