/-
  ListsKeep: its walk.
-/
import Derived.Test.YtffnilcihneniaaGreatDoorKeepRows
import Derived.Test.YtffnilcihneniaaGreatDoorListRun
import Derived.Test.YtffnilcihneniaaGreatDoorMEach
import Derived.Maps.RangeWalk
import Derived.Sort.KeysCollected
import Derived.Sort.OwnSorted
namespace Go.Proofs.YtffnilcihneniaaGreatDoor.listsKeep
open Go.ChangeShapes Go.WideShapes Go.ChangeAt Go.RowKit Go.Joins Go.Maps Go.WideMaps Go.Sort
set_option maxHeartbeats 4000000
set_option linter.unusedVariables false
set_option maxRecDepth 100000
def valP (p : List UInt8 × Vl) : Lit × DataW Value := (.string p.1, .held (.string p.2.str))
def valD (t : Tab) : DataW Value := .map (t.map valP)
theorem valD_filter (k : List UInt8) (t : Tab) : (t.map valP).filter (fun p => !p.1.sameKey (.string k)) = (tabDel k t).map valP := by
 unfold tabDel
 rw [List.filter_map]
 rfl
theorem valD_ins (x : List UInt8 × Vl) : ∀ t : Tab, DataW.insert (valP x) (t.map valP) = (tabIns x t).map valP
 | [] => rfl
 | y :: r => by
  have ih := valD_ins x r
  simp only [List.map_cons, DataW.insert, tabIns]
  have e : (valP x).1.before (valP y).1 = bytesBefore x.1 y.1 := rfl
  rw [e]
  by_cases h : bytesBefore x.1 y.1 = true
  . rw [if_pos h, if_pos h]; rfl
  . rw [if_neg h, if_neg h, ih]; rfl
theorem valD_put (k : List UInt8) (v : Vl) (t : Tab) : (valD t).put (.string k) (.held (.string v.str)) = valD (tabPut k v t) := by
 unfold valD tabPut
 simp only [DataW.put]
 rw [valD_filter, <- valD_ins]
 rfl
theorem valD_del (k : List UInt8) (t : Tab) : (valD t).del (.string k) = valD (tabDel k t) := by
 unfold valD
 simp only [DataW.del]
 rw [valD_filter]
theorem strLaw : Keyed Tryz.prog 9 := string_keyed Tryz.underlying9
structure Inv (w wr : World) (S : ByteArray) (i : Nat) (l : List Lop) : Prop where
 len : l.length = i
 small : ∀ x ∈ l, x.1 < 8
 txt : S = bs (lopsL 0 l)
 own : ∃ q, q <= i /\ wr.ownsMap Tryz.prog 9 anyV w.heap.size q (valD (lopsT 0 l []))
 low : Below w.heap.size w wr
theorem valD_keys (t : Tab) : Go.strKeys (valD t) = t.map (·.1) := by
 show (t.map valP).map _ = _
 rw [List.map_map]
 rfl
theorem valD_size (t : Tab) : Maps.size (valD t) = t.length := by
 unfold valD
 rw [Maps.size_eq, List.length_map]
theorem valD_sorted {w : World} {b n : Nat} {t : Tab} (h : w.ownsMap Tryz.prog 9 anyV b n (valD t)) : (t.map (·.1)).Pairwise (fun x y => x <= y) := by
 obtain ⟨es, he, hp, _⟩ := h.canon strLaw
 unfold valD at he
 cases he
 rw [List.pairwise_map] at hp ⊢
 exact hp.imp fun {p q} h => before_le _ _ h
structure Kyl (w wc wr : World) (q : Nat) (T : Tab) (left : Lit -> Bool) (cnt : Nat) (v : Value) (ss : List (List UInt8)) : Prop where
 rg : wr.ranges Tryz.prog 9 anyV w.heap.size wc.heap.size q (valD T) left cnt
 few : ss.length + cnt <= T.length
 row : wr.ownsRow (wc.heap.size + 1) 9 1 v ss.length (ss.map encStr)
 col : Collected (valD T) left ss
 low : Below w.heap.size w wr
 size : wc.heap.size + 1 <= wr.heap.size
theorem valD_at {T : Tab} (h : (T.map (·.1)).Nodup) {p : List UInt8 × Vl} (hp : p ∈ T) (z : DataW Value) : (valD T).atKey (.string p.1) z = .held (.string p.2.str) := by
 have h1 := tabAt_of h hp
 unfold tabAt at h1
 unfold valD
 simp only [DataW.atKey]
 rw [List.find?_map]
 have e : ((fun q : Lit × DataW Value => q.1.sameKey (Lit.string p.1)) ∘ valP) = fun q : List UInt8 × Vl => q.1 == p.1 := rfl
 rw [e]
 cases hf : T.find? fun q => q.1 == p.1 with
 | none => rw [hf] at h1; cases h1
 | some y =>
  rw [hf] at h1
  simp only [Option.map_some, Option.some.injEq] at h1 ⊢
  show DataW.held (Value.string y.2.str) = _
  rw [h1]
theorem valD_has (k : List UInt8) (t : Tab) : Maps.has (valD t) (.string k) = (tabAt k t).isSome := by
 unfold valD tabAt
 rw [Maps.has_eq, List.any_map]
 induction t with
 | nil => rfl
 | cons y r ih =>
  rw [List.any_cons, List.find?_cons, ih]
  have e : ((fun p : Lit × DataW Value => p.1.sameKey (.string k)) ∘ valP) y = (y.1 == k) := rfl
  rw [e]
  cases y.1 == k <;> simp
theorem valD_get (k : List UInt8) (t : Tab) : (valD t).atKey (.string k) (.held (.string ⟨#[]⟩)) = .held (.string (((tabAt k t).map Vl.str).getD ⟨#[]⟩)) := by
 unfold valD tabAt
 simp only [DataW.atKey]
 rw [List.find?_map]
 have e : ((fun q : Lit × DataW Value => q.1.sameKey (Lit.string k)) ∘ valP) = fun q : List UInt8 × Vl => q.1 == k := rfl
 rw [e]
 cases t.find? fun p => p.1 == k <;> rfl
theorem zeroSt (w : World) : (zeroValue 9).run Tryz.prog w = .ok (.string ⟨#[]⟩) w := by kernel_rfl
structure KeyR (w wc wr : World) (q : Nat) (T : Tab) (v : Value) : Prop where
 own : wr.ownsMap Tryz.prog 9 anyV w.heap.size q (valD T)
 row : wr.ownsRow (wc.heap.size + 1) 9 1 v T.length (T.map fun p => Value.string (bs p.1))
 low : RowKit.Below w.heap.size w wr
 size : wc.heap.size + 1 <= wr.heap.size
theorem enc_keys (T : Tab) : (T.map (·.1)).map encStr = T.map fun p => Value.string (bs p.1) := by
 rw [List.map_map]
 rfl
theorem sorted_c {w wc wx : World} {q : Nat} {T : Tab} {left : Lit -> Bool} {a7 : Option Addr} {len7 cap7 : Nat} {ss : List (List UInt8)} (h : Kyl w wc wx q T left 0 (.slice a7 len7 cap7) ss) (hl0 : ∀ kl, left kl = false) (hT : T.length <= 20) (hwc : w.heap.size < wc.heap.size) :
 Calls Tryz.prog 18 #[.slice a7 len7 cap7] wx fun e w' => e = .returned (.tuple #[]) /\ KeyR w wc w' q T (.slice a7 len7 cap7) := by
 have hown := h.rg.owns
 have hp : ss.Perm (T.map (·.1)) := valD_keys T ▸ h.col.perm hown strLaw Tryz.underlying9 hl0
 have e1 : ss.mergeSort (fun x y => decide (x <= y)) = T.map (·.1) := (mergeSort_of_perm hp).trans (List.mergeSort_of_pairwise ((valD_sorted hown).imp fun h => by simpa using h))
 have hlen : ss.length = T.length := by rw [hp.length_eq, List.length_map]
 rcases h.row.2 with ⟨hnil, h0⟩ | ⟨g, cap, cur, hv, hbase, hb, h1, h2, h3, h4⟩
 . cases hnil
   have hT0 : T = [] := List.eq_nil_of_length_eq_zero (by omega)
   refine (AnyM.slices_Sort_string_none Tryz.sort18 none 0 wx).mono fun e w' hd => ?_
   obtain ⟨rfl, rfl⟩ := hd
   subst hT0
   exact ⟨rfl, hown, World.ownsRow_nil _ _ _ _, h.low, h.size⟩
 . cases hv
   refine (AnyM.slices_Sort_string Tryz.sort18 g 0 cap7 ss wx (holds_of_block hb (by simpa using h4)) (Array.getElem?_eq_some_iff.1 hb).1 (by omega)).mono fun e w' hd => ?_
   obtain ⟨rfl, nn, os, rfl⟩ := hd
   rw [e1]
   have hr := ownsRow_sorted (ts := T.map (·.1)) (n := nn) (os := os) (by rw [List.length_map, hlen]) hbase hb h1 h2 h3
   have hg := grownBy_sorted (w := wx) (g := g) (n := nn) (os := os) (T.map (·.1)).toArray.toList.toArray
   refine ⟨rfl, hown.kept hg ?_, ?_, ?_, ?_⟩
   . simp; omega
   . rw [enc_keys] at hr
     rw [hlen] at hr ⊢
     exact hr
   . exact h.low.grown hg h.low.size fun k hk => by cases hk; omega
   . exact Nat.le_trans h.size hg.size
theorem tell_size {T : Tab} (h : TabL T) : ∀ x ∈ T.map tellP, x.size <= maxLen := fun x hx => by
 obtain ⟨p, hp, rfl⟩ := List.mem_map.1 hx
 obtain ⟨d, hd, hk⟩ := h.keys p hp
 obtain ⟨i, hi, hv⟩ := h.vals p hp
 have b1 := itoa_le d (by omega)
 have b2 := itoa_le i (by omega)
 have e : (tellP p).size = (p.1 ++ [32] ++ p.2.str.data.toList).length := by
  show (List.toArray _).size = _
  rw [List.size_toArray]
 rw [e, hk, hv, vn_str]
 simp only [keyL, List.length_append, List.length_cons, List.length_nil]
 unfold maxLen
 omega
theorem want_txs {w1 w5 : World} {v : Value} {T : Tab} (h : Own1 w1 w5 v (lWant T)) (ht : TabL T) (hl : T.length <= 20) : TxsA w5 v (lWant T) :=
 h.texts (fun x hx => by
  rcases List.mem_append.1 hx with hx | hx
  . exact tell_size ht x hx
  . simp only [List.mem_cons, List.not_mem_nil, or_false] at hx
    have b : (Lib.itoa (b2i (tabAt (keyL 3) T).isSome)).length <= 21 := by cases (tabAt (keyL 3) T).isSome <;> exact Lib.itoa_length_le _ (by decide) (by decide)
    rw [hx]
    show (List.toArray _).size <= _
    simp only [List.size_toArray, List.length_append, List.length_cons, List.length_nil]
    unfold maxLen
    omega) (by unfold lWant; rw [List.length_append, List.length_map]; simp only [List.length_cons, List.length_nil]; unfold maxLen; omega)
theorem out_list {S : ByteArray} {l : List Lop} {w : World} (hd : ∀ x ∈ l, x.1 < 8) (hl : l.length <= 20) (hS : S = bs (lopsL 0 l)) (hK : Kr w) :
 Calls Tryz.prog 15 #[.string (⟨#[66, 69, 71, 73, 78, 32, 123, 32]⟩ ++ S ++ ⟨#[102, 111, 114, 32, 40, 107, 32, 105, 110, 32, 97, 41, 32, 123, 32, 112, 114, 105, 110, 116, 32, 107, 44, 32, 97, 91, 107, 93, 59, 32, 125, 32, 112, 114, 105, 110, 116, 32, 34, 107, 51, 34, 32, 105, 110, 32, 97, 44, 32, 97, 91, 34, 110, 111, 110, 101, 34, 93, 59, 32, 125]⟩), .slice none 0 0] w fun e w' => ∃ a len cap, e = .returned (.tuple #[.slice a len cap, .int .i64 0]) /\ RowKit.Below w.heap.size w w' /\ TxsA w' (.slice a len cap) (lWant (lopsT 0 l [])) := by
 obtain ⟨s, h1, h2⟩ := list_run (F := []) (m := 5995) l hd hl
 have es : (⟨#[66, 69, 71, 73, 78, 32, 123, 32]⟩ ++ S ++ ⟨#[102, 111, 114, 32, 40, 107, 32, 105, 110, 32, 97, 41, 32, 123, 32, 112, 114, 105, 110, 116, 32, 107, 44, 32, 97, 91, 107, 93, 59, 32, 125, 32, 112, 114, 105, 110, 116, 32, 34, 107, 51, 34, 32, 105, 110, 32, 97, 44, 32, 97, 91, 34, 110, 111, 110, 101, 34, 93, 59, 32, 125]⟩ : ByteArray) = bs (lSrc l) := by
  rw [hS]
  show bs _ ++ bs _ ++ bs _ = bs _
  rw [bs_app, bs_app]
  rfl
 rw [es]
 have hz := lopsL_len l 0 hd (by omega)
 have h3 : (lSrc l).length = 8 + (lopsL 0 l).length + 61 := by simp only [lSrc, List.length_append]; rfl
 have h := outs_c (s := bs (lSrc l)) (ls := []) (lv := .slice none 0 0) (by rw [bs_list]; exact list_read l hd hl) (by rw [bs_size]; omega) (list_ck 5994 l hd hl) (by kernel_rfl) (nilTx w) hK
 rw [h1] at h
 refine h.mono fun e w' ⟨a, len, cap, he, hl, hb, ht⟩ => ⟨a, len, cap, he, hb, ?_⟩
 have h3 : (endOf (.go s true)).2.1 = _ := h2
 rw [h3] at ht
 exact ht
theorem walk (v : Value) (n : Nat) (w : World) (hK : Kr w) (hv : IntsA w v n) :
 Calls Tryz.prog 7 #[v] w fun e w' => e = .returned (.bool true) /\ Below w.heap.size w w' := by
 obtain ⟨a, cap, rfl, hmax, hs⟩ := hv
 have HK : Hid (Kr w) := hK
 have HS : Hid _ := hs
 have HM : Hid (n <= maxLen) := hmax
 have hmm := @run_makeMap Tryz.prog
 clear hK hs hmax
 go_enter Tryz.func7, Tryz.ntmps7
 go_upto_block 0 with fail
 go_cut [4] (fun v4 wx => ∃ (i : Nat) (l : List Lop) (S : ByteArray), v4 = .string S /\ Hid (Inv w wx S i l /\ i <= 20))
 case first =>
  go_wp2_with fail
  go_loopw [4, 5] (fun v4 v5 wr => ∃ (i : Nat) (l : List Lop) (S : ByteArray), i <= n /\ i <= 20 /\ v4 = .string S /\ v5 = .int .i64 i /\ Hid (Inv w wr S i l)) (fun _ v5 _ => n - (intOf v5).toNat)
  case atStart => exact ⟨0, [], ⟨#[]⟩, Nat.zero_le _, Nat.zero_le _, rfl, rfl, rfl, fun _ h => (by cases h), rfl, ⟨0, Nat.le_refl _, World.ownsMap_made _ _ _ _⟩, (Below.refl _ _).alloc (Nat.le_refl _) _⟩
  case round =>
   obtain ⟨i, l, S, hin, hi20, rfl, rfl, HV⟩ := hrel
   by_cases hlt : i < n
   . have i1 : (i : Int) < (n : Int) := by omega
     have i2 : (0 : Int) <= (i : Int) := by omega
     by_cases h20 : i < 20
     . have i3 : (i : Int) < 20 := by omega
       obtain ⟨b, off, rfl, hb, hc⟩ := HS.out (by omega)
       obtain ⟨z, hz, hzw⟩ := hc i hlt
       have q0 : wr.cell? ⟨b, off + i, none⟩ = some (.int .i64 z) := (HV.out.low.cell (p := ⟨b, off + i, none⟩) hb).trans hz
       have HP := hid (picked_c z 8 wr hzw (by decide) (by decide))
       have HZW : Hid _ := hzw
       have HKR : Hid (Kr wr) := HK.out.stays HV.out.low
       clear hz hzw hc
       go_wp2_with fail
       refine Calls.mono HP.out ?_
       rintro e w1 ⟨d, hd, rfl, hw1⟩
       rw [hw1]
       clear hw1 w1 HP
       have HI1 := hid (Tryz.strconv_Itoa (d : Int) (by omega) (by omega) wr HKR.out.pw)
       go_wp2_with fail
       refine Calls.mono HI1.out ?_
       rintro e w2 ⟨rfl, hg2⟩
       have HB2 := hid (below_grown_k hg2)
       have q2 : w2.cell? ⟨b, off + i, none⟩ = some (.int .i64 z) := (HB2.out.cell (p := ⟨b, off + i, none⟩) (World.block_lt_of_cell? _ ⟨b, off + i, none⟩ q0)).trans q0
       obtain ⟨Y, hY⟩ : ∃ Y : ByteArray, Y = ⟨(Lib.itoa (d : Int)).toArray⟩ := ⟨_, rfl⟩
       have HY : Hid (⟨#[107]⟩ ++ Y = bs (keyL d)) := by unfold Hid keyL; rw [hY, <- bs_app]; rfl
       have y1 : Y.size <= 100 := by have := itoa_le d (by omega); rw [hY]; simpa [ByteArray.size] using (by omega : (Lib.itoa (d : Int)).length <= 100)
       rw [<- hY]
       clear hg2 hY HI1 q0
       go_wp2_with fail
       obtain ⟨Kk, hKk⟩ : ∃ Kk : ByteArray, Kk = ⟨#[107]⟩ ++ Y := ⟨_, rfl⟩
       have HKk : Hid (Kk = bs (keyL d)) := by rw [hKk]; exact HY
       have kk1 : Kk.size <= 200 := by rw [HKk.out]; exact key_size hd
       obtain ⟨z2, hz2⟩ : ∃ z2, z2 = wrap64 (z.tdiv 8) := ⟨_, rfl⟩
       have HP2 := hid (picked_c z2 4 w2 (by rw [hz2]; exact wrap64_wf _) (by decide) (by decide))
       rw [<- hKk, <- hz2]
       clear hKk hz2 y1 HY
       refine Calls.mono HP2.out ?_
       rintro e w3 ⟨g, hg, rfl, hw3⟩
       rw [hw3]
       clear hw3 w3 HP2 q2
       have s1 : S.size <= 2000 := by rw [HV.out.txt, bs_size]; have h := lopsL_len l 0 HV.out.small (by rw [HV.out.len]; omega); have := HV.out.len; omega
       obtain ⟨q, hq, hown⟩ := HV.out.own
       have hkey : keyOf Tryz.prog 9 (.string Kk) = some (.string (keyL d)) := by
        have h := keyOf_string_mk (P := Tryz.prog) (s := Kk) Tryz.underlying9 (by unfold maxLen; omega)
        rw [h, HKk.out]
        simp [bs]
       have hbw : w.heap.size < w2.heap.size := Nat.lt_of_lt_of_le hown.lt HB2.out.size
       have HOW : Hid (w2.ownsMap Tryz.prog 9 anyV w.heap.size q (valD (lopsT 0 l []))) := ownsMap_block hown (HB2.out.block _ hown.lt)
       have HIV : Hid (l.length = i /\ (∀ x ∈ l, x.1 < 8) /\ S = bs (lopsL 0 l) /\ q <= i /\ i < n /\ i < 20 /\ d < 8) := ⟨HV.out.len, HV.out.small, HV.out.txt, hq, hlt, h20, hd⟩
       have HLW : Hid (Below w.heap.size w w2) := bl_trans HV.out.low HB2.out
       clear hown HV HKR HZW HB2 hq
       by_cases hg0 : g = 0
       . subst hg0
         clear hin hi20 hlt i1 i2 i3 h20 hb hd hg
         go_wp2_with (first
          | (at_delete; refine wpList_delete_own _ rfl _ _ 42 9 rfl 9 strLaw Tryz.underlying42 anyV w.heap.size q _ rfl HOW.out _ _ rfl hkey ?_; intro w5 hown5 hturn5; have HO5 := hid hown5; have HT5 := hid hturn5.grown; clear hown5 hturn5; have i4 : -9223372036854775808 <= (i : Int) + 1 := (by have := HIV.out.2.2.2.2.2.1; omega); have i5 : (i : Int) + 1 <= 9223372036854775807 := (by have := HIV.out.2.2.2.2.2.1; omega)))
         obtain ⟨h1, h2, h3, h4, h5, h6, h7⟩ := HIV.out
         refine ⟨⟨i + 1, l ++ [(d, true)], _, by omega, by omega, rfl, by simp, by rw [List.length_append, h1]; rfl, fun x hx => ?_, ?_, ⟨q, by omega, ?_⟩, ?_⟩, by simp [intOf]; omega⟩
         . rcases List.mem_append.1 hx with hx | hx
           . exact h2 x hx
           . simp at hx; rw [hx]; exact h7
         . rw [lopsL_snoc, h3, HKk.out, <- bs_app]
           show _ = bs _ ++ bs ([100, 101, 108, 101, 116, 101, 32, 97, 91, 34] ++ keyL d ++ [34, 93, 59, 32])
           rw [<- bs_app, <- bs_app]
           rfl
         . rw [lopsT_snoc]
           show w5.ownsMap _ _ _ _ _ (valD (tabDel (keyL d) (lopsT 0 l [])))
           rw [<- valD_del]
           exact HO5.out
         . exact HLW.out.grown HT5.out HLW.out.size fun k hk => (by cases hk; exact Nat.le_refl _)
       . have i6 : ((g : Int) == 0) = false := by simp; omega
         have i7 : ¬ (g : Int) = 0 := by omega
         clear hin hi20 hlt i1 i2 i3 hb hd hg hg0
         have HI2 := hid (Tryz.strconv_Itoa (i : Int) (by omega) (by omega) w2 (HK.out.stays HLW.out).pw)
         clear h20
         go_wp2_with fail
         refine Calls.mono HI2.out ?_
         rintro e w3 ⟨rfl, hg3⟩
         have HB3 := hid (below_grown_k hg3)
         obtain ⟨V, hV⟩ : ∃ V : ByteArray, V = ⟨(Lib.itoa (i : Int)).toArray⟩ := ⟨_, rfl⟩
         have HVV : Hid (V = bs (Lib.itoa (i : Int))) := hV
         have v1 : V.size <= 100 := by have := itoa_le i (by have := HIV.out.2.2.2.2.2.1; omega); rw [hV]; simpa [ByteArray.size] using (by omega : (Lib.itoa (i : Int)).length <= 100)
         have HI3 := hid (Tryz.strconv_Itoa (i : Int) (by omega) (by have := HIV.out.2.2.2.2.2.1; omega) w3 ((HK.out.stays HLW.out).stays HB3.out).pw)
         rw [<- hV] at HI3 ⊢
         clear hg3 hV HI2
         go_wp2_with fail
         refine Calls.mono HI3.out ?_
         rintro e w4 ⟨rfl, hg4⟩
         have HB4 := hid (bl_trans HB3.out (below_grown_k hg4))
         have HOW4 : Hid (w4.ownsMap Tryz.prog 9 anyV w.heap.size q (valD (lopsT 0 l []))) := ownsMap_block HOW.out (HB4.out.block _ HOW.out.lt)
         have HLW4 : Hid (Below w.heap.size w w4) := bl_trans HLW.out HB4.out
         clear hg4 HI3 HB3 HB4 HOW HLW hbw s1 kk1 v1
         go_wp2_with (first
          | (at_mapUpdate; refine wpList_mapUpdate_own _ rfl _ _ _ 42 rfl 9 9 strLaw Tryz.underlying42 anyV w.heap.size q _ rfl HOW4.out (by have := HIV.out; unfold maxLen; omega) _ _ _ rfl rfl hkey (.held (.string V)) [] rfl ?_; intro w5 hown5 hgrow5; have HO5 := hid hown5; have HT5 := hid hgrow5; clear hown5 hgrow5; have i4 : -9223372036854775808 <= (i : Int) + 1 := (by have := HIV.out.2.2.2.2.2.1; omega); have i5 : (i : Int) + 1 <= 9223372036854775807 := (by have := HIV.out.2.2.2.2.2.1; omega)))
         obtain ⟨h1, h2, h3, h4, h5, h6, h7⟩ := HIV.out
         refine ⟨⟨i + 1, l ++ [(d, false)], _, by omega, by omega, rfl, by simp, by rw [List.length_append, h1]; rfl, fun x hx => ?_, ?_, ⟨q + 1, by omega, ?_⟩, ?_⟩, by simp [intOf]; omega⟩
         . rcases List.mem_append.1 hx with hx | hx
           . exact h2 x hx
           . simp at hx; rw [hx]; exact h7
         . rw [lopsL_snoc, h3, HKk.out, HVV.out, h1, Nat.zero_add, <- bs_app]
           show _ = bs _ ++ bs ([97, 91, 34] ++ keyL d ++ [34, 93, 32, 61, 32] ++ Lib.itoa (i : Int) ++ [59, 32])
           rw [<- bs_app, <- bs_app, <- bs_app, <- bs_app]
           rfl
         . rw [lopsT_snoc, h1, Nat.zero_add]
           show w5.ownsMap _ _ _ _ _ (valD (tabPut (keyL d) (vN (i : Int)) (lopsT 0 l [])))
           rw [<- valD_put]
           have e : (vN (i : Int)).str = V := HVV.out.symm
           rw [e]
           exact HO5.out
         . exact HLW4.out.grown HT5.out HLW4.out.size fun k hk => (by cases hk; exact Nat.le_refl _)
     . have i3 : ¬ (i : Int) < 20 := by omega
       go_wp2_with fail
       go_meet
       exact ⟨i, l, S, rfl, HV.out, hi20⟩
   . have i1 : ¬ (i : Int) < (n : Int) := by omega
     go_wp2_with fail
     go_meet
     exact ⟨i, l, S, rfl, HV.out, hi20⟩
 obtain ⟨i, l, S, rfl, HV⟩ := hcut
 obtain ⟨wd, hwd⟩ : ∃ wd, wd = wc := ⟨_, rfl⟩
 subst hwd
 clear hmm HS HM
 obtain ⟨hIV, h20⟩ := HV.out
 obtain ⟨q, hq, hown⟩ := hIV.own
 obtain ⟨T, hT⟩ : ∃ T, T = lopsT 0 l [] := ⟨_, rfl⟩
 rw [<- hT] at hown
 have htl : T.length <= 20 := by rw [hT]; have h := lopsT_len l 0 []; have := hIV.len; simp at h; omega
 have HOW : Hid (wd.ownsMap Tryz.prog 9 anyV w.heap.size q (valD T)) := hown
 have HLW : Hid (Below w.heap.size w wd /\ w.heap.size < wd.heap.size /\ T.length <= 20) := ⟨hIV.low, hown.lt, htl⟩
 have HT : Hid (T = lopsT 0 l [] /\ l.length <= 20 /\ (∀ x ∈ l, x.1 < 8) /\ S = bs (lopsL 0 l)) := ⟨hT, by have := hIV.len; omega, hIV.small, hIV.txt⟩
 obtain ⟨i0, hi, hz0, hz1, hz2⟩ := info_parts infoTx
 have HI : Hid (Tryz.prog.info? 9 = some i0 /\ i0.zero = some (.string ⟨#[]⟩) /\ i0.size = 1 /\ i0.bytes = 16) := ⟨hi, hz0, hz1, hz2⟩
 clear hIV h20 hown hT htl HV hi hz0 hz1 hz2 hq
 go_upto_block 2 with (first
  | (at_range; refine wpList_range_own _ rfl _ 42 rfl 9 9 strLaw Tryz.underlying42 anyV w.heap.size q _ rfl HOW.out ?_; intro w0 hrg0 hg0 hs0; have HRG0 := hid hrg0; have HG0 := hid (And.intro hg0 hs0); clear hrg0 hg0 hs0))
 go_frame
 go_cut [7] (fun v7 wx => ∃ a7 len7 cap7, v7 = .slice a7 len7 cap7 /\ Hid (∃ left ss, Kyl w wd wx q T left 0 v7 ss /\ ∀ kl, left kl = false))
 case first =>
  go_wp2_with fail
  go_loopw [7] (fun v7 wr => ∃ (left : Lit -> Bool) (cnt : Nat) (ss : List (List UInt8)) (a7 : Option Addr) (len7 cap7 : Nat), v7 = .slice a7 len7 cap7 /\ Hid (Kyl w wd wr q T left cnt v7 ss)) (fun _ wr => wr.rangeLeft w.heap.size wd.heap.size)
  case atStart =>
   exact ⟨_, _, [], none, 0, 0, rfl, HRG0.out, by simp [valD_size], World.ownsRow_nil _ _ _ _, Collected.start _, HLW.out.1.grown HG0.out.1 HLW.out.1.size (fun j hj => by cases hj), by have := HG0.out.2; omega⟩
  case round =>
   obtain ⟨left, cnt, ss, a7, len7, cap7, rfl, HV⟩ := hrel
   clear HRG0 HG0
   go_wp2_with (first
    | (at_next; refine wpList_next_ranges _ rfl _ rfl 9 strLaw anyV encStr (fun v : Value => v) (fun key kl hk => by obtain ⟨x, hx, _⟩ := Maps.keyOf_str Tryz.underlying9 hk; exact ⟨x, hx⟩) (fun v y _ => ⟨v, rfl⟩) w.heap.size wd.heap.size q _ _ _ rfl HV.out.rg ?_ ?_))
   . intro hc0 hl0
     have HD : Hid (∃ left ss, Kyl w wd wr q T left 0 (.slice a7 len7 cap7) ss /\ ∀ kl, left kl = false) := ⟨left, ss, by subst hc0; exact HV.out, hl0⟩
     clear HV hc0 hl0
     go_wp2_with fail
     go_meet
     exact ⟨a7, len7, cap7, rfl, HD⟩
   . intro x c kl yd yp w2 cnt2 hkey hlk hv hat hrg2 hlt hg2 hs2 hen
     obtain ⟨x', ex, rfl, hxl⟩ := Maps.keyOf_str Tryz.underlying9 hkey
     obtain rfl : x = x' := encStr_inj ex
     have HV2 : Hid (w2.ownsRow (wd.heap.size + 1) 9 1 (.slice a7 len7 cap7) ss.length (ss.map encStr) /\ w2.ranges Tryz.prog 9 anyV w.heap.size wd.heap.size q (valD T) (fun z => left z && !z.sameKey (.string x)) cnt2 /\ Below w.heap.size w w2 /\ wd.heap.size + 1 <= w2.heap.size) :=
      ⟨HV.out.row.kept hg2 (Or.inr (row_ne_iter HV.out.row HV.out.rg).symm), hrg2, HV.out.low.grown hg2 HV.out.low.size (fun j hj => by cases hj; have := HLW.out.2.1; omega), by rw [hs2]; exact HV.out.size⟩
     have HSS : Hid (ss.length + 1 + cnt2 <= T.length /\ Collected (valD T) (fun z => left z && !z.sameKey (.string x)) (ss ++ [x]) /\ cnt2 < cnt /\ ss.length <= 20) := ⟨by have := HV.out.few; omega, HV.out.col.step hlk hat, hlt, by have := HV.out.few; have := HLW.out.2.2; omega⟩
     have HRG : Hid (wr.ranges Tryz.prog 9 anyV w.heap.size wd.heap.size q (valD T) left cnt) := HV.out.rg
     obtain ⟨X, hX⟩ : ∃ X : Value, X = encStr x := ⟨_, rfl⟩
     have hX2 : X = .string ⟨x.toArray⟩ := hX
     clear hkey hlk hv hat hrg2 hlt hg2 hs2 HV hxl
     go_wp2_with (first
      | (at_builtin; refine wpList_append_own_at _ rfl _ _ 23 rfl (wd.heap.size + 1) 9 i0 (.string ⟨#[]⟩) 1 16 Tryz.underlying23 HI.out.1 HI.out.2.1 HI.out.2.2.1 HI.out.2.2.2 rfl (by decide) (.slice a7 len7 cap7) ss.length (ss.map encStr) rfl (HV2.out.1.alloc _) ⟨w2.heap.size, 0, none⟩ 1 1 [encStr x] rfl rfl (cells_at _ _ _) (by intro u hu; simp at hu; rcases hu with rfl; rfl) (by have := HSS.out.2.2.2; unfold maxLen; omega) (by have := HSS.out.2.2.2; omega) (Nat.le_trans HV2.out.2.2.2 (by simp)) ?_; intro v' w5 hown hgrow hnil hloc; have HO5 := hid hown; have HG5 := hid hgrow; obtain ⟨va, vl, vc, rfl⟩ : ∃ a len cap, v' = .slice a len cap := (by rcases hown.2 with ⟨rfl, _⟩ | ⟨g, cap, cur, rfl, _⟩ <;> exact ⟨_, _, _, rfl⟩); clear hown hgrow hnil hloc))
     have hrg := (HV2.out.2.1.alloc _).kept HG5.out (row_ne_low HV2.out.1 (by have := HLW.out.2.1; omega)) (row_ne_iter HV2.out.1 HV2.out.2.1)
     have hz := HV2.out.2.2.1.size
     refine ⟨⟨_, cnt2, ss ++ [x], va, vl, vc, rfl, hrg, by rw [List.length_append]; have := HSS.out.1; simpa using this, by rw [List.length_append, List.map_append]; exact HO5.out, HSS.out.2.1, ?_, ?_⟩, by rw [hrg.left_eq, HRG.out.left_eq]; exact HSS.out.2.2.1⟩
     . refine (HV2.out.2.2.1.alloc hz _).grown HG5.out (by simp; omega) fun j hj => ?_
       have := (HV2.out.1.lt j hj).1
       have := HLW.out.2.1
       omega
     . have := HG5.out.size
       have := HV2.out.2.2.2
       simp at *
       omega
 obtain ⟨a7, len7, cap7, rfl, HKY⟩ := hcut
 have HSO : Hid (Calls Tryz.prog 18 #[.slice a7 len7 cap7] wc fun e w' => e = .returned (.tuple #[]) /\ KeyR w wd w' q T (.slice a7 len7 cap7)) := by
  obtain ⟨left, ss, h1, h2⟩ := HKY.out
  exact sorted_c h1 h2 HLW.out.2.2 HLW.out.2.1
 clear HKY
 go_wp2_with fail
 refine Calls.mono HSO.out ?_
 rintro e w1 ⟨rfl, hk1⟩
 have HKR : Hid (KeyR w wd w1 q T (.slice a7 len7 cap7)) := hk1
 clear hk1 HSO HOW
 have hsh : ∃ c7, Value.slice a7 len7 cap7 = .slice a7 T.length c7 := by
  rcases HKR.out.row.2 with ⟨h1, h2⟩ | ⟨g, c, cur, h1, _⟩
  . cases h1; rw [h2]; exact ⟨_, rfl⟩
  . cases h1; exact ⟨_, rfl⟩
 obtain ⟨c7, he7⟩ := hsh
 cases he7
 have HTL : Hid (TabL T) := by rw [HT.out.1]; exact TabL.nil.lops HT.out.2.2.1 (by have := HT.out.2.1; omega)
 go_upto_block 4 with fail
 go_cut [9] (fun v9 wx => ∃ a9 len9 cap9, v9 = .slice a9 len9 cap9 /\ Hid (Rows2 w1 wx v9 (T.map tellP) (.slice none 0 0) []))
 case first =>
  go_wp2_with fail
  go_loopw [9, 75] (fun v9 v75 wr => ∃ (i : Nat) (a9 : Option Addr) (len9 cap9 : Nat), i <= T.length /\ v9 = .slice a9 len9 cap9 /\ v75 = .int .i64 i /\ Hid (Rows2 w1 wr v9 ((T.take i).map tellP) (.slice none 0 0) [])) (fun _ v75 _ => T.length - (intOf v75).toNat)
  case atStart => exact ⟨0, none, 0, 0, Nat.zero_le _, rfl, rfl, Rows2.nil w1⟩
  case round =>
   obtain ⟨i, a9, len9, cap9, hiT, rfl, rfl, HR⟩ := hrel
   by_cases hlt : i < T.length
   . have i1 : (i : Int) < (T.length : Int) := by omega
     have i2 : (0 : Int) <= (i : Int) := by omega
     obtain ⟨p, hp⟩ : ∃ p, p = T[i] := ⟨_, rfl⟩
     have hpm : p ∈ T := by rw [hp]; exact List.getElem_mem hlt
     obtain ⟨g, rfl⟩ : ∃ g, a7 = some ⟨g, 0, none⟩ := by
      rcases HKR.out.row.2 with ⟨h1, h2⟩ | ⟨g, c, cur, h1, _⟩
      . omega
      . cases h1; exact ⟨g, rfl⟩
     obtain ⟨K1, hK1⟩ : ∃ K1, K1 = bs p.1 := ⟨_, rfl⟩
     obtain ⟨V1, hV1⟩ : ∃ V1, V1 = p.2.str := ⟨_, rfl⟩
     have hq := HKR.out.row.cellAt i (by omega)
     rw [List.getElem?_map, List.getElem?_eq_getElem hlt, <- hp, Option.map_some, <- hK1] at hq
     have q0 : wr.cell? ⟨g, i, none⟩ = some (.string K1) := (HR.out.low.cell (p := ⟨g, i, none⟩) (HKR.out.row.lt g rfl).2).trans hq
     obtain ⟨dd, hdd, hdk⟩ := HTL.out.keys p hpm
     obtain ⟨ii, hii, hiv⟩ := HTL.out.vals p hpm
     have k1 : K1.size <= 200 := by rw [hK1, hdk]; exact key_size hdd
     have v1 : V1.size <= 200 := by
      have := itoa_le ii (by omega)
      have e : V1.size = (Lib.itoa (ii : Int)).length := by rw [hV1, hiv]; show (⟨(Lib.itoa (ii : Int)).toArray⟩ : ByteArray).size = _; simp [ByteArray.size]
      omega
     have hkey : keyOf Tryz.prog 9 (.string K1) = some (.string p.1) := by
      have h := keyOf_string_mk (P := Tryz.prog) (s := K1) Tryz.underlying9 (by unfold maxLen; omega)
      rw [h, hK1]
      simp [bs]
     have hlk : (Instr.lookup 42 (.map (some w.heap.size)) (.string K1) false).run Tryz.prog wr = .ok (.string V1) wr := by
      obtain ⟨v, ps, hr, hv⟩ := (ownsMap_block HKR.out.own (HR.out.low.block _ HKR.out.own.lt)).lookup strLaw Tryz.underlying42 (zeroSt wr) rfl hkey
      have h1 := (anyV_inv hv).1
      rw [valD_at HTL.out.nodup hpm] at h1
      cases h1
      rw [hV1]
      exact hr
     have HTX : Hid (K1 ++ ⟨#[32]⟩ ++ V1 = tellP p) := by
      unfold Hid
      rw [hK1, hV1]
      show bs _ ++ bs [32] ++ p.2.str = bs _
      rw [<- bs_app, <- bs_app]
      congr 1
     have HN : Hid (((T.take i).map tellP).length <= 20) := by unfold Hid; rw [List.length_map, List.length_take]; have := HLW.out.2.2; omega
     have HN2 : Hid (i < T.length /\ i < 20 /\ (T.take (i + 1)).map tellP = (T.take i).map tellP ++ [tellP p]) := ⟨hlt, by have := HLW.out.2.2; omega, by rw [List.take_succ_eq_append_getElem hlt, <- hp, List.map_append]; rfl⟩
     clear hq hpm hdk hdd hiv hii hkey hK1 hV1 hp hiT hlt
     go_wp2_with (first
      | (at_builtin; refine wpList_append_own_at _ rfl _ _ 23 rfl w1.heap.size 9 i0 (.string ⟨#[]⟩) 1 16 Tryz.underlying23 HI.out.1 HI.out.2.1 HI.out.2.2.1 HI.out.2.2.2 rfl (by decide) (.slice a9 len9 cap9) ((T.take i).map tellP).length (((T.take i).map tellP).map Value.string) rfl (HR.out.one.alloc _) ⟨wr.heap.size, 0, none⟩ 1 1 [.string (K1 ++ ⟨#[32]⟩ ++ V1)] rfl rfl (cells_at _ _ _) (by intro u hu; simp at hu; rcases hu with rfl; rfl) (by have := HN.out; unfold maxLen; omega) (by have := HN.out; omega) (Nat.le_trans HR.out.low.size (by simp)) ?_; intro v' w5 hown hgrow hnil hloc; have HV5 := hid (HR.out.push hown hgrow hloc); obtain ⟨va, vl, vc, rfl⟩ : ∃ a len cap, v' = .slice a len cap := (by rcases hown.2 with ⟨rfl, _⟩ | ⟨g, cap, cur, rfl, _⟩ <;> exact ⟨_, _, _, rfl⟩); clear hown hgrow hnil hloc; have i4 : -9223372036854775808 <= (i : Int) + 1 := (by have := HN2.out; omega); have i5 : (i : Int) + 1 <= 9223372036854775807 := (by have := HN2.out; omega)))
     refine ⟨⟨i + 1, va, vl, vc, HN2.out.1, rfl, by simp, ?_⟩, by have := HN2.out.1; simp [intOf]; omega⟩
     have h := HV5.out
     rw [HTX.out, <- HN2.out.2.2] at h
     exact h
   . have i1 : ¬ (i : Int) < (T.length : Int) := by omega
     have HR2 : Hid (Rows2 w1 wr (.slice a9 len9 cap9) (T.map tellP) (.slice none 0 0) []) := by have h := HR.out; rwa [List.take_of_length_le (by omega)] at h
     clear HR hlt hiT
     go_wp2_with fail
     go_meet
     exact ⟨a9, len9, cap9, rfl, HR2⟩
 obtain ⟨a9, len9, cap9, rfl, HR⟩ := hcut
 obtain ⟨B3, hB3⟩ : ∃ B3, B3 = (tabAt (keyL 3) T).isSome := ⟨_, rfl⟩
 have HB3 : Hid _ := hB3
 obtain ⟨X3, hlk⟩ : ∃ X3, (Instr.lookup 42 (.map (some w.heap.size)) (.string ⟨#[107, 51]⟩) true).run Tryz.prog wc = .ok (.tuple #[.string X3, .bool B3]) wc := by
  have hkey : keyOf Tryz.prog 9 (.string ⟨#[107, 51]⟩) = some (.string (keyL 3)) := by
   rw [key3]
   exact keyS (by decide)
  obtain ⟨v, ps, hr, hv⟩ := (ownsMap_block HKR.out.own (HR.out.low.block _ HKR.out.own.lt)).look_ok strLaw Tryz.underlying42 (zeroSt wc) rfl hkey
  have h1 := (anyV_inv hv).1
  rw [valD_get] at h1
  cases h1
  rw [valD_has, <- hB3] at hr
  exact ⟨_, hr⟩
 have blaw : Keyed Tryz.prog 4 := bool_keyed Tryz.underlying4
 have hmade : (wc.alloc (.map #[] 0)).ownsMap Tryz.prog 4 anyV wc.heap.size 0 (.map []) := World.ownsMap_made _ _ _ _
 obtain ⟨w2, hupd, hom, hgm⟩ := hmade.update (val := .int .i64 1) (d := .held (.int .i64 1)) (ps := []) blaw Tryz.underlying45 (by decide) (keyOf_bool_mk Tryz.underlying4 true) rfl
 have hlk2 : (Instr.lookup 45 (.map (some wc.heap.size)) (.bool B3) false).run Tryz.prog w2 = .ok (.int .i64 (b2i B3)) w2 := by
  obtain ⟨v, ps, hr, hv⟩ := hom.lookup blaw Tryz.underlying45 (show (zeroValue 3).run Tryz.prog w2 = .ok (.int .i64 0) w2 by kernel_rfl) rfl (keyOf_bool_mk Tryz.underlying4 B3)
  have h1 := (anyV_inv hv).1
  cases B3 <;> (cases h1; exact hr)
 have hB2 : RowKit.Below wc.heap.size wc w2 := ((Below.refl _ _).alloc (Nat.le_refl _) _).grown hgm (by simp) (fun k hk => by cases hk; exact Nat.le_refl _)
 have HR2 := hid (HR.out.stays hB2)
 have HLW2 : Hid (RowKit.Below w.heap.size w w2) := bl_trans HKR.out.low HR2.out.low
 have HI1 := hid (Tryz.strconv_Itoa (b2i B3) (by cases B3 <;> decide) (by cases B3 <;> decide) w2 (HK.out.stays HLW2.out).pw)
 have s1h : Hid (S.size <= 2000) := by
  unfold Hid
  rw [HT.out.2.2.2, bs_size]
  have h := lopsL_len l 0 HT.out.2.2.1 (by have := HT.out.2.1; omega)
  have := HT.out.2.1
  omega
 clear hom hgm hmade blaw hB2 HR HRG0 HG0 hB3
 have hmm := @run_makeMap Tryz.prog
 go_wp2_with fail
 refine Calls.mono HI1.out ?_
 rintro e w3 ⟨rfl, hg3⟩
 have hb3 := below_grown_k hg3
 have HR3 := hid (HR2.out.stays hb3)
 have HLW3 : Hid (RowKit.Below w.heap.size w w3) := bl_trans HLW2.out hb3
 obtain ⟨Y, hY⟩ : ∃ Y : ByteArray, Y = ⟨(Lib.itoa (b2i B3)).toArray⟩ := ⟨_, rfl⟩
 have y1 : Y.size <= 100 := by
  have h : (Lib.itoa (b2i B3)).length <= 21 := by cases B3 <;> exact Lib.itoa_length_le _ (by decide) (by decide)
  rw [hY]
  simpa [ByteArray.size] using (by omega : (Lib.itoa (b2i B3)).length <= 100)
 have HTX : Hid (Y ++ ⟨#[32, 48]⟩ = ⟨(Lib.itoa (b2i (tabAt (keyL 3) T).isSome) ++ [32, 48]).toArray⟩) := by
  unfold Hid
  rw [hY, HB3.out]
  show bs _ ++ bs [32, 48] = bs _
  rw [bs_app]
 rw [<- hY]
 clear hg3 hb3 hY HI1 HR2 HLW2 hlk hlk2 hupd hmm
 go_wp2_with (first
  | (at_builtin; refine wpList_append_own_at _ rfl _ _ 23 rfl w1.heap.size 9 i0 (.string ⟨#[]⟩) 1 16 Tryz.underlying23 HI.out.1 HI.out.2.1 HI.out.2.2.1 HI.out.2.2.2 rfl (by decide) (.slice a9 len9 cap9) (T.map tellP).length ((T.map tellP).map Value.string) rfl (HR3.out.one.alloc _) ⟨w3.heap.size, 0, none⟩ 1 1 [.string (Y ++ ⟨#[32, 48]⟩)] rfl rfl (cells_at _ _ _) (by intro u hu; simp at hu; rcases hu with rfl; rfl) (by have := HLW.out.2.2; rw [List.length_map]; unfold maxLen; omega) (by have := HLW.out.2.2; rw [List.length_map]; omega) (Nat.le_trans HR3.out.low.size (by simp)) ?_; intro v' w5 hown hgrow hnil hloc; have HV5 := hid (HR3.out.push hown hgrow hloc); obtain ⟨va, vl, vc, rfl⟩ : ∃ a len cap, v' = .slice a len cap := (by rcases hown.2 with ⟨rfl, _⟩ | ⟨g, cap, cur, rfl, _⟩ <;> exact ⟨_, _, _, rfl⟩); clear hown hgrow hnil hloc; have s1 : S.size <= 2000 := s1h.out))
 have HT5 : Hid (TxsA w5 (.slice va vl vc) (lWant T)) := by
  have h := HV5.out.one
  rw [HTX.out] at h
  exact want_txs h HTL.out HLW.out.2.2
 have HLW5 : Hid (RowKit.Below w.heap.size w w5) := bl_trans HKR.out.low HV5.out.low
 have HO := hid (out_list (S := S) HT.out.2.2.1 HT.out.2.1 HT.out.2.2.2 (HK.out.stays HLW5.out))
 rw [<- HT.out.1] at HO
 refine Calls.mono HO.out ?_
 rintro e w10 ⟨a8, n8, cap8, rfl, hb10, hx10⟩
 have HB10 : Hid (RowKit.Below w.heap.size w w10) := bl_trans HLW5.out hb10
 have HEQ := hid (equal_c w10.heap.size w10.heap.size _ _ _ _ w10 hx10 (TxsA.stays HT5.out hb10) (Nat.le_refl _) (Nat.le_refl _))
 rw [decide_eq_true rfl] at HEQ
 clear hb10 hx10 HO HTX HT5 HV5 HR3 HLW3 HLW5 y1 s1
 go_wp2_with fail
 refine Calls.mono HEQ.out ?_
 rintro e w11 ⟨rfl, hb11⟩
 have HB11 : Hid (RowKit.Below w.heap.size w w11) := bl_trans HB10.out hb11
 clear hb11 HEQ
 go_wp2_with fail
 go_ret
 exact ⟨rfl, HB11.out⟩
end Go.Proofs.YtffnilcihneniaaGreatDoor.listsKeep
