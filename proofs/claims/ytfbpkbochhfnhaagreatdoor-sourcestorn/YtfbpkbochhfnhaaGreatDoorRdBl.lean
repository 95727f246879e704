/-
  Contract of the reader's block; those of all statements.
-/
import Derived.Test.YtfbpkbochhfnhaaGreatDoorRdSt
import Derived.Test.YtfbpkbochhfnhaaGreatDoorRdSg
import Derived.OwnWalk
namespace Go.Proofs.YtfbpkbochhfnhaaGreatDoor
open Go.ChangeShapes Go.WideShapes Go.ChangeAt Go.RowKit Go.Joins Go.Maps
set_option linter.unusedVariables false

theorem infoSt : (Tryz.prog.info? 111).map (fun i => (i.zero, i.size, i.bytes)) = some (some (.agg #[.int .i64 0, .string ⟨#[]⟩, .string ⟨#[]⟩, .slice none 0 0, .slice none 0 0, .slice none 0 0]), 6, 112) := by kernel_rfl

theorem stmtsR_succ (f : Nat) (o : Int) (l : List Sm) (ps : List Pc) : stmtsR (f + 1) o l ps = if seesB [125] ps then .ok (l, ps.tail)
    else match stmtR f o ps with
      | .error e => .error e
      | .ok (x, p1) => stmtsR f o (l ++ [x]) p1 := by rw [stmtsR]; rfl

/-- A call within one that defers. -/
theorem pk1 {α β : Type} {r : Nat} {o : Int} {f : FuncId} {args : Array Value} {w W : World} {R : Rd α} {K : Value → α → List Pc → World → Prop} {R0 : Rd β}
    (hc : Calls Tryz.prog f args W (OutR r o W R K)) (hb : But r r w W) (herr : ∀ er, R = .error er → R0 = .error er) :
    Calls Tryz.prog f args W fun e w' => (∃ er, e = .panicked [errP er] ∧ Hid (But r r w w' ∧ But r r W w' ∧ Opn r w' o ∧ R0 = .error er)) ∨ ∃ v x ps, e = .returned v ∧ Hid (R = .ok (x, ps) ∧ But r r W w' ∧ Rdr r w' o ps ∧ K v x ps w') := by
  refine hc.mono ?_
  rintro e w1 ⟨hb1, hr⟩
  cases R with
  | error er =>
    obtain ⟨rfl, hop⟩ := hr
    exact .inl ⟨er, rfl, hb.trans hb1, hb1, hop, herr er rfl⟩
  | ok q =>
    obtain ⟨x, ps⟩ := q
    obtain ⟨v, rfl, hrd, hk⟩ := hr
    exact .inr ⟨v, x, ps, rfl, rfl, hb1, hrd, hk⟩

/-- What holds ahead of each round. -/
structure BlI (r m : Nat) (o : Int) (ps : List Pc) (w wr : World) (v : Value) (l : List Sm) (css : List (List Value)) (p : List Pc) (f : Nat) : Prop where
  eq : blockR (m + 1) o ps = stmtsR f (o + 1) l p
  fu : 20 * p.length + 13 ≤ f
  fm : f ≤ m
  le : p.length < ps.length
  cnt : l.length + p.length ≤ ps.length
  but : But r r w wr
  rd : Rdr r wr (o + 1) p
  lv : Lv r w.heap.size wr
  gr : GrL smT' (ps.length - p.length) (w.heap.size + 1) 111 6 wr v l css

/-- A round that goes on. -/
theorem bl_next {r m f f' : Nat} {o : Int} {ps p p1 : List Pc} {w wr w4 w5 : World} {v v' : Value} {l : List Sm} {css : List (List Value)} {x : Sm} {c : List Value} {ob : Obj} (hlt : r < w.heap.size) (hf : f = f' + 1) (HW : BlI r m o ps w wr v l css p f)
    (hE : blockR (m + 1) o ps = match stmtR f' (o + 1) p with
      | .error e => .error e
      | .ok (x, p1) => stmtsR f' (o + 1) (l ++ [x]) p1)
    (F : stmtR f' (o + 1) p = .ok (x, p1) ∧ p1.length < p.length ∧ But r r w w4 ∧ Rdr r w4 (o + 1) p1 ∧ Lv r w.heap.size w4 ∧ GrL smT' (ps.length - p1.length) (w.heap.size + 1) 111 6 w4 v l css ∧ SmP (fun b => w.heap.size + 1 ≤ b ∧ some b ≠ v.ownBlock) w4 (ps.length - p1.length) c x)
    (hown : w5.ownsRow (w.heap.size + 1) 111 6 v' (l.length + 1) (css.flatten ++ c)) (hg : (w4.alloc ob).grownBy w5 v.ownBlock) (hat : v'.ownBlock = v.ownBlock ∨ v'.ownBlock = some (w4.alloc ob).heap.size) :
    (∃ a len cap, v' = .slice a len cap ∧ Hid (∃ l css p f, BlI r m o ps w w5 v' l css p f)) ∧ left r w5 < left r wr := by
  obtain ⟨hN, hl1, hb4, hr4, hv4, hg4, hx⟩ := F
  have hal : Below w4.heap.size w4 (w4.alloc ob) := (Below.refl _ _).alloc (Nat.le_refl _) _
  have hcl : c.length = 6 := by obtain ⟨k, s, t, a, len, cap, b, lem, caq, c', leo, car, rfl⟩ := hx.shape; rfl
  have hgr := hg4.push smLaw hal hcl hx hown hg hat
  have hrow := fun k (hk : v.ownBlock = some k) => hg4.row.lt k hk
  have hlow : ∀ k, k < w.heap.size + 1 → k < w4.heap.size → w5.heap[k]? = w4.heap[k]? := fun k hk hk4 => by
    refine (hg.block k (Nat.lt_of_lt_of_le hk4 hal.size) (fun e => ?_)).trans (hal.block k hk4)
    have := (hrow k e.symm).1
    omega
  have hr5 : Rdr r w5 (o + 1) p1 := hr4.low ⟨hg.os.trans hal.os, hg.tape.trans hal.tape, hg.output.trans hal.output, Nat.le_trans hal.size hg.size, fun k hk => hlow k (by omega) (by have := hr4.lt; omega)⟩
  have hb5 : But r r w w5 := ⟨hg.os.trans (hal.os.trans hb4.os), hg.tape.trans (hal.tape.trans hb4.tape), hg.output.trans (hal.output.trans hb4.output), Nat.le_trans hb4.size (Nat.le_trans hal.size hg.size), fun k hk h1 h2 => (hlow k (by omega) (Nat.lt_of_lt_of_le hk hb4.size)).trans (hb4.block k hk h1 h2)⟩
  have hv5 : Lv r w.heap.size w5 := ⟨hv4.1, hv4.2.stays (hlow _ (by omega) hv4.2.lt)⟩
  have h1 := HW.fu
  have h2 := HW.fm
  have h3 := HW.le
  have h4 := HW.cnt
  refine ⟨?_, ?_⟩
  · have hsh : ∃ a len cap, v' = .slice a len cap := by
      rcases hown.2 with ⟨rfl, _⟩ | ⟨g, cap, cur, rfl, _⟩
      · exact ⟨_, _, _, rfl⟩
      · exact ⟨_, _, _, rfl⟩
    obtain ⟨a, len, cap, rfl⟩ := hsh
    refine ⟨a, len, cap, rfl, l ++ [x], css ++ [c], p1, f', ?_⟩
    exact ⟨by rw [hE, hN], by omega, by omega, by omega, by simp; omega, hb5, hr5, hv5, hgr⟩
  · rw [hr5.left, HW.rd.left]
    omega

set_option maxHeartbeats 8000000 in
set_option maxRecDepth 100000 in
theorem rblock_of {m : Nat} (hY : ∀ m', m' ≤ m → RStmtC m') : RBlockC (m + 1) := by
  intro r o ps w h hm
  have HY : Hid (∀ m', m' ≤ m → RStmtC m') := hY
  have hlt := h.lt
  have lo := h.lo
  have hps := h.short
  obtain ⟨i0, hi, hz0, hz1, hz2⟩ := info_parts infoSt
  have HI : Hid (Tryz.prog.info? 111 = some i0 ∧ i0.zero = some (.agg #[.int .i64 0, .string ⟨#[]⟩, .string ⟨#[]⟩, .slice none 0 0, .slice none 0 0, .slice none 0 0]) ∧ i0.size = 6 ∧ i0.bytes = 112) := ⟨hi, hz0, hz1, hz2⟩
  clear hi hz0 hz1 hz2 hY
  by_cases ho : 40 < o + 1
  · have HE : Hid (blockR (m + 1) o ps = .error 1) := by unfold Hid; rw [blockR, if_pos ho]
    have HC : Hid _ := enter_f r o ps w h ho
    clear h
    go_enter_defers Tryz.func39, Tryz.ntmps39
    go_wp2_with fail
    refine Calls.mono HC.out ?_
    rintro e w1 ⟨rfl, hb, hop⟩
    have HO : Hid (But r r w w1 ∧ Opn r w1 o) := ⟨hb, hop⟩
    clear hb hop HC
    go_wp2_with fail
    refine ⟨HO.out.1, ?_⟩
    rw [HE.out]
    exact ⟨rfl, HO.out.2⟩
  have HE0 : Hid (blockR (m + 1) o ps = match needR [123] ps with
      | .error e => .error e
      | .ok (_, p1) => stmtsR m (o + 1) [] p1) := by unfold Hid; rw [blockR, if_neg ho]; rfl
  have HC : Hid _ := enter_c r o ps w h ho
  clear h
  go_enter_defers Tryz.func39, Tryz.ntmps39
  go_wp2_with fail
  refine Calls.mono HC.out ?_
  rintro e w1 ⟨rfl, hrd, hb, hlv⟩
  have HV1 : Hid (Lv r w.heap.size w1) := hlv
  have HR1 : Hid (Rdr r w1 (o + 1) ps) := hrd
  have HB1 : Hid (But r r w w1) := hb
  have HZ1 : Hid (w.heap.size + 1 ≤ w1.heap.size) := hlv.2.lt
  clear hb hrd hlv HC
  have HC : Hid _ := pk1 (R0 := blockR (m + 1) o ps) (need_c r (o + 1) [123] ps w1 HR1.out) HB1.out (fun er hN => by rw [HE0.out, hN])
  go_wp2_with fail
  refine Calls.mono HC.out ?_
  rintro e w2 (⟨er, rfl, F⟩ | ⟨v, x, p1, rfl, F⟩)
  · have HV2 : Hid (Lv r w.heap.size w2) := HV1.out.but F.out.2.1
    clear HC
    go_wp2_with fail
    refine leaves_cons (f := 88) (args := #[.pointer (some ⟨w.heap.size, 0, none⟩)]) (by simp) (by simp [go_sem]) ?_
    refine (leaveD_p r w.heap.size o _ w2 F.out.2.2.1 lo HV2.out).mono ?_
    rintro e u' w99 ⟨rfl, rfl, h1, h2⟩
    refine ⟨F.out.1.trans h2, ?_⟩
    rw [F.out.2.2.2]
    exact ⟨rfl, h1⟩
  obtain ⟨hN, hb, hrd, hk⟩ := F.out
  obtain rfl : v = .tuple #[] := hk
  have HI0 : Hid (∃ l css p f, BlI r m o ps w w2 (.slice none 0 0) l css p f) := by
    have hl := needR_len hN
    exact ⟨[], [], p1, m, by rw [HE0.out, hN], by omega, Nat.le_refl _, by omega, by simp; omega, HB1.out.trans hb, hrd, HV1.out.but hb, GrL.nil _ _ _ _ _ _⟩
  have HZ2 : Hid (w.heap.size + 1 ≤ w2.heap.size) := Nat.le_trans HZ1.out hb.size
  clear hN hb hrd F HC
  go_wp2_with fail
  go_loopw [3] (fun v wr => ∃ a len cap, v = .slice a len cap ∧ Hid (∃ l css p f, BlI r m o ps w wr v l css p f)) (fun _ wr => left r wr)
  case atStart => exact ⟨_, _, _, rfl, HI0.out⟩
  case round =>
    obtain ⟨a, len, cap, rfl, HI1⟩ := hrel
    obtain ⟨l, css, p, f, HW0⟩ := HI1.out
    have HW : Hid (BlI r m o ps w wr _ l css p f) := HW0
    have HC : Hid _ := skip_c r (o + 1) [125] p wr HW0.rd
    clear HI0 HI1 HW0
    obtain ⟨f', hf'⟩ : ∃ f', f = f' + 1 := ⟨f - 1, by have := HW.out.fu; omega⟩
    cases hb : seesB [125] p with
    | true =>
      rw [hb] at HC
      have HE : Hid (blockR (m + 1) o ps = .ok (l, p.tail)) := by unfold Hid; rw [HW.out.eq, hf', stmtsR_succ, hb]; rfl
      have HP : Hid (p.tail.length + 1 = p.length) := seen_tail hb
      clear hb
      go_wp2_with fail
      refine Calls.mono HC.out ?_
      rintro e w3 ⟨rfl, h1, h2⟩
      have hr3 : Rdr r w3 (o + 1) p.tail := by simpa using h1
      have HR3 : Hid (Rdr r w3 (o + 1) p.tail) := hr3
      have HV3 : Hid (Lv r w.heap.size w3) := HW.out.lv.but h2
      have HF : Hid (OutR r o w (blockR (m + 1) o ps) (KB w ps.length) (.returned (.slice a len cap)) (w3.setCell ⟨r, 1, none⟩ (.int .i64 o))) := by
        refine ⟨(HW.out.but.trans h2).trans ((But.refl _ _ _).set 1 _), ?_⟩
        rw [HE.out]
        have hle := HW.out.le
        have hpt := HP.out
        have hg : LSm (w.heap.size + 1) w3 (ps.length - p.length) (.slice a len cap) l := (HW.out.gr.but smLaw (Nat.le_refl _) h2 (by omega)).slp smLaw (by decide) (by have := HW.out.cnt; unfold maxLen; omega)
        exact ⟨_, rfl, hr3.opened o lo (by omega), (by omega : p.tail.length < ps.length), hg.same ((Same.refl _ _).set (by omega) 1 _) (Nat.le_succ _) (by omega)⟩
      clear h1 h2 hr3 HC
      go_wp2_with fail
      refine leaves_cons (f := 88) (args := #[.pointer (some ⟨w.heap.size, 0, none⟩)]) (by simp) (by simp [go_sem]) ?_
      refine (leaveD_c r w.heap.size o p.tail _ _ HR3.out lo HV3.out).mono ?_
      rintro e u' w99 ⟨rfl, rfl, rfl⟩
      exact ⟨.slice a len cap, by simp [results, Tryz.results39, go_sem], HF.out⟩
    | false =>
      rw [hb] at HC
      have HE : Hid (blockR (m + 1) o ps = match stmtR f' (o + 1) p with
          | .error e => .error e
          | .ok (x, p1) => stmtsR f' (o + 1) (l ++ [x]) p1) := by unfold Hid; rw [HW.out.eq, hf', stmtsR_succ, hb]; rfl
      clear hb
      go_wp2_with fail
      refine Calls.mono HC.out ?_
      rintro e w3 ⟨rfl, h1, h2⟩
      have hr3 : Rdr r w3 (o + 1) p := by simpa using h1
      have HR3 : Hid (Rdr r w3 (o + 1) p) := hr3
      have HB3 : Hid (But r r w w3) := HW.out.but.trans h2
      have HV3 : Hid (Lv r w.heap.size w3) := HW.out.lv.but h2
      have HG3 : Hid (GrL smT' (ps.length - p.length) (w.heap.size + 1) 111 6 w3 (.slice a len cap) l css) := HW.out.gr.but smLaw (Nat.le_refl _) h2 (by omega)
      clear h1 h2 HC hr3
      have HC : Hid (Calls Tryz.prog 64 #[.pointer (some ⟨r, 0, none⟩)] w3 fun e w4 => (∃ er, e = .panicked [errP er] ∧ Hid (But r r w w4 ∧ Lv r w.heap.size w4 ∧ Opn r w4 (o + 1) ∧ blockR (m + 1) o ps = .error er)) ∨ ∃ k1 s1 t1 a1 len1 cap1 b1 lem1 caq1 c1 leo1 car1 x p1, e = .returned (.agg #[.int .i64 k1, .string s1, .string t1, .slice a1 len1 cap1, .slice b1 lem1 caq1, .slice c1 leo1 car1]) ∧ Hid (stmtR f' (o + 1) p = .ok (x, p1) ∧ p1.length < p.length ∧ But r r w w4 ∧ Rdr r w4 (o + 1) p1 ∧ Lv r w.heap.size w4 ∧ GrL smT' (ps.length - p1.length) (w.heap.size + 1) 111 6 w4 (.slice a len cap) l css ∧ SmP (fun b => w.heap.size + 1 ≤ b ∧ some b ≠ (Value.slice a len cap).ownBlock) w4 (ps.length - p1.length) [.int .i64 k1, .string s1, .string t1, .slice a1 len1 cap1, .slice b1 lem1 caq1, .slice c1 leo1 car1] x)) := by
        have hfu := HW.out.fu
        have hfm := HW.out.fm
        have hple := HW.out.le
        refine (HY.out f' (by omega) r (o + 1) p w3 HR3.out (by omega)).mono ?_
        rintro e w4 ⟨hb, hr⟩
        rcases rd_cases (stmtR f' (o + 1) p) with ⟨er, hN⟩ | ⟨x, p1, hN⟩
        · rw [hN] at hr
          obtain ⟨rfl, hop⟩ := hr
          refine .inl ⟨er, rfl, HB3.out.trans hb, HV3.out.but hb, hop, ?_⟩
          rw [HE.out, hN]
        · rw [hN] at hr
          obtain ⟨v, rfl, hrd, hl1, cs1, rfl, hx1⟩ := hr
          obtain ⟨k1, s1, t1, a1, len1, cap1, b1, lem1, caq1, c1, leo1, car1, rfl⟩ := hx1.shape
          refine .inr ⟨k1, s1, t1, a1, len1, cap1, b1, lem1, caq1, c1, leo1, car1, x, p1, rfl, hN, hl1, HB3.out.trans hb, hrd, HV3.out.but hb, HG3.out.but smLaw (by omega) hb (by omega), ?_⟩
          have hv3 := HV3.out.2.lt
          refine (SmP.stays (w := w4) (fun b h => ⟨Nat.le_trans hv3 h, fun e => ?_⟩) (fun _ _ _ => rfl) hx1).le (by omega)
          have := (HG3.out.row.lt b e.symm).2
          have h2 : w3.heap.size ≤ b := h
          omega
      go_wp2_with fail
      refine Calls.mono HC.out ?_
      rintro e w4 (⟨er, rfl, F⟩ | ⟨k1, s1, t1, a1, len1, cap1, b1, lem1, caq1, c1, leo1, car1, x, p1, rfl, F⟩)
      · clear HC
        go_wp2_with fail
        refine leaves_cons (f := 88) (args := #[.pointer (some ⟨w.heap.size, 0, none⟩)]) (by simp) (by simp [go_sem]) ?_
        refine (leaveD_p r w.heap.size o _ w4 F.out.2.2.1 lo F.out.2.1).mono ?_
        rintro e u' w99 ⟨rfl, rfl, h1, h2⟩
        refine ⟨F.out.1.trans h2, ?_⟩
        rw [F.out.2.2.2]
        exact ⟨rfl, h1⟩
      clear HC
      have HRW : Hid (w4.ownsRow (w.heap.size + 1) 111 6 (.slice a len cap) l.length css.flatten) := F.out.2.2.2.2.2.1.row
      have HCT : Hid (l.length ≤ 6000) := by have := HW.out.cnt; unfold Hid; omega
      have HSZ : Hid (w.heap.size + 1 ≤ w4.heap.size) := F.out.2.2.2.2.1.2.lt
      go_wp2_with (first
        | (at_builtin; refine wpList_append_own_at _ rfl _ _ 58 rfl (w.heap.size + 1) 111 i0 (.agg #[.int .i64 0, .string ⟨#[]⟩, .string ⟨#[]⟩, .slice none 0 0, .slice none 0 0, .slice none 0 0]) 6 112 Tryz.underlying58 HI.out.1 HI.out.2.1 HI.out.2.2.1 HI.out.2.2.2 rfl (by decide) (.slice a len cap) l.length css.flatten rfl (HRW.out.alloc _) ⟨w4.heap.size, 0, none⟩ 1 1 [.int .i64 k1, .string s1, .string t1, .slice a1 len1 cap1, .slice b1 lem1 caq1, .slice c1 leo1 car1] rfl rfl (cells_new _ _ _) (by intro u hu; simp at hu; rcases hu with rfl | rfl | rfl | rfl | rfl | rfl <;> rfl) (by have := HCT.out; unfold maxLen; omega) (by have := HCT.out; omega) (by simp; exact Nat.le_of_succ_le HSZ.out) ?_; intro v' w5 hown hgrow _ hloc; have HNX : Hid ((∃ a len cap, v' = .slice a len cap ∧ Hid (∃ l css p f, BlI r m o ps w w5 v' l css p f)) ∧ left r w5 < left r wr) := bl_next hlt hf' HW.out HE.out F.out hown hgrow hloc; clear hown hgrow hloc))
      go_roundw
      case rel => exact HNX.out.1
      case measure => exact HNX.out.2

/-- All statements and blocks, whatever the fuel. -/
theorem rstmts_c : ∀ m, RBlockC m ∧ RStmtC m := by
  intro m
  induction m using Nat.strongRecOn with
  | ind m ih =>
    cases m with
    | zero => exact ⟨fun r o ps w h hm => by omega, fun r o ps w h hm => by omega⟩
    | succ m => exact ⟨rblock_of fun m' h => (ih m' (by omega)).2, rstmt_of (ih m (Nat.lt_succ_self m)).1⟩
end Go.Proofs.YtfbpkbochhfnhaaGreatDoor
