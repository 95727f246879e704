/-
  Contract of the reader's wholes.
-/
import Derived.Test.YtfbpkbochhfnhaaGreatDoorRdBin
import Derived.Test.YtfbpkbochhfnhaaGreatDoorRdApp
namespace Go.Proofs.YtfbpkbochhfnhaaGreatDoor
open Go.ChangeShapes Go.WideShapes Go.ChangeAt Go.RowKit Go.Joins Go.Maps
set_option linter.unusedVariables false

theorem infoE : (Tryz.prog.info? 57).map (fun i => (i.zero, i.size, i.bytes)) = some (some (.agg #[.int .i64 0, .int .i64 0, .string ⟨#[]⟩, .slice none 0 0]), 4, 56) := by kernel_rfl

theorem moreR_succ (f : Nat) (o : Int) (l : List Ex) (ps : List Pc) : moreR (f + 1) o l ps = if seesB [44] ps then
      match wholeR f o ps.tail with
      | .error e => .error e
      | .ok (x, p1) => moreR f o (l ++ [x]) p1
    else .ok (l, ps) := by rw [moreR]; rfl

/-- What holds ahead of each round. -/
structure WsI (r m : Nat) (o : Int) (ps : List Pc) (w wr : World) (v : Value) (l : List Ex) (css : List (List Value)) (p : List Pc) (f : Nat) : Prop where
  eq : wholesR (m + 1) o ps = moreR f o l p
  fu : 20 * p.length + 10 ≤ f
  fm : f ≤ m
  le : p.length < ps.length
  cnt : l.length + p.length ≤ ps.length
  l0 : 0 < l.length
  but : But r r w wr
  rd : Rdr r wr o p
  gr : GrL exT' (ps.length - p.length) w.heap.size 57 4 wr v l css

/-- A round that goes on. -/
theorem ws_next {r m f f' : Nat} {o : Int} {ps p p1 : List Pc} {w wr w4 w5 : World} {v v' : Value} {l : List Ex} {css : List (List Value)} {x : Ex} {c : List Value} {ob : Obj} (hlt : r < w.heap.size) (hf : f = f' + 1) (HW : WsI r m o ps w wr v l css p f) (hp : p.tail.length + 1 = p.length)
    (hE : wholesR (m + 1) o ps = match wholeR f' o p.tail with
      | .error e => .error e
      | .ok (x, p1) => moreR f' o (l ++ [x]) p1)
    (F : wholeR f' o p.tail = .ok (x, p1) ∧ p1.length < p.tail.length ∧ But r r w w4 ∧ Rdr r w4 o p1 ∧ GrL exT' (ps.length - p1.length) w.heap.size 57 4 w4 v l css ∧ ExP (fun b => w.heap.size ≤ b ∧ some b ≠ v.ownBlock) w4 (ps.length - p1.length) c x)
    (hown : w5.ownsRow w.heap.size 57 4 v' (l.length + 1) (css.flatten ++ c)) (hg : (w4.alloc ob).grownBy w5 v.ownBlock) (hat : v'.ownBlock = v.ownBlock ∨ v'.ownBlock = some (w4.alloc ob).heap.size) :
    (∃ a len cap, v' = .slice a len cap ∧ Hid (∃ l css p f, WsI r m o ps w w5 v' l css p f)) ∧ left r w5 < left r wr := by
  obtain ⟨hN, hl1, hb4, hr4, hg4, hx⟩ := F
  have hal : Below w4.heap.size w4 (w4.alloc ob) := (Below.refl _ _).alloc (Nat.le_refl _) _
  have hcl : c.length = 4 := by obtain ⟨k, n, s, a, len, cap, rfl⟩ := hx.shape; rfl
  have hgr := hg4.push exLaw hal hcl hx hown hg hat
  have hrow := fun k (hk : v.ownBlock = some k) => hg4.row.lt k hk
  have hlow : Below (r + 1) w4 w5 := by
    refine ⟨hg.os.trans hal.os, hg.tape.trans hal.tape, hg.output.trans hal.output, Nat.le_trans hal.size hg.size, fun k hk => ?_⟩
    have := hr4.lt
    refine (hg.block k (Nat.lt_of_lt_of_le (by omega) hal.size) (fun e => ?_)).trans (hal.block k (by omega))
    have := (hrow k e.symm).1
    omega
  have hb5 : But r r w w5 := by
    refine ⟨hg.os.trans (hal.os.trans hb4.os), hg.tape.trans (hal.tape.trans hb4.tape), hg.output.trans (hal.output.trans hb4.output), Nat.le_trans hb4.size (Nat.le_trans hal.size hg.size), fun k hk h1 h2 => ?_⟩
    have hk4 : k < w4.heap.size := Nat.lt_of_lt_of_le hk hb4.size
    refine ((hg.block k (Nat.lt_of_lt_of_le hk4 hal.size) (fun e => ?_)).trans (hal.block k hk4)).trans (hb4.block k hk h1 h2)
    have := (hrow k e.symm).1
    omega
  have hr5 := hr4.low hlow
  have h1 := HW.fu
  have h2 := HW.fm
  have h3 := HW.le
  have h4 := HW.cnt
  refine ⟨?_, ?_⟩
  · have hsh : ∃ a len cap, v' = .slice a len cap := by
      rcases hown.2 with ⟨rfl, _⟩ | ⟨g, cap, cur, rfl, _⟩
      · exact ⟨_, _, _, rfl⟩
      · exact ⟨_, _, _, rfl⟩
    obtain ⟨a, len, cap, rfl⟩ := hsh
    refine ⟨a, len, cap, rfl, l ++ [x], css ++ [c], p1, f', ?_⟩
    exact ⟨by rw [hE, hN], by omega, by omega, by omega, by simp; omega, by simp, hb5, hr5, hgr⟩
  · rw [hr5.left, HW.rd.left]
    omega

set_option maxHeartbeats 4000000 in
set_option maxRecDepth 100000 in
theorem wholes_of {m : Nat} (hY : ∀ m', m' ≤ m → WholeC m') : WholesC (m + 1) := by
  intro r o ps w h hm
  have HY : Hid (∀ m', m' ≤ m → WholeC m') := hY
  have hlt := h.lt
  obtain ⟨i0, hi, hz0, hz1, hz2⟩ := info_parts infoE
  have HI : Hid (Tryz.prog.info? 57 = some i0 ∧ i0.zero = some (.agg #[.int .i64 0, .int .i64 0, .string ⟨#[]⟩, .slice none 0 0]) ∧ i0.size = 4 ∧ i0.bytes = 56) := ⟨hi, hz0, hz1, hz2⟩
  clear hi hz0 hz1 hz2 hY
  have hps : ps.length ≤ 6000 := by obtain ⟨v, _, a, cap, _, _, h3, _⟩ := h.pcs; exact h3
  have HC : Hid (Calls Tryz.prog 41 #[.pointer (some ⟨r, 0, none⟩)] w fun e w1 => (∃ er, e = .panicked [errP er] ∧ Hid (OutR r o w (wholesR (m + 1) o ps) (KL w ps.length) (.panicked [errP er]) w1)) ∨ ∃ k1 n1 s1 a1 len1 cap1, e = .returned (.agg #[.int .i64 k1, .int .i64 n1, .string s1, .slice a1 len1 cap1]) ∧ Hid (∃ l css p f, WsI r m o ps w (w1.alloc (.cells #[.int .i64 k1, .int .i64 n1, .string s1, .slice a1 len1 cap1] 57)) (.slice (some ⟨w1.heap.size, 0, none⟩) 1 1) l css p f)) := by
    refine (HY.out m (Nat.le_refl _) r o ps w h (by omega)).mono ?_
    rintro e w1 ⟨hb, hr⟩
    rcases rd_cases (wholeR m o ps) with ⟨er, hN⟩ | ⟨x, p1, hN⟩
    · rw [hN] at hr
      obtain ⟨rfl, hop⟩ := hr
      refine .inl ⟨er, rfl, hb, ?_⟩
      rw [wholesR, hN]
      exact ⟨rfl, hop⟩
    · rw [hN] at hr
      obtain ⟨v, rfl, hrd, hl1, cs1, rfl, hx1⟩ := hr
      obtain ⟨k1, n1, s1, a1, len1, cap1, rfl⟩ := hx1.shape
      have hal : Below w1.heap.size w1 (w1.alloc (.cells #[.int .i64 k1, .int .i64 n1, .string s1, .slice a1 len1 cap1] 57)) := (Below.refl _ _).alloc (Nat.le_refl _) _
      refine .inr ⟨k1, n1, s1, a1, len1, cap1, rfl, [x], [[.int .i64 k1, .int .i64 n1, .string s1, .slice a1 len1 cap1]], p1, m, ?_⟩
      refine ⟨by rw [wholesR, hN], by omega, Nat.le_refl _, hl1, by simp; omega, by simp, hb.more hal, hrd.below hal, ?_⟩
      refine GrL.lit (Bx.new w1 _ _) hb.size rfl ?_ exLaw
      exact ExP.stays (fun b hb => ⟨hb.1, by have := hb.2; omega⟩) (fun b _ hlt => hal.block b hlt) hx1.old
  clear h
  go_enter Tryz.func113, Tryz.ntmps113
  go_wp2_with fail
  refine Calls.mono HC.out ?_
  rintro e w1 (⟨er, rfl, F⟩ | ⟨k1, n1, s1, a1, len1, cap1, rfl, HI0⟩)
  · go_wp2_with fail
    exact ⟨rfl, F.out⟩
  clear HC
  go_wp2_with fail
  go_loopw [3] (fun v wr => ∃ a len cap, v = .slice a len cap ∧ Hid (∃ l css p f, WsI r m o ps w wr v l css p f)) (fun _ wr => left r wr)
  case atStart => exact ⟨_, _, _, rfl, HI0.out⟩
  case round =>
    obtain ⟨a, len, cap, rfl, HI1⟩ := hrel
    obtain ⟨l, css, p, f, HW0⟩ := HI1.out
    have HW : Hid (WsI r m o ps w wr _ l css p f) := HW0
    have HC : Hid _ := skip_c r o [44] p wr HW0.rd
    clear HI0 HI1 HW0
    obtain ⟨f', hf'⟩ : ∃ f', f = f' + 1 := ⟨f - 1, by have := HW.out.fu; omega⟩
    cases hb : seesB [44] p with
    | false =>
      rw [hb] at HC
      have HE : Hid (wholesR (m + 1) o ps = .ok (l, p)) := by unfold Hid; rw [HW.out.eq, hf', moreR_succ, hb]; rfl
      clear hb
      go_wp2_with fail
      refine Calls.mono HC.out ?_
      rintro e w3 ⟨rfl, h1, h2⟩
      have HF : Hid (OutR r o w (wholesR (m + 1) o ps) (KL w ps.length) (.returned (.slice a len cap)) w3) := by
        refine ⟨HW.out.but.trans h2, ?_⟩
        rw [HE.out]
        have hg := (HW.out.gr.but exLaw (Nat.le_refl _) h2 hlt).slp exLaw (by decide) (by have := HW.out.cnt; unfold maxLen; omega)
        exact ⟨_, rfl, by simpa using h1, HW.out.le, HW.out.l0, hg⟩
      clear h1 h2
      go_wp2_with fail
      go_ret
      exact HF.out
    | true =>
      rw [hb] at HC
      have HE : Hid (wholesR (m + 1) o ps = match wholeR f' o p.tail with
          | .error e => .error e
          | .ok (x, p1) => moreR f' o (l ++ [x]) p1) := by unfold Hid; rw [HW.out.eq, hf', moreR_succ, hb]; rfl
      have HP : Hid (p.tail.length + 1 = p.length) := by
        cases p with
        | nil => simp [seesB] at hb
        | cons q p => simp [Hid]
      clear hb
      go_wp2_with fail
      refine Calls.mono HC.out ?_
      rintro e w3 ⟨rfl, h1, h2⟩
      have hr3 : Rdr r w3 o p.tail := by simpa using h1
      have HR3 : Hid (Rdr r w3 o p.tail) := hr3
      have HB3 : Hid (But r r w w3) := HW.out.but.trans h2
      have HG3 : Hid (GrL exT' (ps.length - p.length) w.heap.size 57 4 w3 (.slice a len cap) l css) := HW.out.gr.but exLaw (Nat.le_refl _) h2 hlt
      clear h1 h2 HC hr3
      have HC : Hid (Calls Tryz.prog 41 #[.pointer (some ⟨r, 0, none⟩)] w3 fun e w4 => (∃ er, e = .panicked [errP er] ∧ Hid (OutR r o w (wholesR (m + 1) o ps) (KL w ps.length) (.panicked [errP er]) w4)) ∨ ∃ k1 n1 s1 a1 len1 cap1 x p1, e = .returned (.agg #[.int .i64 k1, .int .i64 n1, .string s1, .slice a1 len1 cap1]) ∧ Hid (wholeR f' o p.tail = .ok (x, p1) ∧ p1.length < p.tail.length ∧ But r r w w4 ∧ Rdr r w4 o p1 ∧ GrL exT' (ps.length - p1.length) w.heap.size 57 4 w4 (.slice a len cap) l css ∧ ExP (fun b => w.heap.size ≤ b ∧ some b ≠ (Value.slice a len cap).ownBlock) w4 (ps.length - p1.length) [.int .i64 k1, .int .i64 n1, .string s1, .slice a1 len1 cap1] x)) := by
        have hfu := HW.out.fu
        have hfm := HW.out.fm
        have hp := HP.out
        have hple := HW.out.le
        refine (HY.out f' (by omega) r o p.tail w3 HR3.out (by omega)).mono ?_
        rintro e w4 ⟨hb, hr⟩
        rcases rd_cases (wholeR f' o p.tail) with ⟨er, hN⟩ | ⟨x, p1, hN⟩
        · rw [hN] at hr
          obtain ⟨rfl, hop⟩ := hr
          refine .inl ⟨er, rfl, HB3.out.trans hb, ?_⟩
          rw [HE.out, hN]
          exact ⟨rfl, hop⟩
        · rw [hN] at hr
          obtain ⟨v, rfl, hrd, hl1, cs1, rfl, hx1⟩ := hr
          obtain ⟨k1, n1, s1, a1, len1, cap1, rfl⟩ := hx1.shape
          refine .inr ⟨k1, n1, s1, a1, len1, cap1, x, p1, rfl, hN, hl1, HB3.out.trans hb, hrd, HG3.out.but exLaw (by omega) hb hlt, ?_⟩
          refine (ExP.stays (w := w4) (fun b h => ⟨Nat.le_trans HB3.out.size h, fun e => ?_⟩) (fun _ _ _ => rfl) hx1).le (by omega)
          have := (HG3.out.row.lt b e.symm).2
          have h2 : w3.heap.size ≤ b := h
          omega
      go_wp2_with fail
      refine Calls.mono HC.out ?_
      rintro e w4 (⟨er, rfl, F⟩ | ⟨k1, n1, s1, a1, len1, cap1, x, p1, rfl, F⟩)
      · go_wp2_with fail
        exact ⟨rfl, F.out⟩
      clear HC
      have HLN : Hid (len = l.length) := by
        rcases F.out.2.2.2.2.1.row.2 with ⟨h1, h2⟩ | ⟨_, _, _, h1, _⟩
        · cases h1; exact h2.symm
        · cases h1; rfl
      have HRW : Hid (w4.ownsRow w.heap.size 57 4 (.slice a len cap) l.length css.flatten) := F.out.2.2.2.2.1.row
      have HCT : Hid (l.length ≤ 6000) := by have := HW.out.cnt; unfold Hid; omega
      have HSZ : Hid (w.heap.size ≤ w4.heap.size) := F.out.2.2.1.size
      go_wp2_with (first
        | (at_builtin; refine wpList_append_own_at _ rfl _ _ 55 rfl w.heap.size 57 i0 (.agg #[.int .i64 0, .int .i64 0, .string ⟨#[]⟩, .slice none 0 0]) 4 56 Tryz.underlying55 HI.out.1 HI.out.2.1 HI.out.2.2.1 HI.out.2.2.2 rfl (by decide) (.slice a len cap) l.length css.flatten rfl (HRW.out.alloc _) ⟨w4.heap.size, 0, none⟩ 1 1 [.int .i64 k1, .int .i64 n1, .string s1, .slice a1 len1 cap1] rfl rfl (cells_new _ _ _) (by intro u hu; simp at hu; rcases hu with rfl | rfl | rfl | rfl <;> rfl) (by have := HCT.out; unfold maxLen; omega) (by have := HCT.out; omega) (by simp; exact Nat.le_succ_of_le HSZ.out) ?_; intro v' w5 hown hgrow _ hloc; have HOWN : Hid (World.ownsRow w5 _ _ _ v' _ _) := hown; have HGROW : Hid (World.grownBy _ w5 _) := hgrow; have HNX : Hid ((∃ a len cap, v' = .slice a len cap ∧ Hid (∃ l css p f, WsI r m o ps w w5 v' l css p f)) ∧ left r w5 < left r wr) := ws_next hlt hf' HW.out HP.out HE.out F.out hown hgrow hloc; clear hown hgrow hloc))
      go_roundw
      case rel => exact HNX.out.1
      case measure => exact HNX.out.2
end Go.Proofs.YtfbpkbochhfnhaaGreatDoor
