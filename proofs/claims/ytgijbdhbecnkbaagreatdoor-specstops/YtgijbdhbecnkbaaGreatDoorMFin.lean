/-
  The machine's Finish: its closure, which does all rules on all lines. / untilEnd: what endIf lets fall is caught, and told. / The machine's Finish: the whole program on all lines, and how that went. / A new machine: a program of which nothing is done yet. / A program in which nothing is wrong has not too many expressions in a statement. Of data alone.
-/
import Derived.Test.YtgijbdhbecnkbaaGreatDoorMStep
import Derived.Test.YtgijbdhbecnkbaaGreatDoorMSpec
import Derived.Test.YtgijbdhbecnkbaaGreatDoorMMem
import Derived.Defers
import Derived.Recover
import Derived.Deep.RegionHeld2
import Derived.Test.YtgijbdhbecnkbaaGreatDoorCkMem
namespace Go.Proofs.YtgijbdhbecnkbaaGreatDoor
open Go.ChangeShapes Go.WideShapes Go.ChangeAt Go.RowKit Go.Joins Go.Maps
set_option maxHeartbeats 4000000
set_option linter.unusedVariables false
set_option maxRecDepth 100000
theorem Mc.recSet {c : Cx} {O : Own} {w : World} {s : Ms} {j : Nat} (h : Mc c O w s j) (hx : s.recs + 1 <= 200) : Mc c O (w.setCell ⟨c.r, 7, none⟩ (.int .i64 ((s.recs : Int) + 1))) { s with recs := s.recs + 1 } j /\ Bts O w (w.setCell ⟨c.r, 7, none⟩ (.int .i64 ((s.recs : Int) + 1))) := by
 obtain ⟨bv, bl, fl, ol, m1, m2, m3, m4, m5⟩ := h.mem
 have ke : ∀ k z, O k = some z -> z ≠ Ro.mach -> k < w.heap.size -> O k = some z /\ (w.setCell ⟨c.r, 7, none⟩ (.int .i64 ((s.recs : Int) + 1))).heap[k]? = w.heap[k]? := fun k z e hz _ => ⟨e, setBlock_ne (own_ne h.own e hz)⟩
 refine ⟨⟨h.own, h.low, fun b hb => h.top b (by simpa [World.setCell] using hb), h.lo.set h.own h.low _ _, ⟨h.fit.vars, h.fit.lists, h.fit.few, h.fit.whole, h.fit.flds, h.fit.nf, hx, h.fit.out, h.fit.outs⟩, h.left, ⟨bv, bl, fl, ol, ?_, ?_, ?_, ?_, ?_⟩, h.room⟩, (Bts.refl O w).set h.own 7 _⟩
 . have e1 : ((s.recs + 1 : Nat) : Int) = (s.recs : Int) + 1 := by omega
   show Cells c.r _ bv bl c.rv c.fv fl ol c.fuel _ ((s.recs + 1 : Nat) : Int) _
   rw [e1]
   exact m1.setRecs _
 . exact m2.stays fun k e l => ke k _ e (by simp) l
 . exact m3.stays (fun k e l => ke k _ e (by simp) l) fun k x e l => ke k _ e (by simp) l
 . exact m4.stays fun k e l => ke k _ e (by simp) l
 . exact m5.stays fun k e l => ke k _ e (by simp) l
def RulesC (c : Cx) : Prop := ∀ (O : Own) (w : World) (s : Ms) (j : Nat) (when : Int), Mc c O w s j ->
 Calls Tryz.prog 29 #[.pointer (some ⟨c.r, 0, none⟩), .int .i64 when] w (DoNil c O w j (rulesM c.F c.m c.R when s))
def lineM (c : Cx) (s : Ms) (x : ByteArray) : Om := rulesM c.F c.m c.R 1 (takeM { s with recs := s.recs + 1 } x)
def endM (c : Cx) (s : Ms) : Om := rulesM c.F c.m c.R 2 (takeM s ⟨#[]⟩)
def FnI (c : Cx) (O : Own) (w wr : World) (j : Nat) (R : Om) (ls : List ByteArray) (i : Nat) : Prop := ∃ O' s', Gr w O O' /\ Bts O w wr /\ Mc c O' wr s' j /\ s'.recs = i /\ R = (runM (lineM c) (ls.drop i) s').then (endM c)
theorem rules_cases {c : Cx} {O : Own} {w w' : World} {j : Nat} {when : Int} {s : Ms} {e : Ending} (h : DoNil c O w j (rulesM c.F c.m c.R when s) e w') :
 (∃ s1 er, rulesM c.F c.m c.R when s = .stop s1 er /\ e = .panicked [endP er] /\ Hid (Bts O w w' /\ ∃ O', Gr w O O' /\ Ou c O' w' s1.out s1.left)) \/
 ∃ s1 O', rulesM c.F c.m c.R when s = .go s1 true /\ e = .returned (.tuple #[]) /\ Hid (Bts O w w' /\ Gr w O O' /\ Mc c O' w' s1 j /\ s1.recs = s.recs) := by
 obtain ⟨h1, h2⟩ := h
 cases hR : rulesM c.F c.m c.R when s with
 | go s1 b =>
  rw [hR] at h2
  obtain ⟨h3, rfl⟩ := rulesM_rec hR
  obtain ⟨rfl, O', h4, h5⟩ := h2
  exact .inr ⟨s1, O', rfl, rfl, h1, h4, h5, h3⟩
 | stop s1 er =>
  rw [hR] at h2
  exact .inl ⟨s1, er, rfl, h2.1, h1, h2.2⟩
theorem ending_some (e : Int) (w : World) : (Instr.typeAssert (.iface 104 (.int .i64 e)) 20 104 true).run Tryz.prog w = .ok (.tuple #[.int .i64 e, .bool true]) w := by kernel_rfl
theorem ending_none (w : World) : (Instr.typeAssert .nilIface 20 104 true).run Tryz.prog w = .ok (.tuple #[.int .i64 0, .bool false]) w := by kernel_rfl
theorem until_panicking (p : Addr) (x e : Int) (older : List PanicEntry) (w : World) (hc : w.cell? p = some (.int .i64 x)) (hz : w.frozen? p = false) :
 CallsD Tryz.prog 51 #[.pointer (some p)] (.panicking (endP e :: older)) w fun r u' w' =>
  r = .returned (.tuple #[]) /\ u' = .panicking ({ v := .iface 104 (.int .i64 e), recovered := true } :: older) /\ w' = w.setCell p (.int .i64 e) := by
 unfold endP
 refine callsD_of_wpS Tryz.func51 rfl fun c₀ cs hu => ?_
 apply wpS_seq
 apply wpS_region
 simp [wpOpsS, go_sem, recoverD, hu, Tryz.ntmps51, ending_some, Exit.thenS]
 apply wpS_seq
 apply wpS_region
 simp [wpOpsS, go_sem, Exit.thenS]
 refine wpS_cond (t := true) (by simp [Act.eval, Array.replicate]) ?_
 simp only [if_true]
 apply wpS_region
 simp [wpOpsS, go_sem, hc, hz, bodyPostS, results, Tryz.results51]
theorem until_idle (p : Addr) (w : World) :
 CallsD Tryz.prog 51 #[.pointer (some p)] .returning w fun r u' w' => r = .returned (.tuple #[]) /\ u' = .returning /\ w' = w := by
 refine callsD_of_wpS Tryz.func51 rfl fun c₀ cs hu => ?_
 apply wpS_seq
 apply wpS_region
 simp [wpOpsS, go_sem, recoverD, hu, Tryz.ntmps51, ending_none, Exit.thenS]
 apply wpS_seq
 apply wpS_region
 simp [wpOpsS, go_sem, Exit.thenS]
 refine wpS_cond (t := false) (by simp [Act.eval, Array.replicate]) ?_
 simp only [Bool.false_eq_true, if_false]
 refine wpS_of_wp (wp_skip ?_)
 cases c₀
 simp_all [bodyPostS, results, Tryz.results51]
theorem until_c (f : FuncId) (caps : Array Value) (w : World) (Q : Int -> World -> Prop) (he : ∀ (args : Array Value) (w : World), (callFunc f args).run Tryz.prog w = .ok (.enter f args) w)
 (hf : Calls Tryz.prog f caps (w.alloc (.cells #[.int .i64 0] 3)) fun e w' => w'.heap[w.heap.size]? = (w.alloc (.cells #[.int .i64 0] 3)).heap[w.heap.size]? /\ ((e = .returned (.tuple #[]) /\ Q 0 w') \/ ∃ er, e = .panicked [endP er] /\ Q er w')) :
 Calls Tryz.prog 27 #[.func (.func f) #[] caps] w fun e w' => ∃ er w1, e = .returned (.int .i64 er) /\ w' = w1.setCell ⟨w.heap.size, 0, none⟩ (.int .i64 er) /\ Q er w1 := by
 have hmf : ∀ (fn : Fn) (first cap : Array Value) (w : World), (Instr.makeFunc fn first cap).run Tryz.prog w = .ok (.func fn first cap) w := fun _ _ _ _ => rfl
 obtain ⟨W, hW⟩ : ∃ W, W = w.alloc (.cells #[.int .i64 0] 3) := ⟨_, rfl⟩
 rw [<- hW] at hf
 have HW : Hid (W = _) := hW
 have hc : W.cell? ⟨w.heap.size, 0, none⟩ = some (.int .i64 0) := by rw [hW]; simp [go_sem]
 have hz : W.frozen? ⟨w.heap.size, 0, none⟩ = false := by rw [hW]; simp [go_sem]
 have HF := hid hf
 clear hW hf
 go_enter_defers Tryz.func27, Tryz.ntmps27
 go_wp2_with fail
 rw [<- HW.out]
 clear HW
 refine Calls.mono HF.out ?_
 rintro e w1 ⟨hb, hr⟩
 have c1 : w1.cell? ⟨w.heap.size, 0, none⟩ = some (.int .i64 0) := (World.cell?_of_block (a := ⟨w.heap.size, 0, none⟩) hb).trans hc
 have z1 : w1.frozen? ⟨w.heap.size, 0, none⟩ = false := (World.frozen?_of_block (a := ⟨w.heap.size, 0, none⟩) hb).trans hz
 clear hb hc hz HF
 rcases hr with ⟨rfl, hQ⟩ | ⟨er, rfl, hQ⟩
 . have HQ := hid hQ
   clear hQ
   go_wp2_with fail
   refine leaves_cons (f := 51) (args := #[.pointer (some ⟨w.heap.size, 0, none⟩)]) (by simp) (by simp [go_sem]) ?_
   refine (until_idle ⟨w.heap.size, 0, none⟩ _).mono ?_
   rintro e u' w'' ⟨rfl, rfl, rfl⟩
   simp [Leaves, settle, results, Tryz.results27, go_sem, c1]
   exact ⟨w1, rfl, HQ.out⟩
 . have HQ := hid hQ
   clear hQ
   go_wp2_with fail
   refine leaves_cons (f := 51) (args := #[.pointer (some ⟨w.heap.size, 0, none⟩)]) (by simp) (by simp [go_sem]) ?_
   refine (until_panicking ⟨w.heap.size, 0, none⟩ 0 er [] w1 c1 z1).mono ?_
   rintro e u' w'' ⟨rfl, rfl, rfl⟩
   simp [Leaves, settle, results, Tryz.results27, go_sem, c1]
   exact ⟨w1, rfl, HQ.out⟩
def endOf : Om -> Int × List ByteArray × Nat
 | .go s _ => (0, s.out, s.left)
 | .stop s e => (e, s.out, s.left)
theorem Ou.free {c : Cx} {O : Own} {w : World} {out : List ByteArray} {left b o : Nat} {v : Value} (h : Ou c O w out left) (hb : O b = none) : Ou c O (w.setCell ⟨b, o, none⟩ v) out left := by
 obtain ⟨h0, h1, h2, bv, bl, fl, ol, recs, whole, h3, h4, h5⟩ := h
 have ke : ∀ k x, O k = some x -> (w.setCell ⟨b, o, none⟩ v).heap[k]? = w.heap[k]? := fun k x e => setBlock_ne fun e2 => by rw [e2, hb] at e; cases e
 exact ⟨h0, h1, h2, bv, bl, fl, ol, recs, whole, h3.stays (ke _ _ h0), h4.stays fun k e l => ⟨e, ke _ _ e⟩, h5⟩
theorem Bts.over {O : Own} {a w : World} {b : Nat} (h : Bts O a w) (hb : a.heap.size <= b) (o : Nat) (v : Value) : Bts O a (w.setCell ⟨b, o, none⟩ v) :=
 ⟨h.os, h.tape, h.output, (by simp [World.setCell, h.size]), fun k hk h0 => (setBlock_ne (by omega)).trans (h.block k hk h0)⟩
def UnO (c : Cx) (O : Own) (w : World) (R : Om) (w' : World) : Prop := Bts O w w' /\ ∃ O', Gr w O O' /\ Ou c O' w' (endOf R).2.1 (endOf R).2.2
def FinOut (c : Cx) (O : Own) (w : World) (R : Om) (e : Ending) (w' : World) : Prop := ∃ ol, e = .returned (.agg #[ol, .int .i64 (endOf R).1, .int .i64 ((c.fuel : Int) - (endOf R).2.2)]) /\ Bts O w w' /\ ∃ O', Gr w O O' /\ RowIs O' .outs w' ol (endOf R).2.1 /\ (∀ b, b < c.B -> O' b = none) /\ (endOf R).2.1.length <= 2000 /\ ∀ x ∈ (endOf R).2.1, x.size <= 200
theorem row_shape {w : World} {b t z n : Nat} {v : Value} {xs : List Value} (h : w.ownsRow b t z v n xs) : ∃ a len cap, v = .slice a len cap := by
 rcases h.2 with ⟨rfl, -⟩ | ⟨g, cap, cur, rfl, -⟩
 . exact ⟨_, _, _, rfl⟩
 . exact ⟨_, _, _, rfl⟩
def newA (n fuel : Int) (b1 b2 : Nat) (rv fv : Value) : Array Value := #[.map (some b1), .map (some b2), rv, fv, .int .i64 fuel, .string ⟨#[]⟩, .slice none 0 0, .int .i64 n, .slice none 0 0, .int .i64 0, .int .i64 0]
def newW (w : World) (fuel : Int) (rv fv : Value) : World := ((w.alloc (.map #[] 0)).alloc (.map #[] 0)).alloc (.cells (newA 0 fuel w.heap.size (w.heap.size + 1) rv fv) 77)
def newO (b : Nat) : Own := fun k => if k = b then some .vars else if k = b + 1 then some .lists else if k = b + 2 then some .mach else none
theorem newW_size (w : World) (fuel : Int) (rv fv : Value) : (newW w fuel rv fv).heap.size = w.heap.size + 3 := by simp [newW]
theorem newW_below (w : World) (fuel : Int) (rv fv : Value) : Below w.heap.size w (newW w fuel rv fv) := (((Below.refl _ _).alloc (Nat.le_refl _) _).alloc (by simp) _).alloc (by simp; omega) _
theorem newMc (c : Cx) (w : World) (j : Nat) (hL : Lo c w) (hr : c.r = w.heap.size + 2) (hB : c.B <= w.heap.size) (hj : j + c.fuel <= 400000) : Mc c (newO w.heap.size) (newW w (c.fuel : Int) c.rv c.fv) (startM c.fuel) j := by
 have s1 : (w.alloc (.map #[] 0)).heap.size = w.heap.size + 1 := by simp
 have s2 : ((w.alloc (.map #[] 0)).alloc (.map #[] 0)).heap.size = w.heap.size + 2 := by simp
 have hv1 := (World.ownsMap_made (H := Value) w Tryz.prog 9 anyV)
 have hv2 := (World.ownsMap_made (H := Value) (w.alloc (.map #[] 0)) Tryz.prog 9 anyV)
 rw [s1] at hv2
 have hro := RowAt.new ((w.alloc (.map #[] 0)).alloc (.map #[] 0)) (newA 0 (c.fuel : Int) w.heap.size (w.heap.size + 1) c.rv c.fv) 77
 rw [s2] at hro
 have hf : ∀ o, (newW w (c.fuel : Int) c.rv c.fv).frozen? ⟨w.heap.size + 2, o, none⟩ = false := fun o => by
  rw [<- s2]
  unfold newW
  simp [go_sem]
 have hbelow := newW_below w (c.fuel : Int) c.rv c.fv
 refine ⟨?_, ?_, ?_, hL.below (hbelow.mono hB), ⟨?_, ?_, ?_, ?_, ?_, ?_, ?_, ?_, ?_⟩, Nat.le_refl _, ⟨w.heap.size, w.heap.size + 1, .slice none 0 0, .slice none 0 0, ?_, ⟨?_, 0, _, Nat.zero_le _, (hv1.alloc _).alloc _, fun x => rfl⟩, ⟨?_, 0, _, Nat.zero_le _, hv2.alloc _, fun x => .inl ⟨rfl, rfl⟩⟩, ⟨⟨rfl, .inl ⟨rfl, rfl⟩⟩, fun b e => by cases e⟩, ⟨⟨rfl, .inl ⟨rfl, rfl⟩⟩, fun b e => by cases e⟩⟩, hj⟩
 . rw [hr]; unfold newO; rw [if_neg (by omega), if_neg (by omega), if_pos rfl]
 . intro b hb
   unfold newO
   rw [if_neg (by omega), if_neg (by omega), if_neg (by omega)]
 . intro b hb
   rw [newW_size] at hb
   unfold newO
   rw [if_neg (by omega), if_neg (by omega), if_neg (by omega)]
 . intro nm; show vf false 0 ⟨#[]⟩ = 0; decide
 . intro nm p hp; cases hp
 . intro nm; exact Nat.zero_le _
 . exact Nat.zero_le _
 . intro x hx; cases hx
 . exact Nat.zero_le _
 . exact Nat.zero_le _
 . exact Nat.zero_le _
 . intro x hx; cases hx
 . rw [hr]
   have hz : ((c.fuel : Int) - ((startM c.fuel).left : Int)) = 0 := by show (c.fuel : Int) - (c.fuel : Int) = 0; omega
   rw [hz]
   exact ⟨hro.cell 0, hro.cell 1, hro.cell 2, hro.cell 3, hro.cell 4, hro.cell 5, hro.cell 6, hro.cell 7, hro.cell 8, hro.cell 9, hro.cell 10, hf⟩
 . unfold newO; rw [if_pos rfl]
 . unfold newO; rw [if_neg (by omega), if_pos rfl]
theorem new_c (w : World) (fuel : Int) (a1 : Option Addr) (l1 c1 : Nat) (a2 : Option Addr) (l2 c2 : Nat) :
 Calls Tryz.prog 14 #[.agg #[.slice a1 l1 c1], .slice a2 l2 c2, .int .i64 fuel] w fun e w' => e = .returned (.pointer (some ⟨w.heap.size + 3, 0, none⟩)) /\ w' = newW (w.alloc (.cells #[.slice a1 l1 c1] 25)) fuel (.slice a1 l1 c1) (.slice a2 l2 c2) := by
 have hmm := @run_makeMap Tryz.prog
 go_enter Tryz.func14, Tryz.ntmps14
 go_wp2_with fail
 go_ret
 exact ⟨by simp, by simp [newW, newA]⟩
end Go.Proofs.YtgijbdhbecnkbaaGreatDoor
namespace Go.Proofs.YtgijbdhbecnkbaaGreatDoor
open Go.ChangeShapes Go.WideShapes Go.ChangeAt Go.RowKit Go.Joins
set_option linter.unusedVariables false
theorem runL_few {α : Type} {f : α -> St -> Res} {P : α -> Prop} {l : List α} {st st' : St}
 (hf : ∀ x ∈ l, ∀ s s' : St, 0 <= s.nodes -> s.nodes <= 4000 -> f x s = .ok s' -> P x /\ s.nodes + 1 <= s'.nodes /\ s'.nodes <= 4000)
 (h0 : 0 <= st.nodes) (h1 : st.nodes <= 4000) (h : runL f l st = .ok st') :
 (∀ x ∈ l, P x) /\ st.nodes + l.length <= st'.nodes /\ st'.nodes <= 4000 := by
 induction l generalizing st with
 | nil => simp only [runL] at h; cases h; simp; omega
 | cons x l ih =>
  simp only [runL] at h
  cases hx : f x st with
  | error e => rw [hx] at h; cases h
  | ok s2 =>
   rw [hx] at h
   obtain ⟨a1, a2, a3⟩ := hf x (List.mem_cons_self ..) _ _ h0 h1 hx
   obtain ⟨b1, b2, b3⟩ := ih (fun y hy => hf y (List.mem_cons_of_mem _ hy)) (by omega) a3 h
   refine ⟨?_, ?_, b3⟩
   . intro y hy
     rcases List.mem_cons.1 hy with rfl | hy
     . exact a1
     . exact b1 y hy
   . simp only [List.length_cons]; omega
theorem ckS_few {when : Int} : ∀ {m : Nat} {B : Nat} {w : World} {cs : List Value} {x : Sm} {d : Int} {st st' : St}, SmA B w m cs x -> 0 <= st.nodes -> st.nodes <= 4000 -> ckS when m x d st = .ok st' -> fewS m x := by
 intro m
 induction m with
 | zero => intro B w cs x d st st' h; exact h.elim
 | succ m ih =>
  intro B w cs x d st st' hx h0 h1 h
  cases x with
  | mk k s t es b e =>
   obtain ⟨v1, v2, v3, _, _, _, _, hs1, hs2, hs3⟩ := hx
   simp only [ckS] at h
   cases hp : partR d st with
   | error e => rw [hp] at h; cases h
   | ok st1 =>
    rw [hp] at h
    obtain ⟨p1, p2⟩ := partR_fit hp
    simp only at h
    split at h
    . cases h
    . split at h
      . cases h
      . cases ht : textsS when k s t st1 with
        | error e => rw [ht] at h; cases h
        | ok st2 =>
         rw [ht] at h
         obtain ⟨t1, t2, t3⟩ := textsS_fit ht
         simp only at h
         split at h
         . cases h
         . cases hr1 : runL (fun x => ckE m x (d + 1)) es st2 with
           | error e => rw [hr1] at h; cases h
           | ok st3 =>
            rw [hr1] at h
            simp only at h
            cases hr2 : runL (fun x => ckS when m x (d + 1)) b st3 with
            | error e => rw [hr2] at h; cases h
            | ok st4 =>
             rw [hr2] at h
             simp only at h
             obtain ⟨-, r2, r3⟩ := runL_few (P := fun _ => True) (fun x hx s s' hs hs2 hf => by
              obtain ⟨c, hc⟩ := sl_mem hs1 hx
              obtain ⟨-, a2, a3, -⟩ := ckE_fit hc hs2 hf
              exact ⟨trivial, a2, a3⟩) (by omega) (by omega) hr1
             obtain ⟨q1, q2, q3⟩ := runL_few (P := fewS m) (fun x hx s s' hs hs' hf => by
              obtain ⟨c, hc⟩ := sl_mem hs2 hx
              obtain ⟨-, a2, a3, -⟩ := ckS_fit hc hs' hf
              exact ⟨ih hc hs hs' hf, a2, a3⟩) (by omega) (by omega) hr2
             obtain ⟨u1, u2, u3⟩ := runL_few (P := fewS m) (fun x hx s s' hs hs' hf => by
              obtain ⟨c, hc⟩ := sl_mem hs3 hx
              obtain ⟨-, a2, a3, -⟩ := ckS_fit hc hs' hf
              exact ⟨ih hc hs hs' hf, a2, a3⟩) (by omega) (by omega) h
             exact ⟨by omega, q1, u1⟩
theorem ckR_few {m B : Nat} {w : World} {cs : List Value} {r : Ru} {st st' : St} (hr : RuA B w m cs r) (h0 : 0 <= st.nodes) (h1 : st.nodes <= 4000) (h : ckR m r st = .ok st') : ∀ x ∈ r.body, fewS m x := by
 obtain ⟨c0, c1, c2, c3, v, _, _, hpat, hb⟩ := hr
 have hbody : ∀ s s' : St, 0 <= s.nodes -> s.nodes <= 4000 -> runL (fun x => ckS r.when m x 1) r.body s = .ok s' -> ∀ x ∈ r.body, fewS m x := fun s s' g0 g1 g => (runL_few (P := fewS m) (fun x hx s s' hs hs' hf => by
  obtain ⟨c, hc⟩ := sl_mem hb hx
  obtain ⟨-, a2, a3, -⟩ := ckS_fit hc hs' hf
  exact ⟨ckS_few hc hs hs' hf, a2, a3⟩) g0 g1 g).1
 unfold ckR at h
 split at h
 . cases h
 . split at h
   . cases h
   . by_cases hhas : r.has = true
     . rw [hhas] at h
       simp only [if_true] at h
       cases hE : ckE m r.pat 1 st with
       | error e => rw [hE] at h; cases h
       | ok st1 =>
        rw [hE] at h
        simp at h
        obtain ⟨-, a2, a3, -⟩ := ckE_fit hpat h1 hE
        exact hbody _ _ (by omega) a3 h
     . have hhas2 : r.has = false := by simpa using hhas
       rw [hhas2] at h
       simp at h
       by_cases hz : zeroE r.pat = false
       . rw [if_pos hz] at h; cases h
       . rw [if_neg hz] at h
         exact hbody _ _ h0 h1 h
theorem ckRs_few {m B : Nat} {w : World} {l : List Ru} {st st' : St} (hl : ∀ r ∈ l, ∃ cs, RuA B w m cs r) (h0 : 0 <= st.nodes) (h1 : st.nodes <= 4000) (h : runL (ckR m) l st = .ok st') : ∀ r ∈ l, ∀ x ∈ r.body, fewS m x := by
 induction l generalizing st with
 | nil => intro r hr; cases hr
 | cons r l ih =>
  simp only [runL] at h
  cases hx : ckR m r st with
  | error e => rw [hx] at h; cases h
  | ok s2 =>
   rw [hx] at h
   obtain ⟨cs, hcs⟩ := hl r (List.mem_cons_self ..)
   obtain ⟨-, a2, a3, -⟩ := ckR_fit hcs h1 hx
   have hn := ih (fun y hy => hl y (List.mem_cons_of_mem _ hy)) (by omega) a3 h
   intro y hy
   rcases List.mem_cons.1 hy with rfl | hy
   . exact ckR_few hcs h0 h1 hx
   . exact hn y hy
theorem ckP_few {m B : Nat} {w : World} {v : Value} {l : List Ru} (hv : Sl w B 7 v l.length (fun i c => ∃ x, l[i]? = some x /\ RuA B w m c x)) (h : ckP m l = 0) : ∀ r ∈ l, ∀ x ∈ r.body, fewS m x := by
 unfold ckP at h
 split at h
 . omega
 . cases hr : runL (ckR m) l ⟨fun _ => 0, 0⟩ with
   | error e =>
    rw [hr] at h
    simp only at h
    exact absurd (h ▸ hr) (runR_not0 m l _)
   | ok st' => exact ckRs_few (fun r hr => sl_mem hv hr) (by simp) (by simp) hr
end Go.Proofs.YtgijbdhbecnkbaaGreatDoor
