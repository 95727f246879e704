/-
  A list that keeps what was put: what the runs of such programs print. Of data alone.
-/
import Derived.Test.YtffnilcihneniaaGreatDoorListSpec
namespace Go.Proofs.YtffnilcihneniaaGreatDoor
open Go.RowKit
set_option linter.unusedVariables false
set_option maxRecDepth 100000
def lopT (i : Nat) (x : Lop) (t : Tab) : Tab := if x.2 then tabDel (keyL x.1) t else tabPut (keyL x.1) (vN (i : Int)) t
def lopsT : Nat -> List Lop -> Tab -> Tab
 | _, [], t => t
 | i, x :: l, t => lopsT (i + 1) l (lopT i x t)
theorem lopsT_snoc (x : Lop) : ∀ (l : List Lop) (i : Nat) (t : Tab), lopsT i (l ++ [x]) t = lopT (i + l.length) x (lopsT i l t)
 | [], i, t => rfl
 | y :: l, i, t => by
  rw [List.cons_append, lopsT, lopsT_snoc x l (i + 1), lopsT, List.length_cons, show i + 1 + l.length = i + (l.length + 1) by omega]
structure TabL (t : Tab) : Prop where
 nodup : (t.map (·.1)).Nodup
 keys : ∀ p ∈ t, ∃ d, d < 8 /\ p.1 = keyL d
 vals : ∀ p ∈ t, ∃ i : Nat, i < 20 /\ p.2 = vN (i : Int)
theorem TabL.nil : TabL [] := ⟨List.nodup_nil, fun _ h => (by cases h), fun _ h => (by cases h)⟩
theorem tabDel_key (k : List UInt8) (t : Tab) : k ∉ (tabDel k t).map (·.1) := by
 intro h
 obtain ⟨p, hp, rfl⟩ := List.mem_map.1 h
 have := (List.mem_filter.1 hp).2
 simp at this
theorem tabDel_nodup (k : List UInt8) {t : Tab} (h : (t.map (·.1)).Nodup) : ((tabDel k t).map (·.1)).Nodup := h.sublist (List.Sublist.map _ List.filter_sublist)
theorem tabIns_perm (x : List UInt8 × Vl) : ∀ t : Tab, (tabIns x t).Perm (x :: t)
 | [] => List.Perm.refl _
 | y :: r => by
  unfold tabIns
  split
  . exact List.Perm.refl _
  . exact (List.Perm.cons y (tabIns_perm x r)).trans (List.Perm.swap x y r)
theorem TabL.lop {t : Tab} (h : TabL t) {i : Nat} {x : Lop} (hd : x.1 < 8) (hi : i < 20) : TabL (lopT i x t) := by
 unfold lopT
 split
 . exact ⟨tabDel_nodup _ h.nodup, fun p hp => h.keys p (tabDel_mem hp), fun p hp => h.vals p (tabDel_mem hp)⟩
 . refine ⟨?_, fun p hp => ?_, fun p hp => ?_⟩
   . have h1 := (tabIns_perm (keyL x.1, vN (i : Int)) (tabDel (keyL x.1) t)).map (·.1)
     refine h1.nodup_iff.2 ?_
     rw [List.map_cons, List.nodup_cons]
     exact ⟨tabDel_key _ _, tabDel_nodup _ h.nodup⟩
   . rcases tabPut_mem hp with rfl | hp
     . exact ⟨_, hd, rfl⟩
     . exact h.keys p hp
   . rcases tabPut_mem hp with rfl | hp
     . exact ⟨_, hi, rfl⟩
     . exact h.vals p hp
theorem TabL.lops : ∀ {l : List Lop} {i : Nat} {t : Tab}, TabL t -> (∀ x ∈ l, x.1 < 8) -> i + l.length <= 20 -> TabL (lopsT i l t)
 | [], _, _, h, _, _ => h
 | x :: l, i, t, h, hd, hi => by
  rw [List.length_cons] at hi
  have h1 : TabL (lopT i x t) := h.lop (hd x (List.mem_cons_self ..)) (by omega)
  exact TabL.lops (l := l) (i := i + 1) h1 (fun y hy => hd y (List.mem_cons_of_mem _ hy)) (by omega)
theorem lopT_len (i : Nat) (x : Lop) (t : Tab) : (lopT i x t).length <= t.length + 1 := by
 unfold lopT
 split
 . exact Nat.le_succ_of_le (tabDel_len _ _)
 . exact tabPut_len _ _ _
theorem lopsT_len : ∀ (l : List Lop) (i : Nat) (t : Tab), (lopsT i l t).length <= t.length + l.length
 | [], _, _ => Nat.le_refl _
 | x :: l, i, t => by
  have h1 := lopsT_len l (i + 1) (lopT i x t)
  have h2 := lopT_len i x t
  rw [lopsT, List.length_cons]
  omega
theorem tabAt_of {t : Tab} (h : (t.map (·.1)).Nodup) : ∀ {p : List UInt8 × Vl}, p ∈ t -> tabAt p.1 t = some p.2 := by
 induction t with
 | nil => intro p hp; cases hp
 | cons y r ih =>
  intro p hp
  rw [List.map_cons, List.nodup_cons] at h
  unfold tabAt
  rw [List.find?_cons]
  rcases List.mem_cons.1 hp with rfl | hp
  . simp
  . have hne : (y.1 == p.1) = false := by
     rw [beq_eq_false_iff_ne]
     intro e
     exact h.1 (e ▸ List.mem_map_of_mem hp)
    rw [hne]
    exact ih h.2 hp
theorem tabAt_none {t : Tab} {k : List UInt8} (h : ∀ p ∈ t, p.1 ≠ k) : tabAt k t = none := by
 unfold tabAt
 rw [List.find?_eq_none.2 (fun p hp => by simp [h p hp])]
 rfl
theorem listM_at (s : Ms) (nm : ByteArray) (t : Tab) : (listM s nm t).lists nm = t := if_pos rfl
theorem setM_at (s : Ms) (nm : ByteArray) (v : Vl) : (setM s nm v).vars nm = v := if_pos rfl
theorem lop_run {F : List Fl} {m i : Nat} {x : Lop} {s : Ms} (hl : ¬ s.left = 0) (hn : (s.lists nA).length <= 50) : ∃ s', stmtM F (m + 3) s (lopS i x) = .go s' true /\ s'.lists nA = lopT i x (s.lists nA) /\ s'.left = s.left - 1 /\ s'.out = s.out := by
 obtain ⟨d, b⟩ := x
 have hk : (vS (bs (keyL d))).key = keyL d := by show (keyL d).toArray.toList = _; simp
 cases b with
 | true =>
  refine ⟨listM { s with left := s.left - 1 } nA (tabDel (keyL d) (s.lists nA)), ?_, ?_, rfl, rfl⟩
  . show burnM s _ = _
    rw [burn_some hl]
    show Om.go (listM { s with left := s.left - 1 } nA (tabDel (vS (bs (keyL d))).key (s.lists nA))) true = _
    rw [hk]
  . rw [listM_at]
    rfl
 | false =>
  refine ⟨listM { s with left := s.left - 1 } nA (tabPut (keyL d) (vN (i : Int)) (s.lists nA)), ?_, ?_, rfl, rfl⟩
  . show burnM s _ = _
    rw [burn_some hl]
    show putM { s with left := s.left - 1 } nA (vS (bs (keyL d))).key (vN (i : Int)) = _
    rw [hk]
    unfold putM
    rw [if_neg (by have := tabPut_len (keyL d) (vN (i : Int)) (s.lists nA); show ¬ 100 < (tabPut (keyL d) (vN (i : Int)) (s.lists nA)).length; omega)]
  . rw [listM_at]
    rfl
theorem lops_run {F : List Fl} {m : Nat} (rest : List Sm) : ∀ (l : List Lop) (i : Nat) (s : Ms), l.length <= s.left -> (s.lists nA).length + l.length <= 50 -> ∃ s', runM (stmtM F (m + 3)) (lopsS i l ++ rest) s = runM (stmtM F (m + 3)) rest s' /\ s'.lists nA = lopsT i l (s.lists nA) /\ s'.left = s.left - l.length /\ s'.out = s.out
 | [], i, s, _, _ => ⟨s, rfl, rfl, rfl, rfl⟩
 | x :: l, i, s, hl, hn => by
  rw [List.length_cons] at hl hn
  obtain ⟨s1, h1, h2, h3, h4⟩ := lop_run (F := F) (m := m) (i := i) (x := x) (s := s) (by omega) (by omega)
  obtain ⟨s2, g1, g2, g3, g4⟩ := lops_run (F := F) (m := m) rest l (i + 1) s1 (by omega) (by rw [h2]; have := lopT_len i x (s.lists nA); omega)
  refine ⟨s2, ?_, by rw [g2, h2]; rfl, by rw [g3, h3, List.length_cons]; omega, g4.trans h4⟩
  rw [lopsS, List.cons_append, rs_cons, h1, rs_go, g1]
def tellP (p : List UInt8 × Vl) : ByteArray := ⟨(p.1 ++ [32] ++ p.2.str.data.toList).toArray⟩
theorem key_round {F : List Fl} {m : Nat} {t : Tab} {p : List UInt8 × Vl} {s : Ms} (ht : TabL t) (hp : p ∈ t) (hs : s.lists nA = t) (hl : 2 <= s.left) (ho : s.out.length < 2000) :
 ∃ s', (burnM s fun s => runM (stmtM F (m + 4)) [.mk 4 ⟨#[]⟩ ⟨#[]⟩ kEs [] []] (setM s nK (vS ⟨p.1.toArray⟩))) = .go s' true /\ s'.lists nA = t /\ s'.left = s.left - 2 /\ s'.out = s.out ++ [tellP p] := by
 obtain ⟨s1, hs1⟩ : ∃ s1 : Ms, s1 = setM { s with left := s.left - 1 } nK (vS ⟨p.1.toArray⟩) := ⟨_, rfl⟩
 have l1 : s1.left = s.left - 1 := by rw [hs1]; rfl
 have t1 : s1.lists nA = t := by rw [hs1]; exact hs
 have o1 : s1.out = s.out := by rw [hs1]; rfl
 have v1 : s1.vars nK = vS ⟨p.1.toArray⟩ := by rw [hs1, setM_at]
 have hk : (vS ⟨p.1.toArray⟩).key = p.1 := by show p.1.toArray.toList = _; simp
 have ha : allM (askM { s1 with left := s1.left - 1 } (m + 3)) kEs = .ok [vS ⟨p.1.toArray⟩, p.2] := by
  show (Except.bind (Except.ok (s1.vars nK)) fun v' => ((Except.ok ((tabAt (s1.vars nK).key (s1.lists nA)).getD (vN 0)) : Except Int Vl).bind fun y => .ok [y]).bind fun r => .ok (v' :: r)) = _
  rw [v1, t1, hk, tabAt_of ht.nodup hp]
  rfl
 have hb : blanksM ([vS ⟨p.1.toArray⟩, p.2].map Vl.str) = p.1 ++ [32] ++ p.2.str.data.toList := by
  simp only [List.map_cons, List.map_nil]
  rw [blanks_two]
  show p.1.toArray.toList ++ _ ++ _ = _
  simp
 obtain ⟨d, hd, hd2⟩ := ht.keys p hp
 obtain ⟨i, hi, hi2⟩ := ht.vals p hp
 have b1 := itoa_le d (by omega)
 have b2 := itoa_le i (by omega)
 have b3 : p.2.str.data.toList = Lib.itoa (i : Int) := by rw [hi2]; exact vn_str _
 have hsz : (blanksM ([vS ⟨p.1.toArray⟩, p.2].map Vl.str)).length <= 200 := by
  rw [hb, b3, hd2]
  simp only [keyL, List.length_append, List.length_cons, List.length_nil]
  omega
 refine ⟨{ s1 with left := s1.left - 1, out := s1.out ++ [tellP p] }, ?_, t1, by show s1.left - 1 = _; omega, by show s1.out ++ _ = _; rw [o1]⟩
 rw [burn_some (by omega)]
 show runM (stmtM F (m + 4)) [.mk 4 ⟨#[]⟩ ⟨#[]⟩ kEs [] []] (setM { s with left := s.left - 1 } nK (vS ⟨p.1.toArray⟩)) = _
 rw [<- hs1, rs_cons, print_ok (m := m + 3) (by omega) ha hsz (by rw [o1]; exact ho), rs_go, hb]
 rfl
theorem keys_run {F : List Fl} {m : Nat} {t : Tab} (ht : TabL t) : ∀ (r : Tab) (s : Ms), (∀ p ∈ r, p ∈ t) -> s.lists nA = t -> 2 * r.length <= s.left -> s.out.length + r.length < 2000 ->
 ∃ s', runM (fun s key => burnM s fun s => runM (stmtM F (m + 4)) [.mk 4 ⟨#[]⟩ ⟨#[]⟩ kEs [] []] (setM s nK (vS ⟨key.toArray⟩))) (r.map (·.1)) s = .go s' true /\ s'.lists nA = t /\ s'.left = s.left - 2 * r.length /\ s'.out = s.out ++ r.map tellP
 | [], s, _, hs, _, _ => ⟨s, rfl, hs, by simp, by simp⟩
 | p :: r, s, hp, hs, hl, ho => by
  rw [List.length_cons] at hl ho
  obtain ⟨s1, h1, h2, h3, h4⟩ := key_round (F := F) (m := m) ht (hp p (List.mem_cons_self ..)) hs (by omega) (by omega)
  obtain ⟨s2, g1, g2, g3, g4⟩ := keys_run (F := F) (m := m) ht r s1 (fun q hq => hp q (List.mem_cons_of_mem _ hq)) h2 (by omega) (by rw [h4, List.length_append, List.length_cons, List.length_nil]; omega)
  refine ⟨s2, ?_, g2, by rw [g3, h3, List.length_cons]; omega, by rw [g4, h4, List.append_assoc]; rfl⟩
  rw [List.map_cons, rs_cons, h1, rs_go, g1]
def lWant (t : Tab) : List ByteArray := t.map tellP ++ [⟨(Lib.itoa (b2i (tabAt (keyL 3) t).isSome) ++ [32, 48]).toArray⟩]
theorem key3 : keyL 3 = [107, 51] := by kernel_rfl
theorem key_two {d : Nat} (hd : d < 8) : (keyL d).length = 2 := by
 have h : (List.range 8).all (fun d => decide ((keyL d).length = 2)) = true := by kernel_rfl
 simpa using List.all_eq_true.1 h d (List.mem_range.2 hd)
theorem list_run {F : List Fl} {m : Nat} (l : List Lop) (hd : ∀ x ∈ l, x.1 < 8) (hl : l.length <= 20) : ∃ s, finishM F (m + 5) (lPrg l) [] (startM 50000) = .go s true /\ s.out = lWant (lopsT 0 l []) := by
 have l0 : (startM 50000).left = 50000 := rfl
 obtain ⟨T, hT⟩ : ∃ T, T = lopsT 0 l [] := ⟨_, rfl⟩
 have ht : TabL T := by rw [hT]; exact TabL.nil.lops hd (by omega)
 have htl : T.length <= 20 := by rw [hT]; have := lopsT_len l 0 []; simp at this; omega
 obtain ⟨s1, a1, a2, a3, a4⟩ := lops_run (F := F) (m := m + 2) [forS, lasS] l 0 { startM 50000 with left := (startM 50000).left - 1 } (by show _ <= 50000 - 1; omega) (by show 0 + _ <= 50; omega)
 have a2' : s1.lists nA = T := by rw [a2, hT]; rfl
 have a3' : s1.left = 49999 - l.length := a3
 have a4' : s1.out = [] := a4
 obtain ⟨s2, b1, b2, b3, b4⟩ := keys_run (F := F) (m := m) ht T { s1 with left := s1.left - 1 } (fun _ h => h) a2' (by show _ <= s1.left - 1; omega) (by show s1.out.length + _ < _; rw [a4']; simp; omega)
 have b3' : s2.left = s1.left - 1 - 2 * T.length := b3
 have b4' : s2.out = T.map tellP := by rw [b4]; show s1.out ++ _ = _; rw [a4']; rfl
 have f1 : stmtM F (m + 5) s1 forS = .go s2 true := by
  show (burnM s1 fun s => runM (fun s key => burnM s fun s => runM (stmtM F (m + 4)) [.mk 4 ⟨#[]⟩ ⟨#[]⟩ kEs [] []] (setM s nK (vS ⟨key.toArray⟩))) ((s.lists nA).map (·.1)) s) = _
  rw [burn_some (by omega)]
  show runM _ ((s1.lists nA).map (·.1)) _ = _
  rw [a2', b1]
 have hnone : tabAt [110, 111, 110, 101] T = none := tabAt_none fun p hp e => by
  obtain ⟨d, hd2, hd3⟩ := ht.keys p hp
  have := key_two hd2
  rw [<- hd3, e] at this
  cases this
 have ha : allM (askM { s2 with left := s2.left - 1 } (m + 4)) eEs = .ok [vB (tabAt (keyL 3) T).isSome, vN 0] := by
  show (Except.bind (Except.ok (vB (tabAt [107, 51] (s2.lists nA)).isSome)) fun v' => ((Except.ok ((tabAt [110, 111, 110, 101] (s2.lists nA)).getD (vN 0)) : Except Int Vl).bind fun y => .ok [y]).bind fun r => .ok (v' :: r)) = _
  rw [b2, hnone, key3]
  rfl
 have hb : blanksM ([vB (tabAt (keyL 3) T).isSome, vN 0].map Vl.str) = Lib.itoa (b2i (tabAt (keyL 3) T).isSome) ++ [32, 48] := by
  simp only [List.map_cons, List.map_nil]
  rw [blanks_two, vn_str]
  show (vN (b2i _)).str.data.toList ++ [32] ++ _ = _
  rw [vn_str, show Lib.itoa (0 : Int) = [48] by kernel_rfl, List.append_assoc]
  rfl
 have hsz : (blanksM ([vB (tabAt (keyL 3) T).isSome, vN 0].map Vl.str)).length <= 200 := by
  have : (Lib.itoa (b2i (tabAt (keyL 3) T).isSome)).length <= 21 := by
   cases (tabAt (keyL 3) T).isSome
   . exact itoa_le 0 (by omega)
   . exact itoa_le 1 (by omega)
  rw [hb, List.length_append]
  simp only [List.length_cons, List.length_nil]
  omega
 have f2 := print_ok (F := F) (m := m + 4) (s := s2) (a := ⟨#[]⟩) (t := ⟨#[]⟩) (b := []) (e := []) (by omega) ha hsz (by rw [b4', List.length_map]; omega)
 rw [hb] at f2
 obtain ⟨s3, hs3⟩ : ∃ s3 : Ms, s3 = { s2 with left := s2.left - 1, out := s2.out ++ [⟨(Lib.itoa (b2i (tabAt (keyL 3) T).isSome) ++ [32, 48]).toArray⟩] } := ⟨_, rfl⟩
 rw [<- hs3] at f2
 have e1 : runM (stmtM F (m + 5)) (lopsS 0 l ++ [forS, lasS]) { startM 50000 with left := (startM 50000).left - 1 } = .go s3 true := by
  rw [a1, rs_cons, f1, rs_go, rs_cons, show lasS = .mk 4 ⟨#[]⟩ ⟨#[]⟩ eEs [] [] from rfl, f2]
  rfl
 have e2 : ruleM F (m + 5) (startM 50000) ⟨0, false, nil0, lopsS 0 l ++ [forS, lasS]⟩ = .go s3 true := by
  show burnM (startM 50000) _ = _
  rw [burn_some (by rw [l0]; decide)]
  exact e1
 refine ⟨takeM s3 ⟨#[]⟩, ?_, ?_⟩
 . have e : finishM F (m + 5) (lPrg l) [] (startM 50000) = (match (ruleM F (m + 5) (startM 50000) ⟨0, false, nil0, lopsS 0 l ++ [forS, lasS]⟩).then (runM (ruleM F (m + 5)) []) with
    | .go s _ => Om.go s true
    | .stop s e => Om.stop s e).then fun s => Om.go (takeM s ⟨#[]⟩) true := rfl
   rw [e, e2]
   rfl
 . rw [hT.symm] at *
   show s3.out = _
   rw [hs3]
   show s2.out ++ _ = _
   rw [b4']
   rfl
end Go.Proofs.YtffnilcihneniaaGreatDoor
