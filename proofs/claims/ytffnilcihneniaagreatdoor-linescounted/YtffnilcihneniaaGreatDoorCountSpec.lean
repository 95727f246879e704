/-
  Lines that are counted and cut: the source is read, and what its runs print. Of data alone.
-/
import Derived.Test.YtffnilcihneniaaGreatDoorRunSpec
namespace Go.Proofs.YtffnilcihneniaaGreatDoor
open Go.RowKit
set_option linter.unusedVariables false
set_option maxRecDepth 100000
def cntL : List UInt8 := [123, 32, 112, 114, 105, 110, 116, 32, 78, 82, 44, 32, 78, 70, 44, 32, 36, 49, 59, 32, 125, 32, 69, 78, 68, 32, 123, 32, 112, 114, 105, 110, 116, 32, 78, 82, 44, 32, 78, 70, 44, 32, 36, 49, 59, 32, 125]
def cntE : List Ex := [.mk 12 0 ⟨#[78, 82]⟩ [], .mk 12 0 ⟨#[78, 70]⟩ [], .mk 4 0 ⟨#[]⟩ [.mk 1 1 ⟨#[]⟩ []]]
def cntS : Sm := .mk 4 ⟨#[]⟩ ⟨#[]⟩ cntE [] []
def cntP : List Ru := [⟨1, false, nil0, [cntS]⟩, ⟨2, false, nil0, [cntS]⟩]
theorem cnt_read : readR cntL = .ok cntP := by kernel_rfl
theorem cnt_ck : ckP 6000 cntP = 0 := by kernel_rfl
def lineN (n : Nat) : List UInt8 := (List.replicate n [32, 119]).flatten ++ [32]
def toldN (i n : Nat) : ByteArray := ⟨(Lib.itoa (i : Int) ++ [32] ++ Lib.itoa (n : Int) ++ [32] ++ List.replicate (min n 1) 119).toArray⟩
theorem line_cuts : (List.range 5).map (fun n => Lib.goFieldsP sepB ⟨(lineN n).toArray⟩) = (List.range 5).map (fun n => List.replicate n ⟨#[119]⟩) := by kernel_rfl
theorem line_cut (n : Nat) (h : n < 5) : Lib.goFieldsP sepB ⟨(lineN n).toArray⟩ = List.replicate n ⟨#[119]⟩ := by
  have h1 := congrArg (fun l => l[n]?) line_cuts
  simpa [h] using h1
theorem cnt_ask {m : Nat} {s : Ms} : allM (askM s (m + 2)) cntE = .ok [vN s.recs, vN s.flds.length, vS (s.flds.getD 0 ⟨#[]⟩)] := rfl
theorem cnt_stmt {F : List Fl} {m : Nat} {s : Ms} {r n : Nat} (hl : 1 ≤ s.left) (ho : s.out.length < 2000) (hr : s.recs = r) (hr2 : r ≤ 1000) (hn : n < 5) (hf : s.flds = List.replicate n ⟨#[119]⟩) :
    stmtM F (m + 3) s cntS = .go { s with left := s.left - 1, out := s.out ++ [toldN r n] } true := by
  have e : blanksM ([vN (s.recs : Int), vN (s.flds.length : Int), vS (s.flds.getD 0 ⟨#[]⟩)].map Vl.str) = Lib.itoa (r : Int) ++ [32] ++ Lib.itoa (n : Int) ++ [32] ++ List.replicate (min n 1) 119 := by
    simp only [List.map_cons, List.map_nil]
    rw [blanks_three, vn_str, vn_str, hr, hf, List.length_replicate]
    congr 1
    match n, hn with
    | 0, _ => rfl
    | n + 1, _ => rw [show min (n + 1) 1 = 1 by omega]; rfl
  have h1 := itoa_le r (by omega)
  have h2 := itoa_le n (by omega)
  have h3 : (blanksM ([vN (s.recs : Int), vN (s.flds.length : Int), vS (s.flds.getD 0 ⟨#[]⟩)].map Vl.str)).length ≤ 200 := by
    rw [e]
    simp only [List.length_append, List.length_replicate, List.length_cons, List.length_nil]
    omega
  rw [show cntS = .mk 4 ⟨#[]⟩ ⟨#[]⟩ cntE [] [] from rfl, print_ok (by omega) (cnt_ask (m := m) (s := { s with left := s.left - 1 })) h3 ho]
  unfold toldN
  rw [← e]
theorem cnt_lines {F : List Fl} {m : Nat} : ∀ (ns : List Nat) (s : Ms) (r : Nat), (∀ n ∈ ns, n < 5) → s.recs = r → r + ns.length ≤ 1000 → 2 * ns.length ≤ s.left → s.out.length + ns.length < 2000 →
    ∃ s', runM (fun s x => rulesM F (m + 3) cntP 1 (takeM { s with recs := s.recs + 1 } x)) (ns.map fun n => (⟨(lineN n).toArray⟩ : ByteArray)) s = .go s' true ∧ s'.recs = r + ns.length ∧ s'.left = s.left - 2 * ns.length ∧ s'.out = s.out ++ ns.mapIdx fun i n => toldN (r + i + 1) n
  | [], s, r, _, hr, _, _, _ => ⟨s, rfl, by simp [hr], by simp, by simp⟩
  | n :: ns, s, r, hn, hr, hr2, hl, ho => by
    simp only [List.length_cons] at hr2 hl ho
    have hn0 : n < 5 := hn n (List.mem_cons_self ..)
    obtain ⟨s1, hs1⟩ : ∃ s1 : Ms, s1 = takeM { s with recs := s.recs + 1 } ⟨(lineN n).toArray⟩ := ⟨_, rfl⟩
    have f1 : s1.flds = List.replicate n ⟨#[119]⟩ := by rw [hs1]; exact line_cut n hn0
    have f2 : s1.recs = r + 1 := by rw [hs1]; show s.recs + 1 = _; omega
    have f3 : s1.left = s.left := by rw [hs1]; rfl
    have f4 : s1.out = s.out := by rw [hs1]; rfl
    have e1 : rulesM F (m + 3) cntP 1 s1 = .go { s1 with left := s1.left - 1 - 1, out := s1.out ++ [toldN (r + 1) n] } true := by
      have e : rulesM F (m + 3) cntP 1 s1 = match (ruleM F (m + 3) s1 ⟨1, false, nil0, [cntS]⟩).then (runM (ruleM F (m + 3)) []) with
        | .go s _ => .go s true
        | .stop s e => .stop s e := rfl
      rw [e, rule_one (by omega), cnt_stmt (s := { s1 with left := s1.left - 1 }) (r := r + 1) (n := n) (by show 1 ≤ s1.left - 1; omega) (by show s1.out.length < 2000; rw [f4]; omega) f2 (by omega) hn0 f1]
      rfl
    obtain ⟨s', g1, g2, g3, g4⟩ := cnt_lines (F := F) (m := m) ns { s1 with left := s1.left - 1 - 1, out := s1.out ++ [toldN (r + 1) n] } (r + 1) (fun k hk => hn k (List.mem_cons_of_mem _ hk)) f2 (by omega) (by show 2 * ns.length ≤ s1.left - 1 - 1; omega) (by show (s1.out ++ [toldN (r + 1) n]).length + _ < _; rw [List.length_append, f4]; simp; omega)
    refine ⟨s', ?_, ?_, ?_, ?_⟩
    · rw [List.map_cons, rs_cons, ← hs1, e1, rs_go]
      exact g1
    · rw [g2, List.length_cons]; omega
    · rw [g3, List.length_cons]; show s1.left - 1 - 1 - _ = _; omega
    · have hm : ns.mapIdx (fun i n => toldN (r + 1 + i + 1) n) = ns.mapIdx (fun i n => toldN (r + (i + 1) + 1) n) := by
        congr 1
        funext i k
        rw [show r + 1 + i + 1 = r + (i + 1) + 1 by omega]
      rw [g4, List.mapIdx_cons, hm]
      show (s1.out ++ [toldN (r + 1) n]) ++ _ = _
      rw [f4, List.append_assoc]
      rfl
theorem cnt_run {F : List Fl} {m : Nat} (ns : List Nat) (hn : ∀ n ∈ ns, n < 5) (hl : ns.length ≤ 10) :
    ∃ s, finishM F (m + 3) cntP (ns.map fun n => (⟨(lineN n).toArray⟩ : ByteArray)) (startM 50000) = .go s true ∧ s.out = (ns.mapIdx fun i n => toldN (i + 1) n) ++ [toldN ns.length 0] := by
  have l0 : (startM 50000).left = 50000 := rfl
  have o0 : (startM 50000).out = [] := rfl
  obtain ⟨s1, g1, g2, g3, g4⟩ := cnt_lines (F := F) (m := m) ns (startM 50000) 0 hn rfl (by omega) (by omega) (by rw [o0]; simp; omega)
  rw [l0] at g3
  have e : finishM F (m + 3) cntP (ns.map fun n => (⟨(lineN n).toArray⟩ : ByteArray)) (startM 50000) = (runM (fun s x => rulesM F (m + 3) cntP 1 (takeM { s with recs := s.recs + 1 } x)) (ns.map fun n => (⟨(lineN n).toArray⟩ : ByteArray)) (startM 50000)).then fun s => rulesM F (m + 3) cntP 2 (takeM s ⟨#[]⟩) := rfl
  rw [e, g1, rs_go]
  obtain ⟨s2, hs2⟩ : ∃ s2 : Ms, s2 = takeM s1 ⟨#[]⟩ := ⟨_, rfl⟩
  rw [← hs2]
  have f1 : s2.flds = List.replicate 0 ⟨#[119]⟩ := by rw [hs2]; show Lib.goFieldsP sepB ⟨#[]⟩ = []; kernel_rfl
  have f2 : s2.recs = ns.length := by rw [hs2]; show s1.recs = _; omega
  have f3 : s2.left = s1.left := by rw [hs2]; rfl
  have f4 : s2.out = s1.out := by rw [hs2]; rfl
  have e2 : rulesM F (m + 3) cntP 2 s2 = match (ruleM F (m + 3) s2 ⟨2, false, nil0, [cntS]⟩).then (runM (ruleM F (m + 3)) []) with
    | .go s _ => .go s true
    | .stop s e => .stop s e := rfl
  have o2 : s2.out = ns.mapIdx fun i n => toldN (i + 1) n := by
    rw [f4, g4, o0, List.nil_append]
    congr 1
    funext i k
    rw [Nat.zero_add]
  have o3 : s2.out.length = ns.length := by rw [o2]; simp
  refine ⟨{ s2 with left := s2.left - 1 - 1, out := s2.out ++ [toldN ns.length 0] }, ?_, ?_⟩
  · rw [e2, rule_one (by omega), cnt_stmt (s := { s2 with left := s2.left - 1 }) (r := ns.length) (n := 0) (by show 1 ≤ s2.left - 1; omega) (by show s2.out.length < 2000; omega) f2 (by omega) (by decide) f1]
    rfl
  · show s2.out ++ _ = _
    rw [o2]
end Go.Proofs.YtffnilcihneniaaGreatDoor
