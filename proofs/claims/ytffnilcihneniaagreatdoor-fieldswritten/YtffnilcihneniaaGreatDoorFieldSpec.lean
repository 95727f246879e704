/-
  A field that is written: the source is read, and what its runs print. Of data alone.
-/
import Derived.Test.YtffnilcihneniaaGreatDoorCutSpec
import Derived.Test.YtffnilcihneniaaGreatDoorNextSpec
namespace Go.Proofs.YtffnilcihneniaaGreatDoor
open Go.RowKit
set_option linter.unusedVariables false
set_option maxRecDepth 100000
def fldA (k : Nat) : List UInt8 := [123, 32, 36] ++ Lib.itoa (k : Int) ++ [32, 61, 32]
def fldC (v : Nat) : List UInt8 := Lib.itoa (v : Int) ++ [59, 32]
def fldD (k : Nat) : List UInt8 := [112, 114, 105, 110, 116, 32, 78, 70, 44, 32, 36] ++ Lib.itoa (k : Int) ++ [59, 32, 112, 114, 105, 110, 116, 32, 36, 48, 59, 32, 125]
def fldL (k v : Nat) : List UInt8 := [123, 32, 36] ++ Lib.itoa (k : Int) ++ [32, 61, 32] ++ Lib.itoa (v : Int) ++ [59, 32, 112, 114, 105, 110, 116, 32, 78, 70, 44, 32, 36] ++ Lib.itoa (k : Int) ++ [59, 32, 112, 114, 105, 110, 116, 32, 36, 48, 59, 32, 125]
def fldB (k v : Nat) : List Sm := [.mk 3 ⟨#[]⟩ ⟨#[]⟩ [.mk 1 (k : Int) ⟨#[]⟩ [], .mk 1 (v : Int) ⟨#[]⟩ []] [] [], .mk 4 ⟨#[]⟩ ⟨#[]⟩ [.mk 12 0 ⟨#[78, 70]⟩ [], .mk 4 0 ⟨#[]⟩ [.mk 1 (k : Int) ⟨#[]⟩ []]] [] [], .mk 4 ⟨#[]⟩ ⟨#[]⟩ [.mk 4 0 ⟨#[]⟩ [.mk 1 0 ⟨#[]⟩ []]] [] []]
def fldP (k v : Nat) : List Ru := [⟨1, false, nil0, fldB k v⟩]
def sg (l : List UInt8) : Pc := ⟨4, l, 0⟩
def wd (l : List UInt8) : Pc := ⟨1, l, 0⟩
def nu (n : Nat) : Pc := ⟨2, [], (n : Int)⟩
def fldPA (k : Nat) : List Pc := [sg [123], sg [36], nu k, sg [61]]
def fldPC (v : Nat) : List Pc := [nu v, sg [59]]
def fldPD (k : Nat) : List Pc := [wd [112, 114, 105, 110, 116], wd [78, 70], sg [44], sg [36], nu k, sg [59], wd [112, 114, 105, 110, 116], sg [36], nu 0, sg [59], sg [125]]
theorem fld_A {k : Nat} (hk : k < 9) : CutsTo (fldA k) (fldPA k) := CutsTo.range (by kernel_rfl) hk
theorem fld_C {v : Nat} (hv : v < 1000) : CutsTo (fldC v) (fldPC v) := CutsTo.range (by kernel_rfl) hv
theorem fld_D {k : Nat} (hk : k < 9) : CutsTo (fldD k) (fldPD k) := CutsTo.range (by kernel_rfl) hk
theorem fld_parse (k v : Nat) : rulesR 380 18 [] (fldPA k ++ fldPC v ++ fldPD k) = .ok (fldP k v) := by kernel_rfl
theorem ckE_num {n : Int} {s : ByteArray} {l : List Ex} (h : 0 ≤ n) (h2 : n ≤ 1099511627776) : ∀ (m : Nat) (d : Int) (st : St), ckE m (.mk 1 n s l) d st = ckE m (.mk 1 0 s l) d st
  | 0, _, _ => rfl
  | m + 1, d, st => by
    have e : partsE 1 n s l.length = partsE 1 0 s l.length := by unfold partsE; simp
    have e2 : ∀ {α : Type} (a b : α), (if n < 0 ∨ 1099511627776 < n then a else b) = b := fun a b => if_neg (by omega)
    have e3 : ∀ {α : Type} (a b : α), (if (0 : Int) < 0 ∨ 1099511627776 < (0 : Int) then a else b) = b := fun a b => if_neg (by omega)
    unfold ckE
    simp only [e, e2, e3]
def fldT (x y : Ex) : List Ru := [⟨1, false, nil0, [.mk 3 ⟨#[]⟩ ⟨#[]⟩ [x, y] [] [], .mk 4 ⟨#[]⟩ ⟨#[]⟩ [.mk 12 0 ⟨#[78, 70]⟩ [], .mk 4 0 ⟨#[]⟩ [x]] [] [], .mk 4 ⟨#[]⟩ ⟨#[]⟩ [.mk 4 0 ⟨#[]⟩ [.mk 1 0 ⟨#[]⟩ []]] [] []]⟩]
theorem fldT_ck {m : Nat} {x y x' y' : Ex} (hx : ∀ m d st, ckE m x d st = ckE m x' d st) (hy : ∀ m d st, ckE m y d st = ckE m y' d st) : ckP (m + 5) (fldT x y) = ckP (m + 5) (fldT x' y') := by
  simp only [fldT, ckP, ckR, ckS, ckE, runL, hx, hy]
  rfl
theorem fld_ck (m k v : Nat) (hk : k < 9) (hv : v < 1000) : ckP (m + 5) (fldP k v) = 0 := by
  show ckP (m + 5) (fldT (.mk 1 (k : Int) ⟨#[]⟩ []) (.mk 1 (v : Int) ⟨#[]⟩ [])) = 0
  rw [fldT_ck (ckE_num (by omega) (by omega)) (ckE_num (by omega) (by omega))]
  kernel_rfl
theorem fld_read {k v : Nat} (hk : k < 9) (hv : v < 1000) : readR (fldL k v) = .ok (fldP k v) := by
  have h1 : CutsTo (fldA k ++ fldC v ++ fldD k) (fldPA k ++ fldPC v ++ fldPD k) := ((fld_A hk).app (fld_C hv)).app (fld_D hk)
  have e : fldA k ++ fldC v ++ fldD k = fldL k v := by simp [fldA, fldC, fldD, fldL]
  rw [e] at h1
  have b1 := itoa_le k (by omega)
  have b2 := itoa_le v (by omega)
  have hs : (fldL k v).length ≤ 6000 := by
    simp only [fldL, List.length_append, List.length_cons, List.length_nil]
    omega
  have hs2 : 17 ≤ (fldL k v).length := by
    simp only [fldL, List.length_append, List.length_cons, List.length_nil]
    omega
  exact read_of hs (h1.all hs2) (fld_parse k v) (fld_ck 375 k v hk hv)
def fldF (k : Nat) (z : ByteArray) : List ByteArray := (wideM [⟨#[97]⟩, ⟨#[98]⟩, ⟨#[99]⟩] k).set (k - 1) z
def fldO (k : Nat) (z : ByteArray) : List ByteArray := [⟨(Lib.itoa ((fldF k z).length : Int) ++ [32] ++ z.data.toList).toArray⟩, ⟨(blanksM (fldF k z)).toArray⟩]
theorem fld_line : Lib.goFieldsP sepB ⟨#[97, 32, 32, 98, 9, 99]⟩ = [⟨#[97]⟩, ⟨#[98]⟩, ⟨#[99]⟩] := by kernel_rfl
theorem blanks_len (l : List ByteArray) : (blanksM l).length ≤ (l.map ByteArray.size).sum + l.length := by
  induction l with
  | nil => simp [blanksM, Lib.join]
  | cons x l ih =>
    unfold blanksM at ih ⊢
    rw [List.map_cons, Lib.join_cons]
    cases l with
    | nil => simp [Lib.joinTail]
    | cons y l =>
      simp only [List.map_cons, Lib.join_cons] at ih
      simp only [List.map_cons, Lib.joinTail, List.flatten_cons, List.length_append, List.length_cons, List.length_nil, List.sum_cons] at ih ⊢
      have e : x.data.toList.length = x.size := by simp
      have : (y.data.toList.length) = y.size := by simp
      omega
theorem wide_len (k : Nat) : (wideM [⟨#[97]⟩, ⟨#[98]⟩, ⟨#[99]⟩] k).length = max 3 k := by unfold wideM; simp; omega
theorem wide_small (k : Nat) : ∀ x ∈ wideM [⟨#[97]⟩, ⟨#[98]⟩, ⟨#[99]⟩] k, x.size ≤ 1 := by
  intro x hx
  unfold wideM at hx
  simp only [List.mem_append, List.mem_cons, List.not_mem_nil, or_false, List.mem_replicate] at hx
  rcases hx with (rfl | rfl | rfl) | ⟨-, rfl⟩ <;> decide
theorem sum_le : ∀ (l : List ByteArray) (b : Nat), (∀ x ∈ l, x.size ≤ b) → (l.map ByteArray.size).sum ≤ l.length * b
  | [], b, _ => by simp
  | x :: l, b, h => by
    have h1 := sum_le l b fun y hy => h y (List.mem_cons_of_mem _ hy)
    have h2 := h x (List.mem_cons_self ..)
    simp only [List.map_cons, List.sum_cons, List.length_cons, Nat.succ_mul]
    omega
theorem fldF_len (k : Nat) (z : ByteArray) : (fldF k z).length = max 3 k := by unfold fldF; rw [List.length_set, wide_len]
theorem fldF_blanks (k v : Nat) (hk : k < 9) (hv : v < 1000) : (blanksM (fldF k (txN v))).length ≤ 200 := by
  have h0 := itoa_le v (by omega)
  have hz : (txN v).size ≤ 21 := by unfold txN; simpa [ByteArray.size] using h0
  have h1 := blanks_len (fldF k (txN v))
  have h2 : ∀ x ∈ fldF k (txN v), x.size ≤ 21 := by
    intro x hx
    unfold fldF at hx
    rcases List.mem_or_eq_of_mem_set hx with h | rfl
    · have := wide_small k x h; omega
    · exact hz
  have h3 := sum_le _ _ h2
  have h4 := fldF_len k (txN v)
  have h5 : (fldF k (txN v)).length * 21 ≤ 8 * 21 := Nat.mul_le_mul_right _ (by omega)
  omega
theorem vn_num (n : Nat) (h : n ≤ 1000000) : (vN (n : Int)).num = some (n : Int) := by
  unfold Vl.num
  have e : numOf (vN (n : Int)).t (vN (n : Int)).n (vN (n : Int)).s = (n : Int) := rfl
  rw [e, if_pos (by omega)]
theorem fld_write {F : List Fl} {k v m : Nat} {s : Ms} {b e : List Sm} (hk0 : 1 ≤ k) (hk : k < 9) (hv : v < 1000) (hl : ¬ s.left = 0) (hf : s.flds = [⟨#[97]⟩, ⟨#[98]⟩, ⟨#[99]⟩]) :
    stmtM F (m + 2) s (.mk 3 ⟨#[]⟩ ⟨#[]⟩ [.mk 1 (k : Int) ⟨#[]⟩ [], .mk 1 (v : Int) ⟨#[]⟩ []] b e) = .go { s with left := s.left - 1, flds := fldF k (txN v), whole := ⟨(blanksM (fldF k (txN v))).toArray⟩ } true := by
  show burnM s _ = _
  rw [burn_some hl]
  show writeM { s with left := s.left - 1 } (vN (k : Int)) (vN (v : Int)).str = _
  have ez : (vN (v : Int)).str = txN v := rfl
  rw [ez]
  unfold writeM
  rw [vn_num k (by omega)]
  simp only
  rw [if_neg (by omega), Int.toNat_natCast]
  have e1 : ({ s with left := s.left - 1 } : Ms).flds = [⟨#[97]⟩, ⟨#[98]⟩, ⟨#[99]⟩] := hf
  rw [e1]
  have e2 : (wideM [⟨#[97]⟩, ⟨#[98]⟩, ⟨#[99]⟩] k).set (k - 1) (txN v) = fldF k (txN v) := rfl
  rw [e2, if_neg (by have := fldF_blanks k v hk hv; omega)]
theorem fld_run {F : List Fl} {k v m : Nat} (hk0 : 1 ≤ k) (hk : k < 9) (hv : v < 1000) :
    ∃ s, finishM F (m + 3) (fldP k v) [⟨#[97, 32, 32, 98, 9, 99]⟩] (startM 50000) = .go s true ∧ s.out = fldO k (txN v) := by
  obtain ⟨s1, hs1⟩ : ∃ s1 : Ms, s1 = takeM { startM 50000 with recs := (startM 50000).recs + 1 } ⟨#[97, 32, 32, 98, 9, 99]⟩ := ⟨_, rfl⟩
  have f1 : s1.flds = [⟨#[97]⟩, ⟨#[98]⟩, ⟨#[99]⟩] := by rw [hs1]; exact fld_line
  have f3 : s1.left = 50000 := by rw [hs1]; rfl
  have f4 : s1.out = [] := by rw [hs1]; rfl
  have e : finishM F (m + 3) (fldP k v) [⟨#[97, 32, 32, 98, 9, 99]⟩] (startM 50000) = ((match (ruleM F (m + 3) s1 ⟨1, false, nil0, fldB k v⟩).then (runM (ruleM F (m + 3)) []) with
    | .go s _ => Om.go s true
    | .stop s e => Om.stop s e).then (fun s => Om.go s true)).then fun s => Om.go (takeM s ⟨#[]⟩) true := by rw [hs1]; rfl
  have e1 : ruleM F (m + 3) s1 ⟨1, false, nil0, fldB k v⟩ = runM (stmtM F (m + 3)) (fldB k v) { s1 with left := s1.left - 1 } := by
    show burnM s1 _ = _
    rw [burn_some (by omega)]
    rfl
  obtain ⟨s2, hs2⟩ : ∃ s2 : Ms, s2 = { s1 with left := s1.left - 1 - 1, flds := fldF k (txN v), whole := ⟨(blanksM (fldF k (txN v))).toArray⟩ } := ⟨_, rfl⟩
  have g1 : s2.flds = fldF k (txN v) := by rw [hs2]
  have g2 : s2.whole = ⟨(blanksM (fldF k (txN v))).toArray⟩ := by rw [hs2]
  have g3 : s2.left = 49998 := by rw [hs2]; show s1.left - 1 - 1 = _; omega
  have g4 : s2.out = [] := by rw [hs2]; exact f4
  have w1 : stmtM F (m + 3) { s1 with left := s1.left - 1 } (.mk 3 ⟨#[]⟩ ⟨#[]⟩ [.mk 1 (k : Int) ⟨#[]⟩ [], .mk 1 (v : Int) ⟨#[]⟩ []] [] []) = .go s2 true := by
    rw [fld_write (s := { s1 with left := s1.left - 1 }) hk0 hk hv (by show ¬ s1.left - 1 = 0; omega) f1, hs2]
  -- the field
  have hget : (fldF k (txN v)).getD (((k : Int)).toNat - 1) ⟨#[]⟩ = txN v := by
    rw [Int.toNat_natCast, List.getD_eq_getElem?_getD, fldF, List.getElem?_set_self (by rw [wide_len]; omega)]
    rfl
  have a1 : allM (askM { s2 with left := s2.left - 1 } (m + 2)) [.mk 12 0 ⟨#[78, 70]⟩ [], .mk 4 0 ⟨#[]⟩ [.mk 1 (k : Int) ⟨#[]⟩ []]] = .ok [vN ((fldF k (txN v)).length : Int), vS (txN v)] := by
    have q : fieldM { s2 with left := s2.left - 1 } (vN (k : Int)) = .ok (txN v) := by
      unfold fieldM
      rw [vn_num k (by omega)]
      simp only
      rw [if_neg (by omega), if_neg (by omega), g1, hget]
    show (Except.bind (Except.ok (vN (s2.flds.length : Int))) fun v' => (((fieldM { s2 with left := s2.left - 1 } (vN (k : Int))).bind fun x => .ok (vS x)).bind fun y => .ok [y]).bind fun r => .ok (v' :: r)) = _
    rw [q, g1]
    rfl
  have b1 : blanksM ([vN ((fldF k (txN v)).length : Int), vS (txN v)].map Vl.str) = Lib.itoa ((fldF k (txN v)).length : Int) ++ [32] ++ (txN v).data.toList := by
    simp only [List.map_cons, List.map_nil]
    rw [blanks_two, vn_str]
    rfl
  have l1 := itoa_le (fldF k (txN v)).length (by rw [fldF_len]; omega)
  have l2 := itoa_le v (by omega)
  have l3 : (txN v).data.toList = Lib.itoa (v : Int) := by simp [txN]
  have p1 : stmtM F (m + 3) s2 (.mk 4 ⟨#[]⟩ ⟨#[]⟩ [.mk 12 0 ⟨#[78, 70]⟩ [], .mk 4 0 ⟨#[]⟩ [.mk 1 (k : Int) ⟨#[]⟩ []]] [] []) = .go { s2 with left := s2.left - 1, out := s2.out ++ [⟨(blanksM ([vN ((fldF k (txN v)).length : Int), vS (txN v)].map Vl.str)).toArray⟩] } true :=
    print_ok (by omega) a1 (by rw [b1, l3]; simp only [List.length_append, List.length_cons, List.length_nil]; omega) (by rw [g4]; decide)
  rw [b1] at p1
  obtain ⟨s3, hs3⟩ : ∃ s3 : Ms, s3 = { s2 with left := s2.left - 1, out := s2.out ++ [⟨(Lib.itoa ((fldF k (txN v)).length : Int) ++ [32] ++ (txN v).data.toList).toArray⟩] } := ⟨_, rfl⟩
  rw [← hs3] at p1
  have k3 : s3.left = 49997 := by rw [hs3]; show s2.left - 1 = _; omega
  have k4 : s3.out = [⟨(Lib.itoa ((fldF k (txN v)).length : Int) ++ [32] ++ (txN v).data.toList).toArray⟩] := by rw [hs3]; show s2.out ++ _ = _; rw [g4]; rfl
  have k5 : s3.whole = ⟨(blanksM (fldF k (txN v))).toArray⟩ := by rw [hs3]; exact g2
  have a2 : allM (askM { s3 with left := s3.left - 1 } (m + 2)) [.mk 4 0 ⟨#[]⟩ [.mk 1 0 ⟨#[]⟩ []]] = .ok [vS s3.whole] := rfl
  have b2 : blanksM ([vS s3.whole].map Vl.str) = blanksM (fldF k (txN v)) := by
    simp only [List.map_cons, List.map_nil]
    rw [blanks_one, k5]
    show (blanksM (fldF k (txN v))).toArray.toList = _
    simp
  have p2 : stmtM F (m + 3) s3 (.mk 4 ⟨#[]⟩ ⟨#[]⟩ [.mk 4 0 ⟨#[]⟩ [.mk 1 0 ⟨#[]⟩ []]] [] []) = .go { s3 with left := s3.left - 1, out := s3.out ++ [⟨(blanksM ([vS s3.whole].map Vl.str)).toArray⟩] } true :=
    print_ok (by omega) a2 (by rw [b2]; exact fldF_blanks k v hk hv) (by rw [k4, List.length_cons, List.length_nil]; omega)
  rw [b2] at p2
  refine ⟨takeM { s3 with left := s3.left - 1, out := s3.out ++ [⟨(blanksM (fldF k (txN v))).toArray⟩] } ⟨#[]⟩, ?_, ?_⟩
  · have e2 : runM (stmtM F (m + 3)) (fldB k v) { s1 with left := s1.left - 1 } = .go { s3 with left := s3.left - 1, out := s3.out ++ [⟨(blanksM (fldF k (txN v))).toArray⟩] } true := by
      unfold fldB
      rw [rs_cons, w1, rs_go, rs_cons, p1, rs_go, rs_cons, p2]
      rfl
    rw [e, e1, e2]
    rfl
  · show s3.out ++ _ = _
    rw [k4]
    rfl
end Go.Proofs.YtffnilcihneniaaGreatDoor
