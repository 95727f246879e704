/-
  A program as text (P2.5), as a function of data: expressions, statements, rules; and how long it may be. No program is named here.
-/
import Derived.Test.YtfbpkbochhfnhaaGreatDoorCkSpec
import Derived.Lib.ItoaNum
import Derived.Lib.ItoaLen
namespace Go.Proofs.YtfbpkbochhfnhaaGreatDoor
open Go.RowKit

instance : Inhabited Ex := ⟨.mk 0 0 ⟨#[]⟩ []⟩

/-- Bytes as a text. -/
def bs (l : List UInt8) : ByteArray := ⟨l.toArray⟩
theorem bs_app (a b : List UInt8) : bs a ++ bs b = bs (a ++ b) := by
  apply ByteArray.ext
  simp [bs, ByteArray.data_append]
theorem bs_toList (s : ByteArray) : bs s.toList = s := by
  rw [ByteArray.toList_eq]
  apply ByteArray.ext
  simp [bs]
theorem bs_size (l : List UInt8) : (bs l).size = l.length := by simp [bs, ByteArray.size]
theorem bs_list (l : List UInt8) : (bs l).toList = l := by rw [ByteArray.toList_eq]; simp [bs]
theorem toL_append (a b : ByteArray) : (a ++ b).toList = a.toList ++ b.toList := by
  rw [ByteArray.toList_eq, ByteArray.toList_eq, ByteArray.toList_eq, ByteArray.data_append, Array.toList_append]
theorem toL_len (s : ByteArray) : s.toList.length = s.size := by rw [ByteArray.toList_eq]; simp
theorem toL_mk (l : List UInt8) : (⟨l.toArray⟩ : ByteArray).toList = l := bs_list l

/-- Two texts of the same bytes. -/
theorem bs_of {x : ByteArray} {l : List UInt8} (h : x.toList = l) : x = bs l := by rw [← h, bs_toList]

/-- A text between two quotes. -/
def quoteB (c : UInt8) : List UInt8 := if c = 34 ∨ c = 92 then [92, c] else if c = 10 then [92, 110] else [c]
def quoteL (s : List UInt8) : List UInt8 := [34] ++ s.flatMap quoteB ++ [34]

theorem quoteB_len (c : UInt8) : (quoteB c).length ≤ 2 := by unfold quoteB; split <;> (try split) <;> simp
theorem quoteF_len (s : List UInt8) : (s.flatMap quoteB).length ≤ 2 * s.length := by
  induction s with
  | nil => simp
  | cons c s ih => have := quoteB_len c; simp only [List.flatMap_cons, List.length_append, List.length_cons]; omega
theorem quoteL_len (s : List UInt8) : (quoteL s).length ≤ 2 * s.length + 2 := by
  have := quoteF_len s
  simp only [quoteL, List.length_append, List.length_cons, List.length_nil]; omega

/-- Texts with a comma and a blank between. -/
def joinL : List (List UInt8) → List UInt8
  | [] => []
  | [x] => x
  | x :: y :: l => x ++ [44, 32] ++ joinL (y :: l)

/-- An expression; m: any number above its height. -/
def exT : Nat → Ex → List UInt8
  | 0, _ => []
  | m + 1, .mk k n s l =>
    if k = 1 then Lib.itoa n
    else if k = 2 then quoteL s.toList
    else if k = 4 then [40, 36] ++ exT m (l.getD 0 default) ++ [41]
    else if k = 5 then s.toList ++ [91] ++ exT m (l.getD 0 default) ++ [93]
    else if k = 6 then [40] ++ exT m (l.getD 0 default) ++ [32] ++ s.toList ++ [32] ++ exT m (l.getD 1 default) ++ [41]
    else if k = 7 then [40, 45] ++ exT m (l.getD 0 default) ++ [41]
    else if k = 8 then [40, 33] ++ exT m (l.getD 0 default) ++ [41]
    else if k = 9 then [40] ++ exT m (l.getD 0 default) ++ [32, 105, 110, 32] ++ s.toList ++ [41]
    else if k = 10 then [40] ++ exT m (l.getD 0 default) ++ [32, 63, 32] ++ exT m (l.getD 1 default) ++ [32, 58, 32] ++ exT m (l.getD 2 default) ++ [41]
    else if k = 11 then s.toList ++ [40] ++ joinL (l.map (exT m)) ++ [41]
    else s.toList

/-- Statements within braces; f: a statement's text. -/
def blL (f : Sm → List UInt8) (l : List Sm) : List UInt8 := [123, 32] ++ l.flatMap (fun x => f x ++ [32]) ++ [125]

/-- A statement. -/
def smT : Nat → Sm → List UInt8
  | 0, _ => []
  | m + 1, .mk k s t es b e =>
    if k = 1 then s.toList ++ [32, 61, 32] ++ exT m (es.getD 0 default) ++ [59]
    else if k = 2 then s.toList ++ [91] ++ exT m (es.getD 0 default) ++ [93] ++ [32, 61, 32] ++ exT m (es.getD 1 default) ++ [59]
    else if k = 3 then [36] ++ exT m (es.getD 0 default) ++ [32, 61, 32] ++ exT m (es.getD 1 default) ++ [59]
    else if k = 4 then [112, 114, 105, 110, 116, 32] ++ joinL (es.map (exT m)) ++ [59]
    else if k = 5 then [105, 102, 32, 40] ++ exT m (es.getD 0 default) ++ [41, 32] ++ blL (smT m) b ++ [32, 101, 108, 115, 101, 32] ++ blL (smT m) e
    else if k = 6 then [119, 104, 105, 108, 101, 32, 40] ++ exT m (es.getD 0 default) ++ [41, 32] ++ blL (smT m) b
    else if k = 7 then [102, 111, 114, 32, 40] ++ s.toList ++ [32, 105, 110, 32] ++ t.toList ++ [41, 32] ++ blL (smT m) b
    else if k = 8 then [110, 101, 120, 116, 59]
    else if k = 9 then [100, 101, 108, 101, 116, 101, 32] ++ s.toList ++ [91] ++ exT m (es.getD 0 default) ++ [93] ++ [59]
    else [108, 111, 97, 100, 32] ++ quoteL t.toList ++ [32] ++ s.toList ++ [59]

/-- A rule, a program. -/
def ruT (m : Nat) (r : Ru) : List UInt8 :=
  (if r.when = 0 then [66, 69, 71, 73, 78, 32] else if r.when = 2 then [69, 78, 68, 32] else if r.has then exT m r.pat ++ [32] else []) ++ blL (smT m) r.body
def prT (m : Nat) (l : List Ru) : List UInt8 := l.flatMap fun r => ruT m r ++ [10]

/-- Parts that are in form. -/
def okE : Nat → Ex → Prop
  | 0, _ => False
  | m + 1, .mk k n s l => 1 ≤ k ∧ k ≤ 12 ∧ partsE k n s l.length = true ∧ s.size ≤ 200 ∧ 0 ≤ n ∧ n ≤ 1099511627776 ∧ ∀ x ∈ l, okE m x
def okS : Nat → Sm → Prop
  | 0, _ => False
  | m + 1, .mk k s t es b e => 1 ≤ k ∧ k ≤ 10 ∧ partsS k es.length b.length e.length = true ∧ s.size ≤ 200 ∧ t.size ≤ 200 ∧ (∀ x ∈ es, okE m x) ∧ (∀ x ∈ b, okS m x) ∧ ∀ x ∈ e, okS m x
def okR (m : Nat) (r : Ru) : Prop := 0 ≤ r.when ∧ r.when ≤ 2 ∧ (r.has = true → r.when = 1 ∧ okE m r.pat) ∧ ∀ x ∈ r.body, okS m x

theorem argsN_of {k n : Int} {s : ByteArray} {len : Nat} (h : partsE k n s len = true) : (len : Int) = argsN k s := by
  simp only [partsE, Bool.and_eq_true, decide_eq_true_eq] at h
  exact h.1.2

theorem asks_of {n : Int} {s : ByteArray} {len : Nat} (h : partsE 11 n s len = true) : 0 < len := by
  simp only [partsE, Bool.and_eq_true, decide_eq_true_eq] at h
  have h1 := h.1.2
  have h2 := h.2 (by first | trivial | rfl)
  simp only [argsN, if_true] at h1
  omega

theorem joinL_snoc (l : List (List UInt8)) (x : List UInt8) (h : l ≠ []) : joinL (l ++ [x]) = joinL l ++ [44, 32] ++ x := by
  induction l with
  | nil => exact absurd rfl h
  | cons y l ih =>
    cases l with
    | nil => simp [joinL]
    | cons z l => simp only [List.cons_append, joinL] at ih ⊢; rw [ih (by simp)]; simp

theorem joinL_take_len (l : List (List UInt8)) (i : Nat) : (joinL (l.take i)).length ≤ (joinL l).length := by
  induction l generalizing i with
  | nil => simp
  | cons x l ih =>
    cases i with
    | zero => simp [joinL]
    | succ i =>
      cases l with
      | nil => simp [joinL]
      | cons y l =>
        cases i with
        | zero => simp [joinL]
        | succ i => have := ih (i + 1); simp only [List.take_succ_cons, joinL, List.length_append] at this ⊢; omega

theorem joinL_mem_len {l : List (List UInt8)} {x : List UInt8} (h : x ∈ l) : x.length ≤ (joinL l).length := by
  induction l with
  | nil => cases h
  | cons y l ih =>
    cases l with
    | nil => simp at h; subst h; simp [joinL]
    | cons z l =>
      simp only [joinL, List.length_append]
      rcases List.mem_cons.1 h with rfl | h
      · omega
      · have := ih h; omega

theorem flat_take_len {α : Type} (f : α → List UInt8) (l : List α) (i : Nat) : ((l.take i).flatMap f).length ≤ (l.flatMap f).length := by
  conv => rhs; rw [← List.take_append_drop i l]
  rw [List.flatMap_append, List.length_append]
  omega
theorem flat_mem_len {α : Type} (f : α → List UInt8) {l : List α} {x : α} (h : x ∈ l) : (f x).length ≤ (l.flatMap f).length := by
  induction l with
  | nil => cases h
  | cons y l ih =>
    simp only [List.flatMap_cons, List.length_append]
    rcases List.mem_cons.1 h with rfl | h
    · omega
    · have := ih h; omega
theorem flat_take_succ {α : Type} (f : α → List UInt8) (l : List α) (i : Nat) (hi : i < l.length) : (l.take (i + 1)).flatMap f = (l.take i).flatMap f ++ f l[i] := by
  rw [List.take_succ_eq_append_getElem hi, List.flatMap_append]
  simp

end Go.Proofs.YtfbpkbochhfnhaaGreatDoor
