/-
  What is wrong with a program, as a function of data (P2.1 to P2.4): expressions, statements and rules as trees; the state of the look (what names are, how many parts were met); the first thing that is wrong, or the state behind it. No program is named here.
-/
import Derived.Test.YtfbpkbochhfnhaaGreatDoorGround
namespace Go.Proofs.YtfbpkbochhfnhaaGreatDoor
open Go.RowKit

inductive Ex where
  | mk (k n : Int) (s : ByteArray) (l : List Ex)

inductive Sm where
  | mk (k : Int) (s t : ByteArray) (es : List Ex) (b e : List Sm)

structure Ru where
  when : Int
  has : Bool
  pat : Ex
  body : List Sm

/-- What names are (0: not met, 1: a variable, 2: a list), and how many parts were met. -/
structure St where
  nm : ByteArray → Int
  nodes : Int

abbrev Res := Except Int St

/-- One by one, up to the first that is wrong. -/
def runL {α : Type} (f : α → St → Res) : List α → St → Res
  | [], st => .ok st
  | x :: l, st => match f x st with
    | .error e => .error e
    | .ok st' => runL f l st'

theorem runL_snoc {α : Type} {f : α → St → Res} {l : List α} {x : α} {st st1 : St} (h : runL f l st = .ok st1) : runL f (l ++ [x]) st = f x st1 := by
  induction l generalizing st with
  | nil =>
    simp only [runL, Except.ok.injEq] at h
    subst h
    simp only [List.nil_append, runL]
    cases f x st <;> rfl
  | cons y l ih =>
    simp only [runL, List.cons_append] at h ⊢
    cases hy : f y st with
    | error e => rw [hy] at h; cases h
    | ok s2 => rw [hy] at h; exact ih h

theorem runL_err {α : Type} {f : α → St → Res} {l r : List α} {st : St} {e : Int} (h : runL f l st = .error e) : runL f (l ++ r) st = .error e := by
  induction l generalizing st with
  | nil => simp only [runL] at h; cases h
  | cons y l ih =>
    simp only [runL, List.cons_append] at h ⊢
    cases hy : f y st with
    | error e' => rw [hy] at h; exact h
    | ok s2 => rw [hy] at h; exact ih h

/-- A round of a loop that goes on. -/
theorem runL_step {α : Type} {f : α → St → Res} {l : List α} {st st1 st2 : St} {i : Nat} (hi : i < l.length) (h : runL f (l.take i) st = .ok st1) (h2 : f l[i] st1 = .ok st2) : runL f (l.take (i + 1)) st = .ok st2 := by
  rw [List.take_succ_eq_append_getElem hi, runL_snoc h, h2]

/-- A round of a loop that ends. -/
theorem runL_stop {α : Type} {f : α → St → Res} {l : List α} {st st1 : St} {i : Nat} {e : Int} (hi : i < l.length) (h : runL f (l.take i) st = .ok st1) (h2 : f l[i] st1 = .error e) : runL f l st = .error e := by
  have h3 : runL f (l.take (i + 1)) st = .error e := by rw [List.take_succ_eq_append_getElem hi, runL_snoc h, h2]
  have h4 := runL_err (r := l.drop (i + 1)) h3
  rwa [List.take_append_drop] at h4

theorem runL_all {α : Type} {f : α → St → Res} {l : List α} {st st1 : St} {i : Nat} (hi : ¬ i < l.length) (h : runL f (l.take i) st = .ok st1) : runL f l st = .ok st1 := by
  rwa [List.take_of_length_le (by omega)] at h

/-- The words: no name is one of them. -/
def wordsL : List (List UInt8) := [[66, 69, 71, 73, 78], [69, 78, 68], [112, 114, 105, 110, 116], [105, 102], [101, 108, 115, 101], [119, 104, 105, 108, 101], [102, 111, 114], [105, 110], [110, 101, 120, 116], [100, 101, 108, 101, 116, 101], [108, 111, 97, 100], [108, 101, 110, 103, 116, 104], [115, 117, 98, 115, 116, 114], [105, 110, 100, 101, 120], [78, 82], [78, 70]]

def isWordB (s : ByteArray) : Bool := wordsL.contains s.toList

def lettersB (s : ByteArray) : Bool := s.toList.all fun c => decide (97 ≤ c.toNat ∧ c.toNat ≤ 122)

/-- P2.1. -/
def nameB (s : ByteArray) : Bool := decide (1 ≤ s.size) && decide (s.size ≤ 8) && !isWordB s && lettersB s

/-- How strong an operator binds; 0: it is none. -/
def lvl (s : ByteArray) : Int :=
  if s.toList = [124, 124] then 1
  else if s.toList = [38, 38] then 2
  else if s.toList = [60] ∨ s.toList = [60, 61] ∨ s.toList = [61, 61] ∨ s.toList = [33, 61] ∨ s.toList = [62] ∨ s.toList = [62, 61] then 3
  else if s.toList = [46, 46] then 4
  else if s.toList = [43] ∨ s.toList = [45] then 5
  else if s.toList = [42] ∨ s.toList = [47] ∨ s.toList = [37] then 6 else 0

/-- How many arguments a function has; 0: there is none of that name. -/
def asksN (s : ByteArray) : Int :=
  if s.toList = [108, 101, 110, 103, 116, 104] then 1
  else if s.toList = [105, 110, 100, 101, 120] then 2
  else if s.toList = [115, 117, 98, 115, 116, 114] then 3 else 0

def partR (d : Int) (st : St) : Res := if 4000 < st.nodes + 1 ∨ 20 < d then .error 1 else .ok ⟨st.nm, st.nodes + 1⟩

def nameR (s : ByteArray) (kind : Int) (st : St) : Res :=
  if nameB s = false then .error 4
  else if st.nm s = 0 then .ok ⟨fun t => if t = s then kind else st.nm t, st.nodes⟩
  else if st.nm s = kind then .ok st else .error 6

def argsN (k : Int) (s : ByteArray) : Int :=
  if k = 11 then asksN s
  else if k = 4 ∨ k = 5 ∨ k = 7 ∨ k = 8 ∨ k = 9 then 1
  else if k = 6 then 2 else if k = 10 then 3 else 0

def partsE (k n : Int) (s : ByteArray) (len : Nat) : Bool := decide (k = 1 ∨ n = 0) && decide ((len : Int) = argsN k s) && decide (k = 11 → 0 < asksN s)

def textsE (k : Int) (s : ByteArray) (st : St) : Res :=
  if k = 2 then (if 200 < s.size then .error 1 else .ok st)
  else if k = 3 then nameR s 1 st
  else if k = 5 ∨ k = 9 then nameR s 2 st
  else if k = 6 then (if 0 < lvl s then .ok st else .error 4)
  else if k = 12 then (if s.toList = [78, 82] ∨ s.toList = [78, 70] then .ok st else .error 4)
  else if k = 11 then .ok st
  else if 0 < s.size then .error 4 else .ok st

/-- An expression (P2.2, P2.4); m: any number above its height. -/
def ckE : Nat → Ex → Int → St → Res
  | 0, _, _, st => .ok st
  | m + 1, .mk k n s l, d, st =>
    match partR d st with
    | .error e => .error e
    | .ok st1 =>
      if k < 1 ∨ 12 < k then .error 3
      else if partsE k n s l.length = false then .error 4
      else match textsE k s st1 with
        | .error e => .error e
        | .ok st2 => if n < 0 ∨ 1099511627776 < n then .error 2 else runL (fun x => ckE m x (d + 1)) l st2

def exprsN (k : Int) (len : Nat) : Bool :=
  if k = 1 ∨ k = 5 ∨ k = 6 ∨ k = 9 then decide (len = 1)
  else if k = 2 ∨ k = 3 then decide (len = 2)
  else if k = 4 then decide (1 ≤ len) else decide (len = 0)

def partsS (k : Int) (es b e : Nat) : Bool := exprsN k es && decide (b = 0 ∨ (5 ≤ k ∧ k ≤ 7)) && decide (e = 0 ∨ k = 5)

/-- S of a statement. -/
def textsS1 (k : Int) (s : ByteArray) (st : St) : Res :=
  if k = 1 ∨ k = 7 then nameR s 1 st
  else if k = 2 ∨ k = 9 ∨ k = 10 then nameR s 2 st
  else if 0 < s.size then .error 4 else .ok st

/-- T of a statement. -/
def textsS2 (k : Int) (t : ByteArray) (st : St) : Res :=
  if k = 7 then nameR t 2 st
  else if k = 10 then (if 200 < t.size then .error 1 else .ok st)
  else if 0 < t.size then .error 4 else .ok st

def textsS (when k : Int) (s t : ByteArray) (st : St) : Res :=
  match textsS1 k s st with
  | .error e => .error e
  | .ok st1 => if k = 10 ∧ when ≠ 0 then .error 7 else textsS2 k t st1

/-- A statement (P2.3, P2.4). -/
def ckS (when : Int) : Nat → Sm → Int → St → Res
  | 0, _, _, st => .ok st
  | m + 1, .mk k s t es b e, d, st =>
    match partR d st with
    | .error r => .error r
    | .ok st1 =>
      if k < 1 ∨ 10 < k then .error 3
      else if partsS k es.length b.length e.length = false then .error 4
      else match textsS when k s t st1 with
        | .error r => .error r
        | .ok st2 =>
          if k = 8 ∧ when ≠ 1 then .error 7
          else match runL (fun x => ckE m x (d + 1)) es st2 with
            | .error r => .error r
            | .ok st3 => match runL (fun x => ckS when m x (d + 1)) b st3 with
              | .error r => .error r
              | .ok st4 => runL (fun x => ckS when m x (d + 1)) e st4

def zeroE : Ex → Bool
  | .mk k n s l => decide (k = 0) && decide (n = 0) && decide (s.size = 0) && decide (l.length = 0)

/-- A rule (P2.4). -/
def ckR (m : Nat) (r : Ru) (st : St) : Res :=
  if r.when < 0 ∨ 2 < r.when then .error 3
  else if r.has = true ∧ r.when ≠ 1 then .error 4
  else match (if r.has then ckE m r.pat 1 st else .ok st) with
    | .error e => .error e
    | .ok st1 => if r.has = false ∧ zeroE r.pat = false then .error 4 else runL (fun x => ckS r.when m x 1) r.body st1

/-- A program (P2.4): 0, or what is wrong. -/
def ckP (m : Nat) (l : List Ru) : Int :=
  if 20 < l.length then 1
  else match runL (ckR m) l ⟨fun _ => 0, 0⟩ with
    | .error e => e
    | .ok _ => 0

end Go.Proofs.YtfbpkbochhfnhaaGreatDoor
