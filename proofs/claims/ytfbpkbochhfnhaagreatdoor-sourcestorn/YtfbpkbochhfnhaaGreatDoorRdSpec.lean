/-
  A text read as a program (P2.6), as functions of data: pieces of a text; expressions, statements, rules read from pieces; what is wrong, where it can't be read. No program is named here.
-/
import Derived.Test.YtfbpkbochhfnhaaGreatDoorPrSpec
namespace Go.Proofs.YtfbpkbochhfnhaaGreatDoor
open Go.RowKit

/-- A piece: 1 a word, 2 a number, 3 a text, 4 a sign. -/
structure Pc where
  k : Int
  s : List UInt8
  n : Int

def letterB (c : UInt8) : Bool := decide ((97 ≤ c.toNat ∧ c.toNat ≤ 122) ∨ (65 ≤ c.toNat ∧ c.toNat ≤ 90))
def digitB (c : UInt8) : Bool := decide (48 ≤ c.toNat ∧ c.toNat ≤ 57)
def blankB (c : UInt8) : Bool := decide (c.toNat = 32 ∨ c.toNat = 9 ∨ c.toNat = 10)
def decV (l : List UInt8) : Nat := l.foldl (fun a c => 10 * a + (c.toNat - 48)) 0

/-- A number's digits. -/
def numR (l : List UInt8) : Except Int Int :=
  if 1 < l.length ∧ l.head? = some 48 then .error 4 else if 1099511627776 < decV l then .error 2 else .ok (decV l)

/-- What follows a quote, up to the next; i: how many bytes were read. -/
def txtR : List UInt8 → List UInt8 → Nat → Except Int (List UInt8 × Nat)
  | [], _, _ => .error 5
  | c :: r, acc, i =>
    if c.toNat = 34 then .ok (acc, i + 1)
    else if c.toNat = 10 then .error 4
    else if c.toNat = 92 then
      match r with
      | [] => .error 5
      | d :: r' => if d.toNat = 34 ∨ d.toNat = 92 then txtR r' (acc ++ [d]) (i + 2) else if d.toNat = 110 then txtR r' (acc ++ [10]) (i + 2) else .error 4
    else txtR r (acc ++ [c]) (i + 1)

def signsL : List (List UInt8) := [[60, 61], [61, 61], [33, 61], [62, 61], [38, 38], [124, 124], [46, 46], [43], [45], [42], [47], [37], [60], [62], [33], [36], [40], [41], [123], [125], [91], [93], [44], [59], [61], [63], [58]]

/-- The first piece, and how many bytes it takes. -/
def pieceR (l : List UInt8) : Except Int (Pc × Nat) :=
  if 0 < (l.takeWhile letterB).length then .ok (⟨1, l.takeWhile letterB, 0⟩, (l.takeWhile letterB).length)
  else if 0 < (l.takeWhile digitB).length then
    match numR (l.takeWhile digitB) with
    | .error e => .error e
    | .ok n => .ok (⟨2, [], n⟩, (l.takeWhile digitB).length)
  else if l.head? = some 34 then
    match txtR l.tail [] 1 with
    | .error e => .error e
    | .ok (t, i) => .ok (⟨3, t, 0⟩, i)
  else match signsL.find? (fun t => t.isPrefixOf l) with
    | some t => .ok (⟨4, t, 0⟩, t.length)
    | none => .error 4

/-- All pieces; m: any number above the length. -/
def cutR : Nat → List UInt8 → Except Int (List Pc)
  | 0, _ => .ok []
  | m + 1, l =>
    match l.dropWhile blankB with
    | [] => .ok []
    | c :: r => match pieceR (c :: r) with
      | .error e => .error e
      | .ok (p, i) => match cutR m ((c :: r).drop i) with
        | .error e => .error e
        | .ok ps => .ok (p :: ps)

/-! ### Reading from pieces -/
abbrev Rd (α : Type) := Except Int (α × List Pc)

def seesB (t : List UInt8) : List Pc → Bool
  | [] => false
  | p :: _ => decide (p.k ≠ 3) && decide (p.s = t)
def needR (t : List UInt8) (ps : List Pc) : Rd Unit := match ps with
  | [] => .error 5
  | p :: r => if seesB t (p :: r) then .ok ((), r) else .error 4
/-- A name. -/
def nameL (l : List UInt8) : Bool := decide (1 ≤ l.length) && decide (l.length ≤ 8) && !wordsL.contains l && l.all (fun c => decide (97 ≤ c.toNat ∧ c.toNat ≤ 122))
def nmR (ps : List Pc) : Rd (List UInt8) := match ps with
  | [] => .error 5
  | p :: r => if p.k = 1 ∧ nameL p.s = true then .ok (p.s, r) else .error 4

/-- How strong a word or a sign binds. -/
def lvlL (l : List UInt8) : Int :=
  if l = [124, 124] then 1
  else if l = [38, 38] then 2
  else if l = [60] ∨ l = [60, 61] ∨ l = [61, 61] ∨ l = [33, 61] ∨ l = [62] ∨ l = [62, 61] ∨ l = [105, 110] then 3
  else if l = [46, 46] then 4
  else if l = [43] ∨ l = [45] then 5
  else if l = [42] ∨ l = [47] ∨ l = [37] then 6 else 0
def levelR : List Pc → Int
  | [] => 0
  | p :: _ => if p.k = 3 then 0 else lvlL p.s
def asksL (l : List UInt8) : Int := if l = [108, 101, 110, 103, 116, 104] then 1 else if l = [105, 110, 100, 101, 120] then 2 else if l = [115, 117, 98, 115, 116, 114] then 3 else 0

def leafE (k n : Int) (s : List UInt8) (l : List Ex) : Ex := .mk k n (bs s) l

mutual
/-- A whole expression; o: what is open. -/
def wholeR : Nat → Int → List Pc → Rd Ex
  | 0, _, _ => .error 0
  | m + 1, o, ps =>
    if 40 < o + 1 then .error 1
    else match binR m 1 (o + 1) ps with
      | .error e => .error e
      | .ok (x, ps1) => if seesB [63] ps1 then
          match wholeR m (o + 1) ps1.tail with
          | .error e => .error e
          | .ok (y, ps2) => match needR [58] ps2 with
            | .error e => .error e
            | .ok (_, ps3) => match wholeR m (o + 1) ps3 with
              | .error e => .error e
              | .ok (z, ps4) => .ok (leafE 10 0 [] [x, y, z], ps4)
        else .ok (x, ps1)
/-- Operators that bind at least that strong. -/
def binR : Nat → Int → Int → List Pc → Rd Ex
  | 0, _, _, _ => .error 0
  | m + 1, d, o, ps =>
    if 6 < d then opR m o ps
    else match binR m (d + 1) o ps with
      | .error e => .error e
      | .ok (x, ps1) => binL m d o x ps1
/-- What follows an expression, as long as it binds just so. -/
def binL : Nat → Int → Int → Ex → List Pc → Rd Ex
  | 0, _, _, _, _ => .error 0
  | m + 1, d, o, x, ps =>
    if levelR ps = d then
      match ps with
      | [] => .ok (x, ps)
      | p :: r =>
        if p.s = [105, 110] then
          match nmR r with
          | .error e => .error e
          | .ok (t, r1) => binL m d o (leafE 9 0 t [x]) r1
        else match binR m (d + 1) o r with
          | .error e => .error e
          | .ok (y, r1) => binL m d o (leafE 6 0 p.s [x, y]) r1
    else .ok (x, ps)
/-- An operand. -/
def opR : Nat → Int → List Pc → Rd Ex
  | 0, _, _ => .error 0
  | m + 1, o, ps =>
    if seesB [45] ps then preR m 7 o ps.tail
    else if seesB [33] ps then preR m 8 o ps.tail
    else if seesB [36] ps then preR m 4 o ps.tail
    else match ps with
      | [] => .error 5
      | p :: r =>
        if p.k = 2 then .ok (leafE 1 p.n [] [], r)
        else if p.k = 3 then .ok (leafE 2 0 p.s [], r)
        else if p.k = 1 then wordR m o p.s r
        else if p.s = [40] then
          match wholeR m o r with
          | .error e => .error e
          | .ok (x, r1) => match needR [41] r1 with
            | .error e => .error e
            | .ok (_, r2) => .ok (x, r2)
        else .error 4
/-- A sign's expression. -/
def preR : Nat → Int → Int → List Pc → Rd Ex
  | 0, _, _, _ => .error 0
  | m + 1, k, o, ps => match sgnR m o ps with
    | .error e => .error e
    | .ok (x, r) => .ok (leafE k 0 [] [x], r)
/-- What a sign stands ahead of. -/
def sgnR : Nat → Int → List Pc → Rd Ex
  | 0, _, _ => .error 0
  | m + 1, o, ps => if 40 < o + 1 then .error 1 else opR m (o + 1) ps
/-- What begins with a word. -/
def wordR : Nat → Int → List UInt8 → List Pc → Rd Ex
  | 0, _, _, _ => .error 0
  | m + 1, o, s, ps =>
    if s = [78, 82] ∨ s = [78, 70] then .ok (leafE 12 0 s [], ps)
    else if 0 < asksL s then
      match needR [40] ps with
      | .error e => .error e
      | .ok (_, p1) => match wholesR m o p1 with
        | .error e => .error e
        | .ok (l, p2) => match needR [41] p2 with
          | .error e => .error e
          | .ok (_, p3) => .ok (leafE 11 0 s l, p3)
    else if nameL s = false then .error 4
    else if seesB [91] ps then
      match keyR m o ps with
      | .error e => .error e
      | .ok (x, p1) => .ok (leafE 5 0 s [x], p1)
    else .ok (leafE 3 0 s [], ps)
/-- A key within brackets. -/
def keyR : Nat → Int → List Pc → Rd Ex
  | 0, _, _ => .error 0
  | m + 1, o, ps => match needR [91] ps with
    | .error e => .error e
    | .ok (_, p1) => match wholeR m o p1 with
      | .error e => .error e
      | .ok (x, p2) => match needR [93] p2 with
        | .error e => .error e
        | .ok (_, p3) => .ok (x, p3)
/-- Expressions with commas between. -/
def wholesR : Nat → Int → List Pc → Rd (List Ex)
  | 0, _, _ => .error 0
  | m + 1, o, ps => match wholeR m o ps with
    | .error e => .error e
    | .ok (x, p1) => moreR m o [x] p1
def moreR : Nat → Int → List Ex → List Pc → Rd (List Ex)
  | 0, _, _, _ => .error 0
  | m + 1, o, l, ps => if seesB [44] ps then
      match wholeR m o ps.tail with
      | .error e => .error e
      | .ok (x, p1) => moreR m o (l ++ [x]) p1
    else .ok (l, ps)
end

/-- A question within parentheses; what is assigned. -/
def askedR (m : Nat) (o : Int) (ps : List Pc) : Rd Ex := match needR [40] ps with
  | .error e => .error e
  | .ok (_, p1) => match wholeR m o p1 with
    | .error e => .error e
    | .ok (x, p2) => match needR [41] p2 with
      | .error e => .error e
      | .ok (_, p3) => .ok (x, p3)
def setR (m : Nat) (o : Int) (ps : List Pc) : Rd Ex := match needR [61] ps with
  | .error e => .error e
  | .ok (_, p1) => wholeR m o p1
def leafS (k : Int) (s t : List UInt8) (es : List Ex) (b e : List Sm) : Sm := .mk k (bs s) (bs t) es b e
/-- A variable, or what stands in a list, is set. -/
def putR (m : Nat) (o : Int) (ps : List Pc) : Rd Sm := match nmR ps with
  | .error e => .error e
  | .ok (s, p1) => if seesB [91] p1 then
      match keyR m o p1 with
      | .error e => .error e
      | .ok (x, p2) => match setR m o p2 with
        | .error e => .error e
        | .ok (y, p3) => .ok (leafS 2 s [] [x, y] [] [], p3)
    else match setR m o p1 with
      | .error e => .error e
      | .ok (y, p3) => .ok (leafS 1 s [] [y] [] [], p3)
/-- A statement without a block. -/
def simpR (m : Nat) (o : Int) (ps : List Pc) : Rd Sm :=
  if seesB [112, 114, 105, 110, 116] ps then
    match wholesR m o ps.tail with
    | .error e => .error e
    | .ok (l, p1) => .ok (leafS 4 [] [] l [] [], p1)
  else if seesB [110, 101, 120, 116] ps then .ok (leafS 8 [] [] [] [] [], ps.tail)
  else if seesB [100, 101, 108, 101, 116, 101] ps then
    match nmR ps.tail with
    | .error e => .error e
    | .ok (s, p1) => match keyR m o p1 with
      | .error e => .error e
      | .ok (x, p2) => .ok (leafS 9 s [] [x] [] [], p2)
  else if seesB [108, 111, 97, 100] ps then
    match ps.tail with
    | [] => .error 5
    | f :: p1 => if f.k ≠ 3 then .error 4
      else match nmR p1 with
        | .error e => .error e
        | .ok (s, p2) => .ok (leafS 10 s f.s [] [] [], p2)
  else if seesB [36] ps then
    match sgnR m o ps.tail with
    | .error e => .error e
    | .ok (x, p1) => match setR m o p1 with
      | .error e => .error e
      | .ok (y, p2) => .ok (leafS 3 [] [] [x, y] [] [], p2)
  else putR m o ps

mutual
/-- Statements within braces. -/
def blockR : Nat → Int → List Pc → Rd (List Sm)
  | 0, _, _ => .error 0
  | m + 1, o, ps =>
    if 40 < o + 1 then .error 1
    else match needR [123] ps with
      | .error e => .error e
      | .ok (_, p1) => stmtsR m (o + 1) [] p1
def stmtsR : Nat → Int → List Sm → List Pc → Rd (List Sm)
  | 0, _, _, _ => .error 0
  | m + 1, o, l, ps =>
    if seesB [125] ps then .ok (l, ps.tail)
    else match stmtR m o ps with
      | .error e => .error e
      | .ok (x, p1) => stmtsR m o (l ++ [x]) p1
/-- A statement. -/
def stmtR : Nat → Int → List Pc → Rd Sm
  | 0, _, _ => .error 0
  | m + 1, o, ps =>
    if seesB [105, 102] ps then
      match askedR m o ps.tail with
      | .error e => .error e
      | .ok (x, p1) => match blockR m o p1 with
        | .error e => .error e
        | .ok (b, p2) => if seesB [101, 108, 115, 101] p2 then
            match blockR m o p2.tail with
            | .error e => .error e
            | .ok (c, p3) => .ok (leafS 5 [] [] [x] b c, p3)
          else .ok (leafS 5 [] [] [x] b [], p2)
    else if seesB [119, 104, 105, 108, 101] ps then
      match askedR m o ps.tail with
      | .error e => .error e
      | .ok (x, p1) => match blockR m o p1 with
        | .error e => .error e
        | .ok (b, p2) => .ok (leafS 6 [] [] [x] b [], p2)
    else if seesB [102, 111, 114] ps then
      match needR [40] ps.tail with
      | .error e => .error e
      | .ok (_, p1) => match nmR p1 with
        | .error e => .error e
        | .ok (s, p2) => match needR [105, 110] p2 with
          | .error e => .error e
          | .ok (_, p3) => match nmR p3 with
            | .error e => .error e
            | .ok (t, p4) => match needR [41] p4 with
              | .error e => .error e
              | .ok (_, p5) => match blockR m o p5 with
                | .error e => .error e
                | .ok (b, p6) => .ok (leafS 7 s t [] b [], p6)
    else match simpR m o ps with
      | .error e => .error e
      | .ok (x, p1) => match needR [59] p1 with
        | .error e => .error e
        | .ok (_, p2) => .ok (x, p2)
end

def ruleR (m : Nat) (o : Int) (ps : List Pc) : Rd Ru :=
  if seesB [66, 69, 71, 73, 78] ps then
    match blockR m o ps.tail with
    | .error e => .error e
    | .ok (b, p1) => .ok (⟨0, false, leafE 0 0 [] [], b⟩, p1)
  else if seesB [69, 78, 68] ps then
    match blockR m o ps.tail with
    | .error e => .error e
    | .ok (b, p1) => .ok (⟨2, false, leafE 0 0 [] [], b⟩, p1)
  else if seesB [123] ps then
    match blockR m o ps with
    | .error e => .error e
    | .ok (b, p1) => .ok (⟨1, false, leafE 0 0 [] [], b⟩, p1)
  else match wholeR m o ps with
    | .error e => .error e
    | .ok (x, p1) => match blockR m o p1 with
      | .error e => .error e
      | .ok (b, p2) => .ok (⟨1, true, x, b⟩, p2)

def rulesR (m : Nat) : Nat → List Ru → List Pc → Except Int (List Ru)
  | 0, _, _ => .error 0
  | j + 1, l, ps => match ps with
    | [] => .ok l
    | p :: r => match ruleR m 0 (p :: r) with
      | .error e => .error e
      | .ok (x, p1) => rulesR m j (l ++ [x]) p1

/-- A source. -/
def readR (s : List UInt8) : Except Int (List Ru) :=
  if 6000 < s.length then .error 1
  else match cutR (s.length + 1) s with
    | .error e => .error e
    | .ok ps => match rulesR (20 * ps.length + 40) (ps.length + 1) [] ps with
      | .error e => .error e
      | .ok l => if ckP (20 * ps.length + 40) l = 0 then .ok l else .error (ckP (20 * ps.length + 40) l)
end Go.Proofs.YtfbpkbochhfnhaaGreatDoor
