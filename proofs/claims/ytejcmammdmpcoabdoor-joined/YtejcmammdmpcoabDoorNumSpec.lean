/-
  Plain functions on bytes and numbers: what a text begins with, as a number (P1.2).
-/
import Derived.Lib.Strings
import Derived.Lib.TrimByte
namespace Go.Proofs.YtejcmammdmpcoabDoor

/-- The digits of a text, taken in as long as the amount is not too great. -/
def acc : Int → List UInt8 → Int
  | n, [] => n
  | n, c :: r => if (48 ≤ (c.toNat : Int) ∧ (c.toNat : Int) ≤ 57) ∧ n ≤ 1099511627776 then acc (n * 10 + ((c.toNat : Int) - 48)) r else n

theorem acc_nil (n : Int) : acc n [] = n := rfl
theorem acc_step {n : Int} {c : UInt8} {r : List UInt8} (h1 : 48 ≤ (c.toNat : Int)) (h2 : (c.toNat : Int) ≤ 57) (h3 : n ≤ 1099511627776) : acc n (c :: r) = acc (n * 10 + ((c.toNat : Int) - 48)) r := by
  rw [acc, if_pos ⟨⟨h1, h2⟩, h3⟩]
theorem acc_stop {n : Int} {c : UInt8} {r : List UInt8} (h : (c.toNat : Int) < 48 ∨ 57 < (c.toNat : Int) ∨ 1099511627776 < n) : acc n (c :: r) = n := by
  rw [acc, if_neg (by omega)]
theorem acc_big {n : Int} (r : List UInt8) (h : 1099511627776 < n) : acc n r = n := by
  cases r with
  | nil => rfl
  | cons c r => exact acc_stop (.inr (.inr h))

theorem acc_bd (r : List UInt8) : ∀ n : Int, 0 ≤ n → n ≤ 10995116277769 → 0 ≤ acc n r ∧ acc n r ≤ 10995116277769 := by
  induction r with
  | nil => intro n h0 h1; exact ⟨h0, h1⟩
  | cons c r ih =>
    intro n h0 h1
    rw [acc]
    split
    · exact ih _ (by omega) (by omega)
    · exact ⟨h0, h1⟩

theorem drop_cons (s : ByteArray) (k : Nat) (h : k < s.size) : s.data.toList.drop k = s[k] :: s.data.toList.drop (k + 1) := by
  rw [List.drop_eq_getElem_cons (by simpa using h)]; rfl
theorem drop_all (s : ByteArray) (k : Nat) (h : ¬ k < s.size) : s.data.toList.drop k = [] := List.drop_eq_nil_of_le (by simp; omega)

/-- What a text begins with, behind blanks. -/
def lead (l : List UInt8) : Int :=
  if Lib.hasPrefix (Lib.trimLeftB l 32) [45] then -acc 0 (Lib.trimPrefix (Lib.trimLeftB l 32) [45]) else acc 0 (Lib.trimPrefix (Lib.trimLeftB l 32) [45])

theorem trimmed_len (l : List UInt8) (c : UInt8) (p : List UInt8) : (Lib.trimPrefix (Lib.trimLeftB l c) p).length ≤ l.length := by
  have h1 : (Lib.trimLeftB l c).length ≤ l.length := by unfold Lib.trimLeftB; exact (List.dropWhile_suffix _).length_le
  unfold Lib.trimPrefix
  split
  · rw [List.length_drop]; omega
  · exact h1

theorem lead_bd (l : List UInt8) : -10995116277769 ≤ lead l ∧ lead l ≤ 10995116277769 := by
  unfold lead
  have h := acc_bd (Lib.trimPrefix (Lib.trimLeftB l 32) [45]) 0 (by omega) (by omega)
  split <;> omega

end Go.Proofs.YtejcmammdmpcoabDoor
