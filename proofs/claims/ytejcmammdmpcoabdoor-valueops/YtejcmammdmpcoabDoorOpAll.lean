/-
  Contracts of value.Op and of the answer OpOf of the document, at every operator and two values that may be: both answer the same (P1.3, P1.4).
-/
import Derived.Test.YtejcmammdmpcoabDoorOpOfJoin
namespace Go.Proofs.YtejcmammdmpcoabDoor
open Go.ChangeShapes Go.WideShapes Go.ChangeAt Go.RowKit Go.Joins

/-- P1.3, P1.4: what an operator makes of two values. -/
def opSpec (op : ByteArray) (t1 : Bool) (n1 : Int) (s1 : ByteArray) (t2 : Bool) (n2 : Int) (s2 : ByteArray) : R4 :=
  if op.toList = [60] ∨ op.toList = [60, 61] ∨ op.toList = [61, 61] ∨ op.toList = [33, 61] ∨ op.toList = [62] ∨ op.toList = [62, 61] then
    rN (b2i (askL op.data.toList (decide (ordV t1 n1 s1 t2 n2 s2 < 0)) (decide (ordV t1 n1 s1 t2 n2 s2 = 0))))
  else if op.toList = [46, 46] then joinR (strOf t1 n1 s1) (strOf t2 n2 s2)
  else if (-1099511627776 ≤ numOf t1 n1 s1 ∧ numOf t1 n1 s1 ≤ 1099511627776) ∧ (-1099511627776 ≤ numOf t2 n2 s2 ∧ numOf t2 n2 s2 ≤ 1099511627776) then reck op.toList (numOf t1 n1 s1) (numOf t2 n2 s2)
  else rEnd 3

theorem askOp_of {op : ByteArray} (h : op.toList = [60] ∨ op.toList = [60, 61] ∨ op.toList = [61, 61] ∨ op.toList = [33, 61] ∨ op.toList = [62] ∨ op.toList = [62, 61]) : AskOp op := by
  rcases h with h | h | h | h | h | h
  · exact .inl (op_of h)
  · exact .inr (.inl (op_of h))
  · exact .inr (.inr (.inl (op_of h)))
  · exact .inr (.inr (.inr (.inl (op_of h))))
  · exact .inr (.inr (.inr (.inr (.inl (op_of h)))))
  · exact .inr (.inr (.inr (.inr (.inr (op_of h)))))

theorem bf {l m : List UInt8} (h : ¬ l = m) : (l == m) = false := by simp [h]

theorem op_c (op : ByteArray) (t1 : Bool) (n1 : Int) (s1 : ByteArray) (t2 : Bool) (n2 : Int) (s2 : ByteArray) (w : World) (z1 : s1.size ≤ 200) (z2 : s2.size ≤ 200) (h1 : -1099511627776 ≤ n1) (h2 : n1 ≤ 1099511627776) (h3 : -1099511627776 ≤ n2) (h4 : n2 ≤ 1099511627776) (hp : Pow w) :
    Calls Tryd.prog 10 #[.string op, .agg #[.bool t1, .int .i64 n1, .string s1], .agg #[.bool t2, .int .i64 n2, .string s2]] w fun e w' => e = .returned (vt (opSpec op t1 n1 s1 t2 n2 s2)) ∧ Below w.heap.size w w' := by
  unfold opSpec
  split
  · exact op_ask_c op (askOp_of ‹_›) t1 n1 s1 t2 n2 s2 w h1 h2 h3 h4 hp
  · rename_i ha
    have a1 : ¬ op.toList = [60] := fun h => ha (.inl h)
    have a2 : ¬ op.toList = [60, 61] := fun h => ha (.inr (.inl h))
    have a3 : ¬ op.toList = [61, 61] := fun h => ha (.inr (.inr (.inl h)))
    have a4 : ¬ op.toList = [33, 61] := fun h => ha (.inr (.inr (.inr (.inl h))))
    have a5 : ¬ op.toList = [62] := fun h => ha (.inr (.inr (.inr (.inr (.inl h)))))
    have a6 : ¬ op.toList = [62, 61] := fun h => ha (.inr (.inr (.inr (.inr (.inr h)))))
    split
    · rename_i hj
      rw [op_of hj]
      exact op_join_c t1 n1 s1 t2 n2 s2 w z1 z2 h1 h2 h3 h4 hp
    · rename_i hj
      split
      · rename_i hk
        exact op_good op t1 n1 s1 t2 n2 s2 w z1 z2 (bf a1) (bf a2) (bf a3) (bf a4) (bf a5) (bf a6) (bf hj) hk.1 hk.2
      · rename_i hk
        by_cases k1 : okN t1 n1 s1
        · exact op_bad2 op t1 n1 s1 t2 n2 s2 w z1 z2 (bf a1) (bf a2) (bf a3) (bf a4) (bf a5) (bf a6) (bf hj) k1 (okN_not fun k2 => hk ⟨k1, k2⟩)
        · exact op_bad1 op t1 n1 s1 t2 n2 s2 w z1 z2 (bf a1) (bf a2) (bf a3) (bf a4) (bf a5) (bf a6) (bf hj) (okN_not k1)

theorem opOf_c (op : ByteArray) (t1 : Bool) (n1 : Int) (s1 : ByteArray) (t2 : Bool) (n2 : Int) (s2 : ByteArray) (w : World) (z1 : s1.size ≤ 200) (z2 : s2.size ≤ 200) (h1 : -1099511627776 ≤ n1) (h2 : n1 ≤ 1099511627776) (h3 : -1099511627776 ≤ n2) (h4 : n2 ≤ 1099511627776) :
    Calls Tryd.prog 11 #[.string op, .agg #[.bool t1, .int .i64 n1, .string s1], .agg #[.bool t2, .int .i64 n2, .string s2]] w fun e w' => e = .returned (vt (opSpec op t1 n1 s1 t2 n2 s2)) ∧ Below w.heap.size w w' := by
  unfold opSpec
  split
  · exact opOf_ask_c op (askOp_of ‹_›) t1 n1 s1 t2 n2 s2 w h1 h2 h3 h4
  · rename_i ha
    have a1 : ¬ op.toList = [60] := fun h => ha (.inl h)
    have a2 : ¬ op.toList = [60, 61] := fun h => ha (.inr (.inl h))
    have a3 : ¬ op.toList = [61, 61] := fun h => ha (.inr (.inr (.inl h)))
    have a4 : ¬ op.toList = [33, 61] := fun h => ha (.inr (.inr (.inr (.inl h))))
    have a5 : ¬ op.toList = [62] := fun h => ha (.inr (.inr (.inr (.inr (.inl h)))))
    have a6 : ¬ op.toList = [62, 61] := fun h => ha (.inr (.inr (.inr (.inr (.inr h)))))
    split
    · rename_i hj
      rw [op_of hj]
      exact opOf_join_c t1 n1 s1 t2 n2 s2 w z1 z2 h1 h2 h3 h4
    · rename_i hj
      split
      · rename_i hk
        obtain ⟨⟨x1, x2⟩, ⟨y1, y2⟩⟩ := hk
        unfold reck
        split
        · rename_i hb; rw [op_of hb]; exact opOf_add t1 n1 s1 t2 n2 s2 w z1 z2 h1 h2 h3 h4 _ _ rfl rfl x1 x2 y1 y2
        · split
          · rename_i hb; rw [op_of hb]; exact opOf_sub t1 n1 s1 t2 n2 s2 w z1 z2 h1 h2 h3 h4 _ _ rfl rfl x1 x2 y1 y2
          · split
            · rename_i hb; rw [op_of hb]; exact opOf_mul t1 n1 s1 t2 n2 s2 w z1 z2 h1 h2 h3 h4 _ _ rfl rfl x1 x2 y1 y2
            · rename_i b1 b2 b3
              split
              · rename_i hz
                exact opOf_zero op t1 n1 s1 t2 n2 s2 w z1 z2 h1 h2 h3 h4 (bf a1) (bf a2) (bf a3) (bf a4) (bf a5) (bf a6) (bf hj) (bf b1) (bf b2) (bf b3) _ rfl hz x1 x2
              · rename_i hz
                split
                · rename_i hb
                  have e := tdiv_bd (numOf t1 n1 s1) (numOf t2 n2 s2) x1 x2
                  rw [op_of hb, ← bnd_ok e.1 e.2]; exact opOf_div t1 n1 s1 t2 n2 s2 w z1 z2 h1 h2 h3 h4 _ _ rfl rfl x1 x2 y1 y2 (by simp [hz]) hz
                · rename_i b4
                  have e := tmod_bd (numOf t1 n1 s1) (numOf t2 n2 s2) x1 x2
                  rw [← bnd_ok e.1 e.2, ← tmod_eq]
                  exact opOf_rem op t1 n1 s1 t2 n2 s2 w z1 z2 h1 h2 h3 h4 (bf a1) (bf a2) (bf a3) (bf a4) (bf a5) (bf a6) (bf hj) (bf b1) (bf b2) (bf b3) (bf b4) _ _ rfl rfl x1 x2 y1 y2 (by simp [hz]) hz
      · rename_i hk
        by_cases k1 : okN t1 n1 s1
        · exact opOf_bad2 op t1 n1 s1 t2 n2 s2 w z1 z2 h1 h2 h3 h4 (bf a1) (bf a2) (bf a3) (bf a4) (bf a5) (bf a6) (bf hj) k1 (okN_not fun k2 => hk ⟨k1, k2⟩)
        · exact opOf_bad1 op t1 n1 s1 t2 n2 s2 w z1 z2 h1 h2 h3 h4 (bf a1) (bf a2) (bf a3) (bf a4) (bf a5) (bf a6) (bf hj) (okN_not k1)
end Go.Proofs.YtejcmammdmpcoabDoor
