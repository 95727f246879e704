/-
  What is run of an operation, by its kind: for regions walked once.
-/
import Derived.Test.YtgijbdhbecnkbaaGreatDoorLoose
import Derived.WalkKit
import Derived.ProofKit
namespace Go.Proofs.YtgijbdhbecnkbaaGreatDoor
set_option linter.unusedVariables false
set_option linter.unusedSimpArgs false
theorem oy_val {P : Program} {o : Oper} {a : Act} {w w' : World} {N : Value -> World -> Prop} {v : Value} (h : (execOp a.eval o).run P w = .ok (.value v) w') (hn : N v w') : Oyields P o a w N := by
 unfold Oyields
 rw [h]
 exact hn
theorem oy_v {P : Program} {s : Sem Value} {w w' : World} {v : Value} (h : s.run P w = .ok v w') : (do pure (Next.value (<- s)) : Sem Next).run P w = .ok (.value v) w' := by
 simp [go_sem, h]
theorem oy_u {P : Program} {s : Sem Unit} {w w' : World} (h : s.run P w = .ok () w') : (do s; pure Next.skip : Sem Next).run P w = .ok .skip w' := by
 simp [go_sem, h]
theorem oy_call {P : Program} {o : Oper} {a : Act} {w : World} {c : Call} {x : Operand} {f : FuncId} {caps : Array Value} (hop : o.op = .call c) (hc : c.callee = .value x) (hx : a.eval x = .func (.func f) #[] caps) (he : ∀ (args : Array Value) (w : World), (callFunc f args).run P w = .ok (.enter f args) w) :
 (execOp a.eval o).run P w = .ok (.enter f ((c.args.toList.map a.eval).toArray ++ caps)) w := by
 have e : (c.args.toList.map a.eval).toArray = c.args.map a.eval := by apply Array.ext'; simp
 rw [e]
 have h1 : resolve a.eval c o.type = pure { target := .fn (.func f) caps, args := #[] ++ c.args.map a.eval } := by
  unfold resolve
  rw [hc]
  show Deferred.ofValue (a.eval x) _ = _
  rw [hx]
  rfl
 have h2 : execOp a.eval o = (do let d <- resolve a.eval c o.type; invoke d.target d.args) := by
  unfold execOp
  rw [hop]
 rw [h2, h1]
 have h3 : (do let d <- (pure { target := .fn (.func f) caps, args := #[] ++ c.args.map a.eval } : Sem Deferred); invoke d.target d.args) = callFunc f (c.args.map a.eval ++ caps) := by
  rw [pure_bind]
  show callFunc f ((#[] ++ c.args.map a.eval) ++ caps) = _
  rw [Array.empty_append]
 rw [h3]
 exact he _ _
theorem oy_ent {P : Program} {o : Oper} {a : Act} {w w' : World} {N : Value -> World -> Prop} {f : FuncId} {args : Array Value} (h : (execOp a.eval o).run P w = .ok (.enter f args) w') (hn : Calls P f args w' fun e w'' => ∃ v, e = .returned v /\ N v w'') : Oyields P o a w N := by
 unfold Oyields
 rw [h]
 exact hn
section
variable {P : Program} {ρ : Operand -> Value} {o : Oper} {w : World}
theorem ex_move {x : Operand} (e : o.op = .move x) : (execOp ρ o).run P w = .ok (.value (ρ x)) w := by simp [execOp, e, go_sem]
theorem ex_assign {x : Operand} (e : o.op = .assign x) : (execOp ρ o).run P w = .ok (.value (ρ x)) w := by simp [execOp, e, go_sem]
theorem ex_pick {c x y : Operand} (e : o.op = .pick c x y) {q : Bool} (h : ρ c = .bool q) : (execOp ρ o).run P w = .ok (.value (if q then ρ x else ρ y)) w := by simp [execOp, e, h, go_sem]
theorem ex_box {t : Nat} {x : Operand} (e : o.op = .box t x) {u : Value} {w' : World} (h : (Instr.box t (ρ x)).run P w = .ok u w') : (execOp ρ o).run P w = .ok (.value u) w' := by
 have := oy_v h; simpa [execOp, e] using this
theorem ex_load {t : Nat} {x : Operand} (e : o.op = .load t x) {u : Value} (h : (Instr.loadAt t (ρ x)).run P w = .ok u w) : (execOp ρ o).run P w = .ok (.value u) w := by
 have := oy_v h; simpa [execOp, e] using this
theorem ex_field {t k : Nat} {x : Operand} (e : o.op = .fieldAddr t x k) {u : Value} (h : (Instr.fieldAt t (ρ x) k).run P w = .ok u w) : (execOp ρ o).run P w = .ok (.value u) w := by
 have := oy_v h; simpa [execOp, e] using this
theorem ex_index {t : Nat} {x i : Operand} (e : o.op = .indexAddr t x i) {u : Value} (h : (Instr.indexAt t (ρ x) (ρ i)).run P w = .ok u w) : (execOp ρ o).run P w = .ok (.value u) w := by
 have := oy_v h; simpa [execOp, e] using this
theorem ex_func {f : FuncId} {cs : Array Operand} (e : o.op = .makeFunc (.func f) #[] cs) : (execOp ρ o).run P w = .ok (.value (.func (.func f) #[] (cs.map ρ))) w := by
 have h : (Instr.makeFunc (.func f) #[] (cs.map ρ)).run P w = .ok (.func (.func f) #[] (cs.map ρ)) w := rfl
 have := oy_v h
 simpa [execOp, e] using this
theorem ex_nil {x : Operand} (e : o.op = .nilCheck x) {p : Addr} (h : ρ x = .pointer (some p)) : (execOp ρ o).run P w = .ok (.value (.pointer (some p))) w := by simp [execOp, e, h, go_sem]
theorem ex_store {t : Nat} {x y : Operand} (e : o.op = .store t x y) {w' : World} (h : (Instr.storeAt t (ρ x) (ρ y)).run P w = .ok () w') : (execOp ρ o).run P w = .ok .skip w' := by
 have := oy_u h; simpa [execOp, e] using this
theorem ex_bin {op : BinOp} {t q : Nat} {x y : Operand} (e : o.op = .binOp op t x y q) {u : Value} (hg : (eqGuard op t x y (ρ x) (ρ y)).run P w = .ok () w) (h : (binOp op t (ρ x) (ρ y)).run P w = .ok u w) : (execOp ρ o).run P w = .ok (.value u) w := by
 have h2 : (do eqGuard op t x y (ρ x) (ρ y); binOp op t (ρ x) (ρ y) : Sem Value).run P w = .ok u w := by simp [go_sem, hg, h]
 have := oy_v h2; simpa [execOp, e] using this
theorem ex_alloc {t : Nat} (e : o.op = .alloc t) {u : Value} {w' : World} (h : (Instr.alloc t true (.tuple #[])).run P w = .ok u w') : (execOp ρ o).run P w = .ok (.value u) w' := by
 have := oy_v h; simpa [execOp, e] using this
theorem ex_extract {x : Operand} {i : Nat} (e : o.op = .extract x i) {u : Value} (h : (Instr.extract (ρ x) i).run P w = .ok u w) : (execOp ρ o).run P w = .ok (.value u) w := by
 have := oy_v h; simpa [execOp, e] using this
theorem ex_funcs {f : Fn} {fs cs : Array Operand} (e : o.op = .makeFunc f fs cs) : (execOp ρ o).run P w = .ok (.value (.func f (fs.map ρ) (cs.map ρ))) w := by
 have h : (Instr.makeFunc f (fs.map ρ) (cs.map ρ)).run P w = .ok (.func f (fs.map ρ) (cs.map ρ)) w := rfl
 have := oy_v h
 simpa [execOp, e] using this
theorem ex_bld {t : Nat} {ps : Array (Nat × Operand)} (e : o.op = .build t ps) {u : Value} (h : (Instr.build t (ps.map fun p => (p.1, ρ p.2))).run P w = .ok u w) : (execOp ρ o).run P w = .ok (.value u) w := by
 have := oy_v h; simpa [execOp, e] using this
theorem ex_build {t n : Nat} {ps : Array (Nat × Operand)} (e : o.op = .buildSlice t n ps) {u : Value} {w' : World} (h : (Instr.buildSlice t n (ps.map fun p => (p.1, ρ p.2))).run P w = .ok u w') : (execOp ρ o).run P w = .ok (.value u) w' := by
 have := oy_v h; simpa [execOp, e] using this
end
section
variable {P : Program} {ρ : Operand -> Value} {o : Oper} {w : World}
theorem xmove {x : Operand} {v : Value} (e : o.op = .move x) (hx : ρ x = v) : (execOp ρ o).run P w = .ok (.value v) w := by rw [<- hx]; exact ex_move e
theorem xassign {x : Operand} {v : Value} (e : o.op = .assign x) (hx : ρ x = v) : (execOp ρ o).run P w = .ok (.value v) w := by rw [<- hx]; exact ex_assign e
theorem xload {t : Nat} {x : Operand} {v u : Value} (e : o.op = .load t x) (hx : ρ x = v) (h : (Instr.loadAt t v).run P w = .ok u w) : (execOp ρ o).run P w = .ok (.value u) w := ex_load e (by rw [hx]; exact h)
theorem xfield {t k : Nat} {x : Operand} {v u : Value} (e : o.op = .fieldAddr t x k) (hx : ρ x = v) (h : (Instr.fieldAt t v k).run P w = .ok u w) : (execOp ρ o).run P w = .ok (.value u) w := ex_field e (by rw [hx]; exact h)
theorem xstore {t : Nat} {x y : Operand} {v u : Value} {w' : World} (e : o.op = .store t x y) (hx : ρ x = v) (hy : ρ y = u) (h : (Instr.storeAt t v u).run P w = .ok () w') : (execOp ρ o).run P w = .ok .skip w' := ex_store e (by rw [hx, hy]; exact h)
theorem xextract {x : Operand} {i : Nat} {v u : Value} (e : o.op = .extract x i) (hx : ρ x = v) (h : (Instr.extract v i).run P w = .ok u w) : (execOp ρ o).run P w = .ok (.value u) w := ex_extract e (by rw [hx]; exact h)
theorem xbld {t : Nat} {ps : Array (Nat × Operand)} {qs : Array (Nat × Value)} {u : Value} (e : o.op = .build t ps) (hq : (ps.map fun p => (p.1, ρ p.2)) = qs) (h : (Instr.build t qs).run P w = .ok u w) : (execOp ρ o).run P w = .ok (.value u) w := ex_bld e (by rw [hq]; exact h)
theorem oy_skip {a : Act} {w' : World} {N : Value -> World -> Prop} (h : (execOp a.eval o).run P w = .ok .skip w') (hn : N undef w') : Oyields P o a w N := by
 unfold Oyields
 rw [h]
 exact hn
theorem xcall {a : Act} {N : Value -> World -> Prop} {c : Call} {x : Operand} {f : FuncId} {fs caps args : Array Value} (e : o.op = .call c) (hc : c.callee = .value x) (hx : a.eval x = .func (.func f) #[] caps) (ha : (c.args.toList.map a.eval).toArray ++ caps = args) (he : ∀ (args : Array Value) (w : World), (callFunc f args).run P w = .ok (.enter f args) w) (h : Calls P f args w fun e w'' => ∃ v, e = .returned v /\ N v w'') : Oyields P o a w N :=
 oy_ent (by have := oy_call (P := P) (w := w) e hc hx he; rw [ha] at this; exact this) h
end
end Go.Proofs.YtgijbdhbecnkbaaGreatDoor
