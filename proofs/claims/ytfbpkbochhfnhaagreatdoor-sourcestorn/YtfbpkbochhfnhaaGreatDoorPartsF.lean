/-
  exprHasItsParts of a Call whose function there is not.
-/
import Derived.Test.YtfbpkbochhfnhaaGreatDoorFind
import Derived.Deep.QuietTactic
import Derived.Handy
namespace Go.Proofs.YtfbpkbochhfnhaaGreatDoor
open Go.ChangeShapes Go.WideShapes Go.ChangeAt Go.RowKit Go.Joins
set_option linter.unusedVariables false

theorem asks_ge (s : ByteArray) : 0 ≤ asksN s := by unfold asksN; split <;> (try split) <;> (try split) <;> omega

set_option maxHeartbeats 2000000 in
theorem exprParts_f (s : ByteArray) (a : Option Addr) (len cap : Nat) (w : World) (hF : RowAt w 6 funcsA) (hz : asksN s = 0) :
    Calls Tryz.prog 97 #[.agg #[.int .i64 11, .int .i64 0, .string s, .slice a len cap]] w fun e w' => e = .returned (.bool (partsE 11 0 s len)) ∧ Below w.heap.size w w' := by
  have HP : Hid (partsE 11 0 s len = false) := by simp [Hid, partsE, hz]
  have HZ : Hid (asksN s = 0) := hz
  have HF : Hid (RowAt w 6 funcsA) := hF
  clear hz hF
  go_enter Tryz.func97, Tryz.ntmps97
  go_wp2_with fail
  refine wp_region_quiet (C := fun w' => Below w.heap.size w w' ∧ w'.cell? ⟨w.heap.size, 2, none⟩ = some (.string s)) (by kernel_rfl) (by kernel_rfl) ?_ ?_
  · refine ⟨(show Below w.heap.size w (World.drew _) from ((Below.refl _ _).alloc (Nat.le_refl _) _).drew), ?_⟩
    exact (RowAt.new w _ _).cell 2
  rw [List.toList_toArray]
  repeat (quiet_step (first
    | (exact fun _ _ => rfl)
    | (intro hb hc; refine (argsOf_c s _ (HF.out.below hb)).mono ?_; rintro e w2 ⟨rfl, hb2⟩; rw [asks_is, HZ.out]; exact ⟨rfl, hb.trans (hb2.mono hb.size), (hb2.cell (p := ⟨w.heap.size, 2, none⟩) (World.block_lt_of_cell? _ ⟨w.heap.size, 2, none⟩ hc)).trans hc⟩)
    | (intro hb hc; go_simp; rfl)))
  refine wpQuiet_nil ?_
  rintro w' ⟨hb, _⟩
  have HB : Hid (Below w.heap.size w w') := hb
  clear hb
  go_wp2
  go_ret
  exact ⟨ret_bool HP.out.symm, HB.out⟩
end Go.Proofs.YtfbpkbochhfnhaaGreatDoor
