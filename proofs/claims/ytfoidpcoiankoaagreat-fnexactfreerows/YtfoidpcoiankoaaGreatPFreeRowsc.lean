/- For every world and every number of a group the program's FreeRows answers as the specification's does, writes into nothing that it is handed, and its answer is memory of its own: the law FnExactFreeRows returns true at every input, and changes nothing that was there. No condition. -/
import Derived.Test.YtfoidpcoiankoaaGreatZPfreeraj
namespace Go.Proofs.YtfoidpcoiankoaaGreat
open Go.ChangeShapes Go.WideShapes Go.ChangeAt Go.RowKit F256
set_option maxHeartbeats 8000000 in
theorem fnExactFreeRows_closed : joinedFacts Tryz.pinned.checked.prog 4 Tryz.f4 Rows.fnExactFreeRowsSpec Rows.fnExactFreeRowsRow = true := by
  unfold joinedFacts
  simp only [Bool.and_eq_true]
  repeat' apply And.intro
  all_goals (as_aux_lemma => kernel_rfl)
set_option maxHeartbeats 8000000 in
theorem fnExactFreeRows_named : Tryz.pinned.checked.prog.funcNamed Rows.fnExactFreeRowsRow.func = some 4 := by kernel_rfl
set_option maxHeartbeats 8000000 in
theorem fnExactFreeRows_proved : Rows.FnExactFreeRowsSaid :=
  OpenClaim.holds_of_wide 4 Tryz.f4 rfl rfl rfl rfl rfl rfl rfl ⟨rfl, rfl, rfl, rfl, rfl⟩ rfl rfl rfl rfl rfl fnExactFreeRows_named Tryz.func4 fnExactFreeRows_closed
    (of_decide_eq_true (by as_aux_lemma => kernel_rfl)) (by unfold Func.isWrapper; first | (rw [if_pos (by decide +kernel)]; kernel_rfl) | (rw [if_neg (by decide +kernel)]; exact ⟨rfl, rfl⟩))
    (fun os started H enc _ => fnExactFreeRows_lifted os started H enc)
#print axioms fnExactFreeRows_proved
end Go.Proofs.YtfoidpcoiankoaaGreat
