/- For every world and both numbers the program's WipeDrive answers as the specification's does, writes into nothing that it is handed, and its answer is memory of its own: the law FnExactWipeDrive returns true at every input, and changes nothing that was there. No condition. -/
import Derived.Test.YtbmfndjglndnlaaGreatZwO
namespace Go.Proofs.YtbmfndjglndnlaaGreat
open Go.ChangeShapes Go.WideShapes Go.ChangeAt Go.RowKit F256
set_option maxHeartbeats 8000000 in
theorem fnExactWipeDrive_closed : joinedFacts Tryz.pinned.checked.prog 6 Tryz.f6 Rows.fnExactWipeDriveSpec Rows.fnExactWipeDriveRow = true := by
  unfold joinedFacts
  simp only [Bool.and_eq_true]
  repeat' apply And.intro
  all_goals (as_aux_lemma => kernel_rfl)
set_option maxHeartbeats 8000000 in
theorem fnExactWipeDrive_named : Tryz.pinned.checked.prog.funcNamed Rows.fnExactWipeDriveRow.func = some 6 := by kernel_rfl
set_option maxHeartbeats 8000000 in
theorem fnExactWipeDrive_proved : Rows.FnExactWipeDriveSaid :=
  OpenClaim.holds_of_wide 6 Tryz.f6 rfl rfl rfl rfl rfl rfl rfl ⟨rfl, rfl, rfl, rfl, rfl⟩ rfl rfl rfl rfl rfl fnExactWipeDrive_named Tryz.func6 fnExactWipeDrive_closed
    (of_decide_eq_true (by as_aux_lemma => kernel_rfl)) (by unfold Func.isWrapper; first | (rw [if_pos (by decide +kernel)]; kernel_rfl) | (rw [if_neg (by decide +kernel)]; exact ⟨rfl, rfl⟩))
    (fun os started H enc _ => fnExactWipeDrive_lifted os started H enc)
#print axioms fnExactWipeDrive_proved
end Go.Proofs.YtbmfndjglndnlaaGreat
