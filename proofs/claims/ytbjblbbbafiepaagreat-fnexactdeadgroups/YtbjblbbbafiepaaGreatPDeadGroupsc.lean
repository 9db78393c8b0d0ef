/- For every world the program's DeadGroups answers as the specification's does, writes into nothing that it is handed, and its answer is memory of its own: the law FnExactDeadGroups returns true at every input, and changes nothing that was there. No condition. -/
import Derived.Test.YtbjblbbbafiepaaGreatZPdeadgag
namespace Go.Proofs.YtbjblbbbafiepaaGreat
open Go.ChangeShapes Go.WideShapes Go.ChangeAt Go.RowKit F256
set_option maxHeartbeats 8000000 in
theorem fnExactDeadGroups_closed : joinedFacts Tryz.pinned.checked.prog 3 Tryz.f3 Rows.fnExactDeadGroupsSpec Rows.fnExactDeadGroupsRow = true := by
  unfold joinedFacts
  simp only [Bool.and_eq_true]
  repeat' apply And.intro
  all_goals (as_aux_lemma => kernel_rfl)
set_option maxHeartbeats 8000000 in
theorem fnExactDeadGroups_named : Tryz.pinned.checked.prog.funcNamed Rows.fnExactDeadGroupsRow.func = some 3 := by kernel_rfl
set_option maxHeartbeats 8000000 in
theorem fnExactDeadGroups_proved : Rows.FnExactDeadGroupsSaid :=
  OpenClaim.holds_of_wide 3 Tryz.f3 rfl rfl rfl rfl rfl rfl rfl ⟨rfl, rfl, rfl, rfl, rfl⟩ rfl rfl rfl rfl rfl fnExactDeadGroups_named Tryz.func3 fnExactDeadGroups_closed
    (of_decide_eq_true (by as_aux_lemma => kernel_rfl)) (by unfold Func.isWrapper; first | (rw [if_pos (by decide +kernel)]; kernel_rfl) | (rw [if_neg (by decide +kernel)]; exact ⟨rfl, rfl⟩))
    (fun os started H enc _ => fnExactDeadGroups_lifted os started H enc)
#print axioms fnExactDeadGroups_proved
end Go.Proofs.YtbjblbbbafiepaaGreat
