/- For every world and number the program's SwitchOff answers as the specification's does, writes into nothing that it is handed, and its answer is memory of its own: the law FnExactSwitchOff returns true at every input, and changes nothing that was there. No condition. -/
import Derived.Test.YtbmfndjglndnlaaGreatZwP
namespace Go.Proofs.YtbmfndjglndnlaaGreat
open Go.ChangeShapes Go.WideShapes Go.ChangeAt Go.RowKit F256
set_option maxHeartbeats 8000000 in
theorem fnExactSwitchOff_closed : joinedFacts Tryz.pinned.checked.prog 4 Tryz.f4 Rows.fnExactSwitchOffSpec Rows.fnExactSwitchOffRow = true := by
  unfold joinedFacts
  simp only [Bool.and_eq_true]
  repeat' apply And.intro
  all_goals (as_aux_lemma => kernel_rfl)
set_option maxHeartbeats 8000000 in
theorem fnExactSwitchOff_named : Tryz.pinned.checked.prog.funcNamed Rows.fnExactSwitchOffRow.func = some 4 := by kernel_rfl
set_option maxHeartbeats 8000000 in
theorem fnExactSwitchOff_proved : Rows.FnExactSwitchOffSaid :=
  OpenClaim.holds_of_wide 4 Tryz.f4 rfl rfl rfl rfl rfl rfl rfl ⟨rfl, rfl, rfl, rfl, rfl⟩ rfl rfl rfl rfl rfl fnExactSwitchOff_named Tryz.func4 fnExactSwitchOff_closed
    (of_decide_eq_true (by as_aux_lemma => kernel_rfl)) (by unfold Func.isWrapper; first | (rw [if_pos (by decide +kernel)]; kernel_rfl) | (rw [if_neg (by decide +kernel)]; exact ⟨rfl, rfl⟩))
    (fun os started H enc _ => fnExactSwitchOff_lifted os started H enc)
#print axioms fnExactSwitchOff_proved
end Go.Proofs.YtbmfndjglndnlaaGreat
