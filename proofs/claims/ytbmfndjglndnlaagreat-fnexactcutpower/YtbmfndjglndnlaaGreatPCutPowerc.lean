/- For every world the program's CutPower answers as the specification's does, writes into nothing that it is handed, and its answer is memory of its own: the law FnExactCutPower returns true at every input, and changes nothing that was there. No condition. -/
import Derived.Test.YtbmfndjglndnlaaGreatLCutPowerc
namespace Go.Proofs.YtbmfndjglndnlaaGreat
open Go.ChangeShapes Go.WideShapes Go.ChangeAt Go.RowKit F256
set_option maxHeartbeats 8000000 in
theorem fnExactCutPower_closed : joinedFacts Tryz.pinned.checked.prog 8 Tryz.f8 Rows.fnExactCutPowerSpec Rows.fnExactCutPowerRow = true := by
  unfold joinedFacts
  simp only [Bool.and_eq_true]
  repeat' apply And.intro
  all_goals (as_aux_lemma => kernel_rfl)
set_option maxHeartbeats 8000000 in
theorem fnExactCutPower_named : Tryz.pinned.checked.prog.funcNamed Rows.fnExactCutPowerRow.func = some 8 := by kernel_rfl
set_option maxHeartbeats 8000000 in
theorem fnExactCutPower_proved : Rows.FnExactCutPowerSaid :=
  OpenClaim.holds_of_wide 8 Tryz.f8 rfl rfl rfl rfl rfl rfl rfl ⟨rfl, rfl, rfl, rfl, rfl⟩ rfl rfl rfl rfl rfl fnExactCutPower_named Tryz.func8 fnExactCutPower_closed
    (of_decide_eq_true (by as_aux_lemma => kernel_rfl)) (by unfold Func.isWrapper; first | (rw [if_pos (by decide +kernel)]; kernel_rfl) | (rw [if_neg (by decide +kernel)]; exact ⟨rfl, rfl⟩))
    (fun os started H enc _ => fnExactCutPower_lifted os started H enc)
#print axioms fnExactCutPower_proved
end Go.Proofs.YtbmfndjglndnlaaGreat
