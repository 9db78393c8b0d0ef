/- For every world and number the program's RaisePower answers as the specification's does, writes into nothing that it is handed, and its answer is memory of its own: the law FnExactRaisePower returns true at every input, and changes nothing that was there. No condition. -/
import Derived.Test.YtdgbnongbmgdcaaGreatLRaisePowerc
namespace Go.Proofs.YtdgbnongbmgdcaaGreat
open Go.ChangeShapes Go.WideShapes Go.ChangeAt Go.RowKit F256
set_option maxHeartbeats 8000000 in
theorem fnExactRaisePower_closed : joinedFacts Tryz.pinned.checked.prog 15 Tryz.f15 Rows.fnExactRaisePowerSpec Rows.fnExactRaisePowerRow = true := by
  unfold joinedFacts
  simp only [Bool.and_eq_true]
  repeat' apply And.intro
  all_goals (as_aux_lemma => kernel_rfl)
set_option maxHeartbeats 8000000 in
theorem fnExactRaisePower_named : Tryz.pinned.checked.prog.funcNamed Rows.fnExactRaisePowerRow.func = some 15 := by kernel_rfl
set_option maxHeartbeats 8000000 in
theorem fnExactRaisePower_proved : Rows.FnExactRaisePowerSaid :=
  OpenClaim.holds_of_wide 15 Tryz.f15 rfl rfl rfl rfl rfl rfl rfl ⟨rfl, rfl, rfl, rfl, rfl⟩ rfl rfl rfl rfl rfl fnExactRaisePower_named Tryz.func15 fnExactRaisePower_closed
    (of_decide_eq_true (by as_aux_lemma => kernel_rfl)) (by unfold Func.isWrapper; first | (rw [if_pos (by decide +kernel)]; kernel_rfl) | (rw [if_neg (by decide +kernel)]; exact ⟨rfl, rfl⟩))
    (fun os started H enc _ => fnExactRaisePower_lifted os started H enc)
#print axioms fnExactRaisePower_proved
end Go.Proofs.YtdgbnongbmgdcaaGreat
