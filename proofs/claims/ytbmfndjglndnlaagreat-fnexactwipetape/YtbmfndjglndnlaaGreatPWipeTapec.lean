/- For every world and number the program's WipeTape answers as the specification's does, writes into nothing that it is handed, and its answer is memory of its own: the law FnExactWipeTape returns true at every input, and changes nothing that was there. No condition. -/
import Derived.Test.YtbmfndjglndnlaaGreatLWipeTapec
namespace Go.Proofs.YtbmfndjglndnlaaGreat
open Go.ChangeShapes Go.WideShapes Go.ChangeAt Go.RowKit F256
set_option maxHeartbeats 8000000 in
theorem fnExactWipeTape_closed : joinedFacts Tryz.pinned.checked.prog 7 Tryz.f7 Rows.fnExactWipeTapeSpec Rows.fnExactWipeTapeRow = true := by
  unfold joinedFacts
  simp only [Bool.and_eq_true]
  repeat' apply And.intro
  all_goals (as_aux_lemma => kernel_rfl)
set_option maxHeartbeats 8000000 in
theorem fnExactWipeTape_named : Tryz.pinned.checked.prog.funcNamed Rows.fnExactWipeTapeRow.func = some 7 := by kernel_rfl
set_option maxHeartbeats 8000000 in
theorem fnExactWipeTape_proved : Rows.FnExactWipeTapeSaid :=
  OpenClaim.holds_of_wide 7 Tryz.f7 rfl rfl rfl rfl rfl rfl rfl ⟨rfl, rfl, rfl, rfl, rfl⟩ rfl rfl rfl rfl rfl fnExactWipeTape_named Tryz.func7 fnExactWipeTape_closed
    (of_decide_eq_true (by as_aux_lemma => kernel_rfl)) (by unfold Func.isWrapper; first | (rw [if_pos (by decide +kernel)]; kernel_rfl) | (rw [if_neg (by decide +kernel)]; exact ⟨rfl, rfl⟩))
    (fun os started H enc _ => fnExactWipeTape_lifted os started H enc)
#print axioms fnExactWipeTape_proved
end Go.Proofs.YtbmfndjglndnlaaGreat
