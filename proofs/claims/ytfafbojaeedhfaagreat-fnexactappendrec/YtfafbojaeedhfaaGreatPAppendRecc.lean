/- For every world, number and record the program's AppendRec answers as the specification's does, writes into nothing that it is handed, and its answer is memory of its own: the law FnExactAppendRec returns true at every input, and changes nothing that was there. No condition. -/
import Derived.Test.YtfafbojaeedhfaaGreatZfL
namespace Go.Proofs.YtfafbojaeedhfaaGreat
open Go.ChangeShapes Go.WideShapes Go.ChangeAt Go.RowKit F256
set_option maxHeartbeats 8000000 in
theorem fnExactAppendRec_closed : joinedFacts Tryz.pinned.checked.prog 10 Tryz.f10 Rows.fnExactAppendRecSpec Rows.fnExactAppendRecRow = true := by
  unfold joinedFacts
  simp only [Bool.and_eq_true]
  repeat' apply And.intro
  all_goals (as_aux_lemma => kernel_rfl)
set_option maxHeartbeats 8000000 in
theorem fnExactAppendRec_named : Tryz.pinned.checked.prog.funcNamed Rows.fnExactAppendRecRow.func = some 10 := by kernel_rfl
set_option maxHeartbeats 8000000 in
theorem fnExactAppendRec_proved : Rows.FnExactAppendRecSaid :=
  OpenClaim.holds_of_wide 10 Tryz.f10 rfl rfl rfl rfl rfl rfl rfl ⟨rfl, rfl, rfl, rfl, rfl⟩ rfl rfl rfl rfl rfl fnExactAppendRec_named Tryz.func10 fnExactAppendRec_closed
    (of_decide_eq_true (by as_aux_lemma => kernel_rfl)) (by unfold Func.isWrapper; first | (rw [if_pos (by decide +kernel)]; kernel_rfl) | (rw [if_neg (by decide +kernel)]; exact ⟨rfl, rfl⟩))
    (fun os started H enc _ => fnExactAppendRec_lifted os started H enc)
#print axioms fnExactAppendRec_proved
end Go.Proofs.YtfafbojaeedhfaaGreat
