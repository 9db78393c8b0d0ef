/- For every world the program's WaitingBytes answers as the specification's does and writes into nothing that it is handed: the law FnExactWaitingBytes returns true at every input, and changes nothing that was there. No condition. -/
import Derived.Test.YtfoidpcoiankoaaGreatZPwaitiai
namespace Go.Proofs.YtfoidpcoiankoaaGreat
open Go.ChangeShapes Go.WideShapes Go.ChangeAt Go.RowKit F256
set_option maxHeartbeats 8000000 in
theorem fnExactWaitingBytes_closed : joinedFacts Tryz.pinned.checked.prog 3 Tryz.f3 Rows.fnExactWaitingBytesSpec Rows.fnExactWaitingBytesRow = true := by
  unfold joinedFacts
  simp only [Bool.and_eq_true]
  repeat' apply And.intro
  all_goals (as_aux_lemma => kernel_rfl)
set_option maxHeartbeats 8000000 in
theorem fnExactWaitingBytes_named : Tryz.pinned.checked.prog.funcNamed Rows.fnExactWaitingBytesRow.func = some 3 := by kernel_rfl
set_option maxHeartbeats 8000000 in
theorem fnExactWaitingBytes_proved : Rows.FnExactWaitingBytesSaid :=
  OpenClaim.holds_of_wide 3 Tryz.f3 rfl rfl rfl rfl rfl rfl rfl ⟨rfl, rfl, rfl, rfl, rfl⟩ rfl rfl rfl rfl rfl fnExactWaitingBytes_named Tryz.func3 fnExactWaitingBytes_closed
    (of_decide_eq_true (by as_aux_lemma => kernel_rfl)) (by unfold Func.isWrapper; first | (rw [if_pos (by decide +kernel)]; kernel_rfl) | (rw [if_neg (by decide +kernel)]; exact ⟨rfl, rfl⟩))
    (fun os started H enc _ => fnExactWaitingBytes_lifted os started H enc)
#print axioms fnExactWaitingBytes_proved
end Go.Proofs.YtfoidpcoiankoaaGreat
