/- For every world the program's WaitingBytes answers as the specification's does and writes into nothing that it is handed: the law FnExactWaitingBytes returns true at every input, and changes nothing that was there. No condition. -/
import Derived.Test.YtecofihpkcljcaaGreatZPwaitian
set_option linter.unusedVariables false
set_option linter.unusedSimpArgs false
set_option maxHeartbeats 16000000
namespace Go.Proofs.YtecofihpkcljcaaGreat
open Go.ChangeShapes Go.WideShapes Go.ChangeAt Go.RowKit F256
theorem zbU:joinedFacts Tryz.pinned.checked.prog 3 Tryz.f3 Rows.fnExactWaitingBytesSpec Rows.fnExactWaitingBytesRow=true:=by
 unfold joinedFacts
 simp only [Bool.and_eq_true]
 repeat' apply And.intro
 all_goals (as_aux_lemma=>kernel_rfl)
theorem zbY:Tryz.pinned.checked.prog.funcNamed Rows.fnExactWaitingBytesRow.func=some 3:=by kernel_rfl
theorem fnExactWaitingBytes_proved:Rows.FnExactWaitingBytesSaid:=
 OpenClaim.holds_of_wide 3 Tryz.f3 rfl rfl rfl rfl rfl rfl rfl ⟨rfl,rfl,rfl,rfl,rfl⟩ rfl rfl rfl rfl rfl zbY Tryz.func3 zbU
  (of_decide_eq_true (by as_aux_lemma=>kernel_rfl)) (by unfold Func.isWrapper;first | (rw [if_pos (by decide +kernel)];kernel_rfl) | (rw [if_neg (by decide +kernel)];exact ⟨rfl,rfl⟩))
  (fun os started H enc _=>zbT os started H enc)
#print axioms fnExactWaitingBytes_proved
end Go.Proofs.YtecofihpkcljcaaGreat
