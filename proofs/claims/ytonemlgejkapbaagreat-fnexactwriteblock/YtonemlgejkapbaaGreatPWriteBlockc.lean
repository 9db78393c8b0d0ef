/- For every world, all three numbers and block the program's WriteBlock answers as the specification's does, writes into nothing that it is handed, and its answer is memory of its own: the law FnExactWriteBlock returns true at every input, and changes nothing that was there. No condition. -/
import Derived.Test.YtonemlgejkapbaaGreatZPwriteak
set_option linter.unusedVariables false
set_option linter.unusedSimpArgs false
set_option maxHeartbeats 16000000
namespace Go.Proofs.YtonemlgejkapbaaGreat
open Go.ChangeShapes Go.WideShapes Go.ChangeAt Go.RowKit F256
theorem zcf:joinedFacts Tryz.pinned.checked.prog 3 Tryz.f3 Rows.fnExactWriteBlockSpec Rows.fnExactWriteBlockRow=true:=by
 unfold joinedFacts
 simp only [Bool.and_eq_true]
 repeat' apply And.intro
 all_goals (as_aux_lemma=>kernel_rfl)
theorem zcq:Tryz.pinned.checked.prog.funcNamed Rows.fnExactWriteBlockRow.func=some 3:=by kernel_rfl
theorem fnExactWriteBlock_proved:Rows.FnExactWriteBlockSaid:=
 OpenClaim.holds_of_wide 3 Tryz.f3 rfl rfl rfl rfl rfl rfl rfl ⟨rfl,rfl,rfl,rfl,rfl⟩ rfl rfl rfl rfl rfl zcq Tryz.func3 zcf
  (of_decide_eq_true (by as_aux_lemma=>kernel_rfl)) (by unfold Func.isWrapper;first | (rw [if_pos (by decide +kernel)];kernel_rfl) | (rw [if_neg (by decide +kernel)];exact ⟨rfl,rfl⟩))
  (fun os started H enc _=>zce os started H enc)
#print axioms fnExactWriteBlock_proved
end Go.Proofs.YtonemlgejkapbaaGreat
