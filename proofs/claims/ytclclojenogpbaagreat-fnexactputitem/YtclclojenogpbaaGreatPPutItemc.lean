/- For every world, every name and all bytes the program's PutItem answers as the specification's does, writes into nothing that it is handed, keeps nothing of it, and its answer is memory of its own: the law FnExactPutItem returns true at every input, and changes nothing that was there. No condition. -/
import Derived.Test.YtclclojenogpbaaGreatZPputitax
set_option linter.unusedVariables false
set_option linter.unusedSimpArgs false
set_option maxHeartbeats 16000000
namespace Go.Proofs.YtclclojenogpbaaGreat
open Go.ChangeShapes Go.WideShapes Go.ChangeAt Go.RowKit F256
theorem zdI:joinedFacts Tryz.pinned.checked.prog 5 Tryz.f5 Rows.fnExactPutItemSpec Rows.fnExactPutItemRow=true:=by
 unfold joinedFacts
 simp only [Bool.and_eq_true]
 repeat' apply And.intro
 all_goals (as_aux_lemma=>kernel_rfl)
theorem zdR:Tryz.pinned.checked.prog.funcNamed Rows.fnExactPutItemRow.func=some 5:=by kernel_rfl
theorem fnExactPutItem_proved:Rows.FnExactPutItemSaid:=
 OpenClaim.holds_of_wide 5 Tryz.f5 rfl rfl rfl rfl rfl rfl rfl ⟨rfl,rfl,rfl,rfl,rfl⟩ rfl rfl rfl rfl rfl zdR Tryz.func5 zdI
  (of_decide_eq_true (by as_aux_lemma=>kernel_rfl)) (by unfold Func.isWrapper;first | (rw [if_pos (by decide +kernel)];kernel_rfl) | (rw [if_neg (by decide +kernel)];exact ⟨rfl,rfl⟩))
  (fun os started H enc _=>zdH os started H enc)
#print axioms fnExactPutItem_proved
end Go.Proofs.YtclclojenogpbaaGreat
