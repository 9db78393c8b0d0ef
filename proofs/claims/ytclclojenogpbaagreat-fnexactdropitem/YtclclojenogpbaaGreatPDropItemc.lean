/- For every world and every name the program's DropItem answers as the specification's does, writes into nothing that it is handed, and its answer is memory of its own: the law FnExactDropItem returns true at every input, and changes nothing that was there. No condition. -/
import Derived.Test.YtclclojenogpbaaGreatZPdropiav
set_option linter.unusedVariables false
set_option linter.unusedSimpArgs false
set_option maxHeartbeats 16000000
namespace Go.Proofs.YtclclojenogpbaaGreat
open Go.ChangeShapes Go.WideShapes Go.ChangeAt Go.RowKit F256
theorem zdb:joinedFacts Tryz.pinned.checked.prog 4 Tryz.f4 Rows.fnExactDropItemSpec Rows.fnExactDropItemRow=true:=by
 unfold joinedFacts
 simp only [Bool.and_eq_true]
 repeat' apply And.intro
 all_goals (as_aux_lemma=>kernel_rfl)
theorem zdx:Tryz.pinned.checked.prog.funcNamed Rows.fnExactDropItemRow.func=some 4:=by kernel_rfl
theorem fnExactDropItem_proved:Rows.FnExactDropItemSaid:=
 OpenClaim.holds_of_wide 4 Tryz.f4 rfl rfl rfl rfl rfl rfl rfl ⟨rfl,rfl,rfl,rfl,rfl⟩ rfl rfl rfl rfl rfl zdx Tryz.func4 zdb
  (of_decide_eq_true (by as_aux_lemma=>kernel_rfl)) (by unfold Func.isWrapper;first | (rw [if_pos (by decide +kernel)];kernel_rfl) | (rw [if_neg (by decide +kernel)];exact ⟨rfl,rfl⟩))
  (fun os started H enc _=>zda os started H enc)
#print axioms fnExactDropItem_proved
end Go.Proofs.YtclclojenogpbaaGreat
