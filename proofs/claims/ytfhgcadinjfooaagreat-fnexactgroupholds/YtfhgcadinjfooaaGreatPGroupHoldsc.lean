/- For every world and every number of a group the program's GroupHolds answers as the specification's does and writes into nothing that it is handed: the law FnExactGroupHolds returns true at every input, and changes nothing that was there. No condition. -/
import Derived.Test.YtfhgcadinjfooaaGreatZPgroupak
set_option linter.unusedVariables false
set_option linter.unusedSimpArgs false
set_option maxHeartbeats 16000000
namespace Go.Proofs.YtfhgcadinjfooaaGreat
open Go.ChangeShapes Go.WideShapes Go.ChangeAt Go.RowKit F256
theorem zb8:joinedFacts Tryz.pinned.checked.prog 3 Tryz.f3 Rows.fnExactGroupHoldsSpec Rows.fnExactGroupHoldsRow=true:=by
 unfold joinedFacts
 simp only [Bool.and_eq_true]
 repeat' apply And.intro
 all_goals (as_aux_lemma=>kernel_rfl)
theorem zci:Tryz.pinned.checked.prog.funcNamed Rows.fnExactGroupHoldsRow.func=some 3:=by kernel_rfl
theorem fnExactGroupHolds_proved:Rows.FnExactGroupHoldsSaid:=
 OpenClaim.holds_of_wide 3 Tryz.f3 rfl rfl rfl rfl rfl rfl rfl ⟨rfl,rfl,rfl,rfl,rfl⟩ rfl rfl rfl rfl rfl zci Tryz.func3 zb8
  (of_decide_eq_true (by as_aux_lemma=>kernel_rfl)) (by unfold Func.isWrapper;first | (rw [if_pos (by decide +kernel)];kernel_rfl) | (rw [if_neg (by decide +kernel)];exact ⟨rfl,rfl⟩))
  (fun os started H enc _=>zb7 os started H enc)
#print axioms fnExactGroupHolds_proved
end Go.Proofs.YtfhgcadinjfooaaGreat
