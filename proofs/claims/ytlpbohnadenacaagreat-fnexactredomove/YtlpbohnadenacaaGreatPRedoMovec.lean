/- For every world, group and move the program's RedoMove answers as the specification's does, writes into nothing that it is handed, and its answer is memory of its own: the law FnExactRedoMove returns true at every input, and changes nothing that was there. No condition. -/
import Derived.Test.YtlpbohnadenacaaGreatZPredomaq
set_option linter.unusedVariables false
set_option linter.unusedSimpArgs false
set_option maxHeartbeats 16000000
namespace Go.Proofs.YtlpbohnadenacaaGreat
open Go.ChangeShapes Go.WideShapes Go.ChangeAt Go.RowKit F256
theorem zc8:joinedFacts Tryz.pinned.checked.prog 3 Tryz.f3 Rows.fnExactRedoMoveSpec Rows.fnExactRedoMoveRow=true:=by
 unfold joinedFacts
 simp only [Bool.and_eq_true]
 repeat' apply And.intro
 all_goals (as_aux_lemma=>kernel_rfl)
theorem zds:Tryz.pinned.checked.prog.funcNamed Rows.fnExactRedoMoveRow.func=some 3:=by kernel_rfl
theorem fnExactRedoMove_proved:Rows.FnExactRedoMoveSaid:=
 OpenClaim.holds_of_wide 3 Tryz.f3 rfl rfl rfl rfl rfl rfl rfl ⟨rfl,rfl,rfl,rfl,rfl⟩ rfl rfl rfl rfl rfl zds Tryz.func3 zc8
  (of_decide_eq_true (by as_aux_lemma=>kernel_rfl)) (by unfold Func.isWrapper;first | (rw [if_pos (by decide +kernel)];kernel_rfl) | (rw [if_neg (by decide +kernel)];exact ⟨rfl,rfl⟩))
  (fun os started H enc _=>zc7 os started H enc)
#print axioms fnExactRedoMove_proved
end Go.Proofs.YtlpbohnadenacaaGreat
