/- For every world and every number of a group the program's WipedOf answers as the specification's does, writes into nothing that it is handed, and its answer is memory of its own: the law FnExactWipedOf returns true at every input, and changes nothing that was there. No condition. -/
import Derived.Test.YtkmglpaaeogapaaGreatZPwipedai
set_option linter.unusedVariables false
set_option linter.unusedSimpArgs false
set_option maxHeartbeats 16000000
namespace Go.Proofs.YtkmglpaaeogapaaGreat
open Go.ChangeShapes Go.WideShapes Go.ChangeAt Go.RowKit F256
theorem zb8:joinedFacts Tryz.pinned.checked.prog 3 Tryz.f3 Rows.fnExactWipedOfSpec Rows.fnExactWipedOfRow=true:=by
 unfold joinedFacts
 simp only [Bool.and_eq_true]
 repeat' apply And.intro
 all_goals (as_aux_lemma=>kernel_rfl)
theorem zch:Tryz.pinned.checked.prog.funcNamed Rows.fnExactWipedOfRow.func=some 3:=by kernel_rfl
theorem fnExactWipedOf_proved:Rows.FnExactWipedOfSaid:=
 OpenClaim.holds_of_wide 3 Tryz.f3 rfl rfl rfl rfl rfl rfl rfl ⟨rfl,rfl,rfl,rfl,rfl⟩ rfl rfl rfl rfl rfl zch Tryz.func3 zb8
  (of_decide_eq_true (by as_aux_lemma=>kernel_rfl)) (by unfold Func.isWrapper;first | (rw [if_pos (by decide +kernel)];kernel_rfl) | (rw [if_neg (by decide +kernel)];exact ⟨rfl,rfl⟩))
  (fun os started H enc _=>zb7 os started H enc)
#print axioms fnExactWipedOf_proved
end Go.Proofs.YtkmglpaaeogapaaGreat
