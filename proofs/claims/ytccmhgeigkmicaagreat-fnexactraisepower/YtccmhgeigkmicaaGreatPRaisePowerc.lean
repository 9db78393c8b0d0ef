/- For every world and number the program's RaisePower answers as the specification's does, writes into nothing that it is handed, and its answer is memory of its own: the law FnExactRaisePower returns true at every input, and changes nothing that was there. No condition. -/
import Derived.Test.YtccmhgeigkmicaaGreatZPraiseaj
set_option linter.unusedVariables false
set_option linter.unusedSimpArgs false
set_option maxHeartbeats 16000000
namespace Go.Proofs.YtccmhgeigkmicaaGreat
open Go.ChangeShapes Go.WideShapes Go.ChangeAt Go.RowKit F256
theorem zbW:joinedFacts Tryz.pinned.checked.prog 3 Tryz.f3 Rows.fnExactRaisePowerSpec Rows.fnExactRaisePowerRow=true:=by
 unfold joinedFacts
 simp only [Bool.and_eq_true]
 repeat' apply And.intro
 all_goals (as_aux_lemma=>kernel_rfl)
theorem zb5:Tryz.pinned.checked.prog.funcNamed Rows.fnExactRaisePowerRow.func=some 3:=by kernel_rfl
theorem fnExactRaisePower_proved:Rows.FnExactRaisePowerSaid:=
 OpenClaim.holds_of_wide 3 Tryz.f3 rfl rfl rfl rfl rfl rfl rfl ⟨rfl,rfl,rfl,rfl,rfl⟩ rfl rfl rfl rfl rfl zb5 Tryz.func3 zbW
  (of_decide_eq_true (by as_aux_lemma=>kernel_rfl)) (by unfold Func.isWrapper;first | (rw [if_pos (by decide +kernel)];kernel_rfl) | (rw [if_neg (by decide +kernel)];exact ⟨rfl,rfl⟩))
  (fun os started H enc _=>zbV os started H enc)
#print axioms fnExactRaisePower_proved
end Go.Proofs.YtccmhgeigkmicaaGreat
