/- For every world the program's SpentRecs answers as the specification's does, writes into nothing that it is handed, and its answer is memory of its own: the law FnExactSpentRecs returns true at every input, and changes nothing that was there. No condition. -/
import Derived.Test.YtajibninhikdgaaGreatZPspentap
set_option linter.unusedVariables false
set_option linter.unusedSimpArgs false
set_option maxHeartbeats 16000000
namespace Go.Proofs.YtajibninhikdgaaGreat
open Go.ChangeShapes Go.WideShapes Go.ChangeAt Go.RowKit F256
theorem zcM:joinedFacts Tryz.pinned.checked.prog 3 Tryz.f3 Rows.fnExactSpentRecsSpec Rows.fnExactSpentRecsRow=true:=by
 unfold joinedFacts
 simp only [Bool.and_eq_true]
 repeat' apply And.intro
 all_goals (as_aux_lemma=>kernel_rfl)
theorem zcS:Tryz.pinned.checked.prog.funcNamed Rows.fnExactSpentRecsRow.func=some 3:=by kernel_rfl
theorem fnExactSpentRecs_proved:Rows.FnExactSpentRecsSaid:=
 OpenClaim.holds_of_wide 3 Tryz.f3 rfl rfl rfl rfl rfl rfl rfl ⟨rfl,rfl,rfl,rfl,rfl⟩ rfl rfl rfl rfl rfl zcS Tryz.func3 zcM
  (of_decide_eq_true (by as_aux_lemma=>kernel_rfl)) (by unfold Func.isWrapper;first | (rw [if_pos (by decide +kernel)];kernel_rfl) | (rw [if_neg (by decide +kernel)];exact ⟨rfl,rfl⟩))
  (fun os started H enc _=>zcL os started H enc)
#print axioms fnExactSpentRecs_proved
end Go.Proofs.YtajibninhikdgaaGreat
