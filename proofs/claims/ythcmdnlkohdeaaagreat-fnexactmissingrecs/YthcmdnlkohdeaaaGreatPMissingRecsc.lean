/- For every world and every number of a tape the program's MissingRecs answers as the specification's does, writes into nothing that it is handed, and its answer is memory of its own: the law FnExactMissingRecs returns true at every input, and changes nothing that was there. No condition. -/
import Derived.Test.YthcmdnlkohdeaaaGreatZPmissian
set_option linter.unusedVariables false
set_option linter.unusedSimpArgs false
set_option maxHeartbeats 16000000
namespace Go.Proofs.YthcmdnlkohdeaaaGreat
open Go.ChangeShapes Go.WideShapes Go.ChangeAt Go.RowKit F256
theorem zcl:joinedFacts Tryz.pinned.checked.prog 5 Tryz.f5 Rows.fnExactMissingRecsSpec Rows.fnExactMissingRecsRow=true:=by
 unfold joinedFacts
 simp only [Bool.and_eq_true]
 repeat' apply And.intro
 all_goals (as_aux_lemma=>kernel_rfl)
theorem zcq:Tryz.pinned.checked.prog.funcNamed Rows.fnExactMissingRecsRow.func=some 5:=by kernel_rfl
theorem fnExactMissingRecs_proved:Rows.FnExactMissingRecsSaid:=
 OpenClaim.holds_of_wide 5 Tryz.f5 rfl rfl rfl rfl rfl rfl rfl ⟨rfl,rfl,rfl,rfl,rfl⟩ rfl rfl rfl rfl rfl zcq Tryz.func5 zcl
  (of_decide_eq_true (by as_aux_lemma=>kernel_rfl)) (by unfold Func.isWrapper;first | (rw [if_pos (by decide +kernel)];kernel_rfl) | (rw [if_neg (by decide +kernel)];exact ⟨rfl,rfl⟩))
  (fun os started H enc _=>zck os started H enc)
#print axioms fnExactMissingRecs_proved
end Go.Proofs.YthcmdnlkohdeaaaGreat
