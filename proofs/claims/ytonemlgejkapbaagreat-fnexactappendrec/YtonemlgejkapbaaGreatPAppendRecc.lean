/- For every world, number and record the program's AppendRec answers as the specification's does, writes into nothing that it is handed, and its answer is memory of its own: the law FnExactAppendRec returns true at every input, and changes nothing that was there. No condition. -/
import Derived.Test.YtonemlgejkapbaaGreatZPappenal
set_option linter.unusedVariables false
set_option linter.unusedSimpArgs false
set_option maxHeartbeats 16000000
namespace Go.Proofs.YtonemlgejkapbaaGreat
open Go.ChangeShapes Go.WideShapes Go.ChangeAt Go.RowKit F256
theorem zco:joinedFacts Tryz.pinned.checked.prog 4 Tryz.f4 Rows.fnExactAppendRecSpec Rows.fnExactAppendRecRow=true:=by
 unfold joinedFacts
 simp only [Bool.and_eq_true]
 repeat' apply And.intro
 all_goals (as_aux_lemma=>kernel_rfl)
theorem zcv:Tryz.pinned.checked.prog.funcNamed Rows.fnExactAppendRecRow.func=some 4:=by kernel_rfl
theorem fnExactAppendRec_proved:Rows.FnExactAppendRecSaid:=
 OpenClaim.holds_of_wide 4 Tryz.f4 rfl rfl rfl rfl rfl rfl rfl ⟨rfl,rfl,rfl,rfl,rfl⟩ rfl rfl rfl rfl rfl zcv Tryz.func4 zco
  (of_decide_eq_true (by as_aux_lemma=>kernel_rfl)) (by unfold Func.isWrapper;first | (rw [if_pos (by decide +kernel)];kernel_rfl) | (rw [if_neg (by decide +kernel)];exact ⟨rfl,rfl⟩))
  (fun os started H enc _=>zcn os started H enc)
#print axioms fnExactAppendRec_proved
end Go.Proofs.YtonemlgejkapbaaGreat
