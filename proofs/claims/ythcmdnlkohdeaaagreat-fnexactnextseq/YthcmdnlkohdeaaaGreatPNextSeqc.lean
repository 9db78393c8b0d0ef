/- For every world the program's NextSeq answers as the specification's does and writes into nothing that it is handed: the law FnExactNextSeq returns true at every input, and changes nothing that was there. No condition. -/
import Derived.Test.YthcmdnlkohdeaaaGreatZPnextsak
set_option linter.unusedVariables false
set_option linter.unusedSimpArgs false
set_option maxHeartbeats 16000000
namespace Go.Proofs.YthcmdnlkohdeaaaGreat
open Go.ChangeShapes Go.WideShapes Go.ChangeAt Go.RowKit F256
theorem zcc:joinedFacts Tryz.pinned.checked.prog 4 Tryz.f4 Rows.fnExactNextSeqSpec Rows.fnExactNextSeqRow=true:=by
 unfold joinedFacts
 simp only [Bool.and_eq_true]
 repeat' apply And.intro
 all_goals (as_aux_lemma=>kernel_rfl)
theorem zck:Tryz.pinned.checked.prog.funcNamed Rows.fnExactNextSeqRow.func=some 4:=by kernel_rfl
theorem fnExactNextSeq_proved:Rows.FnExactNextSeqSaid:=
 OpenClaim.holds_of_wide 4 Tryz.f4 rfl rfl rfl rfl rfl rfl rfl ⟨rfl,rfl,rfl,rfl,rfl⟩ rfl rfl rfl rfl rfl zck Tryz.func4 zcc
  (of_decide_eq_true (by as_aux_lemma=>kernel_rfl)) (by unfold Func.isWrapper;first | (rw [if_pos (by decide +kernel)];kernel_rfl) | (rw [if_neg (by decide +kernel)];exact ⟨rfl,rfl⟩))
  (fun os started H enc _=>zcb os started H enc)
#print axioms fnExactNextSeq_proved
end Go.Proofs.YthcmdnlkohdeaaaGreat
