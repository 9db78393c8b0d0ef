/- For every world, kind and number the program's StrikeBoth answers as the specification's does, writes into nothing that it is handed, and its answer is memory of its own: the law FnExactStrikeBoth returns true at every input, and changes nothing that was there. No condition. -/
import Derived.Test.YtaccmgakckpofaaGreatZPstrikam
set_option linter.unusedVariables false
set_option linter.unusedSimpArgs false
set_option maxHeartbeats 16000000
namespace Go.Proofs.YtaccmgakckpofaaGreat
open Go.ChangeShapes Go.WideShapes Go.ChangeAt Go.RowKit F256
theorem zch:joinedFacts Tryz.pinned.checked.prog 4 Tryz.f4 Rows.fnExactStrikeBothSpec Rows.fnExactStrikeBothRow=true:=by
 unfold joinedFacts
 simp only [Bool.and_eq_true]
 repeat' apply And.intro
 all_goals (as_aux_lemma=>kernel_rfl)
theorem zcq:Tryz.pinned.checked.prog.funcNamed Rows.fnExactStrikeBothRow.func=some 4:=by kernel_rfl
theorem fnExactStrikeBoth_proved:Rows.FnExactStrikeBothSaid:=
 OpenClaim.holds_of_wide 4 Tryz.f4 rfl rfl rfl rfl rfl rfl rfl ⟨rfl,rfl,rfl,rfl,rfl⟩ rfl rfl rfl rfl rfl zcq Tryz.func4 zch
  (of_decide_eq_true (by as_aux_lemma=>kernel_rfl)) (by unfold Func.isWrapper;first | (rw [if_pos (by decide +kernel)];kernel_rfl) | (rw [if_neg (by decide +kernel)];exact ⟨rfl,rfl⟩))
  (fun os started H enc _=>zcg os started H enc)
#print axioms fnExactStrikeBoth_proved
end Go.Proofs.YtaccmgakckpofaaGreat
