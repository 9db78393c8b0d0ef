/- For every world and both numbers the program's TrustDrive answers as the specification's does, writes into nothing that it is handed, and its answer is memory of its own: the law FnExactTrustDrive returns true at every input, and changes nothing that was there. No condition. -/
import Derived.Test.YtdhnekgfhpanfaaGreatZPtrustak
set_option linter.unusedVariables false
set_option linter.unusedSimpArgs false
set_option maxHeartbeats 16000000
namespace Go.Proofs.YtdhnekgfhpanfaaGreat
open Go.ChangeShapes Go.WideShapes Go.ChangeAt Go.RowKit F256
theorem zb2:joinedFacts Tryz.pinned.checked.prog 4 Tryz.f4 Rows.fnExactTrustDriveSpec Rows.fnExactTrustDriveRow=true:=by
 unfold joinedFacts
 simp only [Bool.and_eq_true]
 repeat' apply And.intro
 all_goals (as_aux_lemma=>kernel_rfl)
theorem zcg:Tryz.pinned.checked.prog.funcNamed Rows.fnExactTrustDriveRow.func=some 4:=by kernel_rfl
theorem fnExactTrustDrive_proved:Rows.FnExactTrustDriveSaid:=
 OpenClaim.holds_of_wide 4 Tryz.f4 rfl rfl rfl rfl rfl rfl rfl ⟨rfl,rfl,rfl,rfl,rfl⟩ rfl rfl rfl rfl rfl zcg Tryz.func4 zb2
  (of_decide_eq_true (by as_aux_lemma=>kernel_rfl)) (by unfold Func.isWrapper;first | (rw [if_pos (by decide +kernel)];kernel_rfl) | (rw [if_neg (by decide +kernel)];exact ⟨rfl,rfl⟩))
  (fun os started H enc _=>zb1 os started H enc)
#print axioms fnExactTrustDrive_proved
end Go.Proofs.YtdhnekgfhpanfaaGreat
