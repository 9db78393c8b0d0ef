/- For every world and both numbers the program's TrustDrive answers as the specification's does, writes into nothing that it is handed, and its answer is memory of its own: the law FnExactTrustDrive returns true at every input, and changes nothing that was there. No condition. -/
import Derived.Test.YtdgbnongbmgdcaaGreatZxR
namespace Go.Proofs.YtdgbnongbmgdcaaGreat
open Go.ChangeShapes Go.WideShapes Go.ChangeAt Go.RowKit F256
set_option maxHeartbeats 8000000 in
theorem fnExactTrustDrive_closed : joinedFacts Tryz.pinned.checked.prog 9 Tryz.f9 Rows.fnExactTrustDriveSpec Rows.fnExactTrustDriveRow = true := by
  unfold joinedFacts
  simp only [Bool.and_eq_true]
  repeat' apply And.intro
  all_goals (as_aux_lemma => kernel_rfl)
set_option maxHeartbeats 8000000 in
theorem fnExactTrustDrive_named : Tryz.pinned.checked.prog.funcNamed Rows.fnExactTrustDriveRow.func = some 9 := by kernel_rfl
set_option maxHeartbeats 8000000 in
theorem fnExactTrustDrive_proved : Rows.FnExactTrustDriveSaid :=
  OpenClaim.holds_of_wide 9 Tryz.f9 rfl rfl rfl rfl rfl rfl rfl ⟨rfl, rfl, rfl, rfl, rfl⟩ rfl rfl rfl rfl rfl fnExactTrustDrive_named Tryz.func9 fnExactTrustDrive_closed
    (of_decide_eq_true (by as_aux_lemma => kernel_rfl)) (by unfold Func.isWrapper; first | (rw [if_pos (by decide +kernel)]; kernel_rfl) | (rw [if_neg (by decide +kernel)]; exact ⟨rfl, rfl⟩))
    (fun os started H enc _ => fnExactTrustDrive_lifted os started H enc)
#print axioms fnExactTrustDrive_proved
end Go.Proofs.YtdgbnongbmgdcaaGreat
