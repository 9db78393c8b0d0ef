/- For every world and both numbers the program's RowStamp answers as the specification's does and writes into nothing that it is handed: the law FnExactRowStamp returns true at every input, and changes nothing that was there. No condition. -/
import Derived.Test.YtbjblbbbafiepaaGreatZProwstaf
namespace Go.Proofs.YtbjblbbbafiepaaGreat
open Go.ChangeShapes Go.WideShapes Go.ChangeAt Go.RowKit F256
set_option maxHeartbeats 8000000 in
theorem fnExactRowStamp_closed : joinedFacts Tryz.pinned.checked.prog 4 Tryz.f4 Rows.fnExactRowStampSpec Rows.fnExactRowStampRow = true := by
  unfold joinedFacts
  simp only [Bool.and_eq_true]
  repeat' apply And.intro
  all_goals (as_aux_lemma => kernel_rfl)
set_option maxHeartbeats 8000000 in
theorem fnExactRowStamp_named : Tryz.pinned.checked.prog.funcNamed Rows.fnExactRowStampRow.func = some 4 := by kernel_rfl
set_option maxHeartbeats 8000000 in
theorem fnExactRowStamp_proved : Rows.FnExactRowStampSaid :=
  OpenClaim.holds_of_wide 4 Tryz.f4 rfl rfl rfl rfl rfl rfl rfl ⟨rfl, rfl, rfl, rfl, rfl⟩ rfl rfl rfl rfl rfl fnExactRowStamp_named Tryz.func4 fnExactRowStamp_closed
    (of_decide_eq_true (by as_aux_lemma => kernel_rfl)) (by unfold Func.isWrapper; first | (rw [if_pos (by decide +kernel)]; kernel_rfl) | (rw [if_neg (by decide +kernel)]; exact ⟨rfl, rfl⟩))
    (fun os started H enc _ => fnExactRowStamp_lifted os started H enc)
#print axioms fnExactRowStamp_proved
end Go.Proofs.YtbjblbbbafiepaaGreat
