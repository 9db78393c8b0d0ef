/- For every world and every number of a group the program's WipedOf answers as the specification's does, writes into nothing that it is handed, and its answer is memory of its own: the law FnExactWipedOf returns true at every input, and changes nothing that was there. No condition. -/
import Derived.Test.YtkijpgfmjogagaaGreatZPwipedam
namespace Go.Proofs.YtkijpgfmjogagaaGreat
open Go.ChangeShapes Go.WideShapes Go.ChangeAt Go.RowKit F256
set_option maxHeartbeats 8000000 in
theorem fnExactWipedOf_closed : joinedFacts Tryz.pinned.checked.prog 3 Tryz.f3 Rows.fnExactWipedOfSpec Rows.fnExactWipedOfRow = true := by
  unfold joinedFacts
  simp only [Bool.and_eq_true]
  repeat' apply And.intro
  all_goals (as_aux_lemma => kernel_rfl)
set_option maxHeartbeats 8000000 in
theorem fnExactWipedOf_named : Tryz.pinned.checked.prog.funcNamed Rows.fnExactWipedOfRow.func = some 3 := by kernel_rfl
set_option maxHeartbeats 8000000 in
theorem fnExactWipedOf_proved : Rows.FnExactWipedOfSaid :=
  OpenClaim.holds_of_wide 3 Tryz.f3 rfl rfl rfl rfl rfl rfl rfl ⟨rfl, rfl, rfl, rfl, rfl⟩ rfl rfl rfl rfl rfl fnExactWipedOf_named Tryz.func3 fnExactWipedOf_closed
    (of_decide_eq_true (by as_aux_lemma => kernel_rfl)) (by unfold Func.isWrapper; first | (rw [if_pos (by decide +kernel)]; kernel_rfl) | (rw [if_neg (by decide +kernel)]; exact ⟨rfl, rfl⟩))
    (fun os started H enc _ => fnExactWipedOf_lifted os started H enc)
#print axioms fnExactWipedOf_proved
end Go.Proofs.YtkijpgfmjogagaaGreat
