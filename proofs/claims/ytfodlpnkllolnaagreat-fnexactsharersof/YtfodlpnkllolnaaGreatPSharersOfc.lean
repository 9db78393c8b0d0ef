/- For every world and every number the program's SharersOf answers as the specification's does, writes into nothing that it is handed, and its answer is memory of its own: the law FnExactSharersOf returns true at every input, and changes nothing that was there. No condition. -/
import Derived.Test.YtfodlpnkllolnaaGreatZPshareak
namespace Go.Proofs.YtfodlpnkllolnaaGreat
open Go.ChangeShapes Go.WideShapes Go.ChangeAt Go.RowKit F256
set_option maxHeartbeats 8000000 in
theorem fnExactSharersOf_closed : joinedFacts Tryz.pinned.checked.prog 3 Tryz.f3 Rows.fnExactSharersOfSpec Rows.fnExactSharersOfRow = true := by
  unfold joinedFacts
  simp only [Bool.and_eq_true]
  repeat' apply And.intro
  all_goals (as_aux_lemma => kernel_rfl)
set_option maxHeartbeats 8000000 in
theorem fnExactSharersOf_named : Tryz.pinned.checked.prog.funcNamed Rows.fnExactSharersOfRow.func = some 3 := by kernel_rfl
set_option maxHeartbeats 8000000 in
theorem fnExactSharersOf_proved : Rows.FnExactSharersOfSaid :=
  OpenClaim.holds_of_wide 3 Tryz.f3 rfl rfl rfl rfl rfl rfl rfl ⟨rfl, rfl, rfl, rfl, rfl⟩ rfl rfl rfl rfl rfl fnExactSharersOf_named Tryz.func3 fnExactSharersOf_closed
    (of_decide_eq_true (by as_aux_lemma => kernel_rfl)) (by unfold Func.isWrapper; first | (rw [if_pos (by decide +kernel)]; kernel_rfl) | (rw [if_neg (by decide +kernel)]; exact ⟨rfl, rfl⟩))
    (fun os started H enc _ => fnExactSharersOf_lifted os started H enc)
#print axioms fnExactSharersOf_proved
end Go.Proofs.YtfodlpnkllolnaaGreat
