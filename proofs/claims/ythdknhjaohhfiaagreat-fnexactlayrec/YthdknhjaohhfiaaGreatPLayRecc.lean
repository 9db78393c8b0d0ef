/- For every world and record the program's LayRec answers as the specification's does, writes into nothing that it is handed, and its answer is memory of its own: the law FnExactLayRec returns true at every input, and changes nothing that was there. No condition. -/
import Derived.Test.YthdknhjaohhfiaaGreatZPlayreax
namespace Go.Proofs.YthdknhjaohhfiaaGreat
open Go.ChangeShapes Go.WideShapes Go.ChangeAt Go.RowKit F256
set_option maxHeartbeats 8000000 in
theorem fnExactLayRec_closed : joinedFacts Tryz.pinned.checked.prog 4 Tryz.f4 Rows.fnExactLayRecSpec Rows.fnExactLayRecRow = true := by
  unfold joinedFacts
  simp only [Bool.and_eq_true]
  repeat' apply And.intro
  all_goals (as_aux_lemma => kernel_rfl)
set_option maxHeartbeats 8000000 in
theorem fnExactLayRec_named : Tryz.pinned.checked.prog.funcNamed Rows.fnExactLayRecRow.func = some 4 := by kernel_rfl
set_option maxHeartbeats 8000000 in
theorem fnExactLayRec_proved : Rows.FnExactLayRecSaid :=
  OpenClaim.holds_of_wide 4 Tryz.f4 rfl rfl rfl rfl rfl rfl rfl ⟨rfl, rfl, rfl, rfl, rfl⟩ rfl rfl rfl rfl rfl fnExactLayRec_named Tryz.func4 fnExactLayRec_closed
    (of_decide_eq_true (by as_aux_lemma => kernel_rfl)) (by unfold Func.isWrapper; first | (rw [if_pos (by decide +kernel)]; kernel_rfl) | (rw [if_neg (by decide +kernel)]; exact ⟨rfl, rfl⟩))
    (fun os started H enc _ => fnExactLayRec_lifted os started H enc)
#print axioms fnExactLayRec_proved
end Go.Proofs.YthdknhjaohhfiaaGreat
