/- For every world, kind and number the program's StrikeBoth answers as the specification's does, writes into nothing that it is handed, and its answer is memory of its own: the law FnExactStrikeBoth returns true at every input, and changes nothing that was there. No condition. -/
import Derived.Test.YthdknhjaohhfiaaGreatZPstrikav
namespace Go.Proofs.YthdknhjaohhfiaaGreat
open Go.ChangeShapes Go.WideShapes Go.ChangeAt Go.RowKit F256
set_option maxHeartbeats 8000000 in
theorem fnExactStrikeBoth_closed : joinedFacts Tryz.pinned.checked.prog 5 Tryz.f5 Rows.fnExactStrikeBothSpec Rows.fnExactStrikeBothRow = true := by
  unfold joinedFacts
  simp only [Bool.and_eq_true]
  repeat' apply And.intro
  all_goals (as_aux_lemma => kernel_rfl)
set_option maxHeartbeats 8000000 in
theorem fnExactStrikeBoth_named : Tryz.pinned.checked.prog.funcNamed Rows.fnExactStrikeBothRow.func = some 5 := by kernel_rfl
set_option maxHeartbeats 8000000 in
theorem fnExactStrikeBoth_proved : Rows.FnExactStrikeBothSaid :=
  OpenClaim.holds_of_wide 5 Tryz.f5 rfl rfl rfl rfl rfl rfl rfl ⟨rfl, rfl, rfl, rfl, rfl⟩ rfl rfl rfl rfl rfl fnExactStrikeBoth_named Tryz.func5 fnExactStrikeBoth_closed
    (of_decide_eq_true (by as_aux_lemma => kernel_rfl)) (by unfold Func.isWrapper; first | (rw [if_pos (by decide +kernel)]; kernel_rfl) | (rw [if_neg (by decide +kernel)]; exact ⟨rfl, rfl⟩))
    (fun os started H enc _ => fnExactStrikeBoth_lifted os started H enc)
#print axioms fnExactStrikeBoth_proved
end Go.Proofs.YthdknhjaohhfiaaGreat
