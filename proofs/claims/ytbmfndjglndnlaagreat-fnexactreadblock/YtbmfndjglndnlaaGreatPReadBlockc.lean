/- For every world and all three numbers the program's ReadBlock answers as the specification's does, writes into nothing that it is handed, and its answer is memory of its own: the law FnExactReadBlock returns true at every input, and changes nothing that was there. No condition. -/
import Derived.Test.YtbmfndjglndnlaaGreatLReadBlockc
namespace Go.Proofs.YtbmfndjglndnlaaGreat
open Go.ChangeShapes Go.WideShapes Go.ChangeAt Go.RowKit F256
set_option maxHeartbeats 8000000 in
theorem fnExactReadBlock_closed : joinedFacts Tryz.pinned.checked.prog 5 Tryz.f5 Rows.fnExactReadBlockSpec Rows.fnExactReadBlockRow = true := by
  unfold joinedFacts
  simp only [Bool.and_eq_true]
  repeat' apply And.intro
  all_goals (as_aux_lemma => kernel_rfl)
set_option maxHeartbeats 8000000 in
theorem fnExactReadBlock_named : Tryz.pinned.checked.prog.funcNamed Rows.fnExactReadBlockRow.func = some 5 := by kernel_rfl
set_option maxHeartbeats 8000000 in
theorem fnExactReadBlock_proved : Rows.FnExactReadBlockSaid :=
  OpenClaim.holds_of_wide 5 Tryz.f5 rfl rfl rfl rfl rfl rfl rfl ⟨rfl, rfl, rfl, rfl, rfl⟩ rfl rfl rfl rfl rfl fnExactReadBlock_named Tryz.func5 fnExactReadBlock_closed
    (of_decide_eq_true (by as_aux_lemma => kernel_rfl)) (by unfold Func.isWrapper; first | (rw [if_pos (by decide +kernel)]; kernel_rfl) | (rw [if_neg (by decide +kernel)]; exact ⟨rfl, rfl⟩))
    (fun os started H enc _ => fnExactReadBlock_lifted os started H enc)
#print axioms fnExactReadBlock_proved
end Go.Proofs.YtbmfndjglndnlaaGreat
