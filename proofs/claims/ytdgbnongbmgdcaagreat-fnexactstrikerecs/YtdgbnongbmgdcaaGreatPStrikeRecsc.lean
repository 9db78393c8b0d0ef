/- For every world and all three numbers the program's StrikeRecs answers as the specification's does, writes into nothing that it is handed, and its answer is memory of its own: the law FnExactStrikeRecs returns true at every input, and changes nothing that was there. No condition. -/
import Derived.Test.YtdgbnongbmgdcaaGreatZyR
namespace Go.Proofs.YtdgbnongbmgdcaaGreat
open Go.ChangeShapes Go.WideShapes Go.ChangeAt Go.RowKit F256
set_option maxHeartbeats 8000000 in
theorem fnExactStrikeRecs_closed : joinedFacts Tryz.pinned.checked.prog 11 Tryz.f11 Rows.fnExactStrikeRecsSpec Rows.fnExactStrikeRecsRow = true := by
  unfold joinedFacts
  simp only [Bool.and_eq_true]
  repeat' apply And.intro
  all_goals (as_aux_lemma => kernel_rfl)
set_option maxHeartbeats 8000000 in
theorem fnExactStrikeRecs_named : Tryz.pinned.checked.prog.funcNamed Rows.fnExactStrikeRecsRow.func = some 11 := by kernel_rfl
set_option maxHeartbeats 8000000 in
theorem fnExactStrikeRecs_proved : Rows.FnExactStrikeRecsSaid :=
  OpenClaim.holds_of_wide 11 Tryz.f11 rfl rfl rfl rfl rfl rfl rfl ⟨rfl, rfl, rfl, rfl, rfl⟩ rfl rfl rfl rfl rfl fnExactStrikeRecs_named Tryz.func11 fnExactStrikeRecs_closed
    (of_decide_eq_true (by as_aux_lemma => kernel_rfl)) (by unfold Func.isWrapper; first | (rw [if_pos (by decide +kernel)]; kernel_rfl) | (rw [if_neg (by decide +kernel)]; exact ⟨rfl, rfl⟩))
    (fun os started H enc _ => fnExactStrikeRecs_lifted os started H enc)
#print axioms fnExactStrikeRecs_proved
end Go.Proofs.YtdgbnongbmgdcaaGreat
