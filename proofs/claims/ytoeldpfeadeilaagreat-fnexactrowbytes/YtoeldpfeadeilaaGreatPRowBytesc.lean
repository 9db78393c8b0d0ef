/- For every world, group and row the program's RowBytes answers as the specification's does, writes into nothing that it is handed, and its answer is memory of its own: the law FnExactRowBytes returns true at every input, and changes nothing that was there. No condition. -/
import Derived.Test.YtoeldpfeadeilaaGreatZProwbyak
set_option linter.unusedVariables false
set_option linter.unusedSimpArgs false
set_option maxHeartbeats 16000000
namespace Go.Proofs.YtoeldpfeadeilaaGreat
open Go.ChangeShapes Go.WideShapes Go.ChangeAt Go.RowKit F256
theorem zcI:joinedFacts Tryz.pinned.checked.prog 3 Tryz.f3 Rows.fnExactRowBytesSpec Rows.fnExactRowBytesRow=true:=by
 unfold joinedFacts
 simp only [Bool.and_eq_true]
 repeat' apply And.intro
 all_goals (as_aux_lemma=>kernel_rfl)
theorem zc0:Tryz.pinned.checked.prog.funcNamed Rows.fnExactRowBytesRow.func=some 3:=by kernel_rfl
theorem fnExactRowBytes_proved:Rows.FnExactRowBytesSaid:=
 OpenClaim.holds_of_wide 3 Tryz.f3 rfl rfl rfl rfl rfl rfl rfl ⟨rfl,rfl,rfl,rfl,rfl⟩ rfl rfl rfl rfl rfl zc0 Tryz.func3 zcI
  (of_decide_eq_true (by as_aux_lemma=>kernel_rfl)) (by unfold Func.isWrapper;first | (rw [if_pos (by decide +kernel)];kernel_rfl) | (rw [if_neg (by decide +kernel)];exact ⟨rfl,rfl⟩))
  (fun os started H enc _=>zcH os started H enc)
#print axioms fnExactRowBytes_proved
end Go.Proofs.YtoeldpfeadeilaaGreat
