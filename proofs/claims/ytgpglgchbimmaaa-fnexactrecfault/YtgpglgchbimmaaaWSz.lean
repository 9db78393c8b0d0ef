/- Walks of the measure of what came in, and of the program's look whether rows are equally long. -/
import Derived.Test.YtgpglgchbimmaaaOwnM
import Derived.BigQuiet
import Derived.Deep.QuietTactic
namespace Go.Proofs.Ytgpglgchbimmaaa
open Go.RowKit F256
set_option linter.unusedVariables false
set_option linter.unusedSimpArgs false

theorem szByteS_yes (v : Value) (n : Nat) (f : Nat → Nat) (hi : Nat) (L : Int) (hL : L ≤ 1048576) (h : (n : Int) ≤ L) (w : World) (r : Rd w hi v n f) :
    Calls Try.prog 39 #[v, .int .i64 L] w fun e w' => e = .returned (.int .i64 (L - n)) ∧ w' = w := by
  obtain ⟨ao, cap, rfl, hm, hc⟩ := r
  clear hc
  go_enter Try.func39, Try.ntmps39
  go_wp2
  go_ret
  exact ⟨rfl, rfl⟩
theorem szByteS_no (v : Value) (n : Nat) (f : Nat → Nat) (hi : Nat) (L : Int) (hL0 : 0 ≤ L) (hL : L ≤ 1048576) (h : L < (n : Int)) (w : World) (r : Rd w hi v n f) :
    Calls Try.prog 39 #[v, .int .i64 L] w fun e w' => e = .returned (.int .i64 (-1)) ∧ w' = w := by
  obtain ⟨ao, cap, rfl, hm, hc⟩ := r
  clear hc
  unfold maxLen at hm
  go_enter Try.func39, Try.ntmps39
  go_wp2
  go_ret
  exact ⟨rfl, rfl⟩

end Go.Proofs.Ytgpglgchbimmaaa
