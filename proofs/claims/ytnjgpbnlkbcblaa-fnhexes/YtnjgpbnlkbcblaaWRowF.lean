/- Walk of the specification's l2Rise. -/
import Derived.Test.YtnjgpbnlkbcblaaWRowA
import Derived.Test.YtnjgpbnlkbcblaaWInts
import Derived.BigQuiet
import Derived.Deep.QuietTactic
namespace Go.Proofs.Ytnjgpbnlkbcblaa
open Go.RowKit F256
set_option linter.unusedVariables false
set_option linter.unusedSimpArgs false

/-- the numbers rise, from 0 on and no higher than most -/
def RiseP (n : Nat) (g : Nat → Int) (most : Int) : Prop := ∀ i, i < n → 0 ≤ g i ∧ g i ≤ most ∧ (0 < i → g (i - 1) < g i)

end Go.Proofs.Ytnjgpbnlkbcblaa
