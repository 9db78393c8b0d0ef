/- Walks of the laws' helpers over slices of numbers: a copy, a comparison, a marking. -/
import Derived.Test.YtnjgpbnlkbcblaaWInts
import Derived.Test.YtnjgpbnlkbcblaaWBytes
namespace Go.Proofs.Ytnjgpbnlkbcblaa
open Go.RowKit F256
set_option linter.unusedVariables false
set_option linter.unusedSimpArgs false

/-- the marks from k on -/
def marksI (k : Nat) : Nat → Int := fun i => (k : Int) + (i : Int)
theorem marksI_val (j k : Nat) : marksI j k = (j : Int) + (k : Int) := rfl

end Go.Proofs.Ytnjgpbnlkbcblaa
