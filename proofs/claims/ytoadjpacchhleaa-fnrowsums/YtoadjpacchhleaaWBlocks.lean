/- The laws' helpers for a result with slices of bytes in it. -/
import Derived.Test.YtoadjpacchhleaaWBytess
import Derived.Test.YtoadjpacchhleaaWOwnB
namespace Go.Proofs.Ytoadjpacchhleaa
open Go.RowKit F256
set_option linter.unusedVariables false
set_option linter.unusedSimpArgs false

/-- the marks of all rows, one behind the other -/
def marksM (j : Nat) (n : Nat → Nat) : Mat := fun i => marks (j + sumN n i)

end Go.Proofs.Ytoadjpacchhleaa
