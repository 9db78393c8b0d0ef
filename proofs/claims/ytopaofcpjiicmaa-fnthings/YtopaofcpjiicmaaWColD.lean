/- Walks of the specification's FactorOf and l1Has. -/
import Derived.Test.YtopaofcpjiicmaaColDefs
import Derived.Test.YtopaofcpjiicmaaWColA
import Derived.Test.YtopaofcpjiicmaaWInt
import Derived.Test.YtopaofcpjiicmaaWInts
namespace Go.Proofs.Ytopaofcpjiicmaa
open Go.RowKit F256
set_option linter.unusedVariables false
set_option linter.unusedSimpArgs false

end Go.Proofs.Ytopaofcpjiicmaa
