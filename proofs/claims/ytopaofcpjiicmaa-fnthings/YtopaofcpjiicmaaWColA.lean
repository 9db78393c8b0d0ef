/- Walks of the specification's l3Shape, l3Even, l3Encode and EncodeColumn. -/
import Derived.Test.YtopaofcpjiicmaaColDefs
import Derived.Test.YtopaofcpjiicmaaWRowA
import Derived.Test.YtopaofcpjiicmaaWSz
import Derived.Test.YtopaofcpjiicmaaWAppend
namespace Go.Proofs.Ytopaofcpjiicmaa
open Go.RowKit F256
set_option linter.unusedVariables false
set_option linter.unusedSimpArgs false

end Go.Proofs.Ytopaofcpjiicmaa
