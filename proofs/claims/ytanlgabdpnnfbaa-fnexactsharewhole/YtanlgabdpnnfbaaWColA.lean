/- Walks of the specification's l3Shape, l3Even, l3Encode and EncodeColumn. -/
import Derived.Test.YtanlgabdpnnfbaaColDefs
import Derived.Test.YtanlgabdpnnfbaaWRowA
import Derived.Test.YtanlgabdpnnfbaaWSz
import Derived.Test.YtanlgabdpnnfbaaWAppend
namespace Go.Proofs.Ytanlgabdpnnfbaa
open Go.RowKit F256
set_option linter.unusedVariables false
set_option linter.unusedSimpArgs false

end Go.Proofs.Ytanlgabdpnnfbaa
