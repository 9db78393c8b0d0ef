/- Walks of the specification's l3Shape, l3Even, l3Encode and EncodeColumn. -/
import Derived.Test.YtmpmcaopfmbhnanColDefs
import Derived.Test.YtmpmcaopfmbhnanWRowA
import Derived.Test.YtmpmcaopfmbhnanWSz
import Derived.Test.YtmpmcaopfmbhnanWAppend
namespace Go.Proofs.Ytmpmcaopfmbhnan
open Go.RowKit F256
set_option linter.unusedVariables false
set_option linter.unusedSimpArgs false

end Go.Proofs.Ytmpmcaopfmbhnan
