/- Walks of the specification's FactorOf and l1Has. -/
import Derived.Test.YtbdiedcmhggnjaaColDefs
import Derived.Test.YtbdiedcmhggnjaaWColA
import Derived.Test.YtbdiedcmhggnjaaWInt
import Derived.Test.YtbdiedcmhggnjaaWInts
namespace Go.Proofs.Ytbdiedcmhggnjaa
open Go.RowKit F256
set_option linter.unusedVariables false
set_option linter.unusedSimpArgs false

end Go.Proofs.Ytbdiedcmhggnjaa
