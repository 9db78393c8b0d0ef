/- Walks of the specification's FactorOf and l1Has. -/
import Derived.Test.YthncbkgklhbcjaaColDefs
import Derived.Test.YthncbkgklhbcjaaWColA
import Derived.Test.YthncbkgklhbcjaaWInt
import Derived.Test.YthncbkgklhbcjaaWInts
namespace Go.Proofs.Ythncbkgklhbcjaa
open Go.RowKit F256
set_option linter.unusedVariables false
set_option linter.unusedSimpArgs false

end Go.Proofs.Ythncbkgklhbcjaa
