/- Walk of the specification's RankG. -/
import Derived.Test.YteelhafnkkfcbaaWStep
import Derived.Test.YteelhafnkkfcbaaWRankI
import Derived.Test.YteelhafnkkfcbaaWBld
namespace Go.Proofs.Yteelhafnkkfcbaa
open Go.RowKit F256
set_option linter.unusedVariables false
set_option linter.unusedSimpArgs false

end Go.Proofs.Yteelhafnkkfcbaa
