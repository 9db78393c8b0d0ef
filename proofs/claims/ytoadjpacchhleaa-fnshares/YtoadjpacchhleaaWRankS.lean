/- Walk of the specification's RankG. -/
import Derived.Test.YtoadjpacchhleaaWStep
import Derived.Test.YtoadjpacchhleaaWRankI
import Derived.Test.YtoadjpacchhleaaWBld
namespace Go.Proofs.Ytoadjpacchhleaa
open Go.RowKit F256
set_option linter.unusedVariables false
set_option linter.unusedSimpArgs false

end Go.Proofs.Ytoadjpacchhleaa
