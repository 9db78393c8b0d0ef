/- Walk of the specification's RankG. -/
import Derived.Test.YtoadjpacchhleajWStep
import Derived.Test.YtoadjpacchhleajWRankI
import Derived.Test.YtoadjpacchhleajWBld
namespace Go.Proofs.Ytoadjpacchhleaj
open Go.RowKit F256
set_option linter.unusedVariables false
set_option linter.unusedSimpArgs false

end Go.Proofs.Ytoadjpacchhleaj
