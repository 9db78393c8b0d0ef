/- Walk of the specification's RankG. -/
import Derived.Test.YtoadjpacchhleaiWStep
import Derived.Test.YtoadjpacchhleaiWRankI
import Derived.Test.YtoadjpacchhleaiWBld
namespace Go.Proofs.Ytoadjpacchhleai
open Go.RowKit F256
set_option linter.unusedVariables false
set_option linter.unusedSimpArgs false

end Go.Proofs.Ytoadjpacchhleai
