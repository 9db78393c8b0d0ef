/- Walk of the specification's RankG. -/
import Derived.Test.YtdlbbmadjhonjaiWStep
import Derived.Test.YtdlbbmadjhonjaiWRankI
import Derived.Test.YtdlbbmadjhonjaiWBld
namespace Go.Proofs.Ytdlbbmadjhonjai
open Go.RowKit F256
set_option linter.unusedVariables false
set_option linter.unusedSimpArgs false

end Go.Proofs.Ytdlbbmadjhonjai
