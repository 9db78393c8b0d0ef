/- Walks of the measure of what came in, and of the program's look whether rows are equally long. -/
import Derived.Test.YtnjgpbnlkbcblaaOwnM
import Derived.BigQuiet
import Derived.Deep.QuietTactic
namespace Go.Proofs.Ytnjgpbnlkbcblaa
open Go.RowKit F256
set_option linter.unusedVariables false
set_option linter.unusedSimpArgs false

end Go.Proofs.Ytnjgpbnlkbcblaa
