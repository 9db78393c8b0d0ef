/- Walk of slices.IndexFunc over records that are struck. -/
import Derived.Test.YthdknhjaohhfiaaGreatZPlayreao
import Derived.Deep.DeepCutAuto
import Derived.Test.YthdknhjaohhfiaaGreatZPlayrean
import Derived.BigQuiet
import Derived.Deep.QuietTactic
namespace Go.Proofs.YthdknhjaohhfiaaGreat
open Go.RowKit F256
set_option linter.unusedVariables false
set_option linter.unusedSimpArgs false
end Go.Proofs.YthdknhjaohhfiaaGreat

namespace Go.Proofs.YthdknhjaohhfiaaGreat
open Go.RowKit F256
set_option linter.unusedVariables false
set_option linter.unusedSimpArgs false
end Go.Proofs.YthdknhjaohhfiaaGreat

namespace Go.Proofs.YthdknhjaohhfiaaGreat
open Go.RowKit F256
set_option linter.unusedVariables false
set_option linter.unusedSimpArgs false
end Go.Proofs.YthdknhjaohhfiaaGreat

namespace Go.Proofs.YthdknhjaohhfiaaGreat
open Go.RowKit F256
set_option linter.unusedVariables false
set_option linter.unusedSimpArgs false
def strikeW (d : WorldD) (T : Nat) (kd sq : Int) : WorldD := { d with tapes := (d.tapes.1, upd d.tapes.2 T (struckT (d.tapes.2 T) kd sq)) }
end Go.Proofs.YthdknhjaohhfiaaGreat
