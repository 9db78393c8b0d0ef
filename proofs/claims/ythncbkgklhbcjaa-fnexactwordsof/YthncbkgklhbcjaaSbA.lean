/- strings.Builder: copyCheck and WriteByte of a builder of the call's own. -/
import Derived.Shelf.Strings.Builder1
import Derived.Test.YthncbkgklhbcjaaProg
namespace Go.Proofs.Ythncbkgklhbcjaa
open Go.RowKit
set_option linter.unusedVariables false
set_option linter.unusedSimpArgs false

theorem sb_byte : (Try.prog.info? 5).map (fun i => (i.zero, i.size, i.bytes)) = some (some (.int .u8 0), 1, 1) := by kernel_rfl

end Go.Proofs.Ythncbkgklhbcjaa
