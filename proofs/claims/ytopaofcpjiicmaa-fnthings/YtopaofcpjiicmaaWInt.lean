/- A result with a number in it, and the comparison of two such. -/
import Derived.Test.YtopaofcpjiicmaaProg
import Derived.Test.YtopaofcpjiicmaaBits
import Derived.WalkLawsBesides
namespace Go.Proofs.Ytopaofcpjiicmaa
open Go.RowKit F256

/-- a result with a number in it -/
def intR (code value : Int) : Value := .agg #[.int .i64 code, .int .i64 value]

end Go.Proofs.Ytopaofcpjiicmaa
