/- A Shape as a value. -/
import Derived.Test.YtgpglgchbimmaaaProg
namespace Go.Proofs.Ytgpglgchbimmaaa

/-- a Shape as a value -/
def shapeV (s : Nat → Int) : Value := .agg #[.int .i64 (s 0), .int .i64 (s 1), .int .i64 (s 2), .int .i64 (s 3), .int .i64 (s 4), .int .i64 (s 5), .int .i64 (s 6), .int .i64 (s 7), .int .i64 (s 8)]
end Go.Proofs.Ytgpglgchbimmaaa
