/- Walks of the laws' helpers over slices of bytes: a copy, a comparison, a marking, a look at marks. -/
import Derived.Test.YtnjgpbnlkbcblaaOwn
import Derived.BigQuiet
import Derived.Deep.QuietTactic
namespace Go.Proofs.Ytnjgpbnlkbcblaa
open Go.RowKit F256

/-- the marks from k on -/
def marks (k : Nat) : Nat → Nat := fun i => (k + i) % 256
theorem marks_val (j k : Nat) : ((marks j k : Nat) : Int) = ((j : Int) + (k : Int)) % 256 := by unfold marks; omega

/-- a result with bytes in it -/
def bytesR (c : Int) (v : Value) : Value := .agg #[.int .i64 c, v]

end Go.Proofs.Ytnjgpbnlkbcblaa
