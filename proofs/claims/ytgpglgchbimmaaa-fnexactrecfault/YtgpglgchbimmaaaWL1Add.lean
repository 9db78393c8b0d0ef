/- Walk of sums of bytes: the specification's l1Add. -/
import Derived.Test.YtgpglgchbimmaaaWBytes
import Derived.Deep.RegionLaw
namespace Go.Proofs.Ytgpglgchbimmaaa
open Go.RowKit F256

theorem u8_xor_cast {x y : Nat} (hx : x < 256) (hy : y < 256) : bits .xor .u8 (x : Int) (y : Int) = ((x ^^^ y : Nat) : Int) := u8_xor_nat x y hx hy

end Go.Proofs.Ytgpglgchbimmaaa
