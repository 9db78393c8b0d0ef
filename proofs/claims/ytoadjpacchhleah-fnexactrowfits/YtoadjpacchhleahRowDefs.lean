/- A row by the first blocks that are there, as plain functions. No Go in sight. -/
import Derived.Test.YtoadjpacchhleahWMix
import Derived.Test.YtoadjpacchhleahGaussW
import Derived.Test.YtoadjpacchhleahNth
namespace Go.Proofs.Ytoadjpacchhleah
open F256

/-- the block want by the first blocks that are there -/
def blockN (D : Nat) (n : Nat → Nat) (R : Nat) (f : Mat) (want : Nat) : Nat → Nat := mixN (fun k => f (nthN n R k)) (weightsN D 0 (nthN n R) want) D

/-- the bytes of a row by the first blocks that are there -/
def decN (D : Nat) (n : Nat → Nat) (R : Nat) (f : Mat) : Nat → Nat := fun t => blockN D n R f (t / 4) (t % 4)
theorem decN_at (D : Nat) (n : Nat → Nat) (R : Nat) (f : Mat) (k i : Nat) (hi : i < 4) : decN D n R f (4 * k + i) = blockN D n R f k i := by
  unfold decN
  rw [show (4 * k + i) / 4 = k by omega, show (4 * k + i) % 4 = i by omega]
end Go.Proofs.Ytoadjpacchhleah
