/- Walks of the specification's l2Join, RowFits. -/
import Derived.Test.YtoadjpacchhleaiWRowC
namespace Go.Proofs.Ytoadjpacchhleai
open Go.RowKit F256
set_option linter.unusedVariables false
set_option linter.unusedSimpArgs false

/-- blocks of four, one behind the other -/
def joinN (f : Mat) : Nat → Nat := fun t => f (t / 4) (t % 4)
theorem joinN_at (f : Mat) (k i : Nat) (hi : i < 4) : joinN f (4 * k + i) = f k i := by
  unfold joinN
  rw [show (4 * k + i) / 4 = k by omega, show (4 * k + i) % 4 = i by omega]
theorem undrewD {B : Nat} {w w2 : World} {m : Nat} (h : Below B (w.drewN m) w2) : Below B w w2 := ⟨h.os, h.tape, h.output, h.size, h.block⟩

/-- the blocks of a row fit -/
def FitsP (d s : Int) (R : Nat) (n : Nat → Nat) (f : Mat) : Prop := Shp d s ∧ WholeP R n (d + s) ∧ ∀ i, i < R → ∀ j, j < 4 → f i j = encN d.toNat (joinN f) i j

end Go.Proofs.Ytoadjpacchhleai
