/- Walks of the two MixBytes. -/
import Derived.Test.YtgpglgchbimmaaaWBytess
import Derived.Test.YtgpglgchbimmaaaWSz
import Derived.Test.YtgpglgchbimmaaaWScale
import Derived.Test.YtgpglgchbimmaaaWL1Add
namespace Go.Proofs.Ytgpglgchbimmaaa
open Go.RowKit F256
set_option linter.unusedVariables false
set_option linter.unusedSimpArgs false

/-- the sum of the first k rows, each scaled by its byte, in the place j -/
def mixN (f : Nat → Nat → Nat) (c : Nat → Nat) : Nat → Nat → Nat
  | 0, _ => 0
  | k + 1, j => mixN f c k j ^^^ mulN (c k) (f k j)
theorem mixN_lt (f : Nat → Nat → Nat) (c : Nat → Nat) (hc : ∀ i, c i < 256) : ∀ k j, mixN f c k j < 256
  | 0, _ => by simp [mixN]
  | k + 1, j => by simp only [mixN]; exact xor_lt (mixN_lt f c hc k j) (mulN_lt (hc k))

theorem undrewN {B : Nat} {w w2 : World} {m : Nat} (h : Below B (w.drewN m) w2) : Below B w w2 := ⟨h.os, h.tape, h.output, h.size, h.block⟩

end Go.Proofs.Ytgpglgchbimmaaa
