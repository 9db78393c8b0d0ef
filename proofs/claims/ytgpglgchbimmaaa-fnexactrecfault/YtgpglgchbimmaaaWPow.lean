/- Walks of the two powers and inverses. -/
import Derived.Test.YtgpglgchbimmaaaWMul
namespace Go.Proofs.Ytgpglgchbimmaaa
open Go.RowKit F256

theorem pow_odd {p x m v : Nat} (hp : p < 256) (hx : x < 256) (h : mulN p (powN x m) = v) (ho : m % 2 = 1) : mulN (mulN p x) (powN (mulN x x) (m / 2)) = v := by
  rw [powN_sq hx, mulN_assoc hp hx (powN_lt _), ← h]
  congr 1
  have e : m = 1 + 2 * (m / 2) := by omega
  conv => rhs; rw [e, powN_add hx]
  rw [show powN x 1 = x from one_mulN hx]
theorem pow_even {p x m v : Nat} (hx : x < 256) (h : mulN p (powN x m) = v) (ho : m % 2 = 0) : mulN p (powN (mulN x x) (m / 2)) = v := by
  rw [powN_sq hx, ← h]
  rw [show 2 * (m / 2) = m by omega]

end Go.Proofs.Ytgpglgchbimmaaa
