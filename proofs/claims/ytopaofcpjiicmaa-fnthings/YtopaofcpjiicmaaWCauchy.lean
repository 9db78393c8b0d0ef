/- Walks of the two CauchyG. -/
import Derived.Test.YtopaofcpjiicmaaWPow
import Derived.Test.YtopaofcpjiicmaaWBytes
import Derived.Deep.RegionLaw
namespace Go.Proofs.Ytopaofcpjiicmaa
open Go.RowKit F256
set_option linter.unusedSimpArgs false

/-- the byte in the place t, in rows of C -/
def cau (C t : Nat) : Nat := powN ((128 + t / C) ^^^ (t % C)) 254
theorem cau_at (C j i : Nat) (hi : i < C) : cau C (j * C + i) = powN ((128 + j) ^^^ i) 254 := by
  unfold cau
  have h1 : (j * C + i) / C = j := by rw [Nat.add_comm, Nat.mul_comm, Nat.add_mul_div_left _ _ (by omega), Nat.div_eq_of_lt hi, Nat.zero_add]
  have h2 : (j * C + i) % C = i := by rw [Nat.add_comm, Nat.mul_comm, Nat.add_mul_mod_self_left, Nat.mod_eq_of_lt hi]
  rw [h1, h2]

end Go.Proofs.Ytopaofcpjiicmaa
