/- Walks of the two CauchyG. -/
import Derived.Test.YtgpglgchbimmaaaWPow
import Derived.Test.YtgpglgchbimmaaaWBytes
import Derived.Deep.RegionLaw
namespace Go.Proofs.Ytgpglgchbimmaaa
open Go.RowKit F256
set_option linter.unusedSimpArgs false

/-- the byte in the place t, in rows of C -/
def cau (C t : Nat) : Nat := powN ((128 + t / C) ^^^ (t % C)) 254
theorem cau_at (C j i : Nat) (hi : i < C) : cau C (j * C + i) = powN ((128 + j) ^^^ i) 254 := by
  unfold cau
  have h1 : (j * C + i) / C = j := by rw [Nat.add_comm, Nat.mul_comm, Nat.add_mul_div_left _ _ (by omega), Nat.div_eq_of_lt hi, Nat.zero_add]
  have h2 : (j * C + i) % C = i := by rw [Nat.add_comm, Nat.mul_comm, Nat.add_mul_mod_self_left, Nat.mod_eq_of_lt hi]
  rw [h1, h2]

theorem l1In_yes (v a b : Int) (h1 : a ≤ v) (h2 : v ≤ b) (w : World) :
    Calls Try.prog 23 #[.int .i64 v, .int .i64 a, .int .i64 b] w fun e w' => e = .returned (.bool true) ∧ w' = w := by
  go_enter Try.func23, Try.ntmps23
  go_wp2
  go_ret
  exact ⟨rfl, rfl⟩
theorem l1In_no (v a b : Int) (h : v < a ∨ b < v) (w : World) :
    Calls Try.prog 23 #[.int .i64 v, .int .i64 a, .int .i64 b] w fun e w' => e = .returned (.bool false) ∧ w' = w := by
  by_cases h1 : v < a
  · have hd : decide (a ≤ v) = false := by simp; omega
    go_enter Try.func23, Try.ntmps23
    go_wp2
    go_ret
    exact ⟨rfl, rfl⟩
  · have h2 : b < v := by omega
    have h3 : a ≤ v := by omega
    have hd : decide (v ≤ b) = false := by simp; omega
    go_enter Try.func23, Try.ntmps23
    go_wp2
    go_ret
    exact ⟨rfl, rfl⟩

end Go.Proofs.Ytgpglgchbimmaaa
