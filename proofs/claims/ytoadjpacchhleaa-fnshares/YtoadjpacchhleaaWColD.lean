/- Walks of the specification's FactorOf and l1Has. -/
import Derived.Test.YtoadjpacchhleaaColDefs
import Derived.Test.YtoadjpacchhleaaWColA
import Derived.Test.YtoadjpacchhleaaWInt
import Derived.Test.YtoadjpacchhleaaWInts
namespace Go.Proofs.Ytoadjpacchhleaa
open Go.RowKit F256
set_option linter.unusedVariables false
set_option linter.unusedSimpArgs false

set_option maxHeartbeats 1000000 in
theorem l1Has_any (v : Value) (n : Nat) (g : Nat → Int) (hi : Nat) (x : Int) (w : World) (r : RdI w hi v n g) :
    Calls Try.prog 80 #[v, .int .i64 x] w (BoolP (HasP n g x) w) := by
  obtain ⟨ao, cap, rfl, hm, hc⟩ := r
  unfold maxLen at hm
  go_enter Try.func80, Try.ntmps80
  go_wp2
  go_loop [5] (fun i => ∃ k : Nat, k ≤ n ∧ i = .int .i64 k ∧ ∀ i, i < k → g i ≠ x) (fun i => n - (intOf i).toNat)
  case atStart => exact ⟨0, Nat.zero_le _, rfl, fun i hi => by omega⟩
  case round =>
    obtain ⟨k, hk, rfl, hall⟩ := hrel
    have HALL : Hid (∀ i, i < k → g i ≠ x) := hall
    clear hall
    by_cases hlt : k < n
    · obtain ⟨b, off, rfl, hblt, hcell⟩ := hc (by omega)
      have hck : w.cell? ⟨b, off + k, none⟩ = some (.int .i64 (g k)) := hcell k hlt
      obtain ⟨y, hy⟩ : ∃ y, y = g k := ⟨_, rfl⟩
      have HY : Hid (y = g k) := hy
      rw [← hy] at hck
      clear hc hcell hy
      by_cases heq : y = x
      · have tn : (y == x) = true := by simp [heq]
        have HE : Hid (y = x) := heq
        clear heq
        go_wp2
        go_ret
        exact boolYes rfl ⟨k, hlt, by rw [← HY.out]; exact HE.out⟩ (Below.refl _ _)
      · have tn : (y == x) = false := by simp [heq]
        have HE : Hid (y ≠ x) := heq
        clear heq
        go_wp2
        go_round
        case rel => exact ⟨k + 1, by omega, by go_num, fun i hi => by
                      by_cases c : i = k
                      · rw [c, ← HY.out]; exact HE.out
                      · exact HALL.out i (by omega)⟩
        case measure => simp [intOf]; omega
    · obtain rfl : k = n := by omega
      go_wp2
      go_ret
      exact boolNo rfl (fun ⟨i, hi, h⟩ => HALL.out i hi h) (Below.refl _ _)
end Go.Proofs.Ytoadjpacchhleaa
