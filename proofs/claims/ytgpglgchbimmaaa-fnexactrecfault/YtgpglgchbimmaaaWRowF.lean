/- Walk of the specification's l2Rise. -/
import Derived.Test.YtgpglgchbimmaaaWRowA
import Derived.Test.YtgpglgchbimmaaaWInts
import Derived.BigQuiet
import Derived.Deep.QuietTactic
namespace Go.Proofs.Ytgpglgchbimmaaa
open Go.RowKit F256
set_option linter.unusedVariables false
set_option linter.unusedSimpArgs false

/-- the numbers rise, from 0 on and no higher than most -/
def RiseP (n : Nat) (g : Nat → Int) (most : Int) : Prop := ∀ i, i < n → 0 ≤ g i ∧ g i ≤ most ∧ (0 < i → g (i - 1) < g i)

set_option maxHeartbeats 2000000 in
theorem l2Rise_any (v : Value) (n : Nat) (g : Nat → Int) (hi : Nat) (most : Int) (w : World) (r : RdI w hi v n g) :
    Calls Try.prog 43 #[v, .int .i64 most] w (BoolP (RiseP n g most) w) := by
  obtain ⟨ao, cap, rfl, hm, hc⟩ := r
  unfold maxLen at hm
  go_enter Try.func43, Try.ntmps43
  go_wp2
  go_loopw [5] (fun i wr => ∃ k : Nat, k ≤ n ∧ i = .int .i64 k ∧ (∀ i, i < k → 0 ≤ g i ∧ g i ≤ most ∧ (0 < i → g (i - 1) < g i)) ∧ ∃ q, wr = w.drewN q) (fun i _ => n - (intOf i).toNat)
  case atStart => exact ⟨0, Nat.zero_le _, rfl, fun i hi => by omega, 0, rfl⟩
  case round =>
    obtain ⟨k, hk, rfl, hall, q, rfl⟩ := hrel
    have HALL : Hid (∀ i, i < k → 0 ≤ g i ∧ g i ≤ most ∧ (0 < i → g (i - 1) < g i)) := hall
    clear hall
    by_cases hlt : k < n
    · obtain ⟨b, off, rfl, hblt, hcell⟩ := hc (by omega)
      have hck : w.cell? ⟨b, off + k, none⟩ = some (.int .i64 (g k)) := hcell k hlt
      have HCL : Hid (∀ i, i < n → w.cell? ⟨b, off + i, none⟩ = some (.int .i64 (g i))) := hcell
      obtain ⟨x, hx⟩ : ∃ x, x = g k := ⟨_, rfl⟩
      have HX : Hid (x = g k) := hx
      rw [← hx] at hck
      clear hc hcell hx
      by_cases h1 : x < 0
      · have no : ¬ RiseP n g most := fun h => by have := (h k hlt).1; rw [← HX.out] at this; omega
        have HNO : Hid (¬ RiseP n g most) := no
        clear no
        go_wp2
        go_quiet (fail)
        go_wp2
        go_ret
        exact boolNo rfl HNO.out (below_drewN (below_drewN (Below.refl _ _) _) _)
      · have e1 : decide (x < 0) = false := by simp; omega
        by_cases h2 : most < x
        · have HNO : Hid (¬ RiseP n g most) := fun h => by have := (h k hlt).2.1; rw [← HX.out] at this; omega
          go_wp2
          go_quiet (fail)
          go_wp2
          go_ret
          exact boolNo rfl HNO.out (below_drewN (below_drewN (Below.refl _ _) _) _)
        · have e2 : decide (most < x) = false := by simp; omega
          by_cases h3 : 0 < k
          · obtain ⟨k1, hk1⟩ : ∃ k1, k1 + 1 = k := ⟨k - 1, by omega⟩
            have hcp : w.cell? ⟨b, off + k1, none⟩ = some (.int .i64 (g k1)) := HCL.out k1 (by omega)
            obtain ⟨y, hy⟩ : ∃ y, y = g k1 := ⟨_, rfl⟩
            have HY : Hid (y = g (k - 1)) := by show y = g (k - 1); rw [hy, show k - 1 = k1 by omega]
            rw [← hy] at hcp
            have wsub : IntKind.i64.wrap ((k : Int) - 1) = (k1 : Int) := by rw [IntKind.wrap_i64]; omega
            have hk1n : k1 < n := by omega
            have e3 : ((0 : Int) < (k : Int)) := by omega
            have HK1 : Hid (k1 + 1 = k) := hk1
            clear hy hk1
            by_cases h4 : x ≤ y
            · have HNO : Hid (¬ RiseP n g most) := fun h => by have := (h k hlt).2.2 h3; rw [← HX.out, ← HY.out] at this; omega
              go_wp2
              go_quiet (fail)
              go_wp2
              go_ret
              exact boolNo rfl HNO.out (below_drewN (below_drewN (Below.refl _ _) _) _)
            · have e4 : decide (x ≤ y) = false := by simp; omega
              have HF : Hid (0 ≤ g k ∧ g k ≤ most ∧ (0 < k → g (k - 1) < g k)) := by
                show 0 ≤ g k ∧ g k ≤ most ∧ (0 < k → g (k - 1) < g k)
                rw [← HX.out, ← HY.out]
                exact ⟨by omega, by omega, fun _ => by omega⟩
              go_wp2
              go_quiet (fail)
              go_wp2
              go_roundw
              case rel => exact ⟨k + 1, by omega, by go_num, fun i hi => by
                            by_cases c : i = k
                            · rw [c]; exact HF.out
                            · exact HALL.out i (by omega), _, rfl⟩
              case measure => simp [intOf]; omega
          · have HF : Hid (0 ≤ g k ∧ g k ≤ most) := by
              show 0 ≤ g k ∧ g k ≤ most
              rw [← HX.out]
              exact ⟨by omega, by omega⟩
            have e3 : decide ((0 : Int) < (k : Int)) = false := by simp; omega
            have e3n : decide (0 < k) = false := by simp; omega
            have HK0 : Hid (k = 0) := by show k = 0; omega
            clear h3
            go_wp2
            go_quiet (fail)
            go_wp2
            go_roundw
            case rel => exact ⟨k + 1, by omega, by go_num, fun i hi => by
                          have := HK0.out
                          obtain rfl : i = k := by omega
                          exact ⟨HF.out.1, HF.out.2, fun h => by omega⟩, _, rfl⟩
            case measure => simp [intOf]; omega
    · obtain rfl : k = n := by omega
      go_wp2
      go_ret
      exact boolYes rfl HALL.out (below_drewN (Below.refl _ _) _)
end Go.Proofs.Ytgpglgchbimmaaa
