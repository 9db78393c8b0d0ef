/- Walks of the measure of what came in, and of the program's look whether rows are equally long. -/
import Derived.Test.YtoadjpacchhleaaOwnM
import Derived.BigQuiet
import Derived.Deep.QuietTactic
namespace Go.Proofs.Ytoadjpacchhleaa
open Go.RowKit F256
set_option linter.unusedVariables false
set_option linter.unusedSimpArgs false

set_option maxHeartbeats 1000000 in
/-- whether rows are equally long -/
theorem equallyLong_any (v : Value) (R : Nat) (n : Nat → Nat) (f : Nat → Nat → Nat) (hi : Nat) (w : World) (r : RdM w hi v R n f) :
    Calls Try.prog 45 #[v] w fun e w' => ∃ b : Bool, e = .returned (.bool b) ∧ (b = true ↔ ∀ i, i < R → n i = n 0) ∧ Below w.heap.size w w' := by
  obtain ⟨ao, cap, e, rfl, hm, hc, he⟩ := r
  unfold maxLen at hm
  go_enter Try.func45, Try.ntmps45
  go_wp2
  go_loopw [3, 6] (fun _ i wr => ∃ k : Nat, k ≤ R ∧ i = .int .i64 k ∧ (∀ i, i < k → n i = n 0) ∧ ∃ m, wr = w.drewN m) (fun _ i _ => R - (intOf i).toNat)
  case atStart => exact ⟨0, Nat.zero_le _, rfl, fun i hi => by omega, 0, rfl⟩
  case round =>
    obtain ⟨k, hk, rfl, hall, m, rfl⟩ := hrel
    by_cases hlt : k < R
    · obtain ⟨b, off, rfl, hblt, hcell⟩ := hc (by omega)
      have hck : w.cell? ⟨b, off + k, none⟩ = some (e k) := hcell k hlt
      have hc0 : w.cell? ⟨b, off, none⟩ = some (e 0) := hcell 0 (by omega)
      obtain ⟨aok, capk, hsk, hmk, hqk⟩ := he k hlt
      obtain ⟨ao0, cap0, hs0, hm0, hq0⟩ := he 0 (by omega)
      unfold maxLen at hmk hm0
      rw [hsk] at hck
      rw [hs0] at hc0
      have HALL : Hid (∀ i, i < k → n i = n 0) := hall
      clear hc hcell he hsk hs0 hqk hq0 hall
      obtain ⟨nk, hnk⟩ : ∃ x, x = n k := ⟨_, rfl⟩
      obtain ⟨n0, hn0⟩ : ∃ x, x = n 0 := ⟨_, rfl⟩
      have HK : Hid (nk = n k) := hnk
      have H0 : Hid (n0 = n 0) := hn0
      rw [← hnk] at hck hmk
      rw [← hn0] at hc0 hm0
      clear hnk hn0
      by_cases heq : nk = n0
      · subst heq
        go_wp2
        go_quiet (fail)
        go_wp2
        go_roundw
        case rel => exact ⟨k + 1, by omega, by go_num, fun i hi => by
                      by_cases c : i = k
                      · rw [c, ← HK.out, ← H0.out]
                      · exact HALL.out i (by omega), _, rfl⟩
        case measure => simp [intOf]; omega
      · have ht : ((nk : Int) != (n0 : Int)) = true := by simp; omega
        go_wp2
        go_quiet (fail)
        go_wp2
        go_ret
        exact ⟨false, rfl, ⟨fun h => (by cases h), fun h => absurd (h k hlt) (by rw [← HK.out, ← H0.out]; exact heq)⟩, below_drewN (below_drewN (Below.refl _ _) _) _⟩
    · have hkn : k = R := by omega
      subst hkn
      go_wp2
      go_ret
      exact ⟨true, rfl, ⟨fun _ => hall, fun _ => rfl⟩, below_drewN (Below.refl _ _) _⟩
end Go.Proofs.Ytoadjpacchhleaa
