/- Walks of the measure of what came in, and of the program's look whether rows are equally long. -/
import Derived.Test.YtoadjpacchhleahOwnM
import Derived.BigQuiet
import Derived.Deep.QuietTactic
namespace Go.Proofs.Ytoadjpacchhleah
open Go.RowKit F256
set_option linter.unusedVariables false
set_option linter.unusedSimpArgs false

theorem szByteS_yes (v : Value) (n : Nat) (f : Nat → Nat) (hi : Nat) (L : Int) (hL : L ≤ 1048576) (h : (n : Int) ≤ L) (w : World) (r : Rd w hi v n f) :
    Calls Try.prog 35 #[v, .int .i64 L] w fun e w' => e = .returned (.int .i64 (L - n)) ∧ w' = w := by
  obtain ⟨ao, cap, rfl, hm, hc⟩ := r
  clear hc
  go_enter Try.func35, Try.ntmps35
  go_wp2
  go_ret
  exact ⟨rfl, rfl⟩
theorem szByteS_no (v : Value) (n : Nat) (f : Nat → Nat) (hi : Nat) (L : Int) (hL0 : 0 ≤ L) (hL : L ≤ 1048576) (h : L < (n : Int)) (w : World) (r : Rd w hi v n f) :
    Calls Try.prog 35 #[v, .int .i64 L] w fun e w' => e = .returned (.int .i64 (-1)) ∧ w' = w := by
  obtain ⟨ao, cap, rfl, hm, hc⟩ := r
  clear hc
  unfold maxLen at hm
  go_enter Try.func35, Try.ntmps35
  go_wp2
  go_ret
  exact ⟨rfl, rfl⟩

set_option maxHeartbeats 1000000 in
theorem szByteSS_any (v : Value) (R : Nat) (n : Nat → Nat) (f : Nat → Nat → Nat) (hi : Nat) (w : World) (r : RdM w hi v R n f) (L0 : Nat) (hL0 : L0 ≤ 1048576) :
    Calls Try.prog 9 #[v, .int .i64 L0] w fun e w' => ∃ x : Int, e = .returned (.int .i64 x) ∧ (x = -1 ∨ (R + sumN n R ≤ L0 ∧ x = L0 - R - sumN n R)) ∧ w' = w := by
  obtain ⟨ao, cap, e, rfl, hm, hc, he⟩ := r
  unfold maxLen at hm
  by_cases hR : L0 < R
  · clear hc he
    go_enter Try.func9, Try.ntmps9
    go_wp2
    go_ret
    exact ⟨-1, rfl, .inl rfl, rfl⟩
  go_enter Try.func9, Try.ntmps9
  go_wp2
  go_loop [1, 5] (fun x i => ∃ k : Nat, k ≤ R ∧ i = .int .i64 k ∧ R + sumN n k ≤ L0 ∧ x = .int .i64 ((L0 : Int) - (R : Int) - (sumN n k : Int))) (fun _ i => R - (intOf i).toNat)
  case atStart => exact ⟨0, Nat.zero_le _, rfl, by simp [sumN]; omega, val_eq (by simp [sumN])⟩
  case round =>
    obtain ⟨k, hk, rfl, hsum, rfl⟩ := hrel
    by_cases hlt : k < R
    · obtain ⟨b, off, rfl, hblt, hcell⟩ := hc (by omega)
      have hck : w.cell? ⟨b, off + k, none⟩ = some (e k) := hcell k hlt
      have hrk := he k hlt
      have hs1 : sumN n (k + 1) = sumN n k + n k := rfl
      by_cases hfit : R + sumN n (k + 1) ≤ L0
      · have C := szByteS_yes (e k) (n k) (f k) hi ((L0 : Int) - (R : Int) - (sumN n k : Int)) (by omega) (by omega) w hrk
        obtain ⟨x, hx⟩ : ∃ x, x = e k := ⟨_, rfl⟩
        rw [← hx] at hck C
        clear hc hcell he hrk hx
        have HS : Hid (sumN n (k + 1) = sumN n k + n k) := hs1
        clear hs1
        have hf2 : R + (sumN n k + n k) ≤ L0 := by rw [← HS.out]; exact hfit
        clear hfit
        go_wp2_with (go_at_call 35; refine C.mono ?_; rintro ee w2 ⟨rfl, hw2⟩; obtain rfl := hw2.symm)
        go_round
        case rel => exact ⟨k + 1, by omega, by go_num, by rw [HS.out]; exact hf2, val_eq (by rw [HS.out]; omega)⟩
        case measure => simp [intOf]; omega
      · have C := szByteS_no (e k) (n k) (f k) hi ((L0 : Int) - (R : Int) - (sumN n k : Int)) (by omega) (by omega) (by omega) w hrk
        obtain ⟨x, hx⟩ : ∃ x, x = e k := ⟨_, rfl⟩
        rw [← hx] at hck C
        clear hc hcell he hrk hx hs1 hfit
        go_wp2_with (go_at_call 35; refine C.mono ?_; rintro ee w2 ⟨rfl, hw2⟩; obtain rfl := hw2.symm)
        go_ret
        exact ⟨-1, rfl, .inl rfl, rfl⟩
    · have hkn : k = R := by omega
      subst hkn
      have HS : Hid (k + sumN n k ≤ L0) := hsum
      clear hsum
      go_wp2
      go_ret
      exact ⟨_, rfl, .inr ⟨HS.out, rfl⟩, rfl⟩

set_option maxHeartbeats 1000000 in
/-- whether rows are equally long -/
theorem equallyLong_any (v : Value) (R : Nat) (n : Nat → Nat) (f : Nat → Nat → Nat) (hi : Nat) (w : World) (r : RdM w hi v R n f) :
    Calls Try.prog 37 #[v] w fun e w' => ∃ b : Bool, e = .returned (.bool b) ∧ (b = true ↔ ∀ i, i < R → n i = n 0) ∧ Below w.heap.size w w' := by
  obtain ⟨ao, cap, e, rfl, hm, hc, he⟩ := r
  unfold maxLen at hm
  go_enter Try.func37, Try.ntmps37
  go_wp2
  go_loopw [3, 6] (fun _ i wr => ∃ k : Nat, k ≤ R ∧ i = .int .i64 k ∧ (∀ i, i < k → n i = n 0) ∧ ∃ m, wr = w.drewN m) (fun _ i _ => R - (intOf i).toNat)
  case atStart => exact ⟨0, Nat.zero_le _, rfl, fun i hi => by omega, 0, rfl⟩
  case round =>
    obtain ⟨k, hk, rfl, hall, m, rfl⟩ := hrel
    by_cases hlt : k < R
    · obtain ⟨b, off, rfl, hblt, hcell⟩ := hc (by omega)
      have hck : w.cell? ⟨b, off + k, none⟩ = some (e k) := hcell k hlt
      have hc0 : w.cell? ⟨b, off, none⟩ = some (e 0) := hcell 0 (by omega)
      obtain ⟨aok, capk, hsk, hmk, hqk⟩ := he k hlt
      obtain ⟨ao0, cap0, hs0, hm0, hq0⟩ := he 0 (by omega)
      unfold maxLen at hmk hm0
      rw [hsk] at hck
      rw [hs0] at hc0
      have HALL : Hid (∀ i, i < k → n i = n 0) := hall
      clear hc hcell he hsk hs0 hqk hq0 hall
      obtain ⟨nk, hnk⟩ : ∃ x, x = n k := ⟨_, rfl⟩
      obtain ⟨n0, hn0⟩ : ∃ x, x = n 0 := ⟨_, rfl⟩
      have HK : Hid (nk = n k) := hnk
      have H0 : Hid (n0 = n 0) := hn0
      rw [← hnk] at hck hmk
      rw [← hn0] at hc0 hm0
      clear hnk hn0
      by_cases heq : nk = n0
      · subst heq
        go_wp2
        go_quiet (fail)
        go_wp2
        go_roundw
        case rel => exact ⟨k + 1, by omega, by go_num, fun i hi => by
                      by_cases c : i = k
                      · rw [c, ← HK.out, ← H0.out]
                      · exact HALL.out i (by omega), _, rfl⟩
        case measure => simp [intOf]; omega
      · have ht : ((nk : Int) != (n0 : Int)) = true := by simp; omega
        go_wp2
        go_quiet (fail)
        go_wp2
        go_ret
        exact ⟨false, rfl, ⟨fun h => (by cases h), fun h => absurd (h k hlt) (by rw [← HK.out, ← H0.out]; exact heq)⟩, below_drewN (below_drewN (Below.refl _ _) _) _⟩
    · have hkn : k = R := by omega
      subst hkn
      go_wp2
      go_ret
      exact ⟨true, rfl, ⟨fun _ => hall, fun _ => rfl⟩, below_drewN (Below.refl _ _) _⟩
end Go.Proofs.Ytoadjpacchhleah
