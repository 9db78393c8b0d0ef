/- Walks of the measure of what came in, and of the program's look whether rows are equally long. -/
import Derived.Test.YtdnankopblkblakOwnM
import Derived.BigQuiet
import Derived.Deep.QuietTactic
namespace Go.Proofs.Ytdnankopblkblak
open Go.RowKit F256
set_option linter.unusedVariables false
set_option linter.unusedSimpArgs false

theorem szByteS_yes (v : Value) (n : Nat) (f : Nat → Nat) (hi : Nat) (L : Int) (hL : L ≤ 1048576) (h : (n : Int) ≤ L) (w : World) (r : Rd w hi v n f) :
    Calls Try.prog 43 #[v, .int .i64 L] w fun e w' => e = .returned (.int .i64 (L - n)) ∧ w' = w := by
  obtain ⟨ao, cap, rfl, hm, hc⟩ := r
  clear hc
  go_enter Try.func43, Try.ntmps43
  go_wp2
  go_ret
  exact ⟨rfl, rfl⟩
theorem szByteS_no (v : Value) (n : Nat) (f : Nat → Nat) (hi : Nat) (L : Int) (hL0 : 0 ≤ L) (hL : L ≤ 1048576) (h : L < (n : Int)) (w : World) (r : Rd w hi v n f) :
    Calls Try.prog 43 #[v, .int .i64 L] w fun e w' => e = .returned (.int .i64 (-1)) ∧ w' = w := by
  obtain ⟨ao, cap, rfl, hm, hc⟩ := r
  clear hc
  unfold maxLen at hm
  go_enter Try.func43, Try.ntmps43
  go_wp2
  go_ret
  exact ⟨rfl, rfl⟩

set_option maxHeartbeats 1000000 in
theorem szByteSS_any (v : Value) (R : Nat) (n : Nat → Nat) (f : Nat → Nat → Nat) (hi : Nat) (w : World) (r : RdM w hi v R n f) (L0 : Nat) (hL0 : L0 ≤ 1048576) :
    Calls Try.prog 22 #[v, .int .i64 L0] w fun e w' => ∃ x : Int, e = .returned (.int .i64 x) ∧ (x = -1 ∨ (R + sumN n R ≤ L0 ∧ x = L0 - R - sumN n R)) ∧ w' = w := by
  obtain ⟨ao, cap, e, rfl, hm, hc, he⟩ := r
  unfold maxLen at hm
  by_cases hR : L0 < R
  · clear hc he
    go_enter Try.func22, Try.ntmps22
    go_wp2
    go_ret
    exact ⟨-1, rfl, .inl rfl, rfl⟩
  go_enter Try.func22, Try.ntmps22
  go_wp2
  go_loop [1, 5] (fun x i => ∃ k : Nat, k ≤ R ∧ i = .int .i64 k ∧ R + sumN n k ≤ L0 ∧ x = .int .i64 ((L0 : Int) - (R : Int) - (sumN n k : Int))) (fun _ i => R - (intOf i).toNat)
  case atStart => exact ⟨0, Nat.zero_le _, rfl, by simp [sumN]; omega, val_eq (by simp [sumN])⟩
  case round =>
    obtain ⟨k, hk, rfl, hsum, rfl⟩ := hrel
    by_cases hlt : k < R
    · obtain ⟨b, off, rfl, hblt, hcell⟩ := hc (by omega)
      have hck : w.cell? ⟨b, off + k, none⟩ = some (e k) := hcell k hlt
      have hrk := he k hlt
      have hs1 : sumN n (k + 1) = sumN n k + n k := rfl
      by_cases hfit : R + sumN n (k + 1) ≤ L0
      · have C := szByteS_yes (e k) (n k) (f k) hi ((L0 : Int) - (R : Int) - (sumN n k : Int)) (by omega) (by omega) w hrk
        obtain ⟨x, hx⟩ : ∃ x, x = e k := ⟨_, rfl⟩
        rw [← hx] at hck C
        clear hc hcell he hrk hx
        have HS : Hid (sumN n (k + 1) = sumN n k + n k) := hs1
        clear hs1
        have hf2 : R + (sumN n k + n k) ≤ L0 := by rw [← HS.out]; exact hfit
        clear hfit
        go_wp2_with (go_at_call 43; refine C.mono ?_; rintro ee w2 ⟨rfl, hw2⟩; obtain rfl := hw2.symm)
        go_round
        case rel => exact ⟨k + 1, by omega, by go_num, by rw [HS.out]; exact hf2, val_eq (by rw [HS.out]; omega)⟩
        case measure => simp [intOf]; omega
      · have C := szByteS_no (e k) (n k) (f k) hi ((L0 : Int) - (R : Int) - (sumN n k : Int)) (by omega) (by omega) (by omega) w hrk
        obtain ⟨x, hx⟩ : ∃ x, x = e k := ⟨_, rfl⟩
        rw [← hx] at hck C
        clear hc hcell he hrk hx hs1 hfit
        go_wp2_with (go_at_call 43; refine C.mono ?_; rintro ee w2 ⟨rfl, hw2⟩; obtain rfl := hw2.symm)
        go_ret
        exact ⟨-1, rfl, .inl rfl, rfl⟩
    · have hkn : k = R := by omega
      subst hkn
      have HS : Hid (k + sumN n k ≤ L0) := hsum
      clear hsum
      go_wp2
      go_ret
      exact ⟨_, rfl, .inr ⟨HS.out, rfl⟩, rfl⟩

end Go.Proofs.Ytdnankopblkblak
