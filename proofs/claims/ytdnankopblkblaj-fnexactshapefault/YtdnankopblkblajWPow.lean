/- Walks of the two powers and inverses. -/
import Derived.Test.YtdnankopblkblajWMul
namespace Go.Proofs.Ytdnankopblkblaj
open Go.RowKit F256

set_option maxHeartbeats 400000 in
theorem specPow_nat (a n : Nat) (ha : a < 256) (hn : n ≤ 9223372036854775807) (w : World) :
    Calls Try.prog 80 #[.int .u8 a, .int .i64 n] w fun e w' => e = .returned (.int .u8 (powN a n)) ∧ w' = w := by
  by_cases h0 : n = 0
  · subst h0
    go_enter Try.func80, Try.ntmps80
    go_wp2
    go_loop [1, 5] (fun n o => n = .int .i64 0 ∧ o = .int .u8 1) (fun _ _ => 0)
    case atStart => exact ⟨rfl, rfl⟩
    case round =>
      obtain ⟨rfl, rfl⟩ := hrel
      go_wp2
      go_ret
      exact ⟨rfl, rfl⟩
  · have hpos : (0 : Int) < (n : Int) := by omega
    by_cases h1 : a = 0
    · subst h1
      go_enter Try.func80, Try.ntmps80
      go_wp2
      go_ret
      exact ⟨ret_eq (by rw [zero_powN (by omega)]; rfl), rfl⟩
    · have hne : ((a : Int) != 0) = true := by simp; omega
      have hne' : ((a : Int) == 0) = false := by simp; omega
      have hM : Hid (powN a (n % 255) = powN a n) := powN_mod ha h1 n
      have hm : n % 255 < 255 := Nat.mod_lt _ (by omega)
      go_enter Try.func80, Try.ntmps80
      go_wp2
      all_goals
        go_loop [1, 5] (fun i o => ∃ j k : Nat, j + k = n % 255 ∧ i = .int .i64 j ∧ o = .int .u8 (powN a k)) (fun i _ => (intOf i).toNat)
        case atStart => exact ⟨n % 255, 0, rfl, val_eq (by omega), rfl⟩
        case round =>
          obtain ⟨j, k, hjk, rfl, rfl⟩ := hrel
          have hl := powN_lt (a := a) k
          by_cases hj : j = 0
          · subst hj
            have HK : Hid (k = n % 255) := by rw [Nat.zero_add] at hjk; exact hjk
            clear hjk
            go_wp2
            go_ret
            exact ⟨ret_eq (by rw [← hM.out, ← HK.out]), rfl⟩
          · have hjp : (0 : Int) < (j : Int) := by omega
            have HK : Hid (j + k = n % 255) := hjk
            have hj2 : j ≤ 255 := by omega
            clear hjk
            go_wp2_with (go_at_call 74; refine (specMul_any _ _ hl ha _).mono ?_; rintro e w1 ⟨rfl, rfl⟩)
            go_round
            case rel => exact ⟨j - 1, k + 1, by have := HK.out; omega, val_eq (by omega), rfl⟩
            case measure => simp [intOf]; omega

theorem specPow_neg (a : Nat) (n : Int) (hn : n < 0) (w : World) :
    Calls Try.prog 80 #[.int .u8 a, .int .i64 n] w fun e w' => e = .returned (.int .u8 0) ∧ w' = w := by
  go_enter Try.func80, Try.ntmps80
  go_wp2
  go_ret
  exact ⟨rfl, rfl⟩

theorem implPow_neg (a : Nat) (n : Int) (hn : n < 0) (w : World) :
    Calls Try.prog 81 #[.int .u8 a, .int .i64 n] w fun e w' => e = .returned (.int .u8 0) ∧ Below w.heap.size w w' := by
  go_enter Try.func81, Try.ntmps81
  go_wp2
  go_ret
  exact ⟨rfl, Below.refl _ _⟩

theorem pow_odd {p x m v : Nat} (hp : p < 256) (hx : x < 256) (h : mulN p (powN x m) = v) (ho : m % 2 = 1) : mulN (mulN p x) (powN (mulN x x) (m / 2)) = v := by
  rw [powN_sq hx, mulN_assoc hp hx (powN_lt _), ← h]
  congr 1
  have e : m = 1 + 2 * (m / 2) := by omega
  conv => rhs; rw [e, powN_add hx]
  rw [show powN x 1 = x from one_mulN hx]
theorem pow_even {p x m v : Nat} (hx : x < 256) (h : mulN p (powN x m) = v) (ho : m % 2 = 0) : mulN p (powN (mulN x x) (m / 2)) = v := by
  rw [powN_sq hx, ← h]
  rw [show 2 * (m / 2) = m by omega]

set_option maxHeartbeats 400000 in
set_option maxRecDepth 20000 in
theorem implPow_nat (a n : Nat) (ha : a < 256) (hn : n ≤ 9223372036854775807) (w : World) :
    Calls Try.prog 81 #[.int .u8 a, .int .i64 n] w fun e w' => e = .returned (.int .u8 (powN a n)) ∧ Below w.heap.size w w' := by
  have h0 : ¬ (n : Int) < 0 := by omega
  go_enter Try.func81, Try.ntmps81
  go_wp2
  go_loopw [0, 1, 5] (fun x i o wr => ∃ p y m : Nat, p < 256 ∧ y < 256 ∧ m ≤ n ∧ x = .int .u8 y ∧ i = .int .i64 m ∧ o = .int .u8 p ∧ Hid (mulN p (powN y m) = powN a n) ∧ Below w.heap.size w wr) (fun _ i _ _ => (intOf i).toNat)
  case atStart => exact ⟨1, a, n, by omega, ha, Nat.le_refl _, rfl, rfl, rfl, one_mulN (powN_lt _), Below.refl _ _⟩
  case round =>
    obtain ⟨p, y, m, hp, hy, hm, rfl, rfl, rfl, HV, hbel⟩ := hrel
    by_cases hm0 : m = 0
    · subst hm0
      go_wp2
      go_ret
      exact ⟨ret_eq (by rw [← HV.out]; show (p : Int) = ((mulN p 1 : Nat) : Int); rw [mulN_one hp]), hbel⟩
    · have hpos : (0 : Int) < (m : Int) := by omega
      by_cases hod : m % 2 = 1
      · have ht : ((m : Int) % 2 == 1) = true := by simp; omega
        go_wp2_with (first | (go_at_call 83; first | (refine (implMul_any p y hp hy _).mono ?_; rintro e w1 ⟨rfl, hb1⟩) | (refine (implMul_any y y hy hy _).mono ?_; rintro e w2 ⟨rfl, hb2⟩)))
        go_roundw
        case rel => exact ⟨mulN p y, mulN y y, m / 2, mulN_lt hp, mulN_lt hy, by omega, rfl, val_eq (by omega), rfl, pow_odd hp hy HV.out hod, bthen (bthen hbel hb1) hb2⟩
        case measure => simp [intOf]; omega
      · have ht : ((m : Int) % 2 == 1) = false := by simp; omega
        go_wp2_with (go_at_call 83; refine (implMul_any y y hy hy _).mono ?_; rintro e w2 ⟨rfl, hb2⟩)
        go_roundw
        case rel => exact ⟨p, mulN y y, m / 2, hp, mulN_lt hy, by omega, rfl, val_eq (by omega), rfl, pow_even hy HV.out (by omega), bthen hbel hb2⟩
        case measure => simp [intOf]; omega

theorem specInv_any (a : Nat) (ha : a < 256) (w : World) :
    Calls Try.prog 72 #[.int .u8 a] w fun e w' => e = .returned (.int .u8 (powN a 254)) ∧ w' = w := by
  go_enter Try.func72, Try.ntmps72
  go_wp2_with (go_at_call 80; refine (specPow_nat a 254 ha (by omega) _).mono ?_; rintro e w1 ⟨rfl, rfl⟩)
  go_ret
  exact ⟨rfl, rfl⟩
theorem implInv_any (a : Nat) (ha : a < 256) (w : World) :
    Calls Try.prog 73 #[.int .u8 a] w fun e w' => e = .returned (.int .u8 (powN a 254)) ∧ Below w.heap.size w w' := by
  go_enter Try.func73, Try.ntmps73
  go_wp2_with (go_at_call 81; refine (implPow_nat a 254 ha (by omega) _).mono ?_; rintro e w1 ⟨rfl, hb⟩)
  go_ret
  exact ⟨rfl, hb⟩
end Go.Proofs.Ytdnankopblkblaj
