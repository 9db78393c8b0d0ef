/- Walks of the specification's l14Hex and HexOf. -/
import Derived.Test.YtjdhklhdhkfikaaWBytes
import Derived.Laws.Concat
namespace Go.Proofs.Ytjdhklhdhkfikaa
open Go.RowKit F256
set_option linter.unusedVariables false
set_option linter.unusedSimpArgs false

def hexArr : Array UInt8 := #[48, 49, 50, 51, 52, 53, 54, 55, 56, 57, 97, 98, 99, 100, 101, 102]
/-- the digit of base 16 -/
def hexD (k : Nat) : UInt8 := hexArr.getD k 0
/-- two digits a byte -/
def hexL (f : Nat → Nat) : Nat → List UInt8
  | 0 => []
  | n + 1 => hexL f n ++ [hexD (f n / 16), hexD (f n % 16)]
theorem hexL_length (f : Nat → Nat) : ∀ n, (hexL f n).length = 2 * n
  | 0 => rfl
  | n + 1 => by simp [hexL, hexL_length f n]; omega
def hexS (f : Nat → Nat) (n : Nat) : ByteArray := ⟨(hexL f n).toArray⟩
theorem hexS_succ (f : Nat → Nat) (n : Nat) : hexS f n ++ ⟨#[hexD (f n / 16)]⟩ ++ ⟨#[hexD (f n % 16)]⟩ = hexS f (n + 1) := by
  apply ByteArray.ext
  simp [hexS, hexL, ByteArray.data_append]
theorem hexS_size (f : Nat → Nat) (n : Nat) : (hexS f n).size = 2 * n := by
  show (hexL f n).toArray.size = 2 * n
  simp [hexL_length]

set_option maxHeartbeats 4000000 in
theorem l14Hex_any (y : Nat) (h : y < 16) (w : World) :
    Calls Try.prog 8 #[.int .u8 (y : Int)] w fun e w' => e = .returned (.string ⟨#[hexD y]⟩) ∧ w' = w := by
  have hh : y = 0 ∨ y = 1 ∨ y = 2 ∨ y = 3 ∨ y = 4 ∨ y = 5 ∨ y = 6 ∨ y = 7 ∨ y = 8 ∨ y = 9 ∨ y = 10 ∨ y = 11 ∨ y = 12 ∨ y = 13 ∨ y = 14 ∨ y = 15 := by omega
  rcases hh with rfl | rfl | rfl | rfl | rfl | rfl | rfl | rfl | rfl | rfl | rfl | rfl | rfl | rfl | rfl | rfl
  all_goals
    go_enter Try.func8, Try.ntmps8
    go_wp2
    go_ret
    exact ⟨rfl, rfl⟩

set_option maxHeartbeats 8000000 in
theorem specHex_any (v : Value) (n : Nat) (f : Nat → Nat) (hi : Nat) (w : World) (h : Rd w hi v n f) (hf : ∀ i, i < n → f i < 256) (hn : n ≤ 1048576) :
    Calls Try.prog 4 #[v] w fun e w' => e = .returned (.string (hexS f n)) ∧ Below w.heap.size w w' := by
  obtain ⟨ao, cap, rfl, hm, hc⟩ := h
  go_enter Try.func4, Try.ntmps4
  go_wp2
  go_loopw [3, 4] (fun s i wr => ∃ k : Nat, k ≤ n ∧ i = .int .i64 k ∧ s = .string (hexS f k) ∧ ∃ m, wr = w.drewN m) (fun s i wr => n - (intOf i).toNat)
  case atStart => exact ⟨0, Nat.zero_le _, rfl, rfl, 0, rfl⟩
  case round =>
    obtain ⟨k, hk, rfl, rfl, m, rfl⟩ := hrel
    by_cases hlt : k < n
    · obtain ⟨b, off, rfl, hblt, hcell⟩ := hc (by omega)
      have hck : w.cell? ⟨b, off + k, none⟩ = some (.int .u8 (f k)) := hcell k hlt
      have hfk := hf k hlt
      have hq : f k / 16 < 16 := by omega
      have hr : f k % 16 < 16 := by omega
      have hw1 : IntKind.u8.wrap ((f k : Int) / 16) = ((f k / 16 : Nat) : Int) := by rw [show IntKind.u8.wrap ((f k : Int) / 16) = ((f k : Int) / 16) % 256 from rfl]; omega
      have hw2 : IntKind.u8.wrap ((f k : Int) % 16) = ((f k % 16 : Nat) : Int) := by rw [show IntKind.u8.wrap ((f k : Int) % 16) = ((f k : Int) % 16) % 256 from rfl]; omega
      have C1 : ∀ w', Calls Try.prog 8 #[.int .u8 ((f k : Int) / 16)] w' fun e w'' => e = .returned (.string ⟨#[hexD (f k / 16)]⟩) ∧ w'' = w' := fun w' => by
        have := l14Hex_any (f k / 16) hq w'
        rw [show ((f k / 16 : Nat) : Int) = (f k : Int) / 16 by omega] at this
        exact this
      have C2 : ∀ w', Calls Try.prog 8 #[.int .u8 ((f k : Int) % 16)] w' fun e w'' => e = .returned (.string ⟨#[hexD (f k % 16)]⟩) ∧ w'' = w' := fun w' => by
        have := l14Hex_any (f k % 16) hr w'
        rw [show ((f k % 16 : Nat) : Int) = (f k : Int) % 16 by omega] at this
        exact this
      have e1 : ∀ x : UInt8, (⟨#[x]⟩ : ByteArray).size = 1 := fun _ => rfl
      have A1 := fun w' => run_string_add_sum (P := Try.prog) w' (hexS f k) ⟨#[hexD (f k / 16)]⟩ (by rw [hexS_size, e1]; omega)
      have A2 := fun w' => run_string_add_sum (P := Try.prog) w' (hexS f k ++ ⟨#[hexD (f k / 16)]⟩) ⟨#[hexD (f k % 16)]⟩ (by rw [ByteArray.size_append, hexS_size, e1, e1]; omega)
      rw [hexS_succ] at A2
      clear e1
      clear hc hcell hf
      go_wp2
      go_quiet (first
        | exact (C1 _).mono fun e w3 h3 => ⟨h3.1, _, h3.2⟩
        | exact (C2 _).mono fun e w3 h3 => ⟨h3.1, _, h3.2⟩)
      go_wp2
      go_roundw
      case rel => exact ⟨k + 1, by omega, by go_num, rfl, _, rfl⟩
      case measure => simp [intOf]; omega
    · have hkn : k = n := by omega
      subst hkn
      go_wp2
      go_ret
      exact ⟨rfl, below_drewN (Below.refl _ _) _⟩
end Go.Proofs.Ytjdhklhdhkfikaa
