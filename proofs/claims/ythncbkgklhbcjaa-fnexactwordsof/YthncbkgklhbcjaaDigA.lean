/- Bytes out of a text of base 16: what is told, and the walk of the specification's l14Digit and BytesOfHex. -/
import Derived.Test.YthncbkgklhbcjaaWBytes
namespace Go.Proofs.Ythncbkgklhbcjaa
open Go.RowKit F256
set_option linter.unusedVariables false
set_option linter.unusedSimpArgs false

/-- the bytes of a text -/
def strB (b : ByteArray) (i : Nat) : Nat := if h : i < b.size then (b[i]'h).toNat else 0
theorem strB_lt (b : ByteArray) (i : Nat) : strB b i < 256 := by
  unfold strB
  split
  · exact UInt8.toNat_lt _
  · omega
theorem strB_at (b : ByteArray) (i : Nat) (h : i < b.size) : (b[i]'h).toNat = strB b i := by simp [strB, h]
theorem index_str (b : ByteArray) (i : Nat) (h : i < b.size) (w : World) : (Instr.index 9 (.string b) (.int .i64 (i : Int))).run Try.prog w = .ok (.int .u8 (strB b i)) w := by
  rw [run_index_string w 9 b .i64 (i : Int) Try.underlying9, dif_pos ⟨by omega, by omega⟩]
  simp [strB, h]
/-- the digit of base 16 that a byte is; 16: none -/
def dgt (y : Nat) : Nat := if 48 ≤ y ∧ y ≤ 57 then y - 48 else if 97 ≤ y ∧ y ≤ 102 then y - 87 else 16
theorem dgt_le (y : Nat) : dgt y ≤ 16 := by unfold dgt; split <;> (try split) <;> omega
def digI (y : Nat) : Int := if dgt y < 16 then (dgt y : Int) else -1
theorem digI_neg {y : Nat} (h : ¬ dgt y < 16) : digI y = -1 := if_neg h
theorem digI_pos {y : Nat} (h : dgt y < 16) : digI y = (dgt y : Int) := if_pos h
/-- the byte of two digits -/
def hexV (b : ByteArray) (i : Nat) : Nat := 16 * dgt (strB b (2 * i)) + dgt (strB b (2 * i + 1))
def AllD (b : ByteArray) (n : Nat) : Prop := ∀ i, i < n → dgt (strB b i) < 16

set_option maxHeartbeats 2000000 in
theorem l14Digit_any (y : Nat) (h : y < 256) (w : World) :
    Calls Try.prog 20 #[.int .u8 (y : Int)] w fun e w' => e = .returned (.int .i64 (digI y)) ∧ w' = w := by
  by_cases h1 : 48 ≤ y
  · have t1 : decide ((48 : Int) ≤ (y : Int)) = true := by simp; omega
    by_cases h2 : y ≤ 57
    · have t2 : decide ((y : Int) ≤ 57) = true := by simp; omega
      have e : digI y = (y : Int) - 48 := by
        have ed : dgt y = y - 48 := if_pos ⟨h1, h2⟩
        rw [digI_pos (by omega), ed]
        omega
      have ew : IntKind.u8.wrap ((y : Int) - 48) = (y : Int) - 48 := by rw [show IntKind.u8.wrap ((y : Int) - 48) = ((y : Int) - 48) % 256 from rfl]; omega
      have ew2 : IntKind.i64.wrap ((y : Int) - 48) = (y : Int) - 48 := by rw [IntKind.wrap_i64]; omega
      rw [e]
      clear e
      go_enter Try.func20, Try.ntmps20
      go_wp2
      go_ret
      exact ⟨rfl, rfl⟩
    · have t2 : decide ((y : Int) ≤ 57) = false := by simp; omega
      by_cases h3 : 97 ≤ y
      · have t3 : decide ((97 : Int) ≤ (y : Int)) = true := by simp; omega
        by_cases h4 : y ≤ 102
        · have t4 : decide ((y : Int) ≤ 102) = true := by simp; omega
          have e : digI y = (y : Int) - 97 + 10 := by
            have ed : dgt y = y - 87 := (if_neg (by omega)).trans (if_pos ⟨h3, h4⟩)
            rw [digI_pos (by omega), ed]
            omega
          have ew : IntKind.u8.wrap ((y : Int) - 97) = (y : Int) - 97 := by rw [show IntKind.u8.wrap ((y : Int) - 97) = ((y : Int) - 97) % 256 from rfl]; omega
          have ew2 : IntKind.i64.wrap ((y : Int) - 97) = (y : Int) - 97 := by rw [IntKind.wrap_i64]; omega
          rw [e]
          clear e
          go_enter Try.func20, Try.ntmps20
          go_wp2
          go_ret
          exact ⟨rfl, rfl⟩
        · have t4 : decide ((y : Int) ≤ 102) = false := by simp; omega
          rw [digI_neg (by unfold dgt; rw [if_neg (by omega), if_neg (by omega)]; omega)]
          go_enter Try.func20, Try.ntmps20
          go_wp2
          go_ret
          exact ⟨rfl, rfl⟩
      · have t3 : decide ((97 : Int) ≤ (y : Int)) = false := by simp; omega
        rw [digI_neg (by unfold dgt; rw [if_neg (by omega), if_neg (by omega)]; omega)]
        go_enter Try.func20, Try.ntmps20
        go_wp2
        go_ret
        exact ⟨rfl, rfl⟩
  · have t1 : decide ((48 : Int) ≤ (y : Int)) = false := by simp; omega
    have t3 : decide ((97 : Int) ≤ (y : Int)) = false := by simp; omega
    rw [digI_neg (by unfold dgt; rw [if_neg (by omega), if_neg (by omega)]; omega)]
    go_enter Try.func20, Try.ntmps20
    go_wp2
    go_ret
    exact ⟨rfl, rfl⟩
end Go.Proofs.Ythncbkgklhbcjaa
