/- strings.IndexRune at a rune beyond ASCII, over the digits of base 16: it is not there. -/
import Derived.Test.YtnjgpbnlkbcblaaHexB
import Derived.Test.YtnjgpbnlkbcblaaDigA
import Derived.Lib.OthersKept
namespace Go.Proofs.Ytnjgpbnlkbcblaa
open Go.RowKit F256
set_option linter.unusedVariables false
set_option linter.unusedSimpArgs false

theorem hexT_size : hexT.size = 16 := rfl
theorem hexD_ascii (y : Nat) (h : y < 16) : (hexD y).toNat < 128 := by
  have hh : y = 0 ∨ y = 1 ∨ y = 2 ∨ y = 3 ∨ y = 4 ∨ y = 5 ∨ y = 6 ∨ y = 7 ∨ y = 8 ∨ y = 9 ∨ y = 10 ∨ y = 11 ∨ y = 12 ∨ y = 13 ∨ y = 14 ∨ y = 15 := by omega
  rcases hh with rfl | rfl | rfl | rfl | rfl | rfl | rfl | rfl | rfl | rfl | rfl | rfl | rfl | rfl | rfl | rfl <;> decide
theorem hexT_ascii (y : Nat) (hq : y < hexT.size) : (hexT[y]'hq).toNat < 128 := by
  rw [hexT_at y (by rw [hexT_size] at hq; exact hq) hq]
  exact hexD_ascii y (by rw [hexT_size] at hq; exact hq)

set_option maxHeartbeats 8000000 in
set_option maxRecDepth 100000 in
theorem rune_error (w : World) :
    Calls Try.prog 14 #[.string hexT, .int .i32 65533] w fun e w' => e = .returned (.int .i64 (-1)) ∧ Below w.heap.size w w' := by
  go_enter Try.func14, Try.ntmps14
  go_wp2
  go_loopw [5] (fun x wr => ∃ k : Nat, k ≤ 16 ∧ wr = w.iter hexT k) (fun x wr => 16 - wr.iterPos w.heap.size)
  case atStart => exact ⟨0, by omega, rfl⟩
  case round =>
    obtain ⟨k, hk, rfl⟩ := hrel
    by_cases hlt : k < 16
    · have hl : k < hexT.size := by rw [hexT_size]; exact hlt
      have hnx := fun ty => run_next_ascii (P := Try.prog) w hexT k ty hl (hexT_ascii k hl)
      have hne := hexT_ascii k hl
      obtain ⟨y, hy⟩ : ∃ y, y = (hexT[k]'hl).toNat := ⟨_, rfl⟩
      rw [← hy] at hnx hne
      have hd : decide ((y : Int) = 65533) = false := by simp; omega
      clear hy
      go_wp2
      go_roundw
      case rel => exact ⟨k + 1, by omega, rfl⟩
      case measure => simp; omega
    · have hk2 : k = 16 := by omega
      subst hk2
      have hnx := fun ty => run_next_end (P := Try.prog) w hexT 16 ty (by rw [hexT_size]; omega)
      go_wp2
      go_ret
      exact ⟨rfl, (Below.refl _ _).alloc (Nat.le_refl _) _⟩

set_option maxHeartbeats 8000000 in
set_option maxRecDepth 100000 in
theorem rune_bad (r : Int) (h : 128 ≤ r) (hne : ¬ r = 65533) (hv : Lib.validRune r = false) (w : World) :
    Calls Try.prog 14 #[.string hexT, .int .i32 r] w fun e w' => e = .returned (.int .i64 (-1)) ∧ Below w.heap.size w w' := by
  have h0 : 0 ≤ r := by omega
  have h1 : ¬ r < 128 := by omega
  have C := shutf8_ValidRune r
  rw [hv] at C
  clear hv h
  go_enter Try.func14, Try.ntmps14
  go_wp2_with fail
  refine (C _).mono ?_
  rintro e w1 ⟨rfl, hw1⟩
  obtain rfl := hw1.symm
  go_wp2
  go_ret
  exact ⟨rfl, Below.refl _ _⟩

theorem valid_of {r : Nat} (hv : Lib.validRune (r : Int) = true) : Utf8.valid (r : Int) = true := by
  unfold Lib.validRune at hv
  unfold Utf8.valid
  simp at hv ⊢
  omega
theorem enc_high (r : Nat) (h : 128 ≤ r) (hv : Lib.validRune (r : Int) = true) : ∃ n, 1 ≤ n ∧ n ≤ 3 ∧ (Utf8.encode (r : Int)).size = n + 1 ∧ 128 ≤ strB (Utf8.encode (r : Int)) n := by
  have hv2 := valid_of hv
  have e : ((r : Int)).toNat = r := by omega
  have hl : ∀ x, x < 64 → (UInt8.ofNat (128 + x)).toNat = 128 + x := fun x hx => by simp; omega
  have hm := hl (r % 64) (by omega)
  unfold Utf8.encode
  simp only [hv2, if_true, e]
  rw [if_neg (by omega)]
  split
  · refine ⟨1, by omega, by omega, rfl, ?_⟩
    rw [← strB_at _ 1 (by show 1 < 2; omega)]
    show 128 ≤ (UInt8.ofNat (128 + r % 64)).toNat
    omega
  · split
    · refine ⟨2, by omega, by omega, rfl, ?_⟩
      rw [← strB_at _ 2 (by show 2 < 3; omega)]
      show 128 ≤ (UInt8.ofNat (128 + r % 64)).toNat
      omega
    · refine ⟨3, by omega, by omega, rfl, ?_⟩
      rw [← strB_at _ 3 (by show 3 < 4; omega)]
      show 128 ≤ (UInt8.ofNat (128 + r % 64)).toNat
      omega
theorem indexByte_not : ∀ (l : List UInt8) (c : UInt8), (∀ x ∈ l, x.toNat < 128) → 128 ≤ c.toNat → Lib.indexByte l c = -1
  | [], _, _, _ => rfl
  | b :: l, c, h, hc => by
    have hb := h b (by simp)
    have ih := indexByte_not l c (fun x hx => h x (by simp [hx])) hc
    have hne : (b == c) = false := by
      rw [beq_eq_false_iff_ne]
      intro e
      rw [e] at hb
      omega
    simp [Lib.indexByte, hne, ih]
end Go.Proofs.Ytnjgpbnlkbcblaa
