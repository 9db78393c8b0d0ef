/- Walk of the program's HexOf. -/
import Derived.Test.YtjdhklhdhkfikaaHexA
import Derived.Test.YtjdhklhdhkfikaaSbA
import Derived.Test.YtjdhklhdhkfikaaShelf
namespace Go.Proofs.Ytjdhklhdhkfikaa
open Go.RowKit F256
set_option linter.unusedVariables false
set_option linter.unusedSimpArgs false

def hexT : ByteArray := ⟨#[48, 49, 50, 51, 52, 53, 54, 55, 56, 57, 97, 98, 99, 100, 101, 102]⟩
theorem hexT_at (y : Nat) (h : y < 16) (hq : y < hexT.size) : hexT[y]'hq = hexD y := by
  have hh : y = 0 ∨ y = 1 ∨ y = 2 ∨ y = 3 ∨ y = 4 ∨ y = 5 ∨ y = 6 ∨ y = 7 ∨ y = 8 ∨ y = 9 ∨ y = 10 ∨ y = 11 ∨ y = 12 ∨ y = 13 ∨ y = 14 ∨ y = 15 := by omega
  rcases hh with rfl | rfl | rfl | rfl | rfl | rfl | rfl | rfl | rfl | rfl | rfl | rfl | rfl | rfl | rfl | rfl <;> rfl
theorem byteCells_snoc (l : List UInt8) (x : UInt8) : Lib.byteCells l ++ [.int .u8 (x.toNat : Int)] = Lib.byteCells (l ++ [x]) := by simp [Lib.byteCells]

set_option maxHeartbeats 8000000 in
theorem implHex_any (v : Value) (n : Nat) (f : Nat → Nat) (hi : Nat) (w : World) (h : Rd w hi v n f) (hhi : hi ≤ w.heap.size) (hf : ∀ i, i < n → f i < 256) (hn : n ≤ 1048576) :
    Calls Try.prog 6 #[v] w fun e w' => e = .returned (.string (hexS f n)) ∧ Below w.heap.size w w' := by
  have HR : Hid (Rd w hi v n f) := h
  obtain ⟨ao, cap, rfl, hm, hc⟩ := h
  clear hc
  go_enter Try.func6, Try.ntmps6
  go_wp2
  go_loopw [8] (fun i wr => ∃ k : Nat, k ≤ n ∧ i = .int .i64 k ∧ Lib.IsBuilder 30 5 w.heap.size w.heap.size (Lib.byteCells (hexL f k)) wr ∧ Below w.heap.size w wr) (fun i _ => n - (intOf i).toNat)
  case atStart => exact ⟨0, Nat.zero_le _, rfl, Lib.fresh_isBuilder _ _ _, (Below.refl _ _).alloc (Nat.le_refl _) _⟩
  case round =>
    obtain ⟨k, hk, rfl, hI, hB⟩ := hrel
    by_cases hlt : k < n
    · obtain ⟨ao', cap', e', _, hc⟩ := HR.out.below hB hhi
      cases e'
      obtain ⟨b, off, rfl, hblt, hcell⟩ := hc (by omega)
      have hck := hcell k hlt
      have hfk := hf k hlt
      have hq : f k / 16 < 16 := by omega
      have hr : f k % 16 < 16 := by omega
      have ew : ∀ x : UInt8, (Lib.byteCells (hexL f k ++ [x])).length = 2 * k + 1 := fun x => by simp [Lib.byteCells, hexL_length]
      have el : (Lib.byteCells (hexL f k)).length = 2 * k := by simp [Lib.byteCells, hexL_length]
      have HL : Hid (∀ x : UInt8, (Lib.byteCells (hexL f k ++ [x])).length = 2 * k + 1) := ew
      have HE : Hid ((Lib.byteCells (hexL f k)).length = 2 * k) := el
      clear ew el
      clear hc hcell hf
      go_wp2_with fail
      refine (sb_write _ _ _ _ _ hI (by rw [HE.out]; omega) hB.size).mono ?_
      rintro e w1 ⟨rfl, hI1, b1⟩
      have hI2 : Lib.IsBuilder 30 5 w.heap.size w.heap.size (Lib.byteCells (hexL f k ++ [hexD (f k / 16)])) w1 := by
        rw [← byteCells_snoc]
        refine .inr ?_
        have := hexT_at (f k / 16) hq (by show f k / 16 < 16; omega)
        rw [← this]
        exact hI1
      clear hI1 hI
      go_wp2_with fail
      refine (sb_write _ _ _ _ _ hI2 (by rw [HL.out]; omega) (hB.trans b1).size).mono ?_
      rintro e w2 ⟨rfl, hI3, b2⟩
      have hI4 : Lib.IsBuilder 30 5 w.heap.size w.heap.size (Lib.byteCells (hexL f (k + 1))) w2 := by
        have e5 : hexL f (k + 1) = (hexL f k ++ [hexD (f k / 16)]) ++ [hexD (f k % 16)] := by simp [hexL]
        rw [e5, ← byteCells_snoc]
        refine .inr ?_
        have := hexT_at (f k % 16) hr (by show f k % 16 < 16; omega)
        rw [← this]
        exact hI3
      clear hI3 hI2
      go_wp2
      go_roundw
      case rel => exact ⟨k + 1, by omega, by go_num, hI4, (hB.trans b1).trans b2⟩
      case measure => simp [intOf]; omega
    · have hkn : k = n := by omega
      subst hkn
      go_wp2_with fail
      refine (shBuilder_String_any _ _ _ _ hI (hB.size)).mono ?_
      rintro e w1 ⟨rfl, b1⟩
      go_wp2
      go_ret
      exact ⟨rfl, hB.trans b1⟩
end Go.Proofs.Ytjdhklhdhkfikaa
