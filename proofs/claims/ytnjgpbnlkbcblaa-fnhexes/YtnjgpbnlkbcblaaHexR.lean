/- What is written in base 16 is read back, and what is read is written so: pure. -/
import Derived.Test.YtnjgpbnlkbcblaaHexA
import Derived.Test.YtnjgpbnlkbcblaaDigA
namespace Go.Proofs.Ytnjgpbnlkbcblaa
open Go.RowKit F256
set_option linter.unusedVariables false
set_option linter.unusedSimpArgs false

theorem dgt_hexD : ∀ k : Nat, k < 16 → dgt (hexD k).toNat = k := by decide +kernel
theorem hexD_dgt : ∀ y : Nat, y < 256 → dgt y < 16 → (hexD (dgt y)).toNat = y := by decide +kernel
theorem hexL_even (f : Nat → Nat) : ∀ n i, i < n → (hexL f n)[2 * i]? = some (hexD (f i / 16))
  | 0, i, h => by omega
  | n + 1, i, h => by
    have hl := hexL_length f n
    show (hexL f n ++ [hexD (f n / 16), hexD (f n % 16)])[2 * i]? = _
    by_cases hi : i < n
    · rw [List.getElem?_append_left (by omega)]; exact hexL_even f n i hi
    · obtain rfl : i = n := by omega
      rw [List.getElem?_append_right (by omega), hl, Nat.sub_self]; rfl
theorem hexL_odd (f : Nat → Nat) : ∀ n i, i < n → (hexL f n)[2 * i + 1]? = some (hexD (f i % 16))
  | 0, i, h => by omega
  | n + 1, i, h => by
    have hl := hexL_length f n
    show (hexL f n ++ [hexD (f n / 16), hexD (f n % 16)])[2 * i + 1]? = _
    by_cases hi : i < n
    · rw [List.getElem?_append_left (by omega)]; exact hexL_odd f n i hi
    · obtain rfl : i = n := by omega
      rw [List.getElem?_append_right (by omega), hl, show 2 * i + 1 - 2 * i = 1 by omega]; rfl
theorem strB_hexS (f : Nat → Nat) (n j : Nat) (x : UInt8) (h : (hexL f n)[j]? = some x) : strB (hexS f n) j = x.toNat := by
  have hj : j < (hexL f n).length := by
    rw [List.getElem?_eq_some_iff] at h
    exact h.1
  have hs : j < (hexS f n).size := by rw [hexS_size, ← hexL_length f n]; exact hj
  rw [← strB_at _ _ hs]
  rw [List.getElem?_eq_getElem hj] at h
  have hx : (hexL f n)[j] = x := Option.some.inj h
  rw [← hx]
  rfl
theorem strB_even (f : Nat → Nat) (n i : Nat) (h : i < n) : strB (hexS f n) (2 * i) = (hexD (f i / 16)).toNat := strB_hexS f n _ _ (hexL_even f n i h)
theorem strB_odd (f : Nat → Nat) (n i : Nat) (h : i < n) : strB (hexS f n) (2 * i + 1) = (hexD (f i % 16)).toNat := strB_hexS f n _ _ (hexL_odd f n i h)
theorem hexV_hexS (f : Nat → Nat) (n i : Nat) (h : i < n) (hf : f i < 256) : hexV (hexS f n) i = f i := by
  unfold hexV
  rw [strB_even f n i h, strB_odd f n i h, dgt_hexD _ (by omega), dgt_hexD _ (by omega)]
  omega
theorem allD_hexS (f : Nat → Nat) (n : Nat) (hf : ∀ i, i < n → f i < 256) : AllD (hexS f n) (hexS f n).size := by
  intro j hj
  rw [hexS_size] at hj
  have hfj := hf (j / 2) (by omega)
  rcases Nat.mod_two_eq_zero_or_one j with h | h
  · have e : j = 2 * (j / 2) := by omega
    rw [e, strB_even f n _ (by omega), dgt_hexD _ (by omega)]
    omega
  · have e : j = 2 * (j / 2) + 1 := by omega
    rw [e, strB_odd f n _ (by omega), dgt_hexD _ (by omega)]
    omega
/-- what is read is written so -/
theorem hexS_hexV (b : ByteArray) (ho : b.size % 2 = 0) (hA : AllD b b.size) : hexS (hexV b) (b.size / 2) = b := by
  have hL : (hexL (hexV b) (b.size / 2)).length = b.size := by rw [hexL_length]; omega
  have hbs : b.data.size = b.size := rfl
  apply ByteArray.ext
  show (hexL (hexV b) (b.size / 2)).toArray = b.data
  apply Array.ext
  · simp [hL]
  · intro j h1 h2
    have hjl : j < b.size := by omega
    have hd := hA j hjl
    have hb : b.data[j].toNat = strB b j := strB_at b j hjl
    have key : (hexL (hexV b) (b.size / 2))[j]? = some (b.data[j]) := by
      have dl := dgt_le (strB b j)
      rcases Nat.mod_two_eq_zero_or_one j with h | h
      · have e : j = 2 * (j / 2) := by omega
        have hd2 := hA (2 * (j / 2) + 1) (by omega)
        have q : hexV b (j / 2) / 16 = dgt (strB b j) := by unfold hexV; rw [← e] at hd2 ⊢; omega
        have := hexL_even (hexV b) (b.size / 2) (j / 2) (by omega)
        rw [← e, q] at this
        rw [this]
        congr 1
        apply UInt8.toNat_inj.mp
        rw [hexD_dgt _ (strB_lt b j) hd, hb]
      · have e : j = 2 * (j / 2) + 1 := by omega
        have q : hexV b (j / 2) % 16 = dgt (strB b j) := by unfold hexV; rw [← e]; omega
        have := hexL_odd (hexV b) (b.size / 2) (j / 2) (by omega)
        rw [← e, q] at this
        rw [this]
        congr 1
        apply UInt8.toNat_inj.mp
        rw [hexD_dgt _ (strB_lt b j) hd, hb]
    have h3 : j < (hexL (hexV b) (b.size / 2)).length := by omega
    rw [List.getElem?_eq_getElem h3] at key
    simpa using key
end Go.Proofs.Ytnjgpbnlkbcblaa
