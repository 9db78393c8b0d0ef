/- Walks of the specification's EncodeRow, RowFits and ShiftRow. -/
import Derived.Test.YtoadjpacchhleaiWRowB
import Derived.Test.YtoadjpacchhleaiWOwnB
namespace Go.Proofs.Ytoadjpacchhleai
open Go.RowKit F256
set_option linter.unusedVariables false
set_option linter.unusedSimpArgs false

/-- the answers of EncodeRow to n bytes -/
def EncAns (d s : Int) (n : Nat) (x : Int) : Prop := (x = 3 ∧ ¬ Shp d s) ∨ (x = 1 ∧ Shp d s ∧ (n : Int) ≠ d * 4) ∨ (x = 0 ∧ Shp d s ∧ (n : Int) = d * 4)
theorem EncAns.one {d s : Int} {n : Nat} {x y : Int} (h : EncAns d s n x) (k : EncAns d s n y) : x = y := by
  rcases h with ⟨rfl, h⟩ | ⟨rfl, h, h2⟩ | ⟨rfl, h, h2⟩ <;> rcases k with ⟨rfl, k⟩ | ⟨rfl, k, k2⟩ | ⟨rfl, k, k2⟩
  · rfl
  · exact absurd k h
  · exact absurd k h
  · exact absurd h k
  · rfl
  · exact absurd k2 h2
  · exact absurd h k
  · exact absurd h2 k2
  · rfl
theorem enc_ans (d s : Int) (n : Nat) : ∃ x, EncAns d s n x := by
  by_cases h : Shp d s
  · by_cases h2 : (n : Int) = d * 4
    · exact ⟨0, .inr (.inr ⟨rfl, h, h2⟩)⟩
    · exact ⟨1, .inr (.inl ⟨rfl, h, h2⟩)⟩
  · exact ⟨3, .inl ⟨rfl, h⟩⟩

theorem shp_rows {d s : Int} {n : Nat} {c : Int} (h : EncAns d s n c) : (if c = 0 then (d + s).toNat else 0) ≤ 5 := by
  split
  · rename_i h0
    rcases h with ⟨h1, _⟩ | ⟨h1, _⟩ | ⟨_, hs, _⟩
    · omega
    · omega
    · obtain ⟨_, h2, _, h4⟩ := hs
      omega
  · omega
theorem sum4_le (m : Nat) (h : m ≤ 5) : sumN (fun _ => 4) m ≤ 100000 := by
  have : ∀ k, sumN (fun _ => 4) k = 4 * k := fun k => by
    induction k with
    | zero => rfl
    | succ k ih => rw [sumN, ih]; omega
  rw [this]
  omega

end Go.Proofs.Ytoadjpacchhleai
