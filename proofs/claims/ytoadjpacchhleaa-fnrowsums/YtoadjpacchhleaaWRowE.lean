/- Walk of the specification's ShiftRow. -/
import Derived.Test.YtoadjpacchhleaaWRowD
namespace Go.Proofs.Ytoadjpacchhleaa
open Go.RowKit F256
set_option linter.unusedVariables false
set_option linter.unusedSimpArgs false

/-- the answers of ShiftRow to R blocks and m bytes -/
def ShiftAns (d s : Int) (R : Nat) (n : Nat → Nat) (m : Nat) (x : Int) : Prop := (x = 3 ∧ ¬ Shp d s) ∨ (x = 1 ∧ Shp d s ∧ (¬ WholeP R n (d + s) ∨ (m : Int) ≠ d * 4)) ∨ (x = 0 ∧ Shp d s ∧ WholeP R n (d + s) ∧ (m : Int) = d * 4)
theorem ShiftAns.one {d s : Int} {R : Nat} {n : Nat → Nat} {m : Nat} {x y : Int} (h : ShiftAns d s R n m x) (k : ShiftAns d s R n m y) : x = y := by
  rcases h with ⟨rfl, h⟩ | ⟨rfl, h, h2⟩ | ⟨rfl, h, h2, h3⟩ <;> rcases k with ⟨rfl, k⟩ | ⟨rfl, k, k2⟩ | ⟨rfl, k, k2, k3⟩
  · rfl
  · exact absurd k h
  · exact absurd k h
  · exact absurd h k
  · rfl
  · rcases h2 with h2 | h2
    · exact absurd k2 h2
    · exact absurd k3 h2
  · exact absurd h k
  · rcases k2 with k2 | k2
    · exact absurd h2 k2
    · exact absurd h3 k2
  · rfl
theorem shift_ans (d s : Int) (R : Nat) (n : Nat → Nat) (m : Nat) : ∃ x, ShiftAns d s R n m x := by
  by_cases h : Shp d s
  · by_cases h2 : WholeP R n (d + s)
    · by_cases h3 : (m : Int) = d * 4
      · exact ⟨0, .inr (.inr ⟨rfl, h, h2, h3⟩)⟩
      · exact ⟨1, .inr (.inl ⟨rfl, h, .inr h3⟩)⟩
    · exact ⟨1, .inr (.inl ⟨rfl, h, .inl h2⟩)⟩
  · exact ⟨3, .inl ⟨rfl, h⟩⟩
/-- the shifted blocks -/
def shiftN (d : Nat) (f : Mat) (b : Nat → Nat) : Mat := fun i j => f i j ^^^ encN d b i j
theorem boolIs {P : Prop} {b : Bool} (h : b = true ↔ P) : (P → b = true) ∧ (¬ P → b = false) := ⟨h.mpr, fun hn => by cases b with | false => rfl | true => exact absurd (h.mp rfl) hn⟩

end Go.Proofs.Ytoadjpacchhleaa
