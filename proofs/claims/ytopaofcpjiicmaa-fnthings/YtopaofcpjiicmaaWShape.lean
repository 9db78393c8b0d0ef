/- Walks: the laws' toShape and the specification's ShapeFault. -/
import Derived.Test.YtopaofcpjiicmaaShapeV
import Derived.Test.YtopaofcpjiicmaaWColA
namespace Go.Proofs.Ytopaofcpjiicmaa
open Go.RowKit F256
set_option linter.unusedVariables false
set_option linter.unusedSimpArgs false

/-- a shape that has no fault -/
def OkShape (s : Nat → Int) : Prop := Shp3 (s 0) (s 1) ∧ Shp (s 2) (s 3) ∧ (1 ≤ s 4 ∧ s 4 ≤ 6) ∧ (1 ≤ s 5 ∧ s 5 ≤ 6) ∧ (1 ≤ s 6 ∧ s 6 ≤ 4) ∧ (1 ≤ s 7 ∧ s 7 ≤ 6) ∧ (0 ≤ s 8 ∧ s 8 ≤ 400)
def ShFAns (s : Nat → Int) (x : Int) : Prop := (x = 3 ∧ ¬ OkShape s) ∨ (x = 0 ∧ OkShape s)
theorem ShFAns.one {s : Nat → Int} {x y : Int} (h : ShFAns s x) (k : ShFAns s y) : x = y := by
  rcases h with ⟨rfl, h⟩ | ⟨rfl, h⟩ <;> rcases k with ⟨rfl, k⟩ | ⟨rfl, k⟩ <;> first | rfl | exact absurd h k | exact absurd k h
theorem box9 {w : World} {b : Nat} {t : TypeId} {a0 a1 a2 a3 a4 a5 a6 a7 a8 : Value} (h : Box w b #[a0, a1, a2, a3, a4, a5, a6, a7, a8] t) :
    w.cell? ⟨b, 0, none⟩ = some a0 ∧ w.cell? ⟨b, 1, none⟩ = some a1 ∧ w.cell? ⟨b, 2, none⟩ = some a2 ∧ w.cell? ⟨b, 3, none⟩ = some a3 ∧ w.cell? ⟨b, 4, none⟩ = some a4 ∧ w.cell? ⟨b, 5, none⟩ = some a5 ∧ w.cell? ⟨b, 6, none⟩ = some a6 ∧ w.cell? ⟨b, 7, none⟩ = some a7 ∧ w.cell? ⟨b, 8, none⟩ = some a8 :=
  ⟨h.cell 0, h.cell 1, h.cell 2, h.cell 3, h.cell 4, h.cell 5, h.cell 6, h.cell 7, h.cell 8⟩

end Go.Proofs.Ytopaofcpjiicmaa
