/- Which code is asked first where a group must be on: walks of rowFault, onFault, l7Where. -/
import Derived.Test.YthdknhjaohhfiaaGreatZPlayreas
import Derived.Test.YthdknhjaohhfiaaGreatZPlayreaj
import Derived.Test.YthdknhjaohhfiaaGreatZPlayreal
import Derived.Deep.DeepCutAuto
namespace Go.Proofs.YthdknhjaohhfiaaGreat
open Go.RowKit F256
set_option linter.unusedVariables false
set_option linter.unusedSimpArgs false
/-- a group and a row of it -/
def WhP (s : Nat → Int) (g r : Int) : Prop := InP g 0 (s 0 + s 1 - 1) ∧ InP r 0 (s 4 - 1)
def WhereAns (d : WorldD) (g r x : Int) : Prop := (x ≠ 0 ∧ AskAns d x) ∨ (AskAns d 0 ∧ ((¬ WhP d.shape g r ∧ x = 3) ∨ (WhP d.shape g r ∧ ((¬ HasP d.on.1 d.on.2 g ∧ x = 8) ∨ (HasP d.on.1 d.on.2 g ∧ x = 0)))))
theorem WhereAns.one {d : WorldD} {g r x y : Int} (h : WhereAns d g r x) (l : WhereAns d g r y) : x = y := by
  rcases h with ⟨h1, h2⟩ | ⟨h1, h⟩ <;> rcases l with ⟨k1, k2⟩ | ⟨k1, l⟩
  · exact h2.one k2
  · exact absurd (h2.one k1) h1
  · exact absurd (k2.one h1) k1
  · rcases h with ⟨h2, rfl⟩ | ⟨h2, h⟩ <;> rcases l with ⟨k2, rfl⟩ | ⟨k2, l⟩
    · rfl
    · exact absurd k2 h2
    · exact absurd h2 k2
    · rcases h with ⟨h3, rfl⟩ | ⟨h3, rfl⟩ <;> rcases l with ⟨k3, rfl⟩ | ⟨k3, rfl⟩
      · rfl
      · exact absurd k3 h3
      · exact absurd h3 k3
      · rfl
end Go.Proofs.YthdknhjaohhfiaaGreat

namespace Go.Proofs.YthdknhjaohhfiaaGreat
open Go.RowKit F256
theorem ask_ex (d : WorldD) : ∃ x, AskAns d x := by
  obtain ⟨x, hx⟩ := world_ex d
  by_cases h : x = 0
  · subst h
    cases hd : d.down with
    | true => exact ⟨9, .inr ⟨hx, .inl ⟨hd, rfl⟩⟩⟩
    | false => exact ⟨0, .inr ⟨hx, .inr ⟨hd, rfl⟩⟩⟩
  · exact ⟨x, .inl ⟨h, hx⟩⟩
end Go.Proofs.YthdknhjaohhfiaaGreat
