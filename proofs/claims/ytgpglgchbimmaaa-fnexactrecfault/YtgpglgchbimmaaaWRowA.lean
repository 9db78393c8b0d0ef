/- Walks of the small functions of the specification's chapter 2: shapes, whole blocks, sameness, how a place comes of the data places. -/
import Derived.Test.YtgpglgchbimmaaaWCauchy
import Derived.Test.YtgpglgchbimmaaaWMix
import Derived.Test.YtgpglgchbimmaaaWBld
import Derived.Test.YtgpglgchbimmaaaGaussT
import Derived.Deep.DeepCutAuto
namespace Go.Proofs.Ytgpglgchbimmaaa
open Go.RowKit F256
set_option linter.unusedVariables false
set_option linter.unusedSimpArgs false

/-- it tells whether P, and changes nothing -/
def BoolP (P : Prop) (w : World) (e : Ending) (w' : World) : Prop := ∃ b : Bool, e = .returned (.bool b) ∧ (b = true ↔ P) ∧ Below w.heap.size w w'
theorem boolYes {P : Prop} {w : World} {e : Ending} {w' : World} (he : e = .returned (.bool true)) (h : P) (hb : Below w.heap.size w w') : BoolP P w e w' := ⟨true, he, ⟨fun _ => h, fun _ => rfl⟩, hb⟩
theorem boolNo {P : Prop} {w : World} {e : Ending} {w' : World} (he : e = .returned (.bool false)) (h : ¬ P) (hb : Below w.heap.size w w') : BoolP P w e w' := ⟨false, he, ⟨fun h => (by cases h), fun hh => absurd hh h⟩, hb⟩
/-- a shape: 1 to 3 data places, 0 to 2 spare ones -/
def Shp (d s : Int) : Prop := 1 ≤ d ∧ d ≤ 3 ∧ 0 ≤ s ∧ s ≤ 2
theorem l2Shape_any (d s : Int) (w : World) :
    Calls Try.prog 55 #[.int .i64 d, .int .i64 s] w (BoolP (Shp d s) w) := by
  by_cases h1 : 1 ≤ d ∧ d ≤ 3
  · by_cases h2 : 0 ≤ s ∧ s ≤ 2
    · go_enter Try.func55, Try.ntmps55
      go_wp2_with fail
      refine (l1In_yes d 1 3 h1.1 h1.2 _).mono ?_
      rintro e w1 ⟨rfl, rfl⟩
      go_wp2_with fail
      refine (l1In_yes s 0 2 h2.1 h2.2 _).mono ?_
      rintro e w1 ⟨rfl, rfl⟩
      go_wp2
      go_ret
      exact boolYes rfl ⟨h1.1, h1.2, h2.1, h2.2⟩ (Below.refl _ _)
    · go_enter Try.func55, Try.ntmps55
      go_wp2_with fail
      refine (l1In_yes d 1 3 h1.1 h1.2 _).mono ?_
      rintro e w1 ⟨rfl, rfl⟩
      go_wp2_with fail
      refine (l1In_no s 0 2 (by omega) _).mono ?_
      rintro e w1 ⟨rfl, rfl⟩
      go_wp2
      go_ret
      exact boolNo rfl (fun h => h2 ⟨h.2.2.1, h.2.2.2⟩) (Below.refl _ _)
  · go_enter Try.func55, Try.ntmps55
    go_wp2_with fail
    refine (l1In_no d 1 3 (by omega) _).mono ?_
    rintro e w1 ⟨rfl, rfl⟩
    go_wp2
    go_ret
    exact boolNo rfl (fun h => h1 ⟨h.1, h.2.1⟩) (Below.refl _ _)

def WholeP (R : Nat) (n : Nat → Nat) (N : Int) : Prop := (∀ i, i < R → n i = 4) ∧ (R : Int) = N
def SameP (n m : Nat) (f g : Nat → Nat) : Prop := n = m ∧ ∀ i, i < n → f i = g i
end Go.Proofs.Ytgpglgchbimmaaa
