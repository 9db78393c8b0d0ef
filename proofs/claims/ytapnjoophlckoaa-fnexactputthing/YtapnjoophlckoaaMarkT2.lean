/- Marks: what the walks of them lean on. -/
import Derived.Test.YtapnjoophlckoaaCells
namespace Go.Proofs.Ytapnjoophlckoaa
open Go.RowKit F256
theorem b3_eq (J : Nat) : ((J : Int) % 3 == 0) = decide (J % 3 = 0) := by
  by_cases h : J % 3 = 0
  · have : (J : Int) % 3 = 0 := by omega
    simp [h, this]
  · have : ¬ (J : Int) % 3 = 0 := by omega
    simp [h, this]
end Go.Proofs.Ytapnjoophlckoaa
