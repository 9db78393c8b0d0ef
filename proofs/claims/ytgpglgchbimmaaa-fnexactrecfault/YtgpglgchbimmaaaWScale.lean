/- Walks of scaled bytes: the specification's l1Scale and ScaleBytes, the program's addScaled, scaled and ScaleBytes. -/
import Derived.Test.YtgpglgchbimmaaaWMul
import Derived.Test.YtgpglgchbimmaaaWBytes
import Derived.Deep.RegionLaw
namespace Go.Proofs.Ytgpglgchbimmaaa
open Go.RowKit F256
set_option linter.unusedVariables false

theorem Chg.refl (lo hi : Nat) (w : World) : Chg lo hi w w := ⟨rfl, rfl, rfl, Nat.le_refl _, fun _ _ _ => rfl⟩
theorem Chg.drew {lo hi : Nat} {a w : World} (h : Chg lo hi a w) : Chg lo hi a w.drew := ⟨h.os, h.tape, h.output, h.size, h.block⟩

def tabV (c : Nat) : Array Value := #[.int .u8 (tabN c 0), .int .u8 (tabN c 1), .int .u8 (tabN c 2), .int .u8 (tabN c 3), .int .u8 (tabN c 4), .int .u8 (tabN c 5), .int .u8 (tabN c 6), .int .u8 (tabN c 7)]
theorem box8 {w : World} {b c : Nat} {t : TypeId} (h : Box w b (tabV c) t) :
    w.cell? ⟨b, 0, none⟩ = some (.int .u8 (tabN c 0)) ∧ w.cell? ⟨b, 1, none⟩ = some (.int .u8 (tabN c 1)) ∧ w.cell? ⟨b, 2, none⟩ = some (.int .u8 (tabN c 2)) ∧ w.cell? ⟨b, 3, none⟩ = some (.int .u8 (tabN c 3)) ∧
    w.cell? ⟨b, 4, none⟩ = some (.int .u8 (tabN c 4)) ∧ w.cell? ⟨b, 5, none⟩ = some (.int .u8 (tabN c 5)) ∧ w.cell? ⟨b, 6, none⟩ = some (.int .u8 (tabN c 6)) ∧ w.cell? ⟨b, 7, none⟩ = some (.int .u8 (tabN c 7)) :=
  ⟨h.cell 0, h.cell 1, h.cell 2, h.cell 3, h.cell 4, h.cell 5, h.cell 6, h.cell 7⟩

end Go.Proofs.Ytgpglgchbimmaaa
