/- What came in, read as records and worlds. -/
import Derived.Test.YtgpglgchbimmaaaOpens
import Derived.Test.YtgpglgchbimmaaaWorldD
import Derived.Test.YtgpglgchbimmaaaFrameM
import Derived.Test.YtgpglgchbimmaaaFrameS
namespace Go.Proofs.Ytgpglgchbimmaaa
open Go.ChangeShapes Go.WideShapes Go.ChangeAt Go.RowKit Go.Deep
set_option linter.unusedVariables false
theorem opensRec : Opens layRec 41 :=
  opens_as (A := layI.two (layI.two (layS.two (layI.two (layI.two (layI.two (layInts.two (layBytes.two layBytes)))))))) (fun p => ⟨p.1, p.2.1, p.2.2.1, p.2.2.2.1, p.2.2.2.2.1, p.2.2.2.2.2.1, p.2.2.2.2.2.2.1, p.2.2.2.2.2.2.2.1, p.2.2.2.2.2.2.2.2⟩) (fun _ => rfl)
    (opens_struct Try.underlying41 (show _ = 9 by kernel_rfl)
      (opens_more ⟨_, rfl, rfl, rfl⟩ (opensI Try.underlying2 (by kernel_rfl))
      (opens_more ⟨_, rfl, rfl, rfl⟩ (opensI Try.underlying2 (by kernel_rfl))
      (opens_more ⟨_, rfl, rfl, rfl⟩ (opensS Try.underlying9 (by kernel_rfl))
      (opens_more ⟨_, rfl, rfl, rfl⟩ (opensI Try.underlying2 (by kernel_rfl))
      (opens_more ⟨_, rfl, rfl, rfl⟩ (opensI Try.underlying2 (by kernel_rfl))
      (opens_more ⟨_, rfl, rfl, rfl⟩ (opensI Try.underlying2 (by kernel_rfl))
      (opens_more ⟨_, rfl, rfl, rfl⟩ (opensInts Try.underlying25 Try.underlying2 (by kernel_rfl) (by kernel_rfl))
      (opens_more ⟨_, rfl, rfl, rfl⟩ (opensBytes Try.underlying39 Try.underlying5 (by kernel_rfl) (by kernel_rfl))
      (opens_last ⟨_, rfl, rfl, rfl⟩ (opensBytes Try.underlying39 Try.underlying5 (by kernel_rfl) (by kernel_rfl)) rfl))))))))))
set_option maxRecDepth 20000 in
/-- a struct that came in -/
theorem struct_of_trod {α : Type} {A : Lay α} {fs : Array Field} {H : Type} {enc : TypeId × Value → H} {W : World} {r : Reach} {b0 : Nat} {v : Value} {d : DataW H} {ps : List MemPlace} {t : TypeId}
    (hO : Opens A t) (hu : Try.prog.underlying t = some (.struct fs)) (hval : Value.okWide Try.prog W r b0 t v) (h : DataW.Trod enc Try.prog W 0 (fun _ => true) true t v d ps) :
    ∃ cs a, v = .agg cs.toArray ∧ A.rd W W.heap.size a cs := by
  obtain ⟨cs, rfl, hsz⟩ := okWide_struct hu hval
  obtain ⟨fuel, hfu⟩ := h
  have hfu' : DataW.trod enc Try.prog W 0 (fun _ => true) true fuel t cs.toList = some (d, ps) := hfu
  obtain ⟨a, ha⟩ := hO.opens hfu'
  exact ⟨cs.toList, a, by simp, ha⟩
end Go.Proofs.Ytgpglgchbimmaaa
