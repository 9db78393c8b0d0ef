/- What came in as a struct of numbers (a Shape), and as a string. -/
import Derived.Test.YtgpglgchbimmaaaFrame
import Derived.Test.YtgpglgchbimmaaaShapeV
import Derived.ChangeSame
import Derived.ChangeMaps5
namespace Go.Proofs.Ytgpglgchbimmaaa
open Go.ChangeShapes Go.WideShapes Go.ChangeAt Go.RowKit

set_option maxRecDepth 20000 in
/-- a struct of nine numbers, one cell each, that came in -/
theorem shape_of_trod {fs : Array Field} {H : Type} {enc : TypeId × Value → H} {W : World} {r : Reach} {b0 : Nat} {v : Value} {d : DataW H} {ps : List MemPlace} {t e : TypeId}
    (hu : Try.prog.underlying t = some (.struct fs)) (he : Try.prog.underlying e = some (.int .i64)) (hc : Try.prog.cellsOf t = 9) (he1 : Try.prog.cellsOf e = 1)
    (hf : ∀ i, i < 9 → ∃ f, fs[i]? = some f ∧ f.type = e ∧ f.offset = i)
    (hval : Value.okWide Try.prog W r b0 t v) (h : DataW.Trod enc Try.prog W 0 (fun _ => true) true t v d ps) :
    ∃ s : Nat → Int, v = shapeV s ∧ ∀ i, -9223372036854775808 ≤ s i ∧ s i ≤ 9223372036854775807 := by
  obtain ⟨cs, rfl, hsz⟩ := okWide_struct hu hval
  rw [hc] at hsz
  obtain ⟨fuel, hfu⟩ := h
  have hfu' : DataW.trod enc Try.prog W 0 (fun _ => true) true fuel t cs.toList = some (d, ps) := hfu
  obtain ⟨xs, n, _, _, hl, hlen, hget⟩ := DataW.trod_struct hu hfu'
  have each : ∀ i, i < 9 → ∃ a : Int, cs[i]? = some (.int .i64 a) ∧ (-9223372036854775808 ≤ a ∧ a ≤ 9223372036854775807) := fun i hi => by
    obtain ⟨f, h1, h2, h3⟩ := hf i hi
    have hg := hget i f h1
    have hfs : i < fs.size := by
      have := Array.getElem?_eq_some_iff.1 h1
      exact this.1
    have hx : ∃ y, xs[i]? = some y := ⟨xs[i]'(by omega), List.getElem?_eq_getElem _⟩
    obtain ⟨y, hy⟩ := hx
    rw [hy, h2, h3, he1] at hg
    obtain ⟨a, ha, _, hw⟩ := DataW.trod_int he hg
    refine ⟨a, ?_, bounds_i64 hw⟩
    have h5 : ((cs.toList.drop i).take 1)[0]? = some (.int .i64 a) := by rw [ha]; rfl
    rw [List.getElem?_take, if_pos (by omega), List.getElem?_drop] at h5
    simpa using h5
  obtain ⟨s, hs⟩ : ∃ s : Nat → Int, s = fun i => match cs[i]? with | some (.int .i64 a) => a | _ => 0 := ⟨_, rfl⟩
  have hsi : ∀ i, i < 9 → cs[i]? = some (.int .i64 (s i)) := fun i hi => by
    obtain ⟨a, ha, _⟩ := each i hi
    rw [hs]
    simp only [ha]
  refine ⟨fun i => if i < 9 then s i else 0, ?_, fun i => ?_⟩
  · unfold shapeV
    congr 1
    apply Array.ext'
    apply List.ext_getElem?
    intro i
    by_cases hi : i < 9
    · have h1 := hsi i hi
      have : i = 0 ∨ i = 1 ∨ i = 2 ∨ i = 3 ∨ i = 4 ∨ i = 5 ∨ i = 6 ∨ i = 7 ∨ i = 8 := by omega
      rw [Array.getElem?_toList, h1]
      rcases this with rfl | rfl | rfl | rfl | rfl | rfl | rfl | rfl | rfl <;> rfl
    · rw [List.getElem?_eq_none (by simp; omega), List.getElem?_eq_none (by simp; omega)]
  · show -9223372036854775808 ≤ (if i < 9 then s i else 0) ∧ (if i < 9 then s i else 0) ≤ 9223372036854775807
    by_cases hi : i < 9
    · rw [if_pos hi]
      obtain ⟨a, ha, hb⟩ := each i hi
      have h1 := hsi i hi
      rw [ha] at h1
      simp at h1
      rw [← h1]
      exact hb
    · rw [if_neg hi]; omega
end Go.Proofs.Ytgpglgchbimmaaa
