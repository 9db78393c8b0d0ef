/- What came in, read as numbers. -/
import Derived.Test.YtgpglgchbimmaaaFrameB
import Derived.Test.YtgpglgchbimmaaaWInts
namespace Go.Proofs.Ytgpglgchbimmaaa
open Go.ChangeShapes Go.WideShapes Go.ChangeAt Go.RowKit F256

/-- a slice of numbers that came in -/
def IsRowI (w : World) (a : Option Addr) (len cap : Nat) (zs : List Int) : Prop :=
  (a = none ∧ len = 0 ∧ cap = 0 ∧ zs = []) ∨
  ∃ x, a = some x ∧ len ≤ cap ∧ cap ≤ maxLen ∧ zs.length = cap ∧ (∀ i, i < zs.length → w.cell? (x.add i) = some (.int .i64 (zs.getD i 0))) ∧ ∀ n ∈ zs, (Lit.int .i64 n).wf = true
theorem rowI_of_trod {t e : TypeId} {H : Type} {enc : TypeId × Value → H} {W : World} {a : Option Addr} {len cap : Nat} {d : DataW H} {ps : List MemPlace}
    (hu : Try.prog.underlying t = some (.slice e)) (he : Try.prog.underlying e = some (.int .i64)) (hc : Try.prog.cellsOf e = 1)
    (h : DataW.Trod enc Try.prog W 0 (fun _ => true) true t (.slice a len cap) d ps) : ∃ zs, IsRowI W a len cap zs := by
  obtain ⟨fuel, hf⟩ := h
  rcases open_ints hu he hc hf with ⟨hcs, _⟩ | ⟨x, l, c, zs, hcs, _, hl, hm, hz, _, hcell, hwz⟩
  · simp [Value.cells] at hcs
    obtain ⟨rfl, rfl, rfl⟩ := hcs
    exact ⟨[], .inl ⟨rfl, rfl, rfl, rfl⟩⟩
  · simp [Value.cells] at hcs
    obtain ⟨rfl, rfl, rfl⟩ := hcs
    exact ⟨zs, .inr ⟨_, rfl, hl, hm, by simpa using hz, hcell, hwz⟩⟩
theorem IsRowI.rd {w : World} {a : Option Addr} {len cap : Nat} {zs : List Int} (h : IsRowI w a len cap zs) : ∃ f : Nat → Int, (∀ i, -9223372036854775808 ≤ f i ∧ f i ≤ 9223372036854775807) ∧ RdI w w.heap.size (.slice a len cap) len f := by
  rcases h with ⟨rfl, rfl, rfl, rfl⟩ | ⟨x, rfl, hl, hm, hz, hcell, hwz⟩
  · exact ⟨fun _ => 0, fun _ => (by show -9223372036854775808 ≤ (0 : Int) ∧ (0 : Int) ≤ 9223372036854775807; omega), none, 0, rfl, Nat.zero_le _, fun h => absurd rfl h⟩
  · have hb : ∀ i, -9223372036854775808 ≤ zs.getD i 0 ∧ zs.getD i 0 ≤ 9223372036854775807 := fun i => by
      by_cases h : i < zs.length
      · have e : zs.getD i 0 = zs[i] := by simp [List.getD, h]
        rw [e]
        exact bounds_i64 (hwz _ (List.getElem_mem h))
      · have e : zs.getD i 0 = 0 := by simp [List.getD, h]
        rw [e]
        omega
    refine ⟨fun i => zs.getD i 0, hb, some x, cap, rfl, by omega, fun h0 => ?_⟩
    have h00 := hcell 0 (by omega)
    have hspot : (x.add 0).spot = none := World.cell?_spot h00
    obtain ⟨b, off, spot⟩ := x
    have hspot' : spot = none := by simpa [Addr.add] using hspot
    subst hspot'
    refine ⟨b, off, rfl, World.block_lt_of_cell? w _ h00, fun i hi => ?_⟩
    have hci := hcell i (by omega)
    rw [← add_none]
    exact hci
end Go.Proofs.Ytgpglgchbimmaaa
