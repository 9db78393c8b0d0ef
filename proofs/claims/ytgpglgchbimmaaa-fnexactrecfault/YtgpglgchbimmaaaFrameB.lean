/- What came in, read as bytes. -/
import Derived.Test.YtgpglgchbimmaaaFrame
import Derived.Test.YtgpglgchbimmaaaOwn
namespace Go.Proofs.Ytgpglgchbimmaaa
open Go.ChangeShapes Go.WideShapes Go.ChangeAt Go.RowKit F256

theorem add_none (b off j : Nat) : (⟨b, off, none⟩ : Addr).add j = ⟨b, off + j, none⟩ := by unfold Addr.add; split <;> simp_all

/-- what came in can be read -/
theorem IsRow.rd {w : World} {a : Option Addr} {len cap : Nat} {zs : List Int} (h : IsRow w a len cap zs) : ∃ f : Nat → Nat, (∀ i, f i < 256) ∧ Rd w w.heap.size (.slice a len cap) len f := by
  rcases h with ⟨rfl, rfl, rfl, rfl⟩ | ⟨x, rfl, hl, hm, hz, hcell, hwz⟩
  · exact ⟨fun _ => 0, fun _ => Nat.zero_lt_succ _, none, 0, rfl, Nat.zero_le _, fun h => absurd rfl h⟩
  · have hb : ∀ i, 0 ≤ zs.getD i 0 ∧ zs.getD i 0 ≤ 255 := fun i => by
      by_cases h : i < zs.length
      · have e : zs.getD i 0 = zs[i] := by simp [List.getD, h]
        rw [e]
        exact bounds_u8 (hwz _ (List.getElem_mem h))
      · have e : zs.getD i 0 = 0 := by simp [List.getD, h]
        rw [e]
        omega
    refine ⟨fun i => (zs.getD i 0).toNat, fun i => by have := hb i; show (zs.getD i 0).toNat < 256; omega, some x, cap, rfl, by omega, fun h0 => ?_⟩
    have h00 := hcell 0 (by omega)
    have hspot : (x.add 0).spot = none := World.cell?_spot h00
    obtain ⟨b, off, spot⟩ := x
    have hspot' : spot = none := by simpa [Addr.add] using hspot
    subst hspot'
    refine ⟨b, off, rfl, World.block_lt_of_cell? w _ h00, fun i hi => ?_⟩
    have hci := hcell i (by omega)
    have e : (((zs.getD i 0).toNat : Nat) : Int) = zs.getD i 0 := by have := hb i; omega
    rw [e, ← add_none]
    exact hci
end Go.Proofs.Ytgpglgchbimmaaa
