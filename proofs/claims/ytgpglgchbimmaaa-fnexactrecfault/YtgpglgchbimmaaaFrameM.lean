/- What came in, read as rows of bytes. -/
import Derived.Test.YtgpglgchbimmaaaFrameB
import Derived.Test.YtgpglgchbimmaaaOwnM
import Derived.Deep.Matrix
namespace Go.Proofs.Ytgpglgchbimmaaa
open Go.ChangeShapes Go.WideShapes Go.ChangeAt Go.RowKit Go.Deep F256

theorem rowsM_of_trod {t e q : TypeId} {H : Type} {enc : TypeId × Value → H} {W : World} {a : Option Addr} {len cap : Nat} {d : DataW H} {ps : List MemPlace}
    (hu : Try.prog.underlying t = some (.slice e)) (he : Try.prog.underlying e = some (.slice q)) (hq : Try.prog.underlying q = some (.int .u8)) (ce : Try.prog.cellsOf e = 1) (cq : Try.prog.cellsOf q = 1)
    (h : DataW.Trod enc Try.prog W 0 (fun _ => true) true t (.slice a len cap) d ps) : ∃ (n : Nat → Nat) (f : Nat → Nat → Nat), (∀ i j, f i j < 256) ∧ RdM W W.heap.size (.slice a len cap) len n f := by
  obtain ⟨fuel, hf⟩ := h
  rcases open_int_rows hu he hq ce cq hf with ⟨hcs, _⟩ | ⟨x, l, c, A, L, C, Z, hcs, _, hl, hm, _, hrows⟩
  · simp [Value.cells] at hcs
    obtain ⟨rfl, rfl, rfl⟩ := hcs
    exact ⟨fun _ => 0, fun _ _ => 0, fun _ _ => Nat.zero_lt_succ _, none, 0, fun _ => nilS, rfl, Nat.zero_le _, fun h => absurd rfl h, fun i hi => absurd hi (Nat.not_lt_zero i)⟩
  · simp [Value.cells] at hcs
    obtain ⟨rfl, rfl, rfl⟩ := hcs
    have each : ∀ i, i < len → IsRow W (A i) (L i) (C i) (Z i) := fun i hi => by
      obtain ⟨h1, h2, h3, h4, h5, h6, h7⟩ := hrows i (by omega)
      cases hA : A i with
      | none =>
        have hC := h6 hA
        exact .inl ⟨rfl, by omega, hC, List.eq_nil_of_length_eq_zero (by omega)⟩
      | some a' => exact .inr ⟨a', rfl, h2, h3, h4, fun c hc => (h7 a' hA).2 c (by omega), h5⟩
    have pick : ∀ i, ∃ g : Nat → Nat, (∀ j, g j < 256) ∧ (i < len → Rd W W.heap.size (.slice (A i) (L i) (C i)) (L i) g) := fun i => by
      by_cases hi : i < len
      · obtain ⟨g, hg, hr⟩ := (each i hi).rd
        exact ⟨g, hg, fun _ => hr⟩
      · exact ⟨fun _ => 0, fun _ => Nat.zero_lt_succ _, fun h => absurd h hi⟩
    refine ⟨L, fun i => (pick i).choose, fun i j => (pick i).choose_spec.1 j, some x, cap, fun i => .slice (A i) (L i) (C i), rfl, by omega, fun h0 => ?_, fun i hi => (pick i).choose_spec.2 hi⟩
    have h00 := (hrows 0 (by omega)).1
    have hspot : (x.add 0).spot = none := World.cell?_spot h00
    obtain ⟨b, off, spot⟩ := x
    have hspot' : spot = none := by simpa [Addr.add] using hspot
    subst hspot'
    refine ⟨b, off, rfl, World.block_lt_of_cell? W _ h00, fun i hi => ?_⟩
    rw [← add_none]
    exact (hrows i (by omega)).1
theorem le_sumN (n : Nat → Nat) {i R : Nat} (h : i < R) : n i ≤ sumN n R := by
  have := sumN_mono n (show i + 1 ≤ R from h)
  simp only [sumN] at this
  omega
end Go.Proofs.Ytgpglgchbimmaaa
