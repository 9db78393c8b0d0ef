/- Walks of the laws' helpers over slices of slices of bytes: a copy, a comparison, a marking, a measure. -/
import Derived.Test.YtgpglgchbimmaaaOwnM
import Derived.Deep.RegionLaw
namespace Go.Proofs.Ytgpglgchbimmaaa
open Go.RowKit F256
set_option linter.unusedVariables false
set_option linter.unusedSimpArgs false

/-- a copy of rows on the way: the first k are made -/
structure Cpy (w wr : World) (R k : Nat) (n : Nat → Nat) (f : Nat → Nat → Nat) (e : Nat → Value) : Prop where
  row : wr.ownsRow w.heap.size 39 1 (.slice (some ⟨w.heap.size, 0, none⟩) R R) R (valsOf R fun i => if i < k then e i else nilS)
  each : ∀ i, i < k → Own wr (w.heap.size + 1) wr.heap.size (e i) (n i) (f i)
  apart : Apart w.heap.size k e
  bel : Below w.heap.size w wr
  lt : w.heap.size < wr.heap.size
theorem Cpy.next {w wr w2 : World} {R k : Nat} {n : Nat → Nat} {f : Nat → Nat → Nat} {e : Nat → Value} {ao : Option Addr} {cap : Nat} (h : Cpy w wr R k n f e) (hk : k < R) (hb : Below wr.heap.size wr w2) (ho : Own w2 wr.heap.size w2.heap.size (.slice ao (n k) cap) (n k) (f k)) :
    Cpy w (w2.setCell ⟨w.heap.size, k, none⟩ (.slice ao (n k) cap)) R (k + 1) n f (fun i => if i = k then .slice ao (n k) cap else e i) := by
  have l := h.lt
  have hr2 : w2.ownsRow w.heap.size 39 1 (.slice (some ⟨w.heap.size, 0, none⟩) R R) R (valsOf R fun i => if i < k then e i else nilS) :=
    row_kept h.row fun g hg => hb.block g (by simp [Value.ownBlock] at hg; omega)
  have hst := (hr2.stored k (.slice ao (n k) cap)).1
  rw [valsOf_set R _ (fun i => if i < k + 1 then (if i = k then .slice ao (n k) cap else e i) else nilS) k _ hk (fun i hi => by
    by_cases c : i = k
    · subst c; simp
    · by_cases c' : i < k
      · have c2 : i < k + 1 := by omega
        simp [c, c', c2]
      · have c2 : ¬ i < k + 1 := by omega
        simp [c, c', c2])] at hst
  have oth : ∀ g, w.heap.size + 1 ≤ g → (w2.setCell ⟨w.heap.size, k, none⟩ (.slice ao (n k) cap)).heap[g]? = w2.heap[g]? := fun g hg => heap_setCell_other w2 ⟨w.heap.size, k, none⟩ g _ (by show g ≠ w.heap.size; omega)
  have hsz : (w2.setCell ⟨w.heap.size, k, none⟩ (.slice ao (n k) cap)).heap.size = w2.heap.size := by simp
  have hs2 := hb.size
  refine ⟨hst, fun i hi => ?_, ⟨fun i hi => ?_, fun i j hi hj hij b hbi => ?_⟩, (h.bel.trans (hb.mono (by omega))).setCell (Nat.le_refl _) _, by rw [hsz]; omega⟩
  · by_cases c : i = k
    · subst c
      simp only [if_pos]
      exact (ho.kept fun g hg => oth g (by have := (ho.1.lt g hg).1; omega)).weaken (by omega) (Nat.le_of_eq hsz.symm)
    · simp only [if_neg c]
      have h1 := (h.each i (by omega)).below hb (Nat.le_refl _)
      exact (h1.kept fun g hg => oth g (h1.1.lt g hg).1).weaken (Nat.le_refl _) (by rw [hsz]; exact hs2)
  · by_cases c : i = k
    · subst c
      simp only [if_pos]
      intro hh
      have := (ho.1.lt _ hh).1
      omega
    · simp only [if_neg c]
      exact h.apart.1 i (by omega)
  · by_cases c : i = k
    · subst c
      simp only [if_pos] at hbi
      have c2 : ¬ j = i := fun x => hij x.symm
      simp only [if_neg c2]
      intro hh
      have h1 := (ho.1.lt _ hbi).1
      have h2 := (h.each j (by omega)).2 _ hh
      omega
    · simp only [if_neg c] at hbi
      by_cases c2 : j = k
      · subst c2
        simp only [if_pos]
        intro hh
        have h1 := (ho.1.lt _ hh).1
        have h2 := (h.each i (by omega)).2 _ hbi
        omega
      · simp only [if_neg c2]
        exact h.apart.2 i j (by omega) (by omega) hij b hbi
theorem Cpy.done {w wr : World} {R : Nat} {n : Nat → Nat} {f : Nat → Nat → Nat} {e : Nat → Value} (h : Cpy w wr R R n f e) : OwnM wr w.heap.size wr.heap.size (.slice (some ⟨w.heap.size, 0, none⟩) R R) R n f := by
  have hr := h.row
  rw [valsOf_eq (g := e) (fun i hi => by simp [hi])] at hr
  exact ⟨w.heap.size, R, e, rfl, Nat.le_refl _, h.lt, hr, fun i hi => (h.each i hi).weaken (by omega) (Nat.le_refl _), h.apart⟩

end Go.Proofs.Ytgpglgchbimmaaa
