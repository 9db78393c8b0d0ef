/- Walks: the program's joined (a copy of two slices behind one another) and oneLonger. -/
import Derived.Test.YtgpglgchbimmaaaOwnM
import Derived.Laws.CopyOwn
namespace Go.Proofs.Ytgpglgchbimmaaa
open Go.RowKit F256
set_option linter.unusedVariables false
set_option linter.unusedSimpArgs false

theorem Own.full {w : World} {lo hi g n : Nat} {f : Nat → Nat} (h : Own w lo hi (.slice (some ⟨g, 0, none⟩) n n) n f) : w.heap[g]? = some (.cells (cellsOf n f).toArray 5 (0, 0)) := by
  rcases h.1.2 with ⟨h', _⟩ | ⟨g', cap', cur, h', _, hg, _, _, hcs, htake⟩
  · simp at h'
  · simp only [Value.slice.injEq, Option.some.injEq, Addr.mk.injEq, and_true, true_and] at h'
    obtain ⟨rfl, rfl⟩ := h'
    have : cur = (cellsOf n f).toArray := by
      rw [← htake, List.take_of_length_le (by simp; omega)]
    rw [← this]
    exact hg
theorem own_of_full {w : World} {lo g n : Nat} {f : Nat → Nat} (hg : w.heap[g]? = some (.cells (cellsOf n f).toArray 5 (0, 0))) (hlo : lo ≤ g) (hm : n ≤ maxLen) : Own w lo w.heap.size (.slice (some ⟨g, 0, none⟩) n n) n f :=
  ⟨⟨by rw [cellsOf_length]; omega, .inr ⟨g, n, _, rfl, hlo, hg, Nat.le_refl _, hm, by simp [cellsOf_length], by simp [List.take_of_length_le, cellsOf_length]⟩⟩, fun k hk => by
    simp [Value.ownBlock] at hk
    subst hk
    exact (Array.getElem?_eq_some_iff.1 hg).1⟩
theorem splice_cells (N off m : Nat) (f t h : Nat → Nat) (hm : off + m ≤ N) (hh : ∀ i, i < N → h i = if off ≤ i ∧ i < off + m then t (i - off) else f i) : splice (cellsOf N f) off (cellsOf m t) = cellsOf N h := by
  unfold splice
  apply List.ext_getElem?
  intro i
  by_cases hi : i < N
  · rw [cellsOf_get N h i hi, hh i hi]
    by_cases h1 : i < off
    · have e1 : ¬ (off ≤ i ∧ i < off + m) := by omega
      rw [if_neg e1, List.getElem?_append_left (by rw [List.length_take, cellsOf_length]; omega), List.getElem?_take, if_pos h1, cellsOf_get N f i hi]
    · rw [List.getElem?_append_right (by rw [List.length_take, cellsOf_length]; omega)]
      have e0 : (List.take off (cellsOf N f)).length = off := by rw [List.length_take, cellsOf_length]; omega
      rw [e0]
      by_cases h2 : i < off + m
      · rw [if_pos ⟨by omega, h2⟩, List.getElem?_append_left (by rw [cellsOf_length]; omega), cellsOf_get m t _ (by omega)]
      · have e1 : ¬ (off ≤ i ∧ i < off + m) := by omega
        rw [if_neg e1, List.getElem?_append_right (by rw [cellsOf_length]; omega), cellsOf_length, List.getElem?_drop, show off + m + (i - off - m) = i by omega, cellsOf_get N f i hi]
  · rw [List.getElem?_eq_none (by simp [cellsOf_length]; omega), List.getElem?_eq_none (by rw [cellsOf_length]; omega)]
theorem add_none' (b off j : Nat) : (⟨b, off, none⟩ : Addr).add j = ⟨b, off + j, none⟩ := by unfold Addr.add; split <;> simp_all

theorem copy_src {w : World} {hi n cap : Nat} {ao : Option Addr} {f : Nat → Nat} (r : Rd w hi (.slice ao n cap) n f) (h : 0 < (cellsOf n f).length) : ∃ ad, ao = some ad ∧ ∀ j v, (cellsOf n f)[j]? = some v → w.cell? (ad.add j) = some v := by
  rw [cellsOf_length] at h
  obtain ⟨ao', cap', he, _, hc⟩ := r
  simp only [Value.slice.injEq, true_and] at he
  obtain ⟨rfl, rfl⟩ := he
  obtain ⟨b, off, rfl, _, hcell⟩ := hc (by omega)
  refine ⟨_, rfl, fun j v hj => ?_⟩
  by_cases hjn : j < n
  · rw [cellsOf_get n f j hjn] at hj
    rw [add_none', hcell j hjn]
    exact hj
  · rw [List.getElem?_eq_none (by rw [cellsOf_length]; omega)] at hj
    cases hj
theorem cellsOf_one (n : Nat) (f : Nat → Nat) : ∀ v ∈ cellsOf n f, v.oneCell' = true := fun v hv => by
  simp only [cellsOf, List.mem_map] at hv
  obtain ⟨i, _, rfl⟩ := hv
  rfl
theorem size_u8 : (Try.prog.info? 5).map (·.size) = some 1 := by kernel_rfl

end Go.Proofs.Ytgpglgchbimmaaa
