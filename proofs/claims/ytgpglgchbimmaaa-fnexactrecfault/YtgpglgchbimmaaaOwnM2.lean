/- Rows of bytes that the call owns: a row changed in its place, a row replaced, two rows exchanged. -/
import Derived.Test.YtgpglgchbimmaaaOwnM
import Derived.Test.YtgpglgchbimmaaaGauss
namespace Go.Proofs.Ytgpglgchbimmaaa
open Go.RowKit F256
set_option linter.unusedVariables false

/-- the row i changed in its place -/
theorem OwnE.upd {w w' : World} {lo hi : Nat} {v : Value} {R C : Nat} {M M' : Mat} {g cap : Nat} {e : Nat → Value} (h : OwnE w lo hi v R (fun _ => C) M g cap e) (i : Nat) (hi' : i < R) (hc : Chg (tlo (e i) lo) (thi (e i) lo) w w')
    (ho : Own w' lo hi (e i) C (M' i)) (hM : ∀ j, j < R → j ≠ i → M' j = M j) : OwnE w' lo hi v R (fun _ => C) M' g cap e := by
  have hsz : ∀ b, w.heap[b]? ≠ none → b < w.heap.size := fun b hb => by
    cases hq : w.heap[b]? with
    | none => exact absurd hq hb
    | some o => exact (Array.getElem?_eq_some_iff.1 hq).1
  refine ⟨h.val, h.low, h.high, row_kept h.row fun k hk => ?_, fun j hj => ?_, h.apart⟩
  · have hlt := (h.row.lt k hk).2
    rw [h.val] at hk
    simp [Value.ownBlock] at hk
    subst hk
    exact hc.block g hlt (not_in_tight fun q hq hh => h.apart.1 i hi' (by rw [hq, hh]))
  · by_cases e1 : j = i
    · subst e1; exact ho
    · rw [hM j hj e1]
      refine (h.each j hj).kept fun k hk => ?_
      exact hc.block k ((h.each j hj).1.lt k hk).2 (not_in_tight fun q hq hh => h.apart.2 i j hi' hj (fun x => e1 x.symm) q hq (by rw [← hh]; exact hk))
/-- the row i replaced by a new slice -/
theorem OwnE.put {w w2 : World} {lo hi : Nat} {v : Value} {R C : Nat} {M M' : Mat} {g cap : Nat} {e : Nat → Value} {x : Value} (h : OwnE w lo hi v R (fun _ => C) M g cap e) (i : Nat) (hi' : i < R) (hb : Below w.heap.size w w2) (hhi : hi ≤ w.heap.size)
    (ho : Own w2 w.heap.size w2.heap.size x C (M' i)) (hM : ∀ j, j < R → j ≠ i → M' j = M j) : OwnE (w2.setCell ⟨g, i, none⟩ x) lo w2.heap.size v R (fun _ => C) M' g cap (fun j => if j = i then x else e j) := by
  have hg := h.high
  have h2 := h.below hb hhi
  have hr := h2.row
  rw [h.val] at hr
  have hst := (hr.stored i x).1
  rw [valsOf_set R e (fun j => if j = i then x else e j) i x hi' (fun j _ => rfl)] at hst
  have oth : ∀ b, b ≠ g → (w2.setCell ⟨g, i, none⟩ x).heap[b]? = w2.heap[b]? := fun b hbg => heap_setCell_other w2 ⟨g, i, none⟩ b _ hbg
  have hs := hb.size
  have new : ∀ k, x.ownBlock = some k → w.heap.size ≤ k := fun k hk => (ho.1.lt k hk).1
  refine ⟨h.val, h.low, by omega, by rw [h.val]; exact hst, fun j hj => ?_, ⟨fun j hj => ?_, fun j l hj hl hne k hk => ?_⟩⟩
  · by_cases c : j = i
    · subst c
      simp only [if_pos]
      exact (ho.kept fun k hk => oth k (by have := new k hk; omega)).weaken (by have := h.low; omega) (Nat.le_refl _)
    · simp only [if_neg c]
      rw [hM j hj c]
      have hj2 := h2.each j hj
      exact (hj2.kept fun k hk => oth k fun hkg => h.apart.1 j hj (by rw [hk, hkg])).weaken (Nat.le_refl _) (by omega)
  · by_cases c : j = i
    · simp only [if_pos c]
      intro hh
      have := new g hh
      omega
    · simp only [if_neg c]
      exact h.apart.1 j hj
  · have low : ∀ q, q < R → ∀ k, (e q).ownBlock = some k → k < w.heap.size := fun q hq k hk => by have := (h.each q hq).2 k hk; omega
    by_cases c : j = i
    · have c2 : ¬ l = i := fun z => hne (by rw [c, z])
      simp only [if_pos c] at hk
      simp only [if_neg c2]
      intro hh
      have h1 := new k hk
      have h3 := low l hl k hh
      omega
    · simp only [if_neg c] at hk
      by_cases c2 : l = i
      · simp only [if_pos c2]
        intro hh
        have h1 := new k hh
        have h3 := low j hj k hk
        omega
      · simp only [if_neg c2]
        exact h.apart.2 j l hj hl hne k hk
/-- the slices of the rows exchanged -/
theorem OwnE.move {w w2 : World} {lo hi : Nat} {v : Value} {R C : Nat} {M : Mat} {g cap : Nat} {e : Nat → Value} (h : OwnE w lo hi v R (fun _ => C) M g cap e) (r a : Nat) (hr' : r < R) (ha' : a < R) (hi2 : hi ≤ w.heap.size)
    (hw : w2.ownsRow lo 39 1 (.slice (some ⟨g, 0, none⟩) R cap) R (valsOf R fun j => if j = r then e a else if j = a then e r else e j)) (hk : ∀ b, b ≠ g → w2.heap[b]? = w.heap[b]?) :
    OwnE w2 lo hi v R (fun _ => C) (swapM M r a) g cap (fun j => if j = r then e a else if j = a then e r else e j) := by
  have each : ∀ j, j < R → Own w2 lo hi (e j) C (M j) := fun j hj => (h.each j hj).kept fun k hk' => hk k fun hkg => h.apart.1 j hj (by rw [hk', hkg])
  have sig : ∀ j, j < R → ∃ q, q < R ∧ (if j = r then e a else if j = a then e r else e j) = e q ∧ q = (if j = r then a else if j = a then r else j) := fun j hj => by
    by_cases c : j = r
    · exact ⟨a, ha', by simp [c], by simp [c]⟩
    · by_cases c2 : j = a
      · exact ⟨r, hr', by simp only [if_neg c, if_pos c2], by simp only [if_neg c, if_pos c2]⟩
      · exact ⟨j, hj, by simp only [if_neg c, if_neg c2], by simp only [if_neg c, if_neg c2]⟩
  refine ⟨h.val, h.low, h.high, by rw [h.val]; exact hw, fun j hj => ?_, ⟨fun j hj => ?_, fun j l hj hl hne k hk' => ?_⟩⟩
  · unfold swapM
    by_cases c : j = r
    · simp only [if_pos c]; exact each a ha'
    · by_cases c2 : j = a
      · simp only [if_neg c, if_pos c2]; exact each r hr'
      · simp only [if_neg c, if_neg c2]; exact each j hj
  · obtain ⟨q, hq, he, _⟩ := sig j hj
    show (if j = r then e a else if j = a then e r else e j).ownBlock ≠ some g
    rw [he]
    exact h.apart.1 q hq
  · obtain ⟨q, hq, he, hqe⟩ := sig j hj
    obtain ⟨p, hp, hpe, hpq⟩ := sig l hl
    have hk2 : (if j = r then e a else if j = a then e r else e j).ownBlock = some k := hk'
    rw [he] at hk2
    show (if l = r then e a else if l = a then e r else e l).ownBlock ≠ some k
    rw [hpe]
    refine h.apart.2 q p hq hp ?_ k hk2
    intro hqp
    rw [hqe, hpq] at hqp
    apply hne
    split at hqp
    · split at hqp
      · omega
      · split at hqp <;> omega
    · split at hqp
      · split at hqp
        · omega
        · split at hqp <;> omega
      · split at hqp
        · omega
        · split at hqp <;> omega
theorem OwnE.drewN {w : World} {lo hi : Nat} {v : Value} {R : Nat} {n : Nat → Nat} {M : Mat} {g cap : Nat} {e : Nat → Value} (h : OwnE w lo hi v R n M g cap e) (m : Nat) : OwnE (w.drewN m) lo hi v R n M g cap e := ⟨h.val, h.low, h.high, h.row, h.each, h.apart⟩
theorem OwnE.weaken {w : World} {lo hi hi' : Nat} {v : Value} {R : Nat} {n : Nat → Nat} {M : Mat} {g cap : Nat} {e : Nat → Value} (h : OwnE w lo hi v R n M g cap e) (h2 : hi ≤ hi') : OwnE w lo hi' v R n M g cap e :=
  ⟨h.val, h.low, Nat.lt_of_lt_of_le h.high h2, h.row, fun i hi => (h.each i hi).mono h2, h.apart⟩
theorem OwnE.frozen {w : World} {lo hi : Nat} {v : Value} {R : Nat} {n : Nat → Nat} {M : Mat} {g cap : Nat} {e : Nat → Value} (h : OwnE w lo hi v R n M g cap e) (i : Nat) : w.frozen? ⟨g, i, none⟩ = false := by
  have hr := h.row
  rw [h.val] at hr
  exact hr.frozenAt i
/-- two stores that exchange the rows r and a -/
theorem OwnE.swap {w : World} {lo hi : Nat} {v : Value} {R C : Nat} {M : Mat} {g cap : Nat} {e : Nat → Value} (h : OwnE w lo hi v R (fun _ => C) M g cap e) (r a : Nat) (hr : r < R) (ha : a < R) (hi2 : hi ≤ w.heap.size) :
    OwnE ((w.setCell ⟨g, r, none⟩ (e a)).setCell ⟨g, a, none⟩ (e r)) lo hi v R (fun _ => C) (swapM M r a) g cap (fun j => if j = r then e a else if j = a then e r else e j) := by
  have h0 := h.row
  rw [h.val] at h0
  have h1 := (h0.stored r (e a)).1
  have h2 := (h1.stored a (e r)).1
  have hset : ((valsOf R e).set r (e a)).set a (e r) = valsOf R fun j => if j = r then e a else if j = a then e r else e j := by
    rw [valsOf_set R e (fun j => if j = r then e a else e j) r (e a) hr (fun _ _ => rfl)]
    refine valsOf_set R _ _ a (e r) ha (fun j _ => ?_)
    by_cases c : j = r
    · by_cases c2 : j = a
      · have hra : r = a := by omega
        simp [c, hra]
      · have c3 : ¬ r = a := by omega
        simp [c, c3]
    · by_cases c2 : j = a
      · simp [c2]; intro hra; rw [hra]
      · simp [c, c2]
  rw [hset] at h2
  refine h.move r a hr ha hi2 h2 fun b hb => ?_
  exact (heap_setCell_other (w.setCell ⟨g, r, none⟩ (e a)) ⟨g, a, none⟩ b (e r) hb).trans (heap_setCell_other w ⟨g, r, none⟩ b (e a) hb)
/-- the row r moved to the place a, a new slice laid into its place -/
theorem OwnE.put2 {w w3 : World} {lo : Nat} {v : Value} {R C : Nat} {M M' : Mat} {g cap : Nat} {e : Nat → Value} {x : Value} (h : OwnE w lo w.heap.size v R (fun _ => C) M g cap e) (r a : Nat) (hr : r < R) (ha : a < R)
    (hb : Below w.heap.size (w.setCell ⟨g, a, none⟩ (e r)) w3) (ho : Own w3 w.heap.size w3.heap.size x C (M' r)) (hM : ∀ j, j < R → j ≠ r → M' j = swapM M r a j) :
    OwnE (w3.setCell ⟨g, r, none⟩ x) lo w3.heap.size v R (fun _ => C) M' g cap (fun j => if j = r then x else if j = a then e r else e j) := by
  have hg := h.high
  have hsz : w.heap.size ≤ w3.heap.size := by have := hb.size; simpa using this
  have h0 := h.row
  rw [h.val] at h0
  have h1 := (h0.stored a (e r)).1
  have h2 : w3.ownsRow lo 39 1 (.slice (some ⟨g, 0, none⟩) R cap) R ((valsOf R e).set a (e r)) := row_kept h1 fun k hk => hb.block k (by simp [Value.ownBlock] at hk; omega)
  have h3 := (h2.stored r x).1
  have hset : ((valsOf R e).set a (e r)).set r x = valsOf R fun j => if j = r then x else if j = a then e r else e j := by
    rw [valsOf_set R e (fun j => if j = a then e r else e j) a (e r) ha (fun _ _ => rfl)]
    exact valsOf_set R _ _ r x hr (fun j _ => rfl)
  rw [hset] at h3
  have oth : ∀ b, b < w.heap.size → b ≠ g → (w3.setCell ⟨g, r, none⟩ x).heap[b]? = w.heap[b]? := fun b hlt hbg => by
    rw [heap_setCell_other w3 ⟨g, r, none⟩ b _ hbg, hb.block b hlt]
    exact heap_setCell_other w ⟨g, a, none⟩ b _ hbg
  have new : ∀ k, x.ownBlock = some k → w.heap.size ≤ k := fun k hk => (ho.1.lt k hk).1
  have old : ∀ j, j < R → ∀ k, (e j).ownBlock = some k → k < w.heap.size := fun j hj k hk => (h.each j hj).2 k hk
  have each : ∀ j, j < R → Own (w3.setCell ⟨g, r, none⟩ x) lo w3.heap.size (e j) C (M j) := fun j hj =>
    ((h.each j hj).kept fun k hk => oth k (old j hj k hk) fun hkg => h.apart.1 j hj (by rw [hk, hkg])).weaken (Nat.le_refl _) hsz
  have sig : ∀ j, j < R → j ≠ r → ∃ q, q < R ∧ (if j = r then x else if j = a then e r else e j) = e q ∧ q = (if j = a then r else j) := fun j hj hne => by
    by_cases c2 : j = a
    · exact ⟨r, hr, by simp only [if_neg hne, if_pos c2], by simp only [if_pos c2]⟩
    · exact ⟨j, hj, by simp only [if_neg hne, if_neg c2], by simp only [if_neg c2]⟩
  refine ⟨h.val, h.low, by omega, by rw [h.val]; exact h3, fun j hj => ?_, ⟨fun j hj => ?_, fun j l hj hl hne k hk => ?_⟩⟩
  · by_cases c : j = r
    · subst c
      simp only [if_pos]
      exact (ho.kept fun k hk => heap_setCell_other w3 ⟨g, j, none⟩ k _ (by have := new k hk; show k ≠ g; omega)).weaken (by have := h.low; omega) (Nat.le_refl _)
    · rw [hM j hj c]
      unfold swapM
      by_cases c2 : j = a
      · simp only [if_neg c, if_pos c2]; exact each r hr
      · simp only [if_neg c, if_neg c2]; exact each j hj
  · by_cases c : j = r
    · simp only [if_pos c]
      intro hh
      have := new g hh
      omega
    · obtain ⟨q, hq, he, _⟩ := sig j hj c
      show (if j = r then x else if j = a then e r else e j).ownBlock ≠ some g
      rw [he]
      exact h.apart.1 q hq
  · have hk2 : (if j = r then x else if j = a then e r else e j).ownBlock = some k := hk
    show (if l = r then x else if l = a then e r else e l).ownBlock ≠ some k
    by_cases c : j = r
    · have c2 : ¬ l = r := fun z => hne (by rw [c, z])
      rw [if_pos c] at hk2
      obtain ⟨p, hp, hpe, _⟩ := sig l hl c2
      rw [hpe]
      intro hh
      have h5 := new k hk2
      have h6 := old p hp k hh
      omega
    · obtain ⟨q, hq, he, hqe⟩ := sig j hj c
      rw [he] at hk2
      by_cases c2 : l = r
      · rw [if_pos c2]
        intro hh
        have h5 := new k hh
        have h6 := old q hq k hk2
        omega
      · obtain ⟨p, hp, hpe, hpq⟩ := sig l hl c2
        rw [hpe]
        refine h.apart.2 q p hq hp ?_ k hk2
        intro hqp
        rw [hqe, hpq] at hqp
        apply hne
        split at hqp
        · split at hqp <;> omega
        · split at hqp <;> omega
end Go.Proofs.Ytgpglgchbimmaaa
