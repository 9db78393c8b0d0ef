/- Rows of bytes that the call owns: a row changed in its place, a row replaced, two rows exchanged. -/
import Derived.Test.YtbmfndjglndnlaaGreatOwnM
import Derived.Test.YtbmfndjglndnlaaGreatGauss
import Derived.Laws.CopyOwn
import Derived.Test.YtbmfndjglndnlaaGreatWCauchy
import Derived.Test.YtbmfndjglndnlaaGreatWMix
import Derived.Test.YtbmfndjglndnlaaGreatGaussT
import Derived.Deep.DeepCutAuto
import Derived.Test.YtbmfndjglndnlaaGreatWInts
import Derived.BigQuiet
import Derived.Deep.QuietTactic
import Derived.Test.YtbmfndjglndnlaaGreatGaussW
import Derived.Test.YtbmfndjglndnlaaGreatNth
import Derived.Test.YtbmfndjglndnlaaGreatWSz
import Derived.Test.YtbmfndjglndnlaaGreatShapeV
import Derived.Test.YtbmfndjglndnlaaGreatCells
import Derived.Test.YtbmfndjglndnlaaGreatProg
import Derived.Test.YtbmfndjglndnlaaGreatBits
import Derived.WalkLawsBesides
import Derived.Lib.QuietBelow
namespace Go.Proofs.YtbmfndjglndnlaaGreat
open Go.RowKit F256
set_option linter.unusedVariables false

/-- the row i changed in its place -/
theorem OwnE.upd {w w' : World} {lo hi : Nat} {v : Value} {R C : Nat} {M M' : Mat} {g cap : Nat} {e : Nat → Value} (h : OwnE w lo hi v R (fun _ => C) M g cap e) (i : Nat) (hi' : i < R) (hc : Chg (tlo (e i) lo) (thi (e i) lo) w w')
    (ho : Own w' lo hi (e i) C (M' i)) (hM : ∀ j, j < R → j ≠ i → M' j = M j) : OwnE w' lo hi v R (fun _ => C) M' g cap e := by
  have hsz : ∀ b, w.heap[b]? ≠ none → b < w.heap.size := fun b hb => by
    cases hq : w.heap[b]? with
    | none => exact absurd hq hb
    | some o => exact (Array.getElem?_eq_some_iff.1 hq).1
  refine ⟨h.val, h.low, h.high, row_kept h.row fun k hk => ?_, fun j hj => ?_, h.apart⟩
  · have hlt := (h.row.lt k hk).2
    rw [h.val] at hk
    simp [Value.ownBlock] at hk
    subst hk
    exact hc.block g hlt (not_in_tight fun q hq hh => h.apart.1 i hi' (by rw [hq, hh]))
  · by_cases e1 : j = i
    · subst e1; exact ho
    · rw [hM j hj e1]
      refine (h.each j hj).kept fun k hk => ?_
      exact hc.block k ((h.each j hj).1.lt k hk).2 (not_in_tight fun q hq hh => h.apart.2 i j hi' hj (fun x => e1 x.symm) q hq (by rw [← hh]; exact hk))
/-- the row i replaced by a new slice -/
theorem OwnE.put {w w2 : World} {lo hi : Nat} {v : Value} {R C : Nat} {M M' : Mat} {g cap : Nat} {e : Nat → Value} {x : Value} (h : OwnE w lo hi v R (fun _ => C) M g cap e) (i : Nat) (hi' : i < R) (hb : Below w.heap.size w w2) (hhi : hi ≤ w.heap.size)
    (ho : Own w2 w.heap.size w2.heap.size x C (M' i)) (hM : ∀ j, j < R → j ≠ i → M' j = M j) : OwnE (w2.setCell ⟨g, i, none⟩ x) lo w2.heap.size v R (fun _ => C) M' g cap (fun j => if j = i then x else e j) := by
  have hg := h.high
  have h2 := h.below hb hhi
  have hr := h2.row
  rw [h.val] at hr
  have hst := (hr.stored i x).1
  rw [valsOf_set R e (fun j => if j = i then x else e j) i x hi' (fun j _ => rfl)] at hst
  have oth : ∀ b, b ≠ g → (w2.setCell ⟨g, i, none⟩ x).heap[b]? = w2.heap[b]? := fun b hbg => heap_setCell_other w2 ⟨g, i, none⟩ b _ hbg
  have hs := hb.size
  have new : ∀ k, x.ownBlock = some k → w.heap.size ≤ k := fun k hk => (ho.1.lt k hk).1
  refine ⟨h.val, h.low, by omega, by rw [h.val]; exact hst, fun j hj => ?_, ⟨fun j hj => ?_, fun j l hj hl hne k hk => ?_⟩⟩
  · by_cases c : j = i
    · subst c
      simp only [if_pos]
      exact (ho.kept fun k hk => oth k (by have := new k hk; omega)).weaken (by have := h.low; omega) (Nat.le_refl _)
    · simp only [if_neg c]
      rw [hM j hj c]
      have hj2 := h2.each j hj
      exact (hj2.kept fun k hk => oth k fun hkg => h.apart.1 j hj (by rw [hk, hkg])).weaken (Nat.le_refl _) (by omega)
  · by_cases c : j = i
    · simp only [if_pos c]
      intro hh
      have := new g hh
      omega
    · simp only [if_neg c]
      exact h.apart.1 j hj
  · have low : ∀ q, q < R → ∀ k, (e q).ownBlock = some k → k < w.heap.size := fun q hq k hk => by have := (h.each q hq).2 k hk; omega
    by_cases c : j = i
    · have c2 : ¬ l = i := fun z => hne (by rw [c, z])
      simp only [if_pos c] at hk
      simp only [if_neg c2]
      intro hh
      have h1 := new k hk
      have h3 := low l hl k hh
      omega
    · simp only [if_neg c] at hk
      by_cases c2 : l = i
      · simp only [if_pos c2]
        intro hh
        have h1 := new k hh
        have h3 := low j hj k hk
        omega
      · simp only [if_neg c2]
        exact h.apart.2 j l hj hl hne k hk
/-- the slices of the rows exchanged -/
theorem OwnE.move {w w2 : World} {lo hi : Nat} {v : Value} {R C : Nat} {M : Mat} {g cap : Nat} {e : Nat → Value} (h : OwnE w lo hi v R (fun _ => C) M g cap e) (r a : Nat) (hr' : r < R) (ha' : a < R) (hi2 : hi ≤ w.heap.size)
    (hw : w2.ownsRow lo 44 1 (.slice (some ⟨g, 0, none⟩) R cap) R (valsOf R fun j => if j = r then e a else if j = a then e r else e j)) (hk : ∀ b, b ≠ g → w2.heap[b]? = w.heap[b]?) :
    OwnE w2 lo hi v R (fun _ => C) (swapM M r a) g cap (fun j => if j = r then e a else if j = a then e r else e j) := by
  have each : ∀ j, j < R → Own w2 lo hi (e j) C (M j) := fun j hj => (h.each j hj).kept fun k hk' => hk k fun hkg => h.apart.1 j hj (by rw [hk', hkg])
  have sig : ∀ j, j < R → ∃ q, q < R ∧ (if j = r then e a else if j = a then e r else e j) = e q ∧ q = (if j = r then a else if j = a then r else j) := fun j hj => by
    by_cases c : j = r
    · exact ⟨a, ha', by simp [c], by simp [c]⟩
    · by_cases c2 : j = a
      · exact ⟨r, hr', by simp only [if_neg c, if_pos c2], by simp only [if_neg c, if_pos c2]⟩
      · exact ⟨j, hj, by simp only [if_neg c, if_neg c2], by simp only [if_neg c, if_neg c2]⟩
  refine ⟨h.val, h.low, h.high, by rw [h.val]; exact hw, fun j hj => ?_, ⟨fun j hj => ?_, fun j l hj hl hne k hk' => ?_⟩⟩
  · unfold swapM
    by_cases c : j = r
    · simp only [if_pos c]; exact each a ha'
    · by_cases c2 : j = a
      · simp only [if_neg c, if_pos c2]; exact each r hr'
      · simp only [if_neg c, if_neg c2]; exact each j hj
  · obtain ⟨q, hq, he, _⟩ := sig j hj
    show (if j = r then e a else if j = a then e r else e j).ownBlock ≠ some g
    rw [he]
    exact h.apart.1 q hq
  · obtain ⟨q, hq, he, hqe⟩ := sig j hj
    obtain ⟨p, hp, hpe, hpq⟩ := sig l hl
    have hk2 : (if j = r then e a else if j = a then e r else e j).ownBlock = some k := hk'
    rw [he] at hk2
    show (if l = r then e a else if l = a then e r else e l).ownBlock ≠ some k
    rw [hpe]
    refine h.apart.2 q p hq hp ?_ k hk2
    intro hqp
    rw [hqe, hpq] at hqp
    apply hne
    split at hqp
    · split at hqp
      · omega
      · split at hqp <;> omega
    · split at hqp
      · split at hqp
        · omega
        · split at hqp <;> omega
      · split at hqp
        · omega
        · split at hqp <;> omega
theorem OwnE.drewN {w : World} {lo hi : Nat} {v : Value} {R : Nat} {n : Nat → Nat} {M : Mat} {g cap : Nat} {e : Nat → Value} (h : OwnE w lo hi v R n M g cap e) (m : Nat) : OwnE (w.drewN m) lo hi v R n M g cap e := ⟨h.val, h.low, h.high, h.row, h.each, h.apart⟩
theorem OwnE.weaken {w : World} {lo hi hi' : Nat} {v : Value} {R : Nat} {n : Nat → Nat} {M : Mat} {g cap : Nat} {e : Nat → Value} (h : OwnE w lo hi v R n M g cap e) (h2 : hi ≤ hi') : OwnE w lo hi' v R n M g cap e :=
  ⟨h.val, h.low, Nat.lt_of_lt_of_le h.high h2, h.row, fun i hi => (h.each i hi).mono h2, h.apart⟩
theorem OwnE.frozen {w : World} {lo hi : Nat} {v : Value} {R : Nat} {n : Nat → Nat} {M : Mat} {g cap : Nat} {e : Nat → Value} (h : OwnE w lo hi v R n M g cap e) (i : Nat) : w.frozen? ⟨g, i, none⟩ = false := by
  have hr := h.row
  rw [h.val] at hr
  exact hr.frozenAt i
/-- two stores that exchange the rows r and a -/
theorem OwnE.swap {w : World} {lo hi : Nat} {v : Value} {R C : Nat} {M : Mat} {g cap : Nat} {e : Nat → Value} (h : OwnE w lo hi v R (fun _ => C) M g cap e) (r a : Nat) (hr : r < R) (ha : a < R) (hi2 : hi ≤ w.heap.size) :
    OwnE ((w.setCell ⟨g, r, none⟩ (e a)).setCell ⟨g, a, none⟩ (e r)) lo hi v R (fun _ => C) (swapM M r a) g cap (fun j => if j = r then e a else if j = a then e r else e j) := by
  have h0 := h.row
  rw [h.val] at h0
  have h1 := (h0.stored r (e a)).1
  have h2 := (h1.stored a (e r)).1
  have hset : ((valsOf R e).set r (e a)).set a (e r) = valsOf R fun j => if j = r then e a else if j = a then e r else e j := by
    rw [valsOf_set R e (fun j => if j = r then e a else e j) r (e a) hr (fun _ _ => rfl)]
    refine valsOf_set R _ _ a (e r) ha (fun j _ => ?_)
    by_cases c : j = r
    · by_cases c2 : j = a
      · have hra : r = a := by omega
        simp [c, hra]
      · have c3 : ¬ r = a := by omega
        simp [c, c3]
    · by_cases c2 : j = a
      · simp [c2]; intro hra; rw [hra]
      · simp [c, c2]
  rw [hset] at h2
  refine h.move r a hr ha hi2 h2 fun b hb => ?_
  exact (heap_setCell_other (w.setCell ⟨g, r, none⟩ (e a)) ⟨g, a, none⟩ b (e r) hb).trans (heap_setCell_other w ⟨g, r, none⟩ b (e a) hb)
/-- the row r moved to the place a, a new slice laid into its place -/
theorem OwnE.put2 {w w3 : World} {lo : Nat} {v : Value} {R C : Nat} {M M' : Mat} {g cap : Nat} {e : Nat → Value} {x : Value} (h : OwnE w lo w.heap.size v R (fun _ => C) M g cap e) (r a : Nat) (hr : r < R) (ha : a < R)
    (hb : Below w.heap.size (w.setCell ⟨g, a, none⟩ (e r)) w3) (ho : Own w3 w.heap.size w3.heap.size x C (M' r)) (hM : ∀ j, j < R → j ≠ r → M' j = swapM M r a j) :
    OwnE (w3.setCell ⟨g, r, none⟩ x) lo w3.heap.size v R (fun _ => C) M' g cap (fun j => if j = r then x else if j = a then e r else e j) := by
  have hg := h.high
  have hsz : w.heap.size ≤ w3.heap.size := by have := hb.size; simpa using this
  have h0 := h.row
  rw [h.val] at h0
  have h1 := (h0.stored a (e r)).1
  have h2 : w3.ownsRow lo 44 1 (.slice (some ⟨g, 0, none⟩) R cap) R ((valsOf R e).set a (e r)) := row_kept h1 fun k hk => hb.block k (by simp [Value.ownBlock] at hk; omega)
  have h3 := (h2.stored r x).1
  have hset : ((valsOf R e).set a (e r)).set r x = valsOf R fun j => if j = r then x else if j = a then e r else e j := by
    rw [valsOf_set R e (fun j => if j = a then e r else e j) a (e r) ha (fun _ _ => rfl)]
    exact valsOf_set R _ _ r x hr (fun j _ => rfl)
  rw [hset] at h3
  have oth : ∀ b, b < w.heap.size → b ≠ g → (w3.setCell ⟨g, r, none⟩ x).heap[b]? = w.heap[b]? := fun b hlt hbg => by
    rw [heap_setCell_other w3 ⟨g, r, none⟩ b _ hbg, hb.block b hlt]
    exact heap_setCell_other w ⟨g, a, none⟩ b _ hbg
  have new : ∀ k, x.ownBlock = some k → w.heap.size ≤ k := fun k hk => (ho.1.lt k hk).1
  have old : ∀ j, j < R → ∀ k, (e j).ownBlock = some k → k < w.heap.size := fun j hj k hk => (h.each j hj).2 k hk
  have each : ∀ j, j < R → Own (w3.setCell ⟨g, r, none⟩ x) lo w3.heap.size (e j) C (M j) := fun j hj =>
    ((h.each j hj).kept fun k hk => oth k (old j hj k hk) fun hkg => h.apart.1 j hj (by rw [hk, hkg])).weaken (Nat.le_refl _) hsz
  have sig : ∀ j, j < R → j ≠ r → ∃ q, q < R ∧ (if j = r then x else if j = a then e r else e j) = e q ∧ q = (if j = a then r else j) := fun j hj hne => by
    by_cases c2 : j = a
    · exact ⟨r, hr, by simp only [if_neg hne, if_pos c2], by simp only [if_pos c2]⟩
    · exact ⟨j, hj, by simp only [if_neg hne, if_neg c2], by simp only [if_neg c2]⟩
  refine ⟨h.val, h.low, by omega, by rw [h.val]; exact h3, fun j hj => ?_, ⟨fun j hj => ?_, fun j l hj hl hne k hk => ?_⟩⟩
  · by_cases c : j = r
    · subst c
      simp only [if_pos]
      exact (ho.kept fun k hk => heap_setCell_other w3 ⟨g, j, none⟩ k _ (by have := new k hk; show k ≠ g; omega)).weaken (by have := h.low; omega) (Nat.le_refl _)
    · rw [hM j hj c]
      unfold swapM
      by_cases c2 : j = a
      · simp only [if_neg c, if_pos c2]; exact each r hr
      · simp only [if_neg c, if_neg c2]; exact each j hj
  · by_cases c : j = r
    · simp only [if_pos c]
      intro hh
      have := new g hh
      omega
    · obtain ⟨q, hq, he, _⟩ := sig j hj c
      show (if j = r then x else if j = a then e r else e j).ownBlock ≠ some g
      rw [he]
      exact h.apart.1 q hq
  · have hk2 : (if j = r then x else if j = a then e r else e j).ownBlock = some k := hk
    show (if l = r then x else if l = a then e r else e l).ownBlock ≠ some k
    by_cases c : j = r
    · have c2 : ¬ l = r := fun z => hne (by rw [c, z])
      rw [if_pos c] at hk2
      obtain ⟨p, hp, hpe, _⟩ := sig l hl c2
      rw [hpe]
      intro hh
      have h5 := new k hk2
      have h6 := old p hp k hh
      omega
    · obtain ⟨q, hq, he, hqe⟩ := sig j hj c
      rw [he] at hk2
      by_cases c2 : l = r
      · rw [if_pos c2]
        intro hh
        have h5 := new k hh
        have h6 := old q hq k hk2
        omega
      · obtain ⟨p, hp, hpe, hpq⟩ := sig l hl c2
        rw [hpe]
        refine h.apart.2 q p hq hp ?_ k hk2
        intro hqp
        rw [hqe, hpq] at hqp
        apply hne
        split at hqp
        · split at hqp <;> omega
        · split at hqp <;> omega
end Go.Proofs.YtbmfndjglndnlaaGreat

namespace Go.Proofs.YtbmfndjglndnlaaGreat
open Go.RowKit F256
set_option linter.unusedVariables false
set_option linter.unusedSimpArgs false

theorem Own.full {w : World} {lo hi g n : Nat} {f : Nat → Nat} (h : Own w lo hi (.slice (some ⟨g, 0, none⟩) n n) n f) : w.heap[g]? = some (.cells (cellsOf n f).toArray 5 (0, 0)) := by
  rcases h.1.2 with ⟨h', _⟩ | ⟨g', cap', cur, h', _, hg, _, _, hcs, htake⟩
  · simp at h'
  · simp only [Value.slice.injEq, Option.some.injEq, Addr.mk.injEq, and_true, true_and] at h'
    obtain ⟨rfl, rfl⟩ := h'
    have : cur = (cellsOf n f).toArray := by
      rw [← htake, List.take_of_length_le (by simp; omega)]
    rw [← this]
    exact hg
theorem own_of_full {w : World} {lo g n : Nat} {f : Nat → Nat} (hg : w.heap[g]? = some (.cells (cellsOf n f).toArray 5 (0, 0))) (hlo : lo ≤ g) (hm : n ≤ maxLen) : Own w lo w.heap.size (.slice (some ⟨g, 0, none⟩) n n) n f :=
  ⟨⟨by rw [cellsOf_length]; omega, .inr ⟨g, n, _, rfl, hlo, hg, Nat.le_refl _, hm, by simp [cellsOf_length], by simp [List.take_of_length_le, cellsOf_length]⟩⟩, fun k hk => by
    simp [Value.ownBlock] at hk
    subst hk
    exact (Array.getElem?_eq_some_iff.1 hg).1⟩
theorem splice_cells (N off m : Nat) (f t h : Nat → Nat) (hm : off + m ≤ N) (hh : ∀ i, i < N → h i = if off ≤ i ∧ i < off + m then t (i - off) else f i) : splice (cellsOf N f) off (cellsOf m t) = cellsOf N h := by
  unfold splice
  apply List.ext_getElem?
  intro i
  by_cases hi : i < N
  · rw [cellsOf_get N h i hi, hh i hi]
    by_cases h1 : i < off
    · have e1 : ¬ (off ≤ i ∧ i < off + m) := by omega
      rw [if_neg e1, List.getElem?_append_left (by rw [List.length_take, cellsOf_length]; omega), List.getElem?_take, if_pos h1, cellsOf_get N f i hi]
    · rw [List.getElem?_append_right (by rw [List.length_take, cellsOf_length]; omega)]
      have e0 : (List.take off (cellsOf N f)).length = off := by rw [List.length_take, cellsOf_length]; omega
      rw [e0]
      by_cases h2 : i < off + m
      · rw [if_pos ⟨by omega, h2⟩, List.getElem?_append_left (by rw [cellsOf_length]; omega), cellsOf_get m t _ (by omega)]
      · have e1 : ¬ (off ≤ i ∧ i < off + m) := by omega
        rw [if_neg e1, List.getElem?_append_right (by rw [cellsOf_length]; omega), cellsOf_length, List.getElem?_drop, show off + m + (i - off - m) = i by omega, cellsOf_get N f i hi]
  · rw [List.getElem?_eq_none (by simp [cellsOf_length]; omega), List.getElem?_eq_none (by rw [cellsOf_length]; omega)]
theorem add_none' (b off j : Nat) : (⟨b, off, none⟩ : Addr).add j = ⟨b, off + j, none⟩ := by unfold Addr.add; split <;> simp_all

theorem copy_src {w : World} {hi n cap : Nat} {ao : Option Addr} {f : Nat → Nat} (r : Rd w hi (.slice ao n cap) n f) (h : 0 < (cellsOf n f).length) : ∃ ad, ao = some ad ∧ ∀ j v, (cellsOf n f)[j]? = some v → w.cell? (ad.add j) = some v := by
  rw [cellsOf_length] at h
  obtain ⟨ao', cap', he, _, hc⟩ := r
  simp only [Value.slice.injEq, true_and] at he
  obtain ⟨rfl, rfl⟩ := he
  obtain ⟨b, off, rfl, _, hcell⟩ := hc (by omega)
  refine ⟨_, rfl, fun j v hj => ?_⟩
  by_cases hjn : j < n
  · rw [cellsOf_get n f j hjn] at hj
    rw [add_none', hcell j hjn]
    exact hj
  · rw [List.getElem?_eq_none (by rw [cellsOf_length]; omega)] at hj
    cases hj
theorem cellsOf_one (n : Nat) (f : Nat → Nat) : ∀ v ∈ cellsOf n f, v.oneCell' = true := fun v hv => by
  simp only [cellsOf, List.mem_map] at hv
  obtain ⟨i, _, rfl⟩ := hv
  rfl
theorem size_u8 : (Tryz.prog.info? 5).map (·.size) = some 1 := by kernel_rfl

end Go.Proofs.YtbmfndjglndnlaaGreat

namespace Go.Proofs.YtbmfndjglndnlaaGreat
open Go.RowKit F256
set_option linter.unusedVariables false
set_option linter.unusedSimpArgs false

/-- append(v, x...), v empty and the call's own, x a slice that the call owns -/
theorem wp_appendC {ops : Array Oper} {rest : List Oper} {o : Oper} {a : Act} {w : World} {Q : Exit → Act → World → Prop}
    (hg : o.guard = none) (s x : Operand) (hop : o.op = Op.call { callee := Callee.builtin Builtin.append, args := #[s, x], argTypes := #[44, 44] })
    (lo hi : Nat) (v : Value) (z : Nat → Nat) (hs : a.eval s = v) (hown : Own w lo hi v 0 z) (lo2 hi2 : Nat) (xv : Value) (m : Nat) (f : Nat → Nat) (hx : a.eval x = xv) (hox : Own w lo2 hi2 xv m f)
    (hm : m ≤ 1000000) (hlo : lo ≤ w.heap.size)
    (hK : ∀ v' w', Own w' lo w'.heap.size v' m f → Below lo w w' → wpList Tryz.prog ops Q rest (a.put o.dst v') w') : wpList Tryz.prog ops Q (o :: rest) a w := by
  obtain ⟨i0, hi0, hz0, hz1, hz2⟩ := info_parts info_u8
  have key : ∃ v' w', (Builtin.append_ #[44, 44] o.type #[v, xv]).run Tryz.prog w = .ok v' w' ∧ Own w' lo w'.heap.size v' m f ∧ Below lo w w' := by
    rcases hox.1.2 with ⟨rfl, rfl⟩ | ⟨g, cap, cur, rfl, hbg, hgg, hnc, hcm, hcs, htake⟩
    · have hr := run_append_owned_none (P := Tryz.prog) w lo 44 o.type 5 i0 1 Tryz.underlying44 hi0 v 0 _ hown.1
      refine ⟨v, w, hr, ?_, Below.refl _ _⟩
      have := hown.congr (g := f) (fun i hi => by omega)
      exact ⟨this.1, fun k hk => (this.1.lt k hk).2⟩
    · obtain ⟨v', w', hr, h2, h3, _⟩ := run_append_own (P := Tryz.prog) w lo 44 o.type 5 i0 (.int .u8 0) 1 1 Tryz.underlying44 hi0 hz0 hz1 hz2 rfl (by decide) v 0 (cellsOf 0 z) hown.1 ⟨g, 0, none⟩ m cap (cellsOf m f) (by rw [cellsOf_length]; omega)
        (fun j u hj => by
          by_cases hjm : j < m
          · rw [add_none', Nat.zero_add, hox.1.cellAt j (by omega)]
            exact hj
          · rw [List.getElem?_eq_none (by rw [cellsOf_length]; omega)] at hj
            cases hj)
        (cellsOf_one m f) (by unfold maxLen; omega) (by omega) hlo
      have h2' : w'.ownsRow lo 5 1 v' m (cellsOf m f) := by
        have e0 : cellsOf 0 z ++ cellsOf m f = cellsOf m f := rfl
        rw [Nat.zero_add, e0] at h2
        exact h2
      exact ⟨v', w', hr, ⟨h2', fun k hk => (h2'.lt k hk).2⟩, (Below.refl _ _).grown h3 hlo (fun k hk => (hown.1.lt k hk).1)⟩
  refine wpList_plain hg fun K hK' => ?_
  obtain ⟨v', w', hrun, r1, r2⟩ := key
  unfold Oper.wp
  simp [execOp, hop, resolve, invoke, builtin, hs, hx, hrun, Result.andThen]
  exact hK' _ _ (hK v' w' r1 r2)

/-- rows that are gathered one behind the other: the outer slice v, k of them -/
structure Bld (w wr : World) (lo : Nat) (v : Value) (k : Nat) (n : Nat → Nat) (f : Mat) (e : Nat → Value) : Prop where
  row : wr.ownsRow lo 44 1 v k (valsOf k e)
  notnil : v ≠ nilS
  each : ∀ i, i < k → Own wr lo wr.heap.size (e i) (n i) (f i)
  apart : ∀ i j, i < k → j < k → i ≠ j → ∀ b, (e i).ownBlock = some b → (e j).ownBlock ≠ some b
  bel : Below lo w wr
  le : lo ≤ wr.heap.size
/-- a row of slices and a row of bytes lie in two blocks -/
theorem two_blocks {w : World} {lo lo' hi : Nat} {v x : Value} {k n : Nat} {xs : List Value} {f : Nat → Nat} (h : w.ownsRow lo 44 1 v k xs) (ho : Own w lo' hi x n f) (b : Nat) (hb : v.ownBlock = some b) : x.ownBlock ≠ some b := by
  intro hx
  rcases h.2 with ⟨rfl, _⟩ | ⟨g, cap, cur, rfl, _, hg, _⟩
  · cases hb
  · rcases ho.1.2 with ⟨rfl, _⟩ | ⟨g', cap', cur', rfl, _, hg', _⟩
    · cases hx
    · simp [Value.ownBlock] at hb hx
      subst hb
      subst hx
      rw [hg] at hg'
      simp at hg'
theorem Bld.next {w wr w2 w4 : World} {lo : Nat} {v v' x : Value} {k : Nat} {n : Nat → Nat} {f : Mat} {e : Nat → Value} (h : Bld w wr lo v k n f e) (hb : Below wr.heap.size wr w2) (ho : Own w2 wr.heap.size w2.heap.size x (n k) (f k))
    (hr : w4.ownsRow lo 44 1 v' (k + 1) (valsOf k e ++ [x])) (hg : (w2.alloc (.cells #[x] 44)).grownBy w4 v.ownBlock) (hnn : v' ≠ nilS) : Bld w w4 lo v' (k + 1) n f (fun i => if i = k then x else e i) := by
  have hs2 := hb.size
  have hs4 : w2.heap.size + 1 ≤ w4.heap.size := by have := hg.size; simpa using this
  have hv : valsOf k e ++ [x] = valsOf (k + 1) (fun i => if i = k then x else e i) := by
    rw [← valsOf_snoc]
    simp only [if_pos]
    rw [valsOf_eq (e := e) (g := fun i => if i = k then x else e i) (fun i hi => by simp [show ¬ i = k by omega])]
  rw [hv] at hr
  have row2 : w2.ownsRow lo 44 1 v k (valsOf k e) := row_kept h.row fun b hb' => hb.block b (h.row.lt b hb').2
  have kp : ∀ {y : Value} {m : Nat} {q : Nat → Nat} {l : Nat}, Own w2 l w2.heap.size y m q → Own w4 l w4.heap.size y m q := fun {y m q l} hy =>
    (hy.kept fun b hb' => by
      have hlt := hy.2 b hb'
      rw [hg.block b (by simp; omega) (fun hh => two_blocks row2 hy b hh.symm hb')]
      exact Below.heap_alloc w2 _ b hlt).mono (by omega)
  refine ⟨hr, hnn, fun i hi => ?_, fun i j hi hj hne b hbi => ?_, ?_, by have := h.le; omega⟩
  · by_cases c : i = k
    · subst c
      simp only [if_pos]
      exact (kp ho).weaken h.le (Nat.le_refl _)
    · simp only [if_neg c]
      exact kp (((h.each i (by omega)).below hb (Nat.le_refl _)).mono hs2)
  · have new : ∀ b, x.ownBlock = some b → wr.heap.size ≤ b := fun b hb' => (ho.1.lt b hb').1
    have old : ∀ i, i < k → ∀ b, (e i).ownBlock = some b → b < wr.heap.size := fun i hi b hb' => (h.each i hi).2 b hb'
    have hbi2 : (if i = k then x else e i).ownBlock = some b := hbi
    show (if j = k then x else e j).ownBlock ≠ some b
    by_cases c : i = k
    · have c2 : ¬ j = k := fun z => hne (by rw [c, z])
      rw [if_pos c] at hbi2
      rw [if_neg c2]
      intro hh
      have h5 := new b hbi2
      have h6 := old j (by omega) b hh
      omega
    · rw [if_neg c] at hbi2
      by_cases c2 : j = k
      · rw [if_pos c2]
        intro hh
        have h5 := new b hh
        have h6 := old i (by omega) b hbi2
        omega
      · rw [if_neg c2]
        exact h.apart i j (by omega) (by omega) hne b hbi2
  · have b1 : Below lo w w2 := h.bel.trans (hb.mono h.le)
    exact (b1.alloc (by have := h.le; omega) (.cells #[x] 44)).grown hg (by simp; have := h.le; omega) (fun b hb' => (h.row.lt b hb').1)
theorem Bld.done {w wr : World} {lo : Nat} {v : Value} {k : Nat} {n : Nat → Nat} {f : Mat} {e : Nat → Value} (h : Bld w wr lo v k n f e) : OwnM wr lo wr.heap.size v k n f := by
  rcases h.row.2 with ⟨hv, _⟩ | ⟨g, cap, cur, hv, hbg, hg, _⟩
  · exact absurd hv h.notnil
  · refine ⟨g, cap, e, hv, hbg, (Array.getElem?_eq_some_iff.1 hg).1, h.row, h.each, ⟨fun i hi => ?_, h.apart⟩⟩
    exact two_blocks h.row (h.each i hi) g (by rw [hv]; rfl)

/-- rows that are gathered one behind the other, all their blocks in lo..hi -/
structure BldR (wr : World) (lo hi : Nat) (v : Value) (k : Nat) (n : Nat → Nat) (f : Mat) (e : Nat → Value) : Prop where
  row : wr.ownsRow lo 44 1 v k (valsOf k e)
  notnil : v ≠ nilS
  low : ∀ b, v.ownBlock = some b → b < hi
  each : ∀ i, i < k → Own wr lo hi (e i) (n i) (f i)
  apart : ∀ i j, i < k → j < k → i ≠ j → ∀ b, (e i).ownBlock = some b → (e j).ownBlock ≠ some b
  le : lo ≤ hi
  le2 : hi ≤ wr.heap.size
theorem BldR.kept {w w2 : World} {lo hi : Nat} {v : Value} {k : Nat} {n : Nat → Nat} {f : Mat} {e : Nat → Value} (h : BldR w lo hi v k n f e) (hk : ∀ b, lo ≤ b → b < hi → w2.heap[b]? = w.heap[b]?) (hs : hi ≤ w2.heap.size) : BldR w2 lo hi v k n f e :=
  ⟨row_kept h.row fun b hb => hk b (h.row.lt b hb).1 (h.low b hb), h.notnil, h.low, fun i hi => (h.each i hi).kept fun b hb => hk b ((h.each i hi).1.lt b hb).1 ((h.each i hi).2 b hb), h.apart, h.le, hs⟩
theorem BldR.next {w2 w4 : World} {lo hi lo2 hi2 : Nat} {v v' x : Value} {k : Nat} {n n' : Nat → Nat} {f f' : Mat} {e : Nat → Value} (h : BldR w2 lo hi v k n f e) (ho : Own w2 lo2 hi2 x (n' k) (f' k)) (hlo : hi ≤ lo2)
    (hn : ∀ i, i < k → n' i = n i) (hf : ∀ i, i < k → f' i = f i)
    (hr : w4.ownsRow lo 44 1 v' (k + 1) (valsOf k e ++ [x])) (hg : (w2.alloc (.cells #[x] 44)).grownBy w4 v.ownBlock) (hnn : v' ≠ nilS) : BldR w4 lo w4.heap.size v' (k + 1) n' f' (fun i => if i = k then x else e i) := by
  have hs4 : w2.heap.size + 1 ≤ w4.heap.size := by have := hg.size; simpa using this
  have hle := h.le
  have hle2 := h.le2
  have hv : valsOf k e ++ [x] = valsOf (k + 1) (fun i => if i = k then x else e i) := by
    rw [← valsOf_snoc]
    simp only [if_pos]
    rw [valsOf_eq (e := e) (g := fun i => if i = k then x else e i) (fun i hi => by simp [show ¬ i = k by omega])]
  rw [hv] at hr
  have kp : ∀ {y : Value} {m : Nat} {q : Nat → Nat} {l u : Nat}, Own w2 l u y m q → Own w4 l w4.heap.size y m q := fun {y m q l u} hy =>
    ⟨(hy.kept fun b hb' => by
      have hlt := (hy.1.lt b hb').2
      rw [hg.block b (by simp; omega) (fun hh => two_blocks h.row hy b hh.symm hb')]
      exact Below.heap_alloc w2 _ b hlt).1, fun b hb' => by have := (hy.1.lt b hb').2; omega⟩
  refine ⟨hr, hnn, fun b hb => (hr.lt b hb).2, fun i hik => ?_, fun i j hik hj hne b hbi => ?_, by omega, Nat.le_refl _⟩
  · by_cases c : i = k
    · subst c
      simp only [if_pos]
      exact (kp ho).weaken (by omega) (Nat.le_refl _)
    · simp only [if_neg c]
      rw [hn i (by omega), hf i (by omega)]
      exact kp (h.each i (by omega))
  · have new : ∀ b, x.ownBlock = some b → hi ≤ b := fun b hb' => by have := (ho.1.lt b hb').1; omega
    have old : ∀ i, i < k → ∀ b, (e i).ownBlock = some b → b < hi := fun i hi b hb' => (h.each i hi).2 b hb'
    have hbi2 : (if i = k then x else e i).ownBlock = some b := hbi
    show (if j = k then x else e j).ownBlock ≠ some b
    by_cases c : i = k
    · have c2 : ¬ j = k := fun z => hne (by rw [c, z])
      rw [if_pos c] at hbi2
      rw [if_neg c2]
      intro hh
      have h5 := new b hbi2
      have h6 := old j (by omega) b hh
      omega
    · rw [if_neg c] at hbi2
      by_cases c2 : j = k
      · rw [if_pos c2]
        intro hh
        have h5 := new b hh
        have h6 := old i (by omega) b hbi2
        omega
      · rw [if_neg c2]
        exact h.apart i j (by omega) (by omega) hne b hbi2
theorem BldR.done {wr : World} {lo hi : Nat} {v : Value} {k : Nat} {n : Nat → Nat} {f : Mat} {e : Nat → Value} (h : BldR wr lo hi v k n f e) : ∃ g cap, OwnE wr lo hi v k n f g cap e := by
  rcases h.row.2 with ⟨hv, _⟩ | ⟨g, cap, cur, hv, hbg, hg, _⟩
  · exact absurd hv h.notnil
  · refine ⟨g, cap, hv, hbg, h.low g (by rw [hv]; rfl), h.row, h.each, ⟨fun i hi => ?_, h.apart⟩⟩
    exact two_blocks h.row (h.each i hi) g (by rw [hv]; rfl)
/-- a row laid into the place i: its blocks are behind all others -/
theorem OwnE.lay {w : World} {lo hi lo2 hi2 : Nat} {v : Value} {R : Nat} {n n' : Nat → Nat} {M M' : Mat} {g cap : Nat} {e : Nat → Value} {x : Value} (h : OwnE w lo hi v R n M g cap e) (i : Nat) (hi' : i < R) (ho : Own w lo2 hi2 x (n' i) (M' i)) (h1 : hi ≤ lo2) (h2 : hi ≤ hi2)
    (hn : ∀ j, j < R → j ≠ i → n' j = n j) (hM : ∀ j, j < R → j ≠ i → M' j = M j) : OwnE (w.setCell ⟨g, i, none⟩ x) lo hi2 v R n' M' g cap (fun j => if j = i then x else e j) := by
  have hg := h.high
  have hl := h.low
  have hr := h.row
  rw [h.val] at hr
  have hst := (hr.stored i x).1
  rw [valsOf_set R e (fun j => if j = i then x else e j) i x hi' (fun j _ => rfl)] at hst
  have oth : ∀ b, b ≠ g → (w.setCell ⟨g, i, none⟩ x).heap[b]? = w.heap[b]? := fun b hbg => heap_setCell_other w ⟨g, i, none⟩ b _ hbg
  have new : ∀ k, x.ownBlock = some k → hi ≤ k := fun k hk => by have := (ho.1.lt k hk).1; omega
  refine ⟨h.val, h.low, by omega, by rw [h.val]; exact hst, fun j hj => ?_, ⟨fun j hj => ?_, fun j l hj hl hne k hk => ?_⟩⟩
  · by_cases c : j = i
    · subst c
      simp only [if_pos]
      exact (ho.kept fun k hk => oth k (by have := new k hk; omega)).weaken (by omega) (Nat.le_refl _)
    · simp only [if_neg c]
      rw [hM j hj c, hn j hj c]
      exact ((h.each j hj).kept fun k hk => oth k fun hkg => h.apart.1 j hj (by rw [hk, hkg])).weaken (Nat.le_refl _) (by omega)
  · by_cases c : j = i
    · simp only [if_pos c]
      intro hh
      have := new g hh
      omega
    · simp only [if_neg c]
      exact h.apart.1 j hj
  · have low : ∀ q, q < R → ∀ k, (e q).ownBlock = some k → k < hi := fun q hq k hk => (h.each q hq).2 k hk
    by_cases c : j = i
    · have c2 : ¬ l = i := fun z => hne (by rw [c, z])
      simp only [if_pos c] at hk
      simp only [if_neg c2]
      intro hh
      have h1 := new k hk
      have h3 := low l hl k hh
      omega
    · simp only [if_neg c] at hk
      by_cases c2 : l = i
      · simp only [if_pos c2]
        intro hh
        have h1 := new k hh
        have h3 := low j hj k hk
        omega
      · simp only [if_neg c2]
        exact h.apart.2 j l hj hl hne k hk
theorem OwnE.keep {w w2 : World} {lo hi : Nat} {v : Value} {R : Nat} {n : Nat → Nat} {M : Mat} {g cap : Nat} {e : Nat → Value} (h : OwnE w lo hi v R n M g cap e) (hk : ∀ b, lo ≤ b → b < hi → w2.heap[b]? = w.heap[b]?) : OwnE w2 lo hi v R n M g cap e :=
  ⟨h.val, h.low, h.high, row_kept h.row fun b hb => by
    have e1 : b = g := by rw [h.val] at hb; simpa [Value.ownBlock] using hb.symm
    rw [e1]
    exact hk g h.low h.high, fun i hi => (h.each i hi).kept fun b hb => hk b ((h.each i hi).1.lt b hb).1 ((h.each i hi).2 b hb), h.apart⟩

end Go.Proofs.YtbmfndjglndnlaaGreat

namespace Go.Proofs.YtbmfndjglndnlaaGreat
open Go.RowKit F256
set_option linter.unusedVariables false
set_option linter.unusedSimpArgs false

/-- it tells whether P, and changes nothing -/
def BoolP (P : Prop) (w : World) (e : Ending) (w' : World) : Prop := ∃ b : Bool, e = .returned (.bool b) ∧ (b = true ↔ P) ∧ Below w.heap.size w w'
theorem boolYes {P : Prop} {w : World} {e : Ending} {w' : World} (he : e = .returned (.bool true)) (h : P) (hb : Below w.heap.size w w') : BoolP P w e w' := ⟨true, he, ⟨fun _ => h, fun _ => rfl⟩, hb⟩
theorem boolNo {P : Prop} {w : World} {e : Ending} {w' : World} (he : e = .returned (.bool false)) (h : ¬ P) (hb : Below w.heap.size w w') : BoolP P w e w' := ⟨false, he, ⟨fun h => (by cases h), fun hh => absurd hh h⟩, hb⟩
/-- a shape: 1 to 3 data places, 0 to 2 spare ones -/
def Shp (d s : Int) : Prop := 1 ≤ d ∧ d ≤ 3 ∧ 0 ≤ s ∧ s ≤ 2
theorem l2Shape_any (d s : Int) (w : World) :
    Calls Tryz.prog 126 #[.int .i64 d, .int .i64 s] w (BoolP (Shp d s) w) := by
  by_cases h1 : 1 ≤ d ∧ d ≤ 3
  · by_cases h2 : 0 ≤ s ∧ s ≤ 2
    · go_enter Tryz.func126, Tryz.ntmps126
      go_wp2_with fail
      refine (l1In_yes d 1 3 h1.1 h1.2 _).mono ?_
      rintro e w1 ⟨rfl, rfl⟩
      go_wp2_with fail
      refine (l1In_yes s 0 2 h2.1 h2.2 _).mono ?_
      rintro e w1 ⟨rfl, rfl⟩
      go_wp2
      go_ret
      exact boolYes rfl ⟨h1.1, h1.2, h2.1, h2.2⟩ (Below.refl _ _)
    · go_enter Tryz.func126, Tryz.ntmps126
      go_wp2_with fail
      refine (l1In_yes d 1 3 h1.1 h1.2 _).mono ?_
      rintro e w1 ⟨rfl, rfl⟩
      go_wp2_with fail
      refine (l1In_no s 0 2 (by omega) _).mono ?_
      rintro e w1 ⟨rfl, rfl⟩
      go_wp2
      go_ret
      exact boolNo rfl (fun h => h2 ⟨h.2.2.1, h.2.2.2⟩) (Below.refl _ _)
  · go_enter Tryz.func126, Tryz.ntmps126
    go_wp2_with fail
    refine (l1In_no d 1 3 (by omega) _).mono ?_
    rintro e w1 ⟨rfl, rfl⟩
    go_wp2
    go_ret
    exact boolNo rfl (fun h => h1 ⟨h.1, h.2.1⟩) (Below.refl _ _)

def WholeP (R : Nat) (n : Nat → Nat) (N : Int) : Prop := (∀ i, i < R → n i = 4) ∧ (R : Int) = N
def SameP (n m : Nat) (f g : Nat → Nat) : Prop := n = m ∧ ∀ i, i < n → f i = g i
end Go.Proofs.YtbmfndjglndnlaaGreat

namespace Go.Proofs.YtbmfndjglndnlaaGreat
open Go.RowKit F256
set_option linter.unusedVariables false
set_option linter.unusedSimpArgs false

/-- the numbers rise, from 0 on and no higher than most -/
def RiseP (n : Nat) (g : Nat → Int) (most : Int) : Prop := ∀ i, i < n → 0 ≤ g i ∧ g i ≤ most ∧ (0 < i → g (i - 1) < g i)

set_option maxHeartbeats 2000000 in
theorem l2Rise_any (v : Value) (n : Nat) (g : Nat → Int) (hi : Nat) (most : Int) (w : World) (r : RdI w hi v n g) :
    Calls Tryz.prog 130 #[v, .int .i64 most] w (BoolP (RiseP n g most) w) := by
  obtain ⟨ao, cap, rfl, hm, hc⟩ := r
  unfold maxLen at hm
  go_enter Tryz.func130, Tryz.ntmps130
  go_wp2
  go_loopw [5] (fun i wr => ∃ k : Nat, k ≤ n ∧ i = .int .i64 k ∧ (∀ i, i < k → 0 ≤ g i ∧ g i ≤ most ∧ (0 < i → g (i - 1) < g i)) ∧ ∃ q, wr = w.drewN q) (fun i _ => n - (intOf i).toNat)
  case atStart => exact ⟨0, Nat.zero_le _, rfl, fun i hi => by omega, 0, rfl⟩
  case round =>
    obtain ⟨k, hk, rfl, hall, q, rfl⟩ := hrel
    have HALL : Hid (∀ i, i < k → 0 ≤ g i ∧ g i ≤ most ∧ (0 < i → g (i - 1) < g i)) := hall
    clear hall
    by_cases hlt : k < n
    · obtain ⟨b, off, rfl, hblt, hcell⟩ := hc (by omega)
      have hck : w.cell? ⟨b, off + k, none⟩ = some (.int .i64 (g k)) := hcell k hlt
      have HCL : Hid (∀ i, i < n → w.cell? ⟨b, off + i, none⟩ = some (.int .i64 (g i))) := hcell
      obtain ⟨x, hx⟩ : ∃ x, x = g k := ⟨_, rfl⟩
      have HX : Hid (x = g k) := hx
      rw [← hx] at hck
      clear hc hcell hx
      by_cases h1 : x < 0
      · have no : ¬ RiseP n g most := fun h => by have := (h k hlt).1; rw [← HX.out] at this; omega
        have HNO : Hid (¬ RiseP n g most) := no
        clear no
        go_wp2
        go_quiet (fail)
        go_wp2
        go_ret
        exact boolNo rfl HNO.out (below_drewN (below_drewN (Below.refl _ _) _) _)
      · have e1 : decide (x < 0) = false := by simp; omega
        by_cases h2 : most < x
        · have HNO : Hid (¬ RiseP n g most) := fun h => by have := (h k hlt).2.1; rw [← HX.out] at this; omega
          go_wp2
          go_quiet (fail)
          go_wp2
          go_ret
          exact boolNo rfl HNO.out (below_drewN (below_drewN (Below.refl _ _) _) _)
        · have e2 : decide (most < x) = false := by simp; omega
          by_cases h3 : 0 < k
          · obtain ⟨k1, hk1⟩ : ∃ k1, k1 + 1 = k := ⟨k - 1, by omega⟩
            have hcp : w.cell? ⟨b, off + k1, none⟩ = some (.int .i64 (g k1)) := HCL.out k1 (by omega)
            obtain ⟨y, hy⟩ : ∃ y, y = g k1 := ⟨_, rfl⟩
            have HY : Hid (y = g (k - 1)) := by show y = g (k - 1); rw [hy, show k - 1 = k1 by omega]
            rw [← hy] at hcp
            have wsub : IntKind.i64.wrap ((k : Int) - 1) = (k1 : Int) := by rw [IntKind.wrap_i64]; omega
            have hk1n : k1 < n := by omega
            have e3 : ((0 : Int) < (k : Int)) := by omega
            have HK1 : Hid (k1 + 1 = k) := hk1
            clear hy hk1
            by_cases h4 : x ≤ y
            · have HNO : Hid (¬ RiseP n g most) := fun h => by have := (h k hlt).2.2 h3; rw [← HX.out, ← HY.out] at this; omega
              go_wp2
              go_quiet (fail)
              go_wp2
              go_ret
              exact boolNo rfl HNO.out (below_drewN (below_drewN (Below.refl _ _) _) _)
            · have e4 : decide (x ≤ y) = false := by simp; omega
              have HF : Hid (0 ≤ g k ∧ g k ≤ most ∧ (0 < k → g (k - 1) < g k)) := by
                show 0 ≤ g k ∧ g k ≤ most ∧ (0 < k → g (k - 1) < g k)
                rw [← HX.out, ← HY.out]
                exact ⟨by omega, by omega, fun _ => by omega⟩
              go_wp2
              go_quiet (fail)
              go_wp2
              go_roundw
              case rel => exact ⟨k + 1, by omega, by go_num, fun i hi => by
                            by_cases c : i = k
                            · rw [c]; exact HF.out
                            · exact HALL.out i (by omega), _, rfl⟩
              case measure => simp [intOf]; omega
          · have HF : Hid (0 ≤ g k ∧ g k ≤ most) := by
              show 0 ≤ g k ∧ g k ≤ most
              rw [← HX.out]
              exact ⟨by omega, by omega⟩
            have e3 : decide ((0 : Int) < (k : Int)) = false := by simp; omega
            have e3n : decide (0 < k) = false := by simp; omega
            have HK0 : Hid (k = 0) := by show k = 0; omega
            clear h3
            go_wp2
            go_quiet (fail)
            go_wp2
            go_roundw
            case rel => exact ⟨k + 1, by omega, by go_num, fun i hi => by
                          have := HK0.out
                          obtain rfl : i = k := by omega
                          exact ⟨HF.out.1, HF.out.2, fun h => by omega⟩, _, rfl⟩
            case measure => simp [intOf]; omega
    · obtain rfl : k = n := by omega
      go_wp2
      go_ret
      exact boolYes rfl HALL.out (below_drewN (Below.refl _ _) _)
end Go.Proofs.YtbmfndjglndnlaaGreat

namespace Go.Proofs.YtbmfndjglndnlaaGreat
open F256
set_option linter.unusedVariables false

/-- a shape across groups: 1 to 4 of data, 0 to 2 of parity -/
def Shp3 (d s : Int) : Prop := 1 ≤ d ∧ d ≤ 4 ∧ 0 ≤ s ∧ s ≤ 2
/-- all equally long -/
def EvenP (R : Nat) (n : Nat → Nat) : Prop := ∀ i, i < R → n i = n 0
/-- the parity lists -/
def parN (R : Nat) (f : Mat) : Mat := fun j => mixN f (genN R (R + j) 8) R
theorem parN_byt (R : Nat) (f : Mat) : Byt (parN R f) := fun j t => mixN_lt _ _ (genN_lt R (R + j) 8) _ _
/-- the answers of EncodeColumn -/
def CeAns (R : Nat) (n : Nat → Nat) (c : Int) (x : Int) : Prop := (x = 3 ∧ ¬ Shp3 R c) ∨ (x = 1 ∧ Shp3 R c ∧ ¬ EvenP R n) ∨ (x = 2 ∧ Shp3 R c ∧ EvenP R n ∧ 4000 < n 0) ∨ (x = 0 ∧ Shp3 R c ∧ EvenP R n ∧ n 0 ≤ 4000)
theorem CeAns.one {R : Nat} {n : Nat → Nat} {c : Int} {x y : Int} (h : CeAns R n c x) (k : CeAns R n c y) : x = y := by
  rcases h with ⟨rfl, h⟩ | ⟨rfl, h, h2⟩ | ⟨rfl, h, h2, h3⟩ | ⟨rfl, h, h2, h3⟩ <;> rcases k with ⟨rfl, k⟩ | ⟨rfl, k, k2⟩ | ⟨rfl, k, k2, k3⟩ | ⟨rfl, k, k2, k3⟩ <;> first | rfl | exact absurd h k | exact absurd k h | exact absurd h2 k2 | exact absurd k2 h2 | omega
theorem ce_ans (R : Nat) (n : Nat → Nat) (c : Int) : ∃ x, CeAns R n c x := by
  by_cases h : Shp3 R c
  · by_cases h2 : EvenP R n
    · by_cases h3 : n 0 ≤ 4000
      · exact ⟨0, .inr (.inr (.inr ⟨rfl, h, h2, h3⟩))⟩
      · exact ⟨2, .inr (.inr (.inl ⟨rfl, h, h2, by omega⟩))⟩
    · exact ⟨1, .inr (.inl ⟨rfl, h, h2⟩)⟩
  · exact ⟨3, .inl ⟨rfl, h⟩⟩
/-- the lists of a column fit -/
def CfP (R : Nat) (n : Nat → Nat) (f : Mat) (c : Int) : Prop := (0 ≤ c ∧ c ≤ 2) ∧ Shp3 ((R : Int) - c) c ∧ EvenP R n ∧ ∀ j, j < c.toNat → ∀ t, t < n 0 → f (R - c.toNat + j) t = parN (R - c.toNat) f j t
/-- a factor is asked rightly -/
def FacP (g c gr p : Int) : Prop := Shp3 g c ∧ (0 ≤ gr ∧ gr ≤ g - 1) ∧ (0 ≤ p ∧ p ≤ c - 1)
/-- the answers of FactorOf -/
def FacAns (g c gr p : Int) (x v : Int) : Prop := (x = 3 ∧ v = 0 ∧ ¬ FacP g c gr p) ∨ (x = 0 ∧ FacP g c gr p ∧ v = ((powN ((128 + (8 + p.toNat)) ^^^ gr.toNat) 254 : Nat) : Int))
theorem FacAns.one {g c gr p : Int} {x v y u : Int} (h : FacAns g c gr p x v) (k : FacAns g c gr p y u) : x = y ∧ v = u := by
  rcases h with ⟨rfl, rfl, h⟩ | ⟨rfl, h, rfl⟩ <;> rcases k with ⟨rfl, rfl, k⟩ | ⟨rfl, k, rfl⟩
  · exact ⟨rfl, rfl⟩
  · exact absurd k h
  · exact absurd h k
  · exact ⟨rfl, rfl⟩
theorem fac_ans (g c gr p : Int) : ∃ x v, FacAns g c gr p x v := by
  by_cases h : FacP g c gr p
  · exact ⟨0, _, .inr ⟨rfl, h, rfl⟩⟩
  · exact ⟨3, 0, .inl ⟨rfl, rfl, h⟩⟩
/-- the number is among them -/
def HasP (n : Nat) (g : Nat → Int) (x : Int) : Prop := ∃ i, i < n ∧ g i = x
/-- the weights of those that are there: those behind the first n weigh 0 -/
def shareN (n : Nat) (hv : Nat → Nat) (want : Nat) : Nat → Nat := fun i => if i < n then weightsN n 8 hv want i else 0
/-- the answers of ShareOf -/
def ShAns (g c : Int) (m : Nat) (h : Nat → Int) (want : Int) (x : Int) : Prop :=
  (x = 3 ∧ ¬ Shp3 g c) ∨ (x = 1 ∧ Shp3 g c ∧ ¬ RiseP m h (g + c - 1)) ∨ (x = 3 ∧ Shp3 g c ∧ RiseP m h (g + c - 1) ∧ ¬ (0 ≤ want ∧ want ≤ g + c - 1)) ∨
    (x = 7 ∧ Shp3 g c ∧ RiseP m h (g + c - 1) ∧ (0 ≤ want ∧ want ≤ g + c - 1) ∧ HasP m h want) ∨ (x = 10 ∧ Shp3 g c ∧ RiseP m h (g + c - 1) ∧ (0 ≤ want ∧ want ≤ g + c - 1) ∧ ¬ HasP m h want ∧ (m : Int) < g) ∨
    (x = 0 ∧ Shp3 g c ∧ RiseP m h (g + c - 1) ∧ (0 ≤ want ∧ want ≤ g + c - 1) ∧ ¬ HasP m h want ∧ g ≤ (m : Int))
theorem ShAns.one {g c : Int} {m : Nat} {h : Nat → Int} {want : Int} {x y : Int} (a : ShAns g c m h want x) (b : ShAns g c m h want y) : x = y := by
  rcases a with ⟨rfl, a⟩ | ⟨rfl, a, a2⟩ | ⟨rfl, a, a2, a3⟩ | ⟨rfl, a, a2, a3, a4⟩ | ⟨rfl, a, a2, a3, a4, a5⟩ | ⟨rfl, a, a2, a3, a4, a5⟩ <;> rcases b with ⟨rfl, b⟩ | ⟨rfl, b, b2⟩ | ⟨rfl, b, b2, b3⟩ | ⟨rfl, b, b2, b3, b4⟩ | ⟨rfl, b, b2, b3, b4, b5⟩ | ⟨rfl, b, b2, b3, b4, b5⟩ <;> first | rfl | exact absurd a b | exact absurd b a | exact absurd a2 b2 | exact absurd b2 a2 | exact absurd a3 b3 | exact absurd b3 a3 | exact absurd a4 b4 | exact absurd b4 a4 | omega
theorem sh_ans (g c : Int) (m : Nat) (h : Nat → Int) (want : Int) : ∃ x, ShAns g c m h want x := by
  by_cases h1 : Shp3 g c
  · by_cases h2 : RiseP m h (g + c - 1)
    · by_cases h3 : 0 ≤ want ∧ want ≤ g + c - 1
      · by_cases h4 : HasP m h want
        · exact ⟨7, .inr (.inr (.inr (.inl ⟨rfl, h1, h2, h3, h4⟩)))⟩
        · by_cases h5 : (m : Int) < g
          · exact ⟨10, .inr (.inr (.inr (.inr (.inl ⟨rfl, h1, h2, h3, h4, h5⟩))))⟩
          · exact ⟨0, .inr (.inr (.inr (.inr (.inr ⟨rfl, h1, h2, h3, h4, by omega⟩))))⟩
      · exact ⟨3, .inr (.inr (.inl ⟨rfl, h1, h2, h3⟩))⟩
    · exact ⟨1, .inr (.inl ⟨rfl, h1, h2⟩)⟩
  · exact ⟨3, .inl ⟨rfl, h1⟩⟩
theorem rise_nat' {n m : Nat} {g : Nat → Int} {most : Int} (h : RiseP m g most) (hn : n ≤ m) : (∀ k, k < n → g k = ((g k).toNat : Int)) ∧ (∀ k, k < n → ((g k).toNat : Int) ≤ most) ∧ ∀ k, k + 1 < n → (g k).toNat < (g (k + 1)).toNat := by
  refine ⟨fun k hk => ?_, fun k hk => ?_, fun k hk => ?_⟩
  · have := (h k (by omega)).1; omega
  · have h1 := (h k (by omega)).1
    have h2 := (h k (by omega)).2.1
    omega
  · have h1 := (h k (by omega)).1
    have h2 := (h (k + 1) (by omega)).2.2 (by omega)
    rw [show k + 1 - 1 = k by omega] at h2
    omega
/-- the lists of the column that has the first D of those that are there -/
def colN (D : Nat) (n : Nat → Nat) (R : Nat) (f : Mat) : Mat := fun p => mixN (fun k => f (nthN n R k)) (weightsN D 8 (nthN n R) p) D
/-- those that are there are equally long -/
def EvenM (R : Nat) (n : Nat → Nat) : Prop := EvenP (cntN n R) fun t => n (nthN n R t)
/-- the answers of DecodeColumn -/
def DcAns (g c : Int) (R : Nat) (n : Nat → Nat) (x : Int) : Prop :=
  (x = 3 ∧ ¬ Shp3 g c) ∨ (x = 1 ∧ Shp3 g c ∧ (R : Int) ≠ g + c) ∨ (x = 1 ∧ Shp3 g c ∧ (R : Int) = g + c ∧ ¬ EvenM R n) ∨
    (x = 2 ∧ Shp3 g c ∧ (R : Int) = g + c ∧ EvenM R n ∧ (0 < cntN n R ∧ 4000 < n (nthN n R 0))) ∨ (x = 10 ∧ Shp3 g c ∧ (R : Int) = g + c ∧ EvenM R n ∧ ¬ (0 < cntN n R ∧ 4000 < n (nthN n R 0)) ∧ (cntN n R : Int) < g) ∨
    (x = 0 ∧ Shp3 g c ∧ (R : Int) = g + c ∧ EvenM R n ∧ ¬ (0 < cntN n R ∧ 4000 < n (nthN n R 0)) ∧ g ≤ (cntN n R : Int))
theorem DcAns.one {g c : Int} {R : Nat} {n : Nat → Nat} {x y : Int} (a : DcAns g c R n x) (b : DcAns g c R n y) : x = y := by
  rcases a with ⟨rfl, a⟩ | ⟨rfl, a, a2⟩ | ⟨rfl, a, a2, a3⟩ | ⟨rfl, a, a2, a3, a4⟩ | ⟨rfl, a, a2, a3, a4, a5⟩ | ⟨rfl, a, a2, a3, a4, a5⟩ <;> rcases b with ⟨rfl, b⟩ | ⟨rfl, b, b2⟩ | ⟨rfl, b, b2, b3⟩ | ⟨rfl, b, b2, b3, b4⟩ | ⟨rfl, b, b2, b3, b4, b5⟩ | ⟨rfl, b, b2, b3, b4, b5⟩ <;> first | rfl | exact absurd a b | exact absurd b a | exact absurd a2 b2 | exact absurd b2 a2 | exact absurd a3 b3 | exact absurd b3 a3 | exact absurd a4 b4 | exact absurd b4 a4 | omega
theorem dc_ans (g c : Int) (R : Nat) (n : Nat → Nat) : ∃ x, DcAns g c R n x := by
  by_cases h1 : Shp3 g c
  · by_cases h2 : (R : Int) = g + c
    · by_cases h3 : EvenM R n
      · by_cases h4 : 0 < cntN n R ∧ 4000 < n (nthN n R 0)
        · exact ⟨2, .inr (.inr (.inr (.inl ⟨rfl, h1, h2, h3, h4⟩)))⟩
        · by_cases h5 : (cntN n R : Int) < g
          · exact ⟨10, .inr (.inr (.inr (.inr (.inl ⟨rfl, h1, h2, h3, h4, h5⟩))))⟩
          · exact ⟨0, .inr (.inr (.inr (.inr (.inr ⟨rfl, h1, h2, h3, h4, by omega⟩))))⟩
      · exact ⟨1, .inr (.inr (.inl ⟨rfl, h1, h2, h3⟩))⟩
    · exact ⟨1, .inr (.inl ⟨rfl, h1, h2⟩)⟩
  · exact ⟨3, .inl ⟨rfl, h1⟩⟩
/-- the answers of AddShare to n and m bytes -/
def AdsAns (n m : Nat) (x : Int) : Prop := (x = 1 ∧ n ≠ m) ∨ (x = 2 ∧ n = m ∧ 4000 < n) ∨ (x = 0 ∧ n = m ∧ n ≤ 4000)
theorem AdsAns.one {n m : Nat} {x y : Int} (h : AdsAns n m x) (k : AdsAns n m y) : x = y := by
  rcases h with ⟨rfl, h⟩ | ⟨rfl, h, h2⟩ | ⟨rfl, h, h2⟩ <;> rcases k with ⟨rfl, k⟩ | ⟨rfl, k, k2⟩ | ⟨rfl, k, k2⟩ <;> first | rfl | omega
theorem ads_ans (n m : Nat) : ∃ x, AdsAns n m x := by
  by_cases h : n = m
  · by_cases h2 : n ≤ 4000
    · exact ⟨0, .inr (.inr ⟨rfl, h, h2⟩)⟩
    · exact ⟨2, .inr (.inl ⟨rfl, h, by omega⟩)⟩
  · exact ⟨1, .inl ⟨rfl, h⟩⟩
/-- the sum with a share -/
def adsN (f g : Nat → Nat) (c : Nat) : Nat → Nat := fun i => f i ^^^ mulN c (g i)
end Go.Proofs.YtbmfndjglndnlaaGreat

namespace Go.Proofs.YtbmfndjglndnlaaGreat
open Go.RowKit F256
set_option linter.unusedVariables false
set_option linter.unusedSimpArgs false

theorem cellsOf_join (k m : Nat) (g f : Nat → Nat) (hg : ∀ i, i < m → g (k + i) = f i) : cellsOf k g ++ cellsOf m f = cellsOf (k + m) g := by
  apply List.ext_getElem?
  intro i
  by_cases h : i < k
  · rw [List.getElem?_append_left (by rw [cellsOf_length]; exact h), cellsOf_get _ _ _ h, cellsOf_get _ _ _ (by omega)]
  · rw [List.getElem?_append_right (by rw [cellsOf_length]; omega), cellsOf_length]
    by_cases h2 : i - k < m
    · rw [cellsOf_get _ _ _ h2, cellsOf_get _ _ _ (by omega), ← hg _ h2, show k + (i - k) = i by omega]
    · rw [List.getElem?_eq_none (by rw [cellsOf_length]; omega), List.getElem?_eq_none (by rw [cellsOf_length]; omega)]
theorem valsOf_join (k m : Nat) (e e2 : Nat → Value) (hg : ∀ i, i < m → e (k + i) = e2 i) : valsOf k e ++ valsOf m e2 = valsOf (k + m) e := by
  apply List.ext_getElem?
  intro i
  by_cases h : i < k
  · rw [List.getElem?_append_left (by rw [valsOf_length]; exact h), valsOf_get _ _ _ h, valsOf_get _ _ _ (by omega)]
  · rw [List.getElem?_append_right (by rw [valsOf_length]; omega), valsOf_length]
    by_cases h2 : i - k < m
    · rw [valsOf_get _ _ _ h2, valsOf_get _ _ _ (by omega), ← hg _ h2, show k + (i - k) = i by omega]
    · rw [List.getElem?_eq_none (by rw [valsOf_length]; omega), List.getElem?_eq_none (by rw [valsOf_length]; omega)]
theorem row_weaken {w : World} {lo lo' : Nat} {t : TypeId} {v : Value} {k : Nat} {xs : List Value} (h : w.ownsRow lo t 1 v k xs) (hl : lo' ≤ lo) : w.ownsRow lo' t 1 v k xs := by
  refine ⟨h.1, ?_⟩
  rcases h.2 with hn | ⟨g, cap, cur, hg, hbg, rest⟩
  · exact .inl hn
  · exact .inr ⟨g, cap, cur, hg, by omega, rest⟩
theorem row_slice {w : World} {lo : Nat} {t : TypeId} {v : Value} {k : Nat} {xs : List Value} (h : w.ownsRow lo t 1 v k xs) : ∃ ao cap, v = .slice ao k cap := by
  rcases h.2 with ⟨h1, h2⟩ | ⟨g, cap, cur, h1, _⟩
  · subst h2
    exact ⟨_, _, h1⟩
  · exact ⟨_, _, h1⟩
theorem grown_refl (w : World) (o : Option Nat) : w.grownBy w o := ⟨rfl, rfl, rfl, Nat.le_refl _, fun _ _ _ => rfl⟩

/-- append(v, x...) of bytes, x not empty -/
theorem run_appendX (w : World) (ty : TypeId) (lo hi : Nat) (v : Value) (k : Nat) (g : Nat → Nat) (hown : Own w lo hi v k g) (h : Nat) (xv : Value) (m : Nat) (f : Nat → Nat) (hx : Rd w h xv m f) (h0 : 0 < m) (hg : ∀ i, i < m → g (k + i) = f i) (hm : k + m ≤ 1000000) (hlo : lo ≤ w.heap.size) :
    ∃ v' w', (Builtin.append_ #[44, 44] ty #[v, xv]).run Tryz.prog w = .ok v' w' ∧ Own w' lo w'.heap.size v' (k + m) g ∧ w.grownBy w' v.ownBlock := by
  obtain ⟨i0, hi0, hz0, hz1, hz2⟩ := info_parts info_u8
  obtain ⟨ao, cap, rfl, hml, hc⟩ := hx
  obtain ⟨b, off, rfl, hb, hcell⟩ := hc (by omega)
  obtain ⟨v', w', hr, h2, h3, _⟩ := run_append_own (P := Tryz.prog) w lo 44 ty 5 i0 (.int .u8 0) 1 1 Tryz.underlying44 hi0 hz0 hz1 hz2 rfl (by decide) v k (cellsOf k g) hown.1 ⟨b, off, none⟩ m cap (cellsOf m f) (by rw [cellsOf_length]; omega)
    (fun j u hj => by
      by_cases hjm : j < m
      · rw [cellsOf_get _ _ _ hjm] at hj
        cases hj
        rw [add_none']
        exact hcell j hjm
      · rw [List.getElem?_eq_none (by rw [cellsOf_length]; omega)] at hj
        cases hj)
    (cellsOf_one m f) (by unfold maxLen; omega) (by omega) hlo
  rw [cellsOf_join k m g f hg] at h2
  exact ⟨v', w', hr, ⟨h2, fun k hk => (h2.lt k hk).2⟩, h3⟩
theorem wp_appendX {ops : Array Oper} {rest : List Oper} {o : Oper} {a : Act} {w : World} {Q : Exit → Act → World → Prop}
    (hg : o.guard = none) (s x : Operand) (hop : o.op = Op.call { callee := Callee.builtin Builtin.append, args := #[s, x], argTypes := #[44, 44] })
    (lo hi : Nat) (v : Value) (k : Nat) (g : Nat → Nat) (hs : a.eval s = v) (hown : Own w lo hi v k g) (h : Nat) (xv : Value) (m : Nat) (f : Nat → Nat) (hx : a.eval x = xv) (hox : Rd w h xv m f) (h0 : 0 < m) (hgf : ∀ i, i < m → g (k + i) = f i)
    (hm : k + m ≤ 1000000) (hlo : lo ≤ w.heap.size)
    (hK : ∀ v' w', Own w' lo w'.heap.size v' (k + m) g → w.grownBy w' v.ownBlock → wpList Tryz.prog ops Q rest (a.put o.dst v') w') : wpList Tryz.prog ops Q (o :: rest) a w := by
  refine wpList_plain hg fun K hK' => ?_
  obtain ⟨v', w', hrun, r1, r2⟩ := run_appendX w o.type lo hi v k g hown h xv m f hox h0 hgf hm hlo
  unfold Oper.wp
  simp [execOp, hop, resolve, invoke, builtin, hs, hx, hrun, Result.andThen]
  exact hK' _ _ (hK v' w' r1 r2)
/-- append(v, x...), v empty in the block p, as a step of a region that draws -/
theorem step_appendC {ops : Array Oper} {o : Oper} {a : Act} {w : World} {K : Act → World → Prop} {Q : Exit → Act → World → Prop} {E : Prop}
    (hg : o.guard = none) (s x : Operand) (hop : o.op = Op.call { callee := Callee.builtin Builtin.append, args := #[s, x], argTypes := #[44, 44] })
    (p : Nat) (z : Nat → Nat) (hs : a.eval s = .slice (some ⟨p, 0, none⟩) 0 0) (hown : Own w p (p + 1) (.slice (some ⟨p, 0, none⟩) 0 0) 0 z) (lo2 hi2 : Nat) (xv : Value) (m : Nat) (f : Nat → Nat) (hx : a.eval x = xv) (hox : Own w lo2 hi2 xv m f)
    (hm : m ≤ 1000000)
    (hK : ∀ v' w', Own w' p w'.heap.size v' m f → Chg p (p + 1) w w' → K (a.put o.dst v') w') :
    if Region.wanted o (yielded ops a.tmps) = true then Oper.wp Tryz.prog o a w K Q else E := by
  have hw : Region.wanted o (yielded ops a.tmps) = true := by simp [Region.wanted, hg]
  rw [if_pos hw]
  obtain ⟨i0, hi0, hz0, hz1, hz2⟩ := info_parts info_u8
  have hlo : p ≤ w.heap.size := Nat.le_of_lt (hown.1.lt p rfl).2
  have key : ∃ v' w', (Builtin.append_ #[44, 44] o.type #[.slice (some ⟨p, 0, none⟩) 0 0, xv]).run Tryz.prog w = .ok v' w' ∧ Own w' p w'.heap.size v' m f ∧ Chg p (p + 1) w w' := by
    rcases hox.1.2 with ⟨rfl, rfl⟩ | ⟨g, cap, cur, rfl, hbg, hgg, hnc, hcm, hcs, htake⟩
    · have hr := run_append_owned_none (P := Tryz.prog) w p 44 o.type 5 i0 1 Tryz.underlying44 hi0 _ 0 _ hown.1
      refine ⟨_, w, hr, ?_, Chg.refl' _ _ _⟩
      have := hown.congr (g := f) (fun i hi => by omega)
      exact ⟨this.1, fun k hk => (this.1.lt k hk).2⟩
    · obtain ⟨v', w', hr, h2, h3, _⟩ := run_append_own (P := Tryz.prog) w p 44 o.type 5 i0 (.int .u8 0) 1 1 Tryz.underlying44 hi0 hz0 hz1 hz2 rfl (by decide) (.slice (some ⟨p, 0, none⟩) 0 0) 0 (cellsOf 0 z) hown.1 ⟨g, 0, none⟩ m cap (cellsOf m f) (by rw [cellsOf_length]; omega)
        (fun j u hj => by
          by_cases hjm : j < m
          · rw [add_none', Nat.zero_add, hox.1.cellAt j (by omega)]
            exact hj
          · rw [List.getElem?_eq_none (by rw [cellsOf_length]; omega)] at hj
            cases hj)
        (cellsOf_one m f) (by unfold maxLen; omega) (by omega) hlo
      have h2' : w'.ownsRow p 5 1 v' m (cellsOf m f) := by
        have e0 : cellsOf 0 z ++ cellsOf m f = cellsOf m f := rfl
        rw [Nat.zero_add, e0] at h2
        exact h2
      refine ⟨v', w', hr, ⟨h2', fun k hk => (h2'.lt k hk).2⟩, ⟨h3.os, h3.tape, h3.output, h3.size, fun k hk hne => h3.block k hk ?_⟩⟩
      simp [Value.ownBlock]
      omega
  obtain ⟨v', w', hrun, r1, r2⟩ := key
  unfold Oper.wp
  simp [execOp, hop, resolve, invoke, builtin, hs, hx, hrun, Result.andThen]
  exact hK v' w' r1 r2
/-- rows that are gathered one behind the other, all their blocks in lo..hi; none yet: nil -/
structure BldO (wr : World) (lo hi : Nat) (v : Value) (k : Nat) (n : Nat → Nat) (f : Mat) (e : Nat → Value) : Prop where
  row : wr.ownsRow lo 44 1 v k (valsOf k e)
  low : ∀ b, v.ownBlock = some b → b < hi
  each : ∀ i, i < k → Own wr lo hi (e i) (n i) (f i)
  apart : ∀ i j, i < k → j < k → i ≠ j → ∀ b, (e i).ownBlock = some b → (e j).ownBlock ≠ some b
  le : lo ≤ hi
  le2 : hi ≤ wr.heap.size
theorem BldO.kept {w w2 : World} {lo hi : Nat} {v : Value} {k : Nat} {n : Nat → Nat} {f : Mat} {e : Nat → Value} (h : BldO w lo hi v k n f e) (hk : ∀ b, lo ≤ b → b < hi → w2.heap[b]? = w.heap[b]?) (hs : hi ≤ w2.heap.size) : BldO w2 lo hi v k n f e :=
  ⟨row_kept h.row fun b hb => hk b (h.row.lt b hb).1 (h.low b hb), h.low, fun i hi => (h.each i hi).kept fun b hb => hk b ((h.each i hi).1.lt b hb).1 ((h.each i hi).2 b hb), h.apart, h.le, hs⟩
theorem BldO.next {w2 w4 : World} {lo hi lo2 hi2 : Nat} {v v' x : Value} {k : Nat} {n n' : Nat → Nat} {f f' : Mat} {e : Nat → Value} (h : BldO w2 lo hi v k n f e) (ho : Own w2 lo2 hi2 x (n' k) (f' k)) (hlo : hi ≤ lo2)
    (hn : ∀ i, i < k → n' i = n i) (hf : ∀ i, i < k → f' i = f i)
    (hr : w4.ownsRow lo 44 1 v' (k + 1) (valsOf k e ++ [x])) (hg : (w2.alloc (.cells #[x] 44)).grownBy w4 v.ownBlock) : BldO w4 lo w4.heap.size v' (k + 1) n' f' (fun i => if i = k then x else e i) := by
  have hs4 : w2.heap.size + 1 ≤ w4.heap.size := by have := hg.size; simpa using this
  have hle := h.le
  have hle2 := h.le2
  have hv : valsOf k e ++ [x] = valsOf (k + 1) (fun i => if i = k then x else e i) := by
    rw [← valsOf_snoc]
    simp only [if_pos]
    rw [valsOf_eq (e := e) (g := fun i => if i = k then x else e i) (fun i hi => by simp [show ¬ i = k by omega])]
  rw [hv] at hr
  have kp : ∀ {y : Value} {m : Nat} {q : Nat → Nat} {l u : Nat}, Own w2 l u y m q → Own w4 l w4.heap.size y m q := fun {y m q l u} hy =>
    ⟨(hy.kept fun b hb' => by
      have hlt := (hy.1.lt b hb').2
      rw [hg.block b (by simp; omega) (fun hh => two_blocks h.row hy b hh.symm hb')]
      exact Below.heap_alloc w2 _ b hlt).1, fun b hb' => by have := (hy.1.lt b hb').2; omega⟩
  refine ⟨hr, fun b hb => (hr.lt b hb).2, fun i hik => ?_, fun i j hik hj hne b hbi => ?_, by omega, Nat.le_refl _⟩
  · by_cases c : i = k
    · subst c
      simp only [if_pos]
      exact (kp ho).weaken (by omega) (Nat.le_refl _)
    · simp only [if_neg c]
      rw [hn i (by omega), hf i (by omega)]
      exact kp (h.each i (by omega))
  · have new : ∀ b, x.ownBlock = some b → hi ≤ b := fun b hb' => by have := (ho.1.lt b hb').1; omega
    have old : ∀ i, i < k → ∀ b, (e i).ownBlock = some b → b < hi := fun i hi b hb' => (h.each i hi).2 b hb'
    have hbi2 : (if i = k then x else e i).ownBlock = some b := hbi
    show (if j = k then x else e j).ownBlock ≠ some b
    by_cases c : i = k
    · have c2 : ¬ j = k := fun z => hne (by rw [c, z])
      rw [if_pos c] at hbi2
      rw [if_neg c2]
      intro hh
      have h5 := new b hbi2
      have h6 := old j (by omega) b hh
      omega
    · rw [if_neg c] at hbi2
      by_cases c2 : j = k
      · rw [if_pos c2]
        intro hh
        have h5 := new b hh
        have h6 := old i (by omega) b hbi2
        omega
      · rw [if_neg c2]
        exact h.apart i j (by omega) (by omega) hne b hbi2
theorem BldO.done {wr : World} {lo hi : Nat} {v : Value} {k : Nat} {n : Nat → Nat} {f : Mat} {e : Nat → Value} (h : BldO wr lo hi v k n f e) (hn : v ≠ nilS) : ∃ g cap, OwnE wr lo hi v k n f g cap e :=
  BldR.done ⟨h.row, hn, h.low, h.each, h.apart, h.le, h.le2⟩
theorem BldO.slice {wr : World} {lo hi : Nat} {v : Value} {k : Nat} {n : Nat → Nat} {f : Mat} {e : Nat → Value} (h : BldO wr lo hi v k n f e) : ∃ ao cap, v = .slice ao k cap := by
  rcases h.row.2 with ⟨h1, h2⟩ | ⟨g, cap, cur, h1, _⟩
  · subst h2
    exact ⟨_, _, h1⟩
  · exact ⟨_, _, h1⟩

end Go.Proofs.YtbmfndjglndnlaaGreat

namespace Go.Proofs.YtbmfndjglndnlaaGreat
open Go.RowKit F256
set_option linter.unusedVariables false
set_option linter.unusedSimpArgs false

theorem l3Shape_any (d s : Int) (w : World) :
    Calls Tryz.prog 125 #[.int .i64 d, .int .i64 s] w (BoolP (Shp3 d s) w) := by
  by_cases h1 : 1 ≤ d ∧ d ≤ 4
  · by_cases h2 : 0 ≤ s ∧ s ≤ 2
    · go_enter Tryz.func125, Tryz.ntmps125
      go_wp2_with fail
      refine (l1In_yes d 1 4 h1.1 h1.2 _).mono ?_
      rintro e w1 ⟨rfl, rfl⟩
      go_wp2_with fail
      refine (l1In_yes s 0 2 h2.1 h2.2 _).mono ?_
      rintro e w1 ⟨rfl, rfl⟩
      go_wp2
      go_ret
      exact boolYes rfl ⟨h1.1, h1.2, h2.1, h2.2⟩ (Below.refl _ _)
    · go_enter Tryz.func125, Tryz.ntmps125
      go_wp2_with fail
      refine (l1In_yes d 1 4 h1.1 h1.2 _).mono ?_
      rintro e w1 ⟨rfl, rfl⟩
      go_wp2_with fail
      refine (l1In_no s 0 2 (by omega) _).mono ?_
      rintro e w1 ⟨rfl, rfl⟩
      go_wp2
      go_ret
      exact boolNo rfl (fun h => h2 ⟨h.2.2.1, h.2.2.2⟩) (Below.refl _ _)
  · go_enter Tryz.func125, Tryz.ntmps125
    go_wp2_with fail
    refine (l1In_no d 1 4 (by omega) _).mono ?_
    rintro e w1 ⟨rfl, rfl⟩
    go_wp2
    go_ret
    exact boolNo rfl (fun h => h1 ⟨h.1, h.2.1⟩) (Below.refl _ _)


end Go.Proofs.YtbmfndjglndnlaaGreat

namespace Go.Proofs.YtbmfndjglndnlaaGreat
open Go.RowKit F256
set_option linter.unusedVariables false
set_option linter.unusedSimpArgs false

set_option maxHeartbeats 2000000 in
theorem toShape_any (s : Nat → Int) (w : World) :
    Calls Tryz.prog 39 #[shapeV s] w fun e w' => e = .returned (shapeV s) ∧ Below w.heap.size w w' := by
  unfold shapeV
  obtain ⟨a0, h0⟩ : ∃ a, a = s 0 := ⟨_, rfl⟩
  obtain ⟨a1, h1⟩ : ∃ a, a = s 1 := ⟨_, rfl⟩
  obtain ⟨a2, h2⟩ : ∃ a, a = s 2 := ⟨_, rfl⟩
  obtain ⟨a3, h3⟩ : ∃ a, a = s 3 := ⟨_, rfl⟩
  obtain ⟨a4, h4⟩ : ∃ a, a = s 4 := ⟨_, rfl⟩
  obtain ⟨a5, h5⟩ : ∃ a, a = s 5 := ⟨_, rfl⟩
  obtain ⟨a6, h6⟩ : ∃ a, a = s 6 := ⟨_, rfl⟩
  obtain ⟨a7, h7⟩ : ∃ a, a = s 7 := ⟨_, rfl⟩
  obtain ⟨a8, h8⟩ : ∃ a, a = s 8 := ⟨_, rfl⟩
  rw [← h0, ← h1, ← h2, ← h3, ← h4, ← h5, ← h6, ← h7, ← h8]
  clear h0 h1 h2 h3 h4 h5 h6 h7 h8
  go_enter Tryz.func39, Tryz.ntmps39
  go_wp2
  refine bodyPost_ret (v := .agg #[.int .i64 a0, .int .i64 a1, .int .i64 a2, .int .i64 a3, .int .i64 a4, .int .i64 a5, .int .i64 a6, .int .i64 a7, .int .i64 a8]) (by simp [results, Tryz.results39, go_sem]) rfl ⟨rfl, ?_⟩
  exact (((Below.refl _ _).alloc (Nat.le_refl _) _).alloc (by simp) _).alloc (by simp <;> omega) _

/-- a shape that has no fault -/
def OkShape (s : Nat → Int) : Prop := Shp3 (s 0) (s 1) ∧ Shp (s 2) (s 3) ∧ (1 ≤ s 4 ∧ s 4 ≤ 6) ∧ (1 ≤ s 5 ∧ s 5 ≤ 6) ∧ (1 ≤ s 6 ∧ s 6 ≤ 4) ∧ (1 ≤ s 7 ∧ s 7 ≤ 6) ∧ (0 ≤ s 8 ∧ s 8 ≤ 400)
def ShFAns (s : Nat → Int) (x : Int) : Prop := (x = 3 ∧ ¬ OkShape s) ∨ (x = 0 ∧ OkShape s)
theorem ShFAns.one {s : Nat → Int} {x y : Int} (h : ShFAns s x) (k : ShFAns s y) : x = y := by
  rcases h with ⟨rfl, h⟩ | ⟨rfl, h⟩ <;> rcases k with ⟨rfl, k⟩ | ⟨rfl, k⟩ <;> first | rfl | exact absurd h k | exact absurd k h
theorem box9 {w : World} {b : Nat} {t : TypeId} {a0 a1 a2 a3 a4 a5 a6 a7 a8 : Value} (h : Box w b #[a0, a1, a2, a3, a4, a5, a6, a7, a8] t) :
    w.cell? ⟨b, 0, none⟩ = some a0 ∧ w.cell? ⟨b, 1, none⟩ = some a1 ∧ w.cell? ⟨b, 2, none⟩ = some a2 ∧ w.cell? ⟨b, 3, none⟩ = some a3 ∧ w.cell? ⟨b, 4, none⟩ = some a4 ∧ w.cell? ⟨b, 5, none⟩ = some a5 ∧ w.cell? ⟨b, 6, none⟩ = some a6 ∧ w.cell? ⟨b, 7, none⟩ = some a7 ∧ w.cell? ⟨b, 8, none⟩ = some a8 :=
  ⟨h.cell 0, h.cell 1, h.cell 2, h.cell 3, h.cell 4, h.cell 5, h.cell 6, h.cell 7, h.cell 8⟩

set_option maxHeartbeats 4000000 in
theorem specShape_any (s : Nat → Int) (w : World) :
    Calls Tryz.prog 98 #[shapeV s] w fun e w' => ∃ x, e = .returned (.int .i64 x) ∧ ShFAns s x ∧ Below w.heap.size w w' := by
  unfold shapeV
  have HOK : Hid (OkShape s ↔ OkShape s) := Iff.rfl
  unfold OkShape at HOK
  obtain ⟨a0, h0⟩ : ∃ a, a = s 0 := ⟨_, rfl⟩
  obtain ⟨a1, h1⟩ : ∃ a, a = s 1 := ⟨_, rfl⟩
  obtain ⟨a2, h2⟩ : ∃ a, a = s 2 := ⟨_, rfl⟩
  obtain ⟨a3, h3⟩ : ∃ a, a = s 3 := ⟨_, rfl⟩
  obtain ⟨a4, h4⟩ : ∃ a, a = s 4 := ⟨_, rfl⟩
  obtain ⟨a5, h5⟩ : ∃ a, a = s 5 := ⟨_, rfl⟩
  obtain ⟨a6, h6⟩ : ∃ a, a = s 6 := ⟨_, rfl⟩
  obtain ⟨a7, h7⟩ : ∃ a, a = s 7 := ⟨_, rfl⟩
  obtain ⟨a8, h8⟩ : ∃ a, a = s 8 := ⟨_, rfl⟩
  have HIFF : Hid (OkShape s ↔ (Shp3 a0 a1 ∧ Shp a2 a3 ∧ (1 ≤ a4 ∧ a4 ≤ 6) ∧ (1 ≤ a5 ∧ a5 ≤ 6) ∧ (1 ≤ a6 ∧ a6 ≤ 4) ∧ (1 ≤ a7 ∧ a7 ≤ 6) ∧ (0 ≤ a8 ∧ a8 ≤ 400))) := by
    show OkShape s ↔ _
    rw [h0, h1, h2, h3, h4, h5, h6, h7, h8]
    exact Iff.rfl
  rw [← h0, ← h1, ← h2, ← h3, ← h4, ← h5, ← h6, ← h7, ← h8]
  clear h0 h1 h2 h3 h4 h5 h6 h7 h8 HOK
  go_enter Tryz.func98, Tryz.ntmps98
  go_wp2_with fail
  refine (l3Shape_any a0 a1 _).mono ?_
  rintro e w1 ⟨b1, rfl, hb1, b1'⟩
  have X1 : Box w1 w.heap.size #[.int .i64 a0, .int .i64 a1, .int .i64 a2, .int .i64 a3, .int .i64 a4, .int .i64 a5, .int .i64 a6, .int .i64 a7, .int .i64 a8] 30 := (box_new w _ _).below b1' (by simp)
  have B1 : Below w.heap.size w w1 := bnew b1'
  have H1 : Hid (b1 = true ↔ Shp3 a0 a1) := hb1
  have z1 := X1.lt
  obtain ⟨x0, x1, x2, x3, x4, x5, x6, x7, x8⟩ := box9 X1
  clear hb1 b1'
  cases b1 with
  | false =>
    have HNO : Hid (¬ OkShape s) := fun h => by have := H1.out.mpr (HIFF.out.mp h).1; cases this
    clear H1
    go_wp2
    go_ret
    exact ⟨3, rfl, .inl ⟨rfl, HNO.out⟩, B1⟩
  | true =>
    have HS1 : Hid (Shp3 a0 a1) := H1.out.mp rfl
    clear H1
    go_wp2_with fail
    refine (l2Shape_any a2 a3 _).mono ?_
    rintro e w2 ⟨b2, rfl, hb2, b2'⟩
    have X2 := X1.below b2' z1
    have B2 : Below w.heap.size w w2 := B1.trans (b2'.mono B1.size)
    have H2 : Hid (b2 = true ↔ Shp a2 a3) := hb2
    clear x0 x1 x2 x3 x4 x5 x6 x7 x8
    obtain ⟨x0, x1, x2, x3, x4, x5, x6, x7, x8⟩ := box9 X2
    clear hb2 b2' X1 B1
    cases b2 with
    | false =>
      have HNO : Hid (¬ OkShape s) := fun h => by have := H2.out.mpr (HIFF.out.mp h).2.1; cases this
      clear H2
      go_wp2
      go_ret
      exact ⟨3, rfl, .inl ⟨rfl, HNO.out⟩, B2⟩
    | true =>
      have HS2 : Hid (Shp a2 a3) := H2.out.mp rfl
      clear H2
      by_cases c4 : 1 ≤ a4 ∧ a4 ≤ 6
      · by_cases c5 : 1 ≤ a5 ∧ a5 ≤ 6
        · by_cases c6 : 1 ≤ a6 ∧ a6 ≤ 4
          · by_cases c7 : 1 ≤ a7 ∧ a7 ≤ 6
            · by_cases c8 : 0 ≤ a8 ∧ a8 ≤ 400
              · have HY : Hid (OkShape s) := HIFF.out.mpr ⟨HS1.out, HS2.out, c4, c5, c6, c7, c8⟩
                go_wp2_with fail
                refine (l1In_yes a4 1 6 c4.1 c4.2 _).mono ?_
                rintro e w3 ⟨rfl, hw⟩
                obtain rfl := hw.symm
                go_wp2_with fail
                refine (l1In_yes a5 1 6 c5.1 c5.2 _).mono ?_
                rintro e w3 ⟨rfl, hw⟩
                obtain rfl := hw.symm
                go_wp2_with fail
                refine (l1In_yes a6 1 4 c6.1 c6.2 _).mono ?_
                rintro e w3 ⟨rfl, hw⟩
                obtain rfl := hw.symm
                go_wp2_with fail
                refine (l1In_yes a7 1 6 c7.1 c7.2 _).mono ?_
                rintro e w3 ⟨rfl, hw⟩
                obtain rfl := hw.symm
                go_wp2_with fail
                refine (l1In_yes a8 0 400 c8.1 c8.2 _).mono ?_
                rintro e w3 ⟨rfl, hw⟩
                obtain rfl := hw.symm
                go_wp2
                go_ret
                exact ⟨0, rfl, .inr ⟨rfl, HY.out⟩, B2⟩
              · have HN : Hid (¬ OkShape s) := fun h => c8 (HIFF.out.mp h).2.2.2.2.2.2
                have c8' : a8 < 0 ∨ 400 < a8 := by omega
                clear c8
                go_wp2_with fail
                refine (l1In_yes a4 1 6 c4.1 c4.2 _).mono ?_
                rintro e w3 ⟨rfl, hw⟩
                obtain rfl := hw.symm
                go_wp2_with fail
                refine (l1In_yes a5 1 6 c5.1 c5.2 _).mono ?_
                rintro e w3 ⟨rfl, hw⟩
                obtain rfl := hw.symm
                go_wp2_with fail
                refine (l1In_yes a6 1 4 c6.1 c6.2 _).mono ?_
                rintro e w3 ⟨rfl, hw⟩
                obtain rfl := hw.symm
                go_wp2_with fail
                refine (l1In_yes a7 1 6 c7.1 c7.2 _).mono ?_
                rintro e w3 ⟨rfl, hw⟩
                obtain rfl := hw.symm
                go_wp2_with fail
                refine (l1In_no a8 0 400 c8' _).mono ?_
                rintro e w3 ⟨rfl, hw⟩
                obtain rfl := hw.symm
                go_wp2
                go_ret
                exact ⟨3, rfl, .inl ⟨rfl, HN.out⟩, B2⟩
            · have HN : Hid (¬ OkShape s) := fun h => c7 (HIFF.out.mp h).2.2.2.2.2.1
              have c7' : a7 < 1 ∨ 6 < a7 := by omega
              clear c7
              go_wp2_with fail
              refine (l1In_yes a4 1 6 c4.1 c4.2 _).mono ?_
              rintro e w3 ⟨rfl, hw⟩
              obtain rfl := hw.symm
              go_wp2_with fail
              refine (l1In_yes a5 1 6 c5.1 c5.2 _).mono ?_
              rintro e w3 ⟨rfl, hw⟩
              obtain rfl := hw.symm
              go_wp2_with fail
              refine (l1In_yes a6 1 4 c6.1 c6.2 _).mono ?_
              rintro e w3 ⟨rfl, hw⟩
              obtain rfl := hw.symm
              go_wp2_with fail
              refine (l1In_no a7 1 6 c7' _).mono ?_
              rintro e w3 ⟨rfl, hw⟩
              obtain rfl := hw.symm
              go_wp2
              go_ret
              exact ⟨3, rfl, .inl ⟨rfl, HN.out⟩, B2⟩
          · have HN : Hid (¬ OkShape s) := fun h => c6 (HIFF.out.mp h).2.2.2.2.1
            have c6' : a6 < 1 ∨ 4 < a6 := by omega
            clear c6
            go_wp2_with fail
            refine (l1In_yes a4 1 6 c4.1 c4.2 _).mono ?_
            rintro e w3 ⟨rfl, hw⟩
            obtain rfl := hw.symm
            go_wp2_with fail
            refine (l1In_yes a5 1 6 c5.1 c5.2 _).mono ?_
            rintro e w3 ⟨rfl, hw⟩
            obtain rfl := hw.symm
            go_wp2_with fail
            refine (l1In_no a6 1 4 c6' _).mono ?_
            rintro e w3 ⟨rfl, hw⟩
            obtain rfl := hw.symm
            go_wp2
            go_ret
            exact ⟨3, rfl, .inl ⟨rfl, HN.out⟩, B2⟩
        · have HN : Hid (¬ OkShape s) := fun h => c5 (HIFF.out.mp h).2.2.2.1
          have c5' : a5 < 1 ∨ 6 < a5 := by omega
          clear c5
          go_wp2_with fail
          refine (l1In_yes a4 1 6 c4.1 c4.2 _).mono ?_
          rintro e w3 ⟨rfl, hw⟩
          obtain rfl := hw.symm
          go_wp2_with fail
          refine (l1In_no a5 1 6 c5' _).mono ?_
          rintro e w3 ⟨rfl, hw⟩
          obtain rfl := hw.symm
          go_wp2
          go_ret
          exact ⟨3, rfl, .inl ⟨rfl, HN.out⟩, B2⟩
      · have HN : Hid (¬ OkShape s) := fun h => c4 (HIFF.out.mp h).2.2.1
        have c4' : a4 < 1 ∨ 6 < a4 := by omega
        clear c4
        go_wp2_with fail
        refine (l1In_no a4 1 6 c4' _).mono ?_
        rintro e w3 ⟨rfl, hw⟩
        obtain rfl := hw.symm
        go_wp2
        go_ret
        exact ⟨3, rfl, .inl ⟨rfl, HN.out⟩, B2⟩
end Go.Proofs.YtbmfndjglndnlaaGreat

namespace Go.Proofs.YtbmfndjglndnlaaGreat
open Go.RowKit F256
set_option linter.unusedVariables false
set_option linter.unusedSimpArgs false

/-- the bytes of a string -/
def nameByte (b : ByteArray) (i : Nat) : Nat := if h : i < b.size then (b[i]'h).toNat else 0
theorem nameByte_lt (b : ByteArray) (i : Nat) : nameByte b i < 256 := by
  unfold nameByte
  split
  · exact UInt8.toNat_lt _
  · omega
theorem index_name (b : ByteArray) (i : Nat) (h : i < b.size) (w : World) : (Instr.index 9 (.string b) (.int .i64 (i : Int))).run Tryz.prog w = .ok (.int .u8 (nameByte b i)) w := by
  rw [run_index_string w 9 b .i64 (i : Int) Tryz.underlying9, dif_pos ⟨by omega, by omega⟩]
  simp [nameByte, h]
def LetP (y : Nat) : Prop := 97 ≤ y ∧ y ≤ 122
def DigP (y : Nat) : Prop := 48 ≤ y ∧ y ≤ 57
/-- a name that has no fault -/
def OkName (b : ByteArray) : Prop := 1 ≤ b.size ∧ b.size ≤ 8 ∧ LetP (nameByte b 0) ∧ ∀ i, i < b.size → LetP (nameByte b i) ∨ DigP (nameByte b i)
def NmAns (b : ByteArray) (x : Int) : Prop := (x = 5 ∧ ¬ OkName b) ∨ (x = 0 ∧ OkName b)
theorem NmAns.one {b : ByteArray} {x y : Int} (h : NmAns b x) (k : NmAns b y) : x = y := by
  rcases h with ⟨rfl, h⟩ | ⟨rfl, h⟩ <;> rcases k with ⟨rfl, k⟩ | ⟨rfl, k⟩ <;> first | rfl | exact absurd h k | exact absurd k h

set_option maxHeartbeats 4000000 in
theorem specName_any (b : ByteArray) (hb : b.size ≤ 1048576) (w : World) :
    Calls Tryz.prog 127 #[.string b] w fun e w' => ∃ x, e = .returned (.int .i64 x) ∧ NmAns b x ∧ w' = w := by
  by_cases h1 : 1 ≤ b.size
  · have t1 : decide ((b.size : Int) < 1) = false := by simp; omega
    have t1n : decide (b.size < 1) = false := decide_eq_false (by omega)
    have t1z : decide (b.size = 0) = false := decide_eq_false (by omega)
    by_cases h2 : b.size ≤ 8
    · have t2 : decide ((8 : Int) < (b.size : Int)) = false := by simp; omega
      have t2n : decide (8 < b.size) = false := by simp; omega
      have hix := index_name b 0 h1
      have e0 : ((0 : Nat) : Int) = 0 := rfl
      rw [e0] at hix
      obtain ⟨y, hy⟩ : ∃ y, y = nameByte b 0 := ⟨_, rfl⟩
      rw [← hy] at hix
      have HY : Hid (y = nameByte b 0) := hy
      clear e0 hy
      by_cases h3 : y < 97
      · have HN : Hid (¬ OkName b) := fun h => by have := h.2.2.1.1; rw [← HY.out] at this; omega
        have t3 : decide ((y : Int) < 97) = true := by simp; omega
        go_enter Tryz.func127, Tryz.ntmps127
        go_wp2
        go_ret
        exact ⟨5, rfl, .inl ⟨rfl, HN.out⟩, rfl⟩
      · have t3 : decide ((y : Int) < 97) = false := by simp; omega
        have t3n : decide (y < 97) = false := by simp; omega
        by_cases h4 : 122 < y
        · have HN : Hid (¬ OkName b) := fun h => by have := h.2.2.1.2; rw [← HY.out] at this; omega
          have t4 : decide ((122 : Int) < (y : Int)) = true := by simp; omega
          clear h3
          go_enter Tryz.func127, Tryz.ntmps127
          go_wp2
          go_ret
          exact ⟨5, rfl, .inl ⟨rfl, HN.out⟩, rfl⟩
        · have t4 : decide ((122 : Int) < (y : Int)) = false := by simp; omega
          have t4n : decide (122 < y) = false := by simp; omega
          have HL : Hid (LetP (nameByte b 0)) := by show LetP (nameByte b 0); rw [← HY.out]; exact ⟨by omega, by omega⟩
          clear h3 h4
          go_enter Tryz.func127, Tryz.ntmps127
          go_wp2
          go_loop [3] (fun i => ∃ k : Nat, k ≤ b.size ∧ i = .int .i64 k ∧ ∀ i, i < k → LetP (nameByte b i) ∨ DigP (nameByte b i)) (fun i => b.size - (intOf i).toNat)
          case atStart => exact ⟨0, Nat.zero_le _, rfl, fun i hi => by omega⟩
          case round =>
            obtain ⟨k, hk, rfl, hall⟩ := hrel
            have HALL : Hid (∀ i, i < k → LetP (nameByte b i) ∨ DigP (nameByte b i)) := hall
            clear hall
            by_cases hlt : k < b.size
            · have hik := index_name b k hlt
              obtain ⟨z, hz⟩ : ∃ z, z = nameByte b k := ⟨_, rfl⟩
              rw [← hz] at hik
              have HZ : Hid (z = nameByte b k) := hz
              clear hz
              by_cases c1 : z < 97
              · have s1 : decide ((z : Int) < 97) = true := by simp; omega
                by_cases c3 : z < 48
                · have s3 : decide ((z : Int) < 48) = true := by simp; omega
                  have HN : Hid (¬ OkName b) := fun h => by
                    have := h.2.2.2 k hlt
                    rw [← HZ.out] at this
                    unfold LetP DigP at this
                    omega
                  go_wp2
                  go_ret
                  exact ⟨5, rfl, .inl ⟨rfl, HN.out⟩, rfl⟩
                · have s3 : decide ((z : Int) < 48) = false := by simp; omega
                  have s3n : decide (z < 48) = false := by simp; omega
                  by_cases c4 : 57 < z
                  · have s4 : decide ((57 : Int) < (z : Int)) = true := by simp; omega
                    have HN : Hid (¬ OkName b) := fun h => by
                      have := h.2.2.2 k hlt
                      rw [← HZ.out] at this
                      unfold LetP DigP at this
                      omega
                    clear c3
                    go_wp2
                    go_ret
                    exact ⟨5, rfl, .inl ⟨rfl, HN.out⟩, rfl⟩
                  · have s4 : decide ((57 : Int) < (z : Int)) = false := by simp; omega
                    have s4n : decide (57 < z) = false := by simp; omega
                    have HD : Hid (DigP (nameByte b k)) := by show DigP (nameByte b k); rw [← HZ.out]; exact ⟨by omega, by omega⟩
                    clear c3 c4
                    go_wp2
                    go_round
                    case rel => exact ⟨k + 1, by omega, by go_num, fun i hi => by
                                  by_cases c : i = k
                                  · right; rw [c]; exact HD.out
                                  · exact HALL.out i (by omega)⟩
                    case measure => simp [intOf]; omega
              · have s1 : decide ((z : Int) < 97) = false := by simp; omega
                have s1n : decide (z < 97) = false := by simp; omega
                by_cases c2 : 122 < z
                · have s2 : decide ((122 : Int) < (z : Int)) = true := by simp; omega
                  have s3 : decide ((z : Int) < 48) = false := by simp; omega
                  have s3n : decide (z < 48) = false := by simp; omega
                  have s4 : decide ((57 : Int) < (z : Int)) = true := by simp; omega
                  have HN : Hid (¬ OkName b) := fun h => by
                    have := h.2.2.2 k hlt
                    rw [← HZ.out] at this
                    unfold LetP DigP at this
                    omega
                  clear c1
                  go_wp2
                  go_ret
                  exact ⟨5, rfl, .inl ⟨rfl, HN.out⟩, rfl⟩
                · have s2 : decide ((122 : Int) < (z : Int)) = false := by simp; omega
                  have s2n : decide (122 < z) = false := by simp; omega
                  have HD : Hid (LetP (nameByte b k)) := by show LetP (nameByte b k); rw [← HZ.out]; exact ⟨by omega, by omega⟩
                  clear c1 c2
                  go_wp2
                  go_round
                  case rel => exact ⟨k + 1, by omega, by go_num, fun i hi => by
                                by_cases c : i = k
                                · left; rw [c]; exact HD.out
                                · exact HALL.out i (by omega)⟩
                  case measure => simp [intOf]; omega
            · obtain rfl : k = b.size := by omega
              have HY2 : Hid (OkName b) := ⟨h1, h2, HL.out, HALL.out⟩
              go_wp2
              go_ret
              exact ⟨0, rfl, .inr ⟨rfl, HY2.out⟩, rfl⟩
    · have HN : Hid (¬ OkName b) := fun h => h2 h.2.1
      have t2 : decide ((8 : Int) < (b.size : Int)) = true := by simp; omega
      have t2i : (8 : Int) < (b.size : Int) := by omega
      clear h2
      go_enter Tryz.func127, Tryz.ntmps127
      go_wp2
      go_ret
      exact ⟨5, rfl, .inl ⟨rfl, HN.out⟩, rfl⟩
  · have HN : Hid (¬ OkName b) := fun h => h1 h.1
    have t1 : decide ((b.size : Int) < 1) = true := by simp; omega
    have t1i : (b.size : Int) < 1 := by omega
    clear h1
    go_enter Tryz.func127, Tryz.ntmps127
    go_wp2
    go_ret
    exact ⟨5, rfl, .inl ⟨rfl, HN.out⟩, rfl⟩
end Go.Proofs.YtbmfndjglndnlaaGreat

namespace Go.Proofs.YtbmfndjglndnlaaGreat
open Go.RowKit F256
set_option linter.unusedVariables false

def InP (x a b : Int) : Prop := a ≤ x ∧ x ≤ b
/-- numbers from 0 to most, no two alike -/
def ApartP (n : Nat) (g : Nat → Int) (most : Int) : Prop := ∀ i, i < n → InP (g i) 0 most ∧ ∀ t, t < i → g t ≠ g i
def ItemP (s : Nat → Int) (r : RecD) : Prop :=
  (r.length = -1 ∧ r.data.1 = 0 ∧ r.rows.1 = 0) ∨
  (r.length ≠ -1 ∧ 1 ≤ r.length ∧ r.length ≤ 3 * (s 2 * 4) ∧
    ((0 < r.data.1 ∧ (r.data.1 : Int) = r.length ∧ r.rows.1 = 0) ∨
     (r.data.1 = 0 ∧ (r.rows.1 : Int) = (r.length + s 2 * 4 - 1) / (s 2 * 4) ∧ ApartP r.rows.1 r.rows.2 (s 4 - 1))))
def MoveP (s : Nat → Int) (r : RecD) : Prop := InP r.group 0 (s 0 - 1) ∧ InP r.row 0 (s 4 - 1) ∧ (r.data.1 : Int) = s 2 * 4 ∧ (r.delta.1 : Int) = s 2 * 4
def DoneP (s : Nat → Int) (r : RecD) : Prop := InP r.group 0 (s 0 + s 1 - 1)
def WeightsP (s : Nat → Int) (r : RecD) : Prop := (r.delta.1 : Int) = s 0 + s 1 ∧ r.delta.2 r.group.toNat = 0 ∧ ∀ i, i < r.rows.1 → r.delta.2 (r.rows.2 i).toNat ≠ 0
def ShareP (s : Nat → Int) (r : RecD) : Prop := InP r.group 0 (s 0 + s 1 - 1) ∧ InP r.row 0 (s 4 - 1) ∧ RiseP r.rows.1 r.rows.2 (s 0 + s 1 - 1) ∧ (r.data.1 : Int) = s 2 * 4 ∧ WeightsP s r
def KindP (s : Nat → Int) (r : RecD) : Prop := (r.kind = 1 ∧ ItemP s r) ∨ (r.kind = 2 ∧ MoveP s r) ∨ (r.kind = 3 ∧ DoneP s r) ∨ (r.kind = 4 ∧ ShareP s r)
def noName (r : RecD) : Prop := r.name = ByteArray.empty ∧ r.length = 0
def BlankP (r : RecD) : Prop :=
  (r.kind = 1 ∧ r.group = 0 ∧ r.row = 0 ∧ r.delta.1 = 0) ∨ (r.kind = 2 ∧ noName r ∧ r.rows.1 = 0) ∨
  (r.kind = 3 ∧ noName r ∧ r.row = 0 ∧ r.rows.1 = 0 ∧ r.data.1 = 0 ∧ r.delta.1 = 0) ∨ (r.kind = 4 ∧ noName r)
def NamedP (r : RecD) : Prop := r.kind = 1 → OkName r.name
/-- codes asked one behind the other: the first that falls is told; behind them all K -/
def Stair : List (Prop × Int) → (Int → Prop) → Int → Prop
  | [], K, x => K x
  | (p, c) :: l, K, x => (¬ p ∧ x = c) ∨ (p ∧ Stair l K x)
theorem Stair.fall {p : Prop} {c : Int} {l : List (Prop × Int)} {K : Int → Prop} (h : ¬ p) : Stair ((p, c) :: l) K c := .inl ⟨h, rfl⟩
theorem Stair.pass {p : Prop} {c : Int} {l : List (Prop × Int)} {K : Int → Prop} {x : Int} (h : p) (k : Stair l K x) : Stair ((p, c) :: l) K x := .inr ⟨h, k⟩
theorem Stair.last {K : Int → Prop} {x : Int} (h : K x) : Stair [] K x := h
theorem Stair.one {K : Int → Prop} (hK : ∀ x y, K x → K y → x = y) : ∀ (l : List (Prop × Int)) {x y : Int}, Stair l K x → Stair l K y → x = y
  | [], x, y, h, k => hK x y h k
  | (p, c) :: l, x, y, h, k => by
    rcases h with ⟨h1, h2⟩ | ⟨h1, h2⟩ <;> rcases k with ⟨k1, k2⟩ | ⟨k1, k2⟩
    · rw [h2, k2]
    · exact absurd k1 h1
    · exact absurd h1 k1
    · exact Stair.one hK l h2 k2
def isZ (x : Int) : Prop := x = 0
theorem isZ_one (x y : Int) (h : isZ x) (k : isZ y) : x = y := by rw [show x = 0 from h, show y = 0 from k]
/-- what RecFault tells -/
def RecAns (s : Nat → Int) (r : RecD) (x : Int) : Prop :=
  Stair [(OkShape s, 3), (InP r.kind 1 4, 5), (InP r.seq 1 1000000000, 3), (NamedP r, 5), (KindP s r, 3), (BlankP r, 1)] isZ x
theorem RecAns.one {s : Nat → Int} {r : RecD} {x y : Int} (h : RecAns s r x) (k : RecAns s r y) : x = y := Stair.one isZ_one _ h k

/-- groups, drives and blocks as the shape has them -/
def BlockP (b : BlockD) : Prop := InP b.stamp 0 1000000000 ∧ b.bytes.1 = 4
def BlocksP (s : Nat → Int) (p : Nat × (Nat → BlockD)) : Prop := (p.1 : Int) = s 4 ∧ ∀ i, i < p.1 → BlockP (p.2 i)
def DrivesP (s : Nat → Int) (p : Nat × (Nat → DriveD)) : Prop := (p.1 : Int) = s 2 + s 3 ∧ ∀ i, i < p.1 → BlocksP s (p.2 i).blocks
def BuiltP (d : WorldD) : Prop := (d.groups.1 : Int) = d.shape 0 + d.shape 1 ∧ ∀ i, i < d.groups.1 → DrivesP d.shape (d.groups.2 i)
def OnP (d : WorldD) : Prop := ApartP d.on.1 d.on.2 (d.shape 0 + d.shape 1 - 1) ∧ (d.on.1 : Int) ≤ d.shape 5 ∧ (d.down = true → d.on.1 = 0)
def FormP (d : WorldD) : Prop := BuiltP d ∧ OnP d ∧ d.tapes.1 = 2
def FewP (d : WorldD) : Prop := ∀ t, t < d.tapes.1 → (d.tapes.2 t).recs.1 ≤ 200
/-- the first record that has a fault -/
def RecsAns (s : Nat → Int) (n : Nat) (x : Nat → TapeD) (c : Int) : Prop :=
  (c = 0 ∧ ∀ t, t < n → ∀ i, i < (x t).recs.1 → RecAns s ((x t).recs.2 i) 0) ∨
  (c ≠ 0 ∧ ∃ t i, t < n ∧ i < (x t).recs.1 ∧ RecAns s ((x t).recs.2 i) c ∧ (∀ k, k < i → RecAns s ((x t).recs.2 k) 0) ∧ ∀ u, u < t → ∀ k, k < (x u).recs.1 → RecAns s ((x u).recs.2 k) 0)
theorem RecsAns.one {s : Nat → Int} {n : Nat} {x : Nat → TapeD} {c e : Int} (h : RecsAns s n x c) (k : RecsAns s n x e) : c = e := by
  rcases h with ⟨rfl, h⟩ | ⟨hc, t, i, ht, hi, hr, hb, hu⟩ <;> rcases k with ⟨rfl, k⟩ | ⟨kc, t', i', kt, ki, kr, kb, ku⟩
  · rfl
  · exact absurd (kr.one (h t' kt i' ki)) kc
  · exact absurd (hr.one (k t ht i hi)) hc
  · rcases Nat.lt_trichotomy t t' with c1 | c1 | c1
    · exact absurd (hr.one (ku t c1 i hi)) hc
    · subst c1
      rcases Nat.lt_trichotomy i i' with c2 | c2 | c2
      · exact absurd (hr.one (kb i c2)) hc
      · subst c2; exact hr.one kr
      · exact absurd (kr.one (hb i' c2)) kc
    · exact absurd (kr.one (hu t' c1 i' ki)) kc
def CleanP (d : WorldD) : Prop := ∀ t, t < d.tapes.1 → (d.tapes.2 t).wiped = true → (d.tapes.2 t).recs.1 = 0
def CountP (d : WorldD) : Prop := InP d.writes 0 1000000000 ∧ InP d.stop (-1) 1000000000
/-- what WorldFault tells -/
def WldAns (d : WorldD) (x : Int) : Prop :=
  Stair [(OkShape d.shape, 3), (FormP d, 1), (FewP d, 2)] (fun x => (x ≠ 0 ∧ RecsAns d.shape d.tapes.1 d.tapes.2 x) ∨ (RecsAns d.shape d.tapes.1 d.tapes.2 0 ∧ Stair [(CleanP d, 1), (CountP d, 3)] isZ x)) x
theorem WldAns.one {d : WorldD} {x y : Int} (h : WldAns d x) (k : WldAns d y) : x = y := by
  refine Stair.one (fun x y h k => ?_) _ h k
  rcases h with ⟨h1, h2⟩ | ⟨h1, h2⟩ <;> rcases k with ⟨k1, k2⟩ | ⟨k1, k2⟩
  · exact h2.one k2
  · exact absurd (h2.one k1) h1
  · exact absurd (k2.one h1) k1
  · exact Stair.one isZ_one _ h2 k2
/-- a world without a fault -/
structure OkWorld (d : WorldD) : Prop where
  shape : OkShape d.shape
  form : FormP d
  few : FewP d
  recs : ∀ t, t < d.tapes.1 → ∀ i, i < (d.tapes.2 t).recs.1 → RecAns d.shape ((d.tapes.2 t).recs.2 i) 0
  clean : CleanP d
  count : CountP d
theorem WldAns.ok {d : WorldD} (h : WldAns d 0) : OkWorld d := by
  rcases h with ⟨_, h⟩ | ⟨h1, h⟩
  · omega
  rcases h with ⟨_, h⟩ | ⟨h2, h⟩
  · omega
  rcases h with ⟨_, h⟩ | ⟨h3, h⟩
  · omega
  rcases h with ⟨h, _⟩ | ⟨h4, h⟩
  · exact absurd rfl h
  rcases h with ⟨_, h⟩ | ⟨h5, h⟩
  · omega
  rcases h with ⟨_, h⟩ | ⟨h6, h⟩
  · omega
  rcases h4 with ⟨_, h4⟩ | ⟨h4, _⟩
  · exact ⟨h1, h2, h3, h4, h5, h6⟩
  · exact absurd rfl h4
theorem exB (P : Prop) : ∃ b : Bool, b = true ↔ P := by
  by_cases h : P
  · exact ⟨true, by simp [h]⟩
  · exact ⟨false, by simp [h]⟩
end Go.Proofs.YtbmfndjglndnlaaGreat

namespace Go.Proofs.YtbmfndjglndnlaaGreat
open Go.RowKit F256

/-- a result with a number in it -/
def intR (code value : Int) : Value := .agg #[.int .i64 code, .int .i64 value]

end Go.Proofs.YtbmfndjglndnlaaGreat

namespace Go.Proofs.YtbmfndjglndnlaaGreat
open Go.RowKit F256
set_option linter.unusedVariables false
set_option linter.unusedSimpArgs false

set_option maxHeartbeats 1000000 in
theorem l1Has_any (v : Value) (n : Nat) (g : Nat → Int) (hi : Nat) (x : Int) (w : World) (r : RdI w hi v n g) :
    Calls Tryz.prog 38 #[v, .int .i64 x] w (BoolP (HasP n g x) w) := by
  obtain ⟨ao, cap, rfl, hm, hc⟩ := r
  unfold maxLen at hm
  go_enter Tryz.func38, Tryz.ntmps38
  go_wp2
  go_loop [5] (fun i => ∃ k : Nat, k ≤ n ∧ i = .int .i64 k ∧ ∀ i, i < k → g i ≠ x) (fun i => n - (intOf i).toNat)
  case atStart => exact ⟨0, Nat.zero_le _, rfl, fun i hi => by omega⟩
  case round =>
    obtain ⟨k, hk, rfl, hall⟩ := hrel
    have HALL : Hid (∀ i, i < k → g i ≠ x) := hall
    clear hall
    by_cases hlt : k < n
    · obtain ⟨b, off, rfl, hblt, hcell⟩ := hc (by omega)
      have hck : w.cell? ⟨b, off + k, none⟩ = some (.int .i64 (g k)) := hcell k hlt
      obtain ⟨y, hy⟩ : ∃ y, y = g k := ⟨_, rfl⟩
      have HY : Hid (y = g k) := hy
      rw [← hy] at hck
      clear hc hcell hy
      by_cases heq : y = x
      · have tn : (y == x) = true := by simp [heq]
        have HE : Hid (y = x) := heq
        clear heq
        go_wp2
        go_ret
        exact boolYes rfl ⟨k, hlt, by rw [← HY.out]; exact HE.out⟩ (Below.refl _ _)
      · have tn : (y == x) = false := by simp [heq]
        have HE : Hid (y ≠ x) := heq
        clear heq
        go_wp2
        go_round
        case rel => exact ⟨k + 1, by omega, by go_num, fun i hi => by
                      by_cases c : i = k
                      · rw [c, ← HY.out]; exact HE.out
                      · exact HALL.out i (by omega)⟩
        case measure => simp [intOf]; omega
    · obtain rfl : k = n := by omega
      go_wp2
      go_ret
      exact boolNo rfl (fun ⟨i, hi, h⟩ => HALL.out i hi h) (Below.refl _ _)
end Go.Proofs.YtbmfndjglndnlaaGreat

namespace Go.Proofs.YtbmfndjglndnlaaGreat
open Go.RowKit F256
set_option linter.unusedVariables false

theorem q_below {f : Nat} {args : Array Value} {W : World} {v : Value} (h : ∀ w', Below W.heap.size W w' → Calls Tryz.prog f args w' fun e w'' => e = .returned v ∧ Below w'.heap.size w' w'') :
    ∀ d os, Calls Tryz.prog f args (Go.Sort.grow (redrawn W d) os) fun e w'' => e = .returned v ∧ ∃ p : Regrown, w'' = Go.Sort.grow (redrawn W p.d) p.os := fun d os => Calls.regrown_of (h _ (below_regrown W d os))
theorem q_same {f : Nat} {args : Array Value} {W : World} {v : Value} (h : ∀ w', Calls Tryz.prog f args w' fun e w'' => e = .returned v ∧ w'' = w') :
    ∀ d os, Calls Tryz.prog f args (Go.Sort.grow (redrawn W d) os) fun e w'' => e = .returned v ∧ ∃ p : Regrown, w'' = Go.Sort.grow (redrawn W p.d) p.os :=
  q_below fun w' _ => (h w').mono fun e w'' ⟨h1, h2⟩ => ⟨h1, by rw [h2]; exact Below.refl _ _⟩
theorem det_b {f : Nat} {args : Array Value} {w : World} {P : Prop} {b : Bool} (h : Calls Tryz.prog f args w (BoolP P w)) (hb : b = true ↔ P) : Calls Tryz.prog f args w fun e w' => e = .returned (.bool b) ∧ Below w.heap.size w w' :=
  h.mono fun e w' ⟨b', h1, h2, h3⟩ => ⟨by rw [h1]; congr 2; cases b <;> cases b' <;> simp_all, h3⟩
/-- l1In, told by a bool -/
theorem l1In_b {v a b : Int} {t : Bool} (ht : t = true ↔ InP v a b) (w : World) :
    Calls Tryz.prog 35 #[.int .i64 v, .int .i64 a, .int .i64 b] w fun e w' => e = .returned (.bool t) ∧ w' = w := by
  cases t with
  | true => exact l1In_yes v a b (ht.1 rfl).1 (ht.1 rfl).2 w
  | false =>
    have : ¬ InP v a b := fun h => by have := ht.2 h; cases this
    exact l1In_no v a b (by unfold InP at this; omega) w
theorem below_rg {W w' : World} (h : ∃ p : Regrown, w' = Go.Sort.grow (redrawn W p.d) p.os) : Below W.heap.size W w' := by
  obtain ⟨p, rfl⟩ := h
  exact below_regrown W p.d p.os
/-- the walk in the text's order, behind a wall (what is behind it is not looked into) -/
structure WQ (P : Program) (ops : Array Oper) (C : World → Prop) (Q : Act → Prop) (l : List Oper) (a : Act) : Prop where
  out : wpQuiet P ops C Q l a
theorem WQ.skip {P : Program} {ops : Array Oper} {C : World → Prop} {Q : Act → Prop} {a : Act} {o : Oper} {rest : List Oper} (hw : Region.wanted o (yielded ops a.tmps) = false)
    (h : ∀ K : Act → Prop, (∀ a, WQ P ops C Q rest a → K a) → K (a.put o.dst undef)) : WQ P ops C Q (o :: rest) a := by
  refine ⟨?_⟩
  unfold wpQuiet
  rw [if_neg (by rw [hw]; decide)]
  exact (h _ (fun _ h => h)).out
theorem WQ.want {P : Program} {ops : Array Oper} {C : World → Prop} {Q : Act → Prop} {a : Act} {o : Oper} {rest : List Oper} (hw : Region.wanted o (yielded ops a.tmps) = true)
    (h : ∀ K : Act → Prop, (∀ a, WQ P ops C Q rest a → K a) → o.quiet P a C K) : WQ P ops C Q (o :: rest) a := by
  refine ⟨?_⟩
  unfold wpQuiet
  rw [if_pos hw]
  exact Oper.quiet_mono (fun a h => h.out) (h _ (fun _ h => h))
theorem WQ.nil {P : Program} {ops : Array Oper} {C : World → Prop} {Q : Act → Prop} {a : Act} (h : Q a) : WQ P ops C Q [] a := ⟨wpQuiet_nil h⟩
theorem WQ.region {P : Program} {id : Nat} {Q : Exit → Act → World → Prop} {a : Act} {w : World} {l : List Oper} (hm : P.follows .mixedOrders = true) (hB : Region.lexB .any l.toArray = true)
    (h : WQ P l.toArray (fun w' => ∃ p : Regrown, w' = Go.Sort.grow (redrawn w p.d) p.os) (fun a' => ∀ w', (∃ p : Regrown, w' = Go.Sort.grow (redrawn w p.d) p.os) → Q .normal a' w') l a) : (Code.region id l.toArray true).wp P Q a w := wp_region_quiet_below hm hB h.out
end Go.Proofs.YtbmfndjglndnlaaGreat

namespace Go.Proofs.YtbmfndjglndnlaaGreat
open Go.RowKit F256
set_option linter.unusedVariables false
set_option linter.unusedSimpArgs false

/-- the sum of a name's first bytes -/
def nameSum (b : ByteArray) : Nat → Nat
  | 0 => 0
  | k + 1 => nameSum b k + nameByte b k
theorem nameSum_lt (b : ByteArray) (k : Nat) : nameSum b k ≤ 255 * k := by
  induction k with
  | zero => exact Nat.le_refl _
  | succ k ih => have := nameByte_lt b k; simp only [nameSum]; omega

/-- what HomeOf answers -/
def HoAns (s : Nat → Int) (b : ByteArray) (x c : Int) : Prop :=
  (¬ OkShape s ∧ c = 3 ∧ x = 0) ∨ (OkShape s ∧ ¬ OkName b ∧ c = 5 ∧ x = 0) ∨ (OkShape s ∧ OkName b ∧ c = 0 ∧ x = (nameSum b b.size : Int) % s 0)
theorem HoAns.one {s : Nat → Int} {b : ByteArray} {x c y d : Int} (h : HoAns s b x c) (k : HoAns s b y d) : x = y ∧ c = d := by
  rcases h with ⟨h1, rfl, rfl⟩ | ⟨h1, h2, rfl, rfl⟩ | ⟨h1, h2, rfl, rfl⟩ <;> rcases k with ⟨k1, rfl, rfl⟩ | ⟨k1, k2, rfl, rfl⟩ | ⟨k1, k2, rfl, rfl⟩ <;>
    first | exact ⟨rfl, rfl⟩ | exact absurd h1 k1 | exact absurd k1 h1 | exact absurd h2 k2 | exact absurd k2 h2

theorem two_new {w w1 : World} {cs ds : Array Value} {t u : TypeId} (h : Below ((w.alloc (.cells cs t)).alloc (.cells ds u)).heap.size ((w.alloc (.cells cs t)).alloc (.cells ds u)) w1) :
    Box w1 w.heap.size cs t ∧ Box w1 (w.heap.size + 1) ds u ∧ Below w.heap.size w w1 ∧ w.heap.size + 1 < w1.heap.size := by
  have h2 := bnew h
  have e : (w.alloc (.cells cs t)).heap.size = w.heap.size + 1 := by simp
  have k2 := box_new (w.alloc (.cells cs t)) ds u
  rw [e] at k2
  have z := bsize h
  rw [e] at z
  exact ⟨(box_new w cs t).below h2 (by simp), k2.below h (by simp), bnew h2, z⟩

end Go.Proofs.YtbmfndjglndnlaaGreat

namespace Go.Proofs.YtbmfndjglndnlaaGreat
open Go.RowKit F256
set_option linter.unusedVariables false
set_option linter.unusedSimpArgs false

set_option maxHeartbeats 4000000 in
theorem l4Wide_any (s : Nat → Int) (h1 : 1 ≤ s 2) (h2 : s 2 ≤ 1000) (w : World) :
    Calls Tryz.prog 129 #[shapeV s] w fun e w' => e = .returned (.int .i64 (s 2 * 4)) ∧ Below w.heap.size w w' := by
  unfold shapeV
  obtain ⟨a2, h0⟩ : ∃ a, a = s 2 := ⟨_, rfl⟩
  rw [← h0] at h1 h2 ⊢
  clear h0
  have B0 : Below w.heap.size w (w.alloc (.cells #[.int .i64 (s 0), .int .i64 (s 1), .int .i64 a2, .int .i64 (s 3), .int .i64 (s 4), .int .i64 (s 5), .int .i64 (s 6), .int .i64 (s 7), .int .i64 (s 8)] 30)) := bnew (Below.refl _ _)
  go_enter Tryz.func129, Tryz.ntmps129
  go_wp2
  go_ret
  exact ⟨rfl, B0⟩

theorem box_new9 {w w1 : World} {cs : Array Value} {t : TypeId} (h : Below (w.alloc (.cells cs t)).heap.size (w.alloc (.cells cs t)) w1) :
    Box w1 w.heap.size cs t ∧ Below w.heap.size w w1 ∧ w.heap.size < w1.heap.size :=
  ⟨(box_new w cs t).below h (by simp), bnew h, bsize h⟩

theorem keep9 {B : Nat} {w W w2 : World} {cs : Array Value} {t : TypeId} (hX : Box W B cs t) (hB : Below B w W) (hb : Below W.heap.size W w2) : Box w2 B cs t ∧ Below B w w2 :=
  ⟨hX.below hb hX.lt, hB.trans (hb.mono (Nat.le_of_lt hX.lt))⟩

set_option maxHeartbeats 4000000 in
theorem l4Parts_any (s : Nat → Int) (h1 : 1 ≤ s 2) (h2 : s 2 ≤ 1000) (l : Int) (h3 : 0 ≤ l) (h4 : l ≤ 1000000000) (w : World) :
    Calls Tryz.prog 147 #[shapeV s, .int .i64 l] w fun e w' => e = .returned (.int .i64 ((l + s 2 * 4 - 1) / (s 2 * 4))) ∧ Below w.heap.size w w' := by
  have CL := l4Wide_any s h1 h2
  unfold shapeV
  have K0 : Hid (Box (w.alloc (.cells #[.int .i64 (s 0), .int .i64 (s 1), .int .i64 (s 2), .int .i64 (s 3), .int .i64 (s 4), .int .i64 (s 5), .int .i64 (s 6), .int .i64 (s 7), .int .i64 (s 8)] 30)) w.heap.size #[.int .i64 (s 0), .int .i64 (s 1), .int .i64 (s 2), .int .i64 (s 3), .int .i64 (s 4), .int .i64 (s 5), .int .i64 (s 6), .int .i64 (s 7), .int .i64 (s 8)] 30) := box_new w _ _
  have KB : Hid (Below w.heap.size w (w.alloc (.cells #[.int .i64 (s 0), .int .i64 (s 1), .int .i64 (s 2), .int .i64 (s 3), .int .i64 (s 4), .int .i64 (s 5), .int .i64 (s 6), .int .i64 (s 7), .int .i64 (s 8)] 30))) := bnew (Below.refl _ _)
  obtain ⟨S, hS⟩ : ∃ S, S = s 2 * 4 := ⟨_, rfl⟩
  rw [← hS]
  rw [← hS] at CL
  have q1 : 4 ≤ S := by omega
  have q2 : S ≤ 4000 := by omega
  have q3 : 0 ≤ l + S - 1 := by omega
  clear hS
  go_enter Tryz.func147, Tryz.ntmps147
  go_wp2_with fail
  go_region_with (go_at_call 129; refine (CL _).mono ?_; rintro ee w2 ⟨rfl, hb2⟩; (first | (obtain ⟨hX2, hB2⟩ := keep9 hX hB ⟨hb2.os, hb2.tape, hb2.output, hb2.size, hb2.block⟩; clear hb2; obtain ⟨x0, x1, x2, x3, x4, x5, x6, x7, x8⟩ := box9 hX2) | (obtain ⟨hX, hB⟩ := keep9 K0.out KB.out ⟨hb2.os, hb2.tape, hb2.output, hb2.size, hb2.block⟩; clear hb2; obtain ⟨x0, x1, x2, x3, x4, x5, x6, x7, x8⟩ := box9 hX)))
  all_goals
    clear hX hX2
    go_wp2
    go_ret
    exact ⟨rfl, hB2⟩

set_option maxHeartbeats 4000000 in
theorem l4Long_any (s : Nat → Int) (h1 : 1 ≤ s 2) (h2 : s 2 ≤ 1000) (l : Int) (w : World) :
    Calls Tryz.prog 146 #[shapeV s, .int .i64 l] w fun e w' => ∃ c, e = .returned (.int .i64 c) ∧ ((l < 1 ∧ c = 6) ∨ (1 ≤ l ∧ 3 * (s 2 * 4) < l ∧ c = 2) ∨ (1 ≤ l ∧ l ≤ 3 * (s 2 * 4) ∧ c = 0)) ∧ Below w.heap.size w w' := by
  have CL := l4Wide_any s h1 h2
  have KB : Hid (Below w.heap.size w (w.alloc (.cells #[.int .i64 (s 0), .int .i64 (s 1), .int .i64 (s 2), .int .i64 (s 3), .int .i64 (s 4), .int .i64 (s 5), .int .i64 (s 6), .int .i64 (s 7), .int .i64 (s 8)] 30))) := bnew (Below.refl _ _)
  obtain ⟨S, hS⟩ : ∃ S, S = s 2 * 4 := ⟨_, rfl⟩
  rw [← hS]
  rw [← hS] at CL
  have q1 : 4 ≤ S := by omega
  have q2 : S ≤ 4000 := by omega
  clear hS
  unfold shapeV
  by_cases c1 : l < 1
  · go_enter Tryz.func146, Tryz.ntmps146
    go_wp2
    go_ret
    exact ⟨6, rfl, .inl ⟨c1, rfl⟩, KB.out⟩
  · by_cases c2 : 3 * S < l
    · go_enter Tryz.func146, Tryz.ntmps146
      go_wp2_with fail
      refine (CL _).mono ?_
      rintro e w2 ⟨rfl, hb2⟩
      have B := bnew hb2
      clear hb2
      go_wp2
      go_ret
      exact ⟨2, rfl, .inr (.inl ⟨by omega, c2, rfl⟩), B⟩
    · go_enter Tryz.func146, Tryz.ntmps146
      go_wp2_with fail
      refine (CL _).mono ?_
      rintro e w2 ⟨rfl, hb2⟩
      have B := bnew hb2
      clear hb2
      go_wp2
      go_ret
      exact ⟨0, rfl, .inr (.inr ⟨by omega, by omega, rfl⟩), B⟩

/-- what PartsFor answers -/
def PfAns (s : Nat → Int) (l x c : Int) : Prop :=
  (¬ OkShape s ∧ c = 3 ∧ x = 0) ∨ (OkShape s ∧ l < 1 ∧ c = 6 ∧ x = 0) ∨ (OkShape s ∧ 1 ≤ l ∧ 3 * (s 2 * 4) < l ∧ c = 2 ∧ x = 0) ∨ (OkShape s ∧ 1 ≤ l ∧ l ≤ 3 * (s 2 * 4) ∧ c = 0 ∧ x = (l + s 2 * 4 - 1) / (s 2 * 4))
theorem PfAns.one {s : Nat → Int} {l x c y d : Int} (h : PfAns s l x c) (k : PfAns s l y d) : x = y ∧ c = d := by
  rcases h with ⟨h1, rfl, rfl⟩ | ⟨h1, h2, rfl, rfl⟩ | ⟨h1, h2, h3, rfl, rfl⟩ | ⟨h1, h2, h3, rfl, rfl⟩ <;> rcases k with ⟨k1, rfl, rfl⟩ | ⟨k1, k2, rfl, rfl⟩ | ⟨k1, k2, k3, rfl, rfl⟩ | ⟨k1, k2, k3, rfl, rfl⟩ <;>
    first | exact ⟨rfl, rfl⟩ | exact absurd h1 k1 | exact absurd k1 h1 | (exfalso; omega)

end Go.Proofs.YtbmfndjglndnlaaGreat
