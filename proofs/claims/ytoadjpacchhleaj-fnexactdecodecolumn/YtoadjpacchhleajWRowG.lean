/- Rows that grow in their places: append onto a slice of a slice of slices. -/
import Derived.Test.YtoadjpacchhleajWAppend
import Derived.Maps.AppendAt
namespace Go.Proofs.Ytoadjpacchhleaj
open Go.RowKit F256
set_option linter.unusedVariables false
set_option linter.unusedSimpArgs false

/-- append(v, x), x a byte that lies in a block of its own: where the new slice lies -/
theorem run_appendAt (w : World) (ty : TypeId) (lo hi : Nat) (v : Value) (n : Nat) (f : Nat → Nat) (hown : Own w lo hi v n f) (b c : Nat) (hcell : w.cell? ⟨b, 0, none⟩ = some (.int .u8 (f n))) (hn : n + 1 ≤ 1000000) (hlo : lo ≤ w.heap.size) :
    ∃ v' w', (Builtin.append_ #[23, 23] ty #[v, .slice (some ⟨b, 0, none⟩) 1 c]).run Try.prog w = .ok v' w' ∧ Own w' lo w'.heap.size v' (n + 1) f ∧ w.grownBy w' v.ownBlock ∧ (v'.ownBlock = v.ownBlock ∨ v'.ownBlock = some w.heap.size) := by
  obtain ⟨i0, hi0, hz0, hz1, hz2⟩ := info_parts info_u8
  obtain ⟨v', w', hr, h2, h3, _, h4⟩ := run_append_own_at (P := Try.prog) w lo 23 ty 5 i0 (.int .u8 0) 1 1 Try.underlying23 hi0 hz0 hz1 hz2 rfl (by decide) v n (cellsOf n f) hown.1 ⟨b, 0, none⟩ 1 c [.int .u8 (f n)] rfl
    (fun j u hj => by
      match j, hj with
      | 0, hj => simp at hj; subst hj; simpa [Addr.add] using hcell)
    (fun u hu => by simp at hu; subst hu; rfl) (by unfold maxLen; omega) (by omega) hlo
  rw [cellsOf_snoc] at h2
  exact ⟨v', w', hr, ⟨h2, fun k hk => (h2.lt k hk).2⟩, h3, h4⟩
theorem step_appendAt {ops : Array Oper} {o : Oper} {a : Act} {w : World} {K : Act → World → Prop} {Q : Exit → Act → World → Prop} {E : Prop}
    (hg : o.guard = none) (s x : Operand) (hop : o.op = Op.call { callee := Callee.builtin Builtin.append, args := #[s, x], argTypes := #[23, 23] })
    (lo hi : Nat) (v : Value) (n : Nat) (f : Nat → Nat) (hs : a.eval s = v) (hown : Own w lo hi v n f) (b c : Nat) (hx : a.eval x = .slice (some ⟨b, 0, none⟩) 1 c) (hcell : w.cell? ⟨b, 0, none⟩ = some (.int .u8 (f n)))
    (hn : n + 1 ≤ 1000000) (hlo : lo ≤ w.heap.size)
    (hK : ∀ v' w', Own w' lo w'.heap.size v' (n + 1) f → w.grownBy w' v.ownBlock → (v'.ownBlock = v.ownBlock ∨ v'.ownBlock = some w.heap.size) → K (a.put o.dst v') w') :
    if Region.wanted o (yielded ops a.tmps) = true then Oper.wp Try.prog o a w K Q else E := by
  have hw : Region.wanted o (yielded ops a.tmps) = true := by simp [Region.wanted, hg]
  rw [if_pos hw]
  obtain ⟨v', w', hrun, r1, r2, r3⟩ := run_appendAt w o.type lo hi v n f hown b c hcell hn hlo
  unfold Oper.wp
  simp [execOp, hop, resolve, invoke, builtin, hs, hx, hrun, Result.andThen]
  exact hK v' w' r1 r2 r3
/-- the row i grown in its place: the byte laid, the append, the store -/
theorem OwnE.grow {w w2 : World} {lo : Nat} {v : Value} {R : Nat} {n n' : Nat → Nat} {M : Mat} {g cap : Nat} {e : Nat → Value} {x : Value} {o : Obj} (h : OwnE w lo w.heap.size v R n M g cap e) (i : Nat) (hi' : i < R)
    (hg : (w.alloc o).grownBy w2 (e i).ownBlock) (ho : Own w2 lo w2.heap.size x (n' i) (M i)) (hx : x.ownBlock = (e i).ownBlock ∨ x.ownBlock = some (w.heap.size + 1)) (hn : ∀ j, j < R → j ≠ i → n' j = n j) :
    OwnE (w2.setCell ⟨g, i, none⟩ x) lo w2.heap.size v R n' M g cap (fun j => if j = i then x else e j) := by
  have hs : w.heap.size + 1 ≤ w2.heap.size := by have := hg.size; simpa using this
  have hhi := h.high
  have kp : ∀ b, b < w.heap.size → (e i).ownBlock ≠ some b → w2.heap[b]? = w.heap[b]? := fun b hb hne =>
    (hg.block b (by simp; omega) (fun hh => hne hh.symm)).trans (Below.heap_alloc w o b hb)
  have hr := row_kept (w' := w2) h.row fun b hb => by
    have e1 : b = g := by rw [h.val] at hb; simpa [Value.ownBlock] using hb.symm
    subst e1
    exact kp b hhi (h.apart.1 i hi')
  rw [h.val] at hr
  have hst := (hr.stored i x).1
  rw [valsOf_set R e (fun j => if j = i then x else e j) i x hi' (fun j _ => rfl)] at hst
  have oth : ∀ b, b ≠ g → (w2.setCell ⟨g, i, none⟩ x).heap[b]? = w2.heap[b]? := fun b hbg => heap_setCell_other w2 ⟨g, i, none⟩ b _ hbg
  have low : ∀ q, q < R → ∀ k, (e q).ownBlock = some k → k < w.heap.size := fun q hq k hk => (h.each q hq).2 k hk
  have xng : x.ownBlock ≠ some g := fun hh => by
    rcases hx with hx | hx
    · rw [hx] at hh
      exact h.apart.1 i hi' hh
    · rw [hx] at hh
      cases hh
      omega
  refine ⟨h.val, h.low, by omega, by rw [h.val]; exact hst, fun j hj => ?_, ⟨fun j hj => ?_, fun j l hj hl hne k hk => ?_⟩⟩
  · by_cases c : j = i
    · subst c
      simp only [if_pos]
      exact ho.kept fun k hk => oth k fun hkg => xng (by rw [hk, hkg])
    · simp only [if_neg c]
      rw [hn j hj c]
      refine ((h.each j hj).kept fun k hk => ?_).weaken (Nat.le_refl _) (by omega)
      exact (oth k fun hkg => h.apart.1 j hj (by rw [hk, hkg])).trans (kp k (low j hj k hk) fun hh => h.apart.2 i j hi' hj (fun z => c z.symm) k hh hk)
  · by_cases c : j = i
    · simp only [if_pos c]
      exact xng
    · simp only [if_neg c]
      exact h.apart.1 j hj
  · by_cases c : j = i
    · have c2 : ¬ l = i := fun z => hne (by rw [c, z])
      simp only [if_pos c] at hk
      simp only [if_neg c2]
      intro hh
      rcases hx with hx | hx
      · rw [hx] at hk
        exact h.apart.2 i l hi' hl (fun z => c2 z.symm) k hk hh
      · rw [hx] at hk
        cases hk
        have := low l hl _ hh
        omega
    · simp only [if_neg c] at hk
      by_cases c2 : l = i
      · simp only [if_pos c2]
        intro hh
        rcases hx with hx | hx
        · rw [hx] at hh
          exact h.apart.2 i j hi' hj (fun z => c z.symm) k hh hk
        · rw [hx] at hh
          cases hh
          have := low j hj _ hk
          omega
      · simp only [if_neg c2]
        exact h.apart.2 j l hj hl hne k hk
end Go.Proofs.Ytoadjpacchhleaj
