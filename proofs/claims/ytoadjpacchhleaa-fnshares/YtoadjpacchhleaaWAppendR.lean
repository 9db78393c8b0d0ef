/- append(v, x...) of slices of bytes, x of any length, also nil; as an operation and as a step of a region that draws. -/
import Derived.Test.YtoadjpacchhleaaWAppend
namespace Go.Proofs.Ytoadjpacchhleaa
open Go.RowKit F256
set_option linter.unusedVariables false
set_option linter.unusedSimpArgs false

/-- what a slice of slices reads as, by its cells -/
def RowsAt (w : World) (ao : Option Addr) (m : Nat) (e : Nat → Value) : Prop := (m ≠ 0 → ∃ b off, ao = some ⟨b, off, none⟩ ∧ ∀ i, i < m → w.cell? ⟨b, off + i, none⟩ = some (e i)) ∧ ∀ i, i < m → (e i).oneCell' = true
theorem run_appendRowsG (w : World) (ty : TypeId) (lo : Nat) (v : Value) (k : Nat) (e : Nat → Value) (hown : w.ownsRow lo 22 1 v k (valsOf k e)) (ao : Option Addr) (m c : Nat) (hr : RowsAt w ao m fun i => e (k + i)) (hk : k + m ≤ 1000000) (hlo : lo ≤ w.heap.size) :
    ∃ v' w', (Builtin.append_ #[32, 32] ty #[v, .slice ao m c]).run Try.prog w = .ok v' w' ∧ w'.ownsRow lo 22 1 v' (k + m) (valsOf (k + m) e) ∧ w.grownBy w' v.ownBlock := by
  obtain ⟨i0, hi0, hz0, hz1, hz2⟩ := info_parts info_sl
  obtain ⟨hcell, hone⟩ := hr
  cases ao with
  | none =>
    obtain rfl : m = 0 := by
      refine Classical.byContradiction fun h => ?_
      obtain ⟨b, off, h1, _⟩ := hcell h
      cases h1
    refine ⟨v, w, ?_, hown, grown_refl _ _⟩
    have ht := Try.underlying32
    rcases hown.2 with ⟨rfl, rfl⟩ | ⟨g, cap, cur, rfl, _, _, hnc, _⟩
    · simp [Builtin.append_, run_underlying ht, sizeOf, typeInfo, hi0, Builtin.lenOf, Builtin.firstCells]
    · simp [Builtin.append_, run_underlying ht, sizeOf, typeInfo, hi0, Builtin.lenOf, Builtin.firstCells, hnc, storeCells]
  | some ad =>
    obtain ⟨v', w', hr, h1, h2, _⟩ := run_append_own (P := Try.prog) w lo 32 ty 22 i0 nilS 1 24 Try.underlying32 hi0 hz0 hz1 hz2 rfl (by decide) v k (valsOf k e) hown ad m c (valsOf m fun i => e (k + i)) (by rw [valsOf_length]; omega)
      (fun j u hj => by
        by_cases hjm : j < m
        · rw [valsOf_get _ _ _ hjm] at hj
          cases hj
          obtain ⟨b, off, h1, h2⟩ := hcell (by omega)
          cases h1
          rw [add_none']
          exact h2 j hjm
        · rw [List.getElem?_eq_none (by rw [valsOf_length]; omega)] at hj
          cases hj)
      (fun u hu => by
        obtain ⟨i, hi, rfl⟩ := List.mem_map.1 hu
        exact hone i (List.mem_range.1 hi)) (by unfold maxLen; omega) (by omega) hlo
    rw [valsOf_join k m e _ (fun _ _ => rfl)] at h1
    exact ⟨v', w', hr, h1, h2⟩
theorem wp_appendRowsG {ops : Array Oper} {rest : List Oper} {o : Oper} {a : Act} {w : World} {Q : Exit → Act → World → Prop}
    (hg : o.guard = none) (s x : Operand) (hop : o.op = Op.call { callee := Callee.builtin Builtin.append, args := #[s, x], argTypes := #[32, 32] })
    (lo : Nat) (v : Value) (k : Nat) (e : Nat → Value) (hs : a.eval s = v) (hown : w.ownsRow lo 22 1 v k (valsOf k e)) (ao : Option Addr) (m c : Nat) (hx : a.eval x = .slice ao m c) (hr : RowsAt w ao m fun i => e (k + i))
    (hk : k + m ≤ 1000000) (hlo : lo ≤ w.heap.size)
    (hK : ∀ v' w', w'.ownsRow lo 22 1 v' (k + m) (valsOf (k + m) e) → w.grownBy w' v.ownBlock → wpList Try.prog ops Q rest (a.put o.dst v') w') : wpList Try.prog ops Q (o :: rest) a w := by
  refine wpList_plain hg fun K hK' => ?_
  obtain ⟨v', w', hrun, r1, r2⟩ := run_appendRowsG w o.type lo v k e hown ao m c hr hk hlo
  unfold Oper.wp
  simp [execOp, hop, resolve, invoke, builtin, hs, hx, hrun, Result.andThen]
  exact hK' _ _ (hK v' w' r1 r2)
theorem step_appendRowsG {ops : Array Oper} {o : Oper} {a : Act} {w : World} {K : Act → World → Prop} {Q : Exit → Act → World → Prop} {E : Prop}
    (hg : o.guard = none) (s x : Operand) (hop : o.op = Op.call { callee := Callee.builtin Builtin.append, args := #[s, x], argTypes := #[32, 32] })
    (lo : Nat) (v : Value) (k : Nat) (e : Nat → Value) (hs : a.eval s = v) (hown : w.ownsRow lo 22 1 v k (valsOf k e)) (ao : Option Addr) (m c : Nat) (hx : a.eval x = .slice ao m c) (hr : RowsAt w ao m fun i => e (k + i))
    (hk : k + m ≤ 1000000) (hlo : lo ≤ w.heap.size)
    (hK : ∀ v' w', w'.ownsRow lo 22 1 v' (k + m) (valsOf (k + m) e) → w.grownBy w' v.ownBlock → K (a.put o.dst v') w') :
    if Region.wanted o (yielded ops a.tmps) = true then Oper.wp Try.prog o a w K Q else E := by
  have hw : Region.wanted o (yielded ops a.tmps) = true := by simp [Region.wanted, hg]
  rw [if_pos hw]
  obtain ⟨v', w', hrun, r1, r2⟩ := run_appendRowsG w o.type lo v k e hown ao m c hr hk hlo
  unfold Oper.wp
  simp [execOp, hop, resolve, invoke, builtin, hs, hx, hrun, Result.andThen]
  exact hK v' w' r1 r2
theorem RdM.rowsAt {w : World} {hi : Nat} {ao : Option Addr} {R c : Nat} {n : Nat → Nat} {f : Mat} (h : RdM w hi (.slice ao R c) R n f) : ∃ e, RowsAt w ao R e ∧ (R ≠ 0 → ∃ b off, ao = some ⟨b, off, none⟩ ∧ b < hi) ∧ ∀ i, i < R → Rd w hi (e i) (n i) (f i) := by
  obtain ⟨ao', cap', e, hv, _, hc, he⟩ := h
  cases hv
  refine ⟨e, ⟨fun h0 => ?_, fun i hi => ?_⟩, fun h0 => ?_, he⟩
  · obtain ⟨b, off, h1, h2, h3⟩ := hc h0
    exact ⟨b, off, h1, h3⟩
  · obtain ⟨a1, c1, h1, _, _⟩ := he i hi
    rw [h1]
    rfl
  · obtain ⟨b, off, h1, h2, h3⟩ := hc h0
    exact ⟨b, off, h1, h2⟩
theorem RowsAt.below {w w' : World} {ao : Option Addr} {m B : Nat} {e : Nat → Value} (h : RowsAt w ao m e) (hb : Below B w w') (hB : m ≠ 0 → ∃ b off, ao = some ⟨b, off, none⟩ ∧ b < B) : RowsAt w' ao m e := by
  refine ⟨fun h0 => ?_, h.2⟩
  obtain ⟨b, off, h1, h2⟩ := h.1 h0
  obtain ⟨b', off', h1', h2'⟩ := hB h0
  rw [h1] at h1'
  cases h1'
  exact ⟨b, off, h1, fun i hi => (hb.cell (p := ⟨b, off + i, none⟩) h2').trans (h2 i hi)⟩
theorem RowsAt.shift {w : World} {ao : Option Addr} {m k : Nat} {e e2 : Nat → Value} (h : RowsAt w ao m e2) (he : ∀ i, i < m → e (k + i) = e2 i) : RowsAt w ao m fun i => e (k + i) := by
  refine ⟨fun h0 => ?_, fun i hi => ?_⟩
  · obtain ⟨b, off, h1, h2⟩ := h.1 h0
    exact ⟨b, off, h1, fun i hi => by show w.cell? _ = some (e (k + i)); rw [he i hi]; exact h2 i hi⟩
  · show (e (k + i)).oneCell' = true
    rw [he i hi]
    exact h.2 i hi
end Go.Proofs.Ytoadjpacchhleaa
