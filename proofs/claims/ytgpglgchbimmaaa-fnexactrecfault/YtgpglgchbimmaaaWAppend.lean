/- append of a whole slice to one that the call owns: bytes, and slices of bytes. -/
import Derived.Test.YtgpglgchbimmaaaWBld
namespace Go.Proofs.Ytgpglgchbimmaaa
open Go.RowKit F256
set_option linter.unusedVariables false
set_option linter.unusedSimpArgs false

theorem cellsOf_join (k m : Nat) (g f : Nat → Nat) (hg : ∀ i, i < m → g (k + i) = f i) : cellsOf k g ++ cellsOf m f = cellsOf (k + m) g := by
  apply List.ext_getElem?
  intro i
  by_cases h : i < k
  · rw [List.getElem?_append_left (by rw [cellsOf_length]; exact h), cellsOf_get _ _ _ h, cellsOf_get _ _ _ (by omega)]
  · rw [List.getElem?_append_right (by rw [cellsOf_length]; omega), cellsOf_length]
    by_cases h2 : i - k < m
    · rw [cellsOf_get _ _ _ h2, cellsOf_get _ _ _ (by omega), ← hg _ h2, show k + (i - k) = i by omega]
    · rw [List.getElem?_eq_none (by rw [cellsOf_length]; omega), List.getElem?_eq_none (by rw [cellsOf_length]; omega)]
theorem valsOf_join (k m : Nat) (e e2 : Nat → Value) (hg : ∀ i, i < m → e (k + i) = e2 i) : valsOf k e ++ valsOf m e2 = valsOf (k + m) e := by
  apply List.ext_getElem?
  intro i
  by_cases h : i < k
  · rw [List.getElem?_append_left (by rw [valsOf_length]; exact h), valsOf_get _ _ _ h, valsOf_get _ _ _ (by omega)]
  · rw [List.getElem?_append_right (by rw [valsOf_length]; omega), valsOf_length]
    by_cases h2 : i - k < m
    · rw [valsOf_get _ _ _ h2, valsOf_get _ _ _ (by omega), ← hg _ h2, show k + (i - k) = i by omega]
    · rw [List.getElem?_eq_none (by rw [valsOf_length]; omega), List.getElem?_eq_none (by rw [valsOf_length]; omega)]
theorem row_weaken {w : World} {lo lo' : Nat} {t : TypeId} {v : Value} {k : Nat} {xs : List Value} (h : w.ownsRow lo t 1 v k xs) (hl : lo' ≤ lo) : w.ownsRow lo' t 1 v k xs := by
  refine ⟨h.1, ?_⟩
  rcases h.2 with hn | ⟨g, cap, cur, hg, hbg, rest⟩
  · exact .inl hn
  · exact .inr ⟨g, cap, cur, hg, by omega, rest⟩
theorem row_slice {w : World} {lo : Nat} {t : TypeId} {v : Value} {k : Nat} {xs : List Value} (h : w.ownsRow lo t 1 v k xs) : ∃ ao cap, v = .slice ao k cap := by
  rcases h.2 with ⟨h1, h2⟩ | ⟨g, cap, cur, h1, _⟩
  · subst h2
    exact ⟨_, _, h1⟩
  · exact ⟨_, _, h1⟩
theorem grown_refl (w : World) (o : Option Nat) : w.grownBy w o := ⟨rfl, rfl, rfl, Nat.le_refl _, fun _ _ _ => rfl⟩

/-- append(v, x...) of bytes, x not empty -/
theorem run_appendX (w : World) (ty : TypeId) (lo hi : Nat) (v : Value) (k : Nat) (g : Nat → Nat) (hown : Own w lo hi v k g) (h : Nat) (xv : Value) (m : Nat) (f : Nat → Nat) (hx : Rd w h xv m f) (h0 : 0 < m) (hg : ∀ i, i < m → g (k + i) = f i) (hm : k + m ≤ 1000000) (hlo : lo ≤ w.heap.size) :
    ∃ v' w', (Builtin.append_ #[39, 39] ty #[v, xv]).run Try.prog w = .ok v' w' ∧ Own w' lo w'.heap.size v' (k + m) g ∧ w.grownBy w' v.ownBlock := by
  obtain ⟨i0, hi0, hz0, hz1, hz2⟩ := info_parts info_u8
  obtain ⟨ao, cap, rfl, hml, hc⟩ := hx
  obtain ⟨b, off, rfl, hb, hcell⟩ := hc (by omega)
  obtain ⟨v', w', hr, h2, h3, _⟩ := run_append_own (P := Try.prog) w lo 39 ty 5 i0 (.int .u8 0) 1 1 Try.underlying39 hi0 hz0 hz1 hz2 rfl (by decide) v k (cellsOf k g) hown.1 ⟨b, off, none⟩ m cap (cellsOf m f) (by rw [cellsOf_length]; omega)
    (fun j u hj => by
      by_cases hjm : j < m
      · rw [cellsOf_get _ _ _ hjm] at hj
        cases hj
        rw [add_none']
        exact hcell j hjm
      · rw [List.getElem?_eq_none (by rw [cellsOf_length]; omega)] at hj
        cases hj)
    (cellsOf_one m f) (by unfold maxLen; omega) (by omega) hlo
  rw [cellsOf_join k m g f hg] at h2
  exact ⟨v', w', hr, ⟨h2, fun k hk => (h2.lt k hk).2⟩, h3⟩
theorem wp_appendX {ops : Array Oper} {rest : List Oper} {o : Oper} {a : Act} {w : World} {Q : Exit → Act → World → Prop}
    (hg : o.guard = none) (s x : Operand) (hop : o.op = Op.call { callee := Callee.builtin Builtin.append, args := #[s, x], argTypes := #[39, 39] })
    (lo hi : Nat) (v : Value) (k : Nat) (g : Nat → Nat) (hs : a.eval s = v) (hown : Own w lo hi v k g) (h : Nat) (xv : Value) (m : Nat) (f : Nat → Nat) (hx : a.eval x = xv) (hox : Rd w h xv m f) (h0 : 0 < m) (hgf : ∀ i, i < m → g (k + i) = f i)
    (hm : k + m ≤ 1000000) (hlo : lo ≤ w.heap.size)
    (hK : ∀ v' w', Own w' lo w'.heap.size v' (k + m) g → w.grownBy w' v.ownBlock → wpList Try.prog ops Q rest (a.put o.dst v') w') : wpList Try.prog ops Q (o :: rest) a w := by
  refine wpList_plain hg fun K hK' => ?_
  obtain ⟨v', w', hrun, r1, r2⟩ := run_appendX w o.type lo hi v k g hown h xv m f hox h0 hgf hm hlo
  unfold Oper.wp
  simp [execOp, hop, resolve, invoke, builtin, hs, hx, hrun, Result.andThen]
  exact hK' _ _ (hK v' w' r1 r2)
/-- append(v, x...), v empty in the block p, as a step of a region that draws -/
theorem step_appendC {ops : Array Oper} {o : Oper} {a : Act} {w : World} {K : Act → World → Prop} {Q : Exit → Act → World → Prop} {E : Prop}
    (hg : o.guard = none) (s x : Operand) (hop : o.op = Op.call { callee := Callee.builtin Builtin.append, args := #[s, x], argTypes := #[39, 39] })
    (p : Nat) (z : Nat → Nat) (hs : a.eval s = .slice (some ⟨p, 0, none⟩) 0 0) (hown : Own w p (p + 1) (.slice (some ⟨p, 0, none⟩) 0 0) 0 z) (lo2 hi2 : Nat) (xv : Value) (m : Nat) (f : Nat → Nat) (hx : a.eval x = xv) (hox : Own w lo2 hi2 xv m f)
    (hm : m ≤ 1000000)
    (hK : ∀ v' w', Own w' p w'.heap.size v' m f → Chg p (p + 1) w w' → K (a.put o.dst v') w') :
    if Region.wanted o (yielded ops a.tmps) = true then Oper.wp Try.prog o a w K Q else E := by
  have hw : Region.wanted o (yielded ops a.tmps) = true := by simp [Region.wanted, hg]
  rw [if_pos hw]
  obtain ⟨i0, hi0, hz0, hz1, hz2⟩ := info_parts info_u8
  have hlo : p ≤ w.heap.size := Nat.le_of_lt (hown.1.lt p rfl).2
  have key : ∃ v' w', (Builtin.append_ #[39, 39] o.type #[.slice (some ⟨p, 0, none⟩) 0 0, xv]).run Try.prog w = .ok v' w' ∧ Own w' p w'.heap.size v' m f ∧ Chg p (p + 1) w w' := by
    rcases hox.1.2 with ⟨rfl, rfl⟩ | ⟨g, cap, cur, rfl, hbg, hgg, hnc, hcm, hcs, htake⟩
    · have hr := run_append_owned_none (P := Try.prog) w p 39 o.type 5 i0 1 Try.underlying39 hi0 _ 0 _ hown.1
      refine ⟨_, w, hr, ?_, Chg.refl' _ _ _⟩
      have := hown.congr (g := f) (fun i hi => by omega)
      exact ⟨this.1, fun k hk => (this.1.lt k hk).2⟩
    · obtain ⟨v', w', hr, h2, h3, _⟩ := run_append_own (P := Try.prog) w p 39 o.type 5 i0 (.int .u8 0) 1 1 Try.underlying39 hi0 hz0 hz1 hz2 rfl (by decide) (.slice (some ⟨p, 0, none⟩) 0 0) 0 (cellsOf 0 z) hown.1 ⟨g, 0, none⟩ m cap (cellsOf m f) (by rw [cellsOf_length]; omega)
        (fun j u hj => by
          by_cases hjm : j < m
          · rw [add_none', Nat.zero_add, hox.1.cellAt j (by omega)]
            exact hj
          · rw [List.getElem?_eq_none (by rw [cellsOf_length]; omega)] at hj
            cases hj)
        (cellsOf_one m f) (by unfold maxLen; omega) (by omega) hlo
      have h2' : w'.ownsRow p 5 1 v' m (cellsOf m f) := by
        have e0 : cellsOf 0 z ++ cellsOf m f = cellsOf m f := rfl
        rw [Nat.zero_add, e0] at h2
        exact h2
      refine ⟨v', w', hr, ⟨h2', fun k hk => (h2'.lt k hk).2⟩, ⟨h3.os, h3.tape, h3.output, h3.size, fun k hk hne => h3.block k hk ?_⟩⟩
      simp [Value.ownBlock]
      omega
  obtain ⟨v', w', hrun, r1, r2⟩ := key
  unfold Oper.wp
  simp [execOp, hop, resolve, invoke, builtin, hs, hx, hrun, Result.andThen]
  exact hK v' w' r1 r2
/-- rows that are gathered one behind the other, all their blocks in lo..hi; none yet: nil -/
structure BldO (wr : World) (lo hi : Nat) (v : Value) (k : Nat) (n : Nat → Nat) (f : Mat) (e : Nat → Value) : Prop where
  row : wr.ownsRow lo 39 1 v k (valsOf k e)
  low : ∀ b, v.ownBlock = some b → b < hi
  each : ∀ i, i < k → Own wr lo hi (e i) (n i) (f i)
  apart : ∀ i j, i < k → j < k → i ≠ j → ∀ b, (e i).ownBlock = some b → (e j).ownBlock ≠ some b
  le : lo ≤ hi
  le2 : hi ≤ wr.heap.size
theorem BldO.kept {w w2 : World} {lo hi : Nat} {v : Value} {k : Nat} {n : Nat → Nat} {f : Mat} {e : Nat → Value} (h : BldO w lo hi v k n f e) (hk : ∀ b, lo ≤ b → b < hi → w2.heap[b]? = w.heap[b]?) (hs : hi ≤ w2.heap.size) : BldO w2 lo hi v k n f e :=
  ⟨row_kept h.row fun b hb => hk b (h.row.lt b hb).1 (h.low b hb), h.low, fun i hi => (h.each i hi).kept fun b hb => hk b ((h.each i hi).1.lt b hb).1 ((h.each i hi).2 b hb), h.apart, h.le, hs⟩
theorem BldO.next {w2 w4 : World} {lo hi lo2 hi2 : Nat} {v v' x : Value} {k : Nat} {n n' : Nat → Nat} {f f' : Mat} {e : Nat → Value} (h : BldO w2 lo hi v k n f e) (ho : Own w2 lo2 hi2 x (n' k) (f' k)) (hlo : hi ≤ lo2)
    (hn : ∀ i, i < k → n' i = n i) (hf : ∀ i, i < k → f' i = f i)
    (hr : w4.ownsRow lo 39 1 v' (k + 1) (valsOf k e ++ [x])) (hg : (w2.alloc (.cells #[x] 39)).grownBy w4 v.ownBlock) : BldO w4 lo w4.heap.size v' (k + 1) n' f' (fun i => if i = k then x else e i) := by
  have hs4 : w2.heap.size + 1 ≤ w4.heap.size := by have := hg.size; simpa using this
  have hle := h.le
  have hle2 := h.le2
  have hv : valsOf k e ++ [x] = valsOf (k + 1) (fun i => if i = k then x else e i) := by
    rw [← valsOf_snoc]
    simp only [if_pos]
    rw [valsOf_eq (e := e) (g := fun i => if i = k then x else e i) (fun i hi => by simp [show ¬ i = k by omega])]
  rw [hv] at hr
  have kp : ∀ {y : Value} {m : Nat} {q : Nat → Nat} {l u : Nat}, Own w2 l u y m q → Own w4 l w4.heap.size y m q := fun {y m q l u} hy =>
    ⟨(hy.kept fun b hb' => by
      have hlt := (hy.1.lt b hb').2
      rw [hg.block b (by simp; omega) (fun hh => two_blocks h.row hy b hh.symm hb')]
      exact Below.heap_alloc w2 _ b hlt).1, fun b hb' => by have := (hy.1.lt b hb').2; omega⟩
  refine ⟨hr, fun b hb => (hr.lt b hb).2, fun i hik => ?_, fun i j hik hj hne b hbi => ?_, by omega, Nat.le_refl _⟩
  · by_cases c : i = k
    · subst c
      simp only [if_pos]
      exact (kp ho).weaken (by omega) (Nat.le_refl _)
    · simp only [if_neg c]
      rw [hn i (by omega), hf i (by omega)]
      exact kp (h.each i (by omega))
  · have new : ∀ b, x.ownBlock = some b → hi ≤ b := fun b hb' => by have := (ho.1.lt b hb').1; omega
    have old : ∀ i, i < k → ∀ b, (e i).ownBlock = some b → b < hi := fun i hi b hb' => (h.each i hi).2 b hb'
    have hbi2 : (if i = k then x else e i).ownBlock = some b := hbi
    show (if j = k then x else e j).ownBlock ≠ some b
    by_cases c : i = k
    · have c2 : ¬ j = k := fun z => hne (by rw [c, z])
      rw [if_pos c] at hbi2
      rw [if_neg c2]
      intro hh
      have h5 := new b hbi2
      have h6 := old j (by omega) b hh
      omega
    · rw [if_neg c] at hbi2
      by_cases c2 : j = k
      · rw [if_pos c2]
        intro hh
        have h5 := new b hh
        have h6 := old i (by omega) b hbi2
        omega
      · rw [if_neg c2]
        exact h.apart i j (by omega) (by omega) hne b hbi2
theorem BldO.done {wr : World} {lo hi : Nat} {v : Value} {k : Nat} {n : Nat → Nat} {f : Mat} {e : Nat → Value} (h : BldO wr lo hi v k n f e) (hn : v ≠ nilS) : ∃ g cap, OwnE wr lo hi v k n f g cap e :=
  BldR.done ⟨h.row, hn, h.low, h.each, h.apart, h.le, h.le2⟩
theorem BldO.slice {wr : World} {lo hi : Nat} {v : Value} {k : Nat} {n : Nat → Nat} {f : Mat} {e : Nat → Value} (h : BldO wr lo hi v k n f e) : ∃ ao cap, v = .slice ao k cap := by
  rcases h.row.2 with ⟨h1, h2⟩ | ⟨g, cap, cur, h1, _⟩
  · subst h2
    exact ⟨_, _, h1⟩
  · exact ⟨_, _, h1⟩

end Go.Proofs.Ytgpglgchbimmaaa
