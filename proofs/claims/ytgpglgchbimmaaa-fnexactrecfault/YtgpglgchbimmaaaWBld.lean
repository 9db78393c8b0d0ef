/- Rows that are gathered one behind the other by append. -/
import Derived.Test.YtgpglgchbimmaaaOwnM2
import Derived.Test.YtgpglgchbimmaaaWJoin
namespace Go.Proofs.Ytgpglgchbimmaaa
open Go.RowKit F256
set_option linter.unusedVariables false
set_option linter.unusedSimpArgs false

/-- append(v, x...), v empty and the call's own, x a slice that the call owns -/
theorem wp_appendC {ops : Array Oper} {rest : List Oper} {o : Oper} {a : Act} {w : World} {Q : Exit → Act → World → Prop}
    (hg : o.guard = none) (s x : Operand) (hop : o.op = Op.call { callee := Callee.builtin Builtin.append, args := #[s, x], argTypes := #[39, 39] })
    (lo hi : Nat) (v : Value) (z : Nat → Nat) (hs : a.eval s = v) (hown : Own w lo hi v 0 z) (lo2 hi2 : Nat) (xv : Value) (m : Nat) (f : Nat → Nat) (hx : a.eval x = xv) (hox : Own w lo2 hi2 xv m f)
    (hm : m ≤ 1000000) (hlo : lo ≤ w.heap.size)
    (hK : ∀ v' w', Own w' lo w'.heap.size v' m f → Below lo w w' → wpList Try.prog ops Q rest (a.put o.dst v') w') : wpList Try.prog ops Q (o :: rest) a w := by
  obtain ⟨i0, hi0, hz0, hz1, hz2⟩ := info_parts info_u8
  have key : ∃ v' w', (Builtin.append_ #[39, 39] o.type #[v, xv]).run Try.prog w = .ok v' w' ∧ Own w' lo w'.heap.size v' m f ∧ Below lo w w' := by
    rcases hox.1.2 with ⟨rfl, rfl⟩ | ⟨g, cap, cur, rfl, hbg, hgg, hnc, hcm, hcs, htake⟩
    · have hr := run_append_owned_none (P := Try.prog) w lo 39 o.type 5 i0 1 Try.underlying39 hi0 v 0 _ hown.1
      refine ⟨v, w, hr, ?_, Below.refl _ _⟩
      have := hown.congr (g := f) (fun i hi => by omega)
      exact ⟨this.1, fun k hk => (this.1.lt k hk).2⟩
    · obtain ⟨v', w', hr, h2, h3, _⟩ := run_append_own (P := Try.prog) w lo 39 o.type 5 i0 (.int .u8 0) 1 1 Try.underlying39 hi0 hz0 hz1 hz2 rfl (by decide) v 0 (cellsOf 0 z) hown.1 ⟨g, 0, none⟩ m cap (cellsOf m f) (by rw [cellsOf_length]; omega)
        (fun j u hj => by
          by_cases hjm : j < m
          · rw [add_none', Nat.zero_add, hox.1.cellAt j (by omega)]
            exact hj
          · rw [List.getElem?_eq_none (by rw [cellsOf_length]; omega)] at hj
            cases hj)
        (cellsOf_one m f) (by unfold maxLen; omega) (by omega) hlo
      have h2' : w'.ownsRow lo 5 1 v' m (cellsOf m f) := by
        have e0 : cellsOf 0 z ++ cellsOf m f = cellsOf m f := rfl
        rw [Nat.zero_add, e0] at h2
        exact h2
      exact ⟨v', w', hr, ⟨h2', fun k hk => (h2'.lt k hk).2⟩, (Below.refl _ _).grown h3 hlo (fun k hk => (hown.1.lt k hk).1)⟩
  refine wpList_plain hg fun K hK' => ?_
  obtain ⟨v', w', hrun, r1, r2⟩ := key
  unfold Oper.wp
  simp [execOp, hop, resolve, invoke, builtin, hs, hx, hrun, Result.andThen]
  exact hK' _ _ (hK v' w' r1 r2)

/-- rows that are gathered one behind the other: the outer slice v, k of them -/
structure Bld (w wr : World) (lo : Nat) (v : Value) (k : Nat) (n : Nat → Nat) (f : Mat) (e : Nat → Value) : Prop where
  row : wr.ownsRow lo 39 1 v k (valsOf k e)
  notnil : v ≠ nilS
  each : ∀ i, i < k → Own wr lo wr.heap.size (e i) (n i) (f i)
  apart : ∀ i j, i < k → j < k → i ≠ j → ∀ b, (e i).ownBlock = some b → (e j).ownBlock ≠ some b
  bel : Below lo w wr
  le : lo ≤ wr.heap.size
/-- a row of slices and a row of bytes lie in two blocks -/
theorem two_blocks {w : World} {lo lo' hi : Nat} {v x : Value} {k n : Nat} {xs : List Value} {f : Nat → Nat} (h : w.ownsRow lo 39 1 v k xs) (ho : Own w lo' hi x n f) (b : Nat) (hb : v.ownBlock = some b) : x.ownBlock ≠ some b := by
  intro hx
  rcases h.2 with ⟨rfl, _⟩ | ⟨g, cap, cur, rfl, _, hg, _⟩
  · cases hb
  · rcases ho.1.2 with ⟨rfl, _⟩ | ⟨g', cap', cur', rfl, _, hg', _⟩
    · cases hx
    · simp [Value.ownBlock] at hb hx
      subst hb
      subst hx
      rw [hg] at hg'
      simp at hg'
theorem Bld.next {w wr w2 w4 : World} {lo : Nat} {v v' x : Value} {k : Nat} {n : Nat → Nat} {f : Mat} {e : Nat → Value} (h : Bld w wr lo v k n f e) (hb : Below wr.heap.size wr w2) (ho : Own w2 wr.heap.size w2.heap.size x (n k) (f k))
    (hr : w4.ownsRow lo 39 1 v' (k + 1) (valsOf k e ++ [x])) (hg : (w2.alloc (.cells #[x] 39)).grownBy w4 v.ownBlock) (hnn : v' ≠ nilS) : Bld w w4 lo v' (k + 1) n f (fun i => if i = k then x else e i) := by
  have hs2 := hb.size
  have hs4 : w2.heap.size + 1 ≤ w4.heap.size := by have := hg.size; simpa using this
  have hv : valsOf k e ++ [x] = valsOf (k + 1) (fun i => if i = k then x else e i) := by
    rw [← valsOf_snoc]
    simp only [if_pos]
    rw [valsOf_eq (e := e) (g := fun i => if i = k then x else e i) (fun i hi => by simp [show ¬ i = k by omega])]
  rw [hv] at hr
  have row2 : w2.ownsRow lo 39 1 v k (valsOf k e) := row_kept h.row fun b hb' => hb.block b (h.row.lt b hb').2
  have kp : ∀ {y : Value} {m : Nat} {q : Nat → Nat} {l : Nat}, Own w2 l w2.heap.size y m q → Own w4 l w4.heap.size y m q := fun {y m q l} hy =>
    (hy.kept fun b hb' => by
      have hlt := hy.2 b hb'
      rw [hg.block b (by simp; omega) (fun hh => two_blocks row2 hy b hh.symm hb')]
      exact Below.heap_alloc w2 _ b hlt).mono (by omega)
  refine ⟨hr, hnn, fun i hi => ?_, fun i j hi hj hne b hbi => ?_, ?_, by have := h.le; omega⟩
  · by_cases c : i = k
    · subst c
      simp only [if_pos]
      exact (kp ho).weaken h.le (Nat.le_refl _)
    · simp only [if_neg c]
      exact kp (((h.each i (by omega)).below hb (Nat.le_refl _)).mono hs2)
  · have new : ∀ b, x.ownBlock = some b → wr.heap.size ≤ b := fun b hb' => (ho.1.lt b hb').1
    have old : ∀ i, i < k → ∀ b, (e i).ownBlock = some b → b < wr.heap.size := fun i hi b hb' => (h.each i hi).2 b hb'
    have hbi2 : (if i = k then x else e i).ownBlock = some b := hbi
    show (if j = k then x else e j).ownBlock ≠ some b
    by_cases c : i = k
    · have c2 : ¬ j = k := fun z => hne (by rw [c, z])
      rw [if_pos c] at hbi2
      rw [if_neg c2]
      intro hh
      have h5 := new b hbi2
      have h6 := old j (by omega) b hh
      omega
    · rw [if_neg c] at hbi2
      by_cases c2 : j = k
      · rw [if_pos c2]
        intro hh
        have h5 := new b hh
        have h6 := old i (by omega) b hbi2
        omega
      · rw [if_neg c2]
        exact h.apart i j (by omega) (by omega) hne b hbi2
  · have b1 : Below lo w w2 := h.bel.trans (hb.mono h.le)
    exact (b1.alloc (by have := h.le; omega) (.cells #[x] 39)).grown hg (by simp; have := h.le; omega) (fun b hb' => (h.row.lt b hb').1)
theorem Bld.done {w wr : World} {lo : Nat} {v : Value} {k : Nat} {n : Nat → Nat} {f : Mat} {e : Nat → Value} (h : Bld w wr lo v k n f e) : OwnM wr lo wr.heap.size v k n f := by
  rcases h.row.2 with ⟨hv, _⟩ | ⟨g, cap, cur, hv, hbg, hg, _⟩
  · exact absurd hv h.notnil
  · refine ⟨g, cap, e, hv, hbg, (Array.getElem?_eq_some_iff.1 hg).1, h.row, h.each, ⟨fun i hi => ?_, h.apart⟩⟩
    exact two_blocks h.row (h.each i hi) g (by rw [hv]; rfl)

/-- rows that are gathered one behind the other, all their blocks in lo..hi -/
structure BldR (wr : World) (lo hi : Nat) (v : Value) (k : Nat) (n : Nat → Nat) (f : Mat) (e : Nat → Value) : Prop where
  row : wr.ownsRow lo 39 1 v k (valsOf k e)
  notnil : v ≠ nilS
  low : ∀ b, v.ownBlock = some b → b < hi
  each : ∀ i, i < k → Own wr lo hi (e i) (n i) (f i)
  apart : ∀ i j, i < k → j < k → i ≠ j → ∀ b, (e i).ownBlock = some b → (e j).ownBlock ≠ some b
  le : lo ≤ hi
  le2 : hi ≤ wr.heap.size
theorem BldR.kept {w w2 : World} {lo hi : Nat} {v : Value} {k : Nat} {n : Nat → Nat} {f : Mat} {e : Nat → Value} (h : BldR w lo hi v k n f e) (hk : ∀ b, lo ≤ b → b < hi → w2.heap[b]? = w.heap[b]?) (hs : hi ≤ w2.heap.size) : BldR w2 lo hi v k n f e :=
  ⟨row_kept h.row fun b hb => hk b (h.row.lt b hb).1 (h.low b hb), h.notnil, h.low, fun i hi => (h.each i hi).kept fun b hb => hk b ((h.each i hi).1.lt b hb).1 ((h.each i hi).2 b hb), h.apart, h.le, hs⟩
theorem BldR.next {w2 w4 : World} {lo hi lo2 hi2 : Nat} {v v' x : Value} {k : Nat} {n n' : Nat → Nat} {f f' : Mat} {e : Nat → Value} (h : BldR w2 lo hi v k n f e) (ho : Own w2 lo2 hi2 x (n' k) (f' k)) (hlo : hi ≤ lo2)
    (hn : ∀ i, i < k → n' i = n i) (hf : ∀ i, i < k → f' i = f i)
    (hr : w4.ownsRow lo 39 1 v' (k + 1) (valsOf k e ++ [x])) (hg : (w2.alloc (.cells #[x] 39)).grownBy w4 v.ownBlock) (hnn : v' ≠ nilS) : BldR w4 lo w4.heap.size v' (k + 1) n' f' (fun i => if i = k then x else e i) := by
  have hs4 : w2.heap.size + 1 ≤ w4.heap.size := by have := hg.size; simpa using this
  have hle := h.le
  have hle2 := h.le2
  have hv : valsOf k e ++ [x] = valsOf (k + 1) (fun i => if i = k then x else e i) := by
    rw [← valsOf_snoc]
    simp only [if_pos]
    rw [valsOf_eq (e := e) (g := fun i => if i = k then x else e i) (fun i hi => by simp [show ¬ i = k by omega])]
  rw [hv] at hr
  have kp : ∀ {y : Value} {m : Nat} {q : Nat → Nat} {l u : Nat}, Own w2 l u y m q → Own w4 l w4.heap.size y m q := fun {y m q l u} hy =>
    ⟨(hy.kept fun b hb' => by
      have hlt := (hy.1.lt b hb').2
      rw [hg.block b (by simp; omega) (fun hh => two_blocks h.row hy b hh.symm hb')]
      exact Below.heap_alloc w2 _ b hlt).1, fun b hb' => by have := (hy.1.lt b hb').2; omega⟩
  refine ⟨hr, hnn, fun b hb => (hr.lt b hb).2, fun i hik => ?_, fun i j hik hj hne b hbi => ?_, by omega, Nat.le_refl _⟩
  · by_cases c : i = k
    · subst c
      simp only [if_pos]
      exact (kp ho).weaken (by omega) (Nat.le_refl _)
    · simp only [if_neg c]
      rw [hn i (by omega), hf i (by omega)]
      exact kp (h.each i (by omega))
  · have new : ∀ b, x.ownBlock = some b → hi ≤ b := fun b hb' => by have := (ho.1.lt b hb').1; omega
    have old : ∀ i, i < k → ∀ b, (e i).ownBlock = some b → b < hi := fun i hi b hb' => (h.each i hi).2 b hb'
    have hbi2 : (if i = k then x else e i).ownBlock = some b := hbi
    show (if j = k then x else e j).ownBlock ≠ some b
    by_cases c : i = k
    · have c2 : ¬ j = k := fun z => hne (by rw [c, z])
      rw [if_pos c] at hbi2
      rw [if_neg c2]
      intro hh
      have h5 := new b hbi2
      have h6 := old j (by omega) b hh
      omega
    · rw [if_neg c] at hbi2
      by_cases c2 : j = k
      · rw [if_pos c2]
        intro hh
        have h5 := new b hh
        have h6 := old i (by omega) b hbi2
        omega
      · rw [if_neg c2]
        exact h.apart i j (by omega) (by omega) hne b hbi2
theorem BldR.done {wr : World} {lo hi : Nat} {v : Value} {k : Nat} {n : Nat → Nat} {f : Mat} {e : Nat → Value} (h : BldR wr lo hi v k n f e) : ∃ g cap, OwnE wr lo hi v k n f g cap e := by
  rcases h.row.2 with ⟨hv, _⟩ | ⟨g, cap, cur, hv, hbg, hg, _⟩
  · exact absurd hv h.notnil
  · refine ⟨g, cap, hv, hbg, h.low g (by rw [hv]; rfl), h.row, h.each, ⟨fun i hi => ?_, h.apart⟩⟩
    exact two_blocks h.row (h.each i hi) g (by rw [hv]; rfl)
/-- a row laid into the place i: its blocks are behind all others -/
theorem OwnE.lay {w : World} {lo hi lo2 hi2 : Nat} {v : Value} {R : Nat} {n n' : Nat → Nat} {M M' : Mat} {g cap : Nat} {e : Nat → Value} {x : Value} (h : OwnE w lo hi v R n M g cap e) (i : Nat) (hi' : i < R) (ho : Own w lo2 hi2 x (n' i) (M' i)) (h1 : hi ≤ lo2) (h2 : hi ≤ hi2)
    (hn : ∀ j, j < R → j ≠ i → n' j = n j) (hM : ∀ j, j < R → j ≠ i → M' j = M j) : OwnE (w.setCell ⟨g, i, none⟩ x) lo hi2 v R n' M' g cap (fun j => if j = i then x else e j) := by
  have hg := h.high
  have hl := h.low
  have hr := h.row
  rw [h.val] at hr
  have hst := (hr.stored i x).1
  rw [valsOf_set R e (fun j => if j = i then x else e j) i x hi' (fun j _ => rfl)] at hst
  have oth : ∀ b, b ≠ g → (w.setCell ⟨g, i, none⟩ x).heap[b]? = w.heap[b]? := fun b hbg => heap_setCell_other w ⟨g, i, none⟩ b _ hbg
  have new : ∀ k, x.ownBlock = some k → hi ≤ k := fun k hk => by have := (ho.1.lt k hk).1; omega
  refine ⟨h.val, h.low, by omega, by rw [h.val]; exact hst, fun j hj => ?_, ⟨fun j hj => ?_, fun j l hj hl hne k hk => ?_⟩⟩
  · by_cases c : j = i
    · subst c
      simp only [if_pos]
      exact (ho.kept fun k hk => oth k (by have := new k hk; omega)).weaken (by omega) (Nat.le_refl _)
    · simp only [if_neg c]
      rw [hM j hj c, hn j hj c]
      exact ((h.each j hj).kept fun k hk => oth k fun hkg => h.apart.1 j hj (by rw [hk, hkg])).weaken (Nat.le_refl _) (by omega)
  · by_cases c : j = i
    · simp only [if_pos c]
      intro hh
      have := new g hh
      omega
    · simp only [if_neg c]
      exact h.apart.1 j hj
  · have low : ∀ q, q < R → ∀ k, (e q).ownBlock = some k → k < hi := fun q hq k hk => (h.each q hq).2 k hk
    by_cases c : j = i
    · have c2 : ¬ l = i := fun z => hne (by rw [c, z])
      simp only [if_pos c] at hk
      simp only [if_neg c2]
      intro hh
      have h1 := new k hk
      have h3 := low l hl k hh
      omega
    · simp only [if_neg c] at hk
      by_cases c2 : l = i
      · simp only [if_pos c2]
        intro hh
        have h1 := new k hh
        have h3 := low j hj k hk
        omega
      · simp only [if_neg c2]
        exact h.apart.2 j l hj hl hne k hk
theorem OwnE.keep {w w2 : World} {lo hi : Nat} {v : Value} {R : Nat} {n : Nat → Nat} {M : Mat} {g cap : Nat} {e : Nat → Value} (h : OwnE w lo hi v R n M g cap e) (hk : ∀ b, lo ≤ b → b < hi → w2.heap[b]? = w.heap[b]?) : OwnE w2 lo hi v R n M g cap e :=
  ⟨h.val, h.low, h.high, row_kept h.row fun b hb => by
    have e1 : b = g := by rw [h.val] at hb; simpa [Value.ownBlock] using hb.symm
    rw [e1]
    exact hk g h.low h.high, fun i hi => (h.each i hi).kept fun b hb => hk b ((h.each i hi).1.lt b hb).1 ((h.each i hi).2 b hb), h.apart⟩

end Go.Proofs.Ytgpglgchbimmaaa
