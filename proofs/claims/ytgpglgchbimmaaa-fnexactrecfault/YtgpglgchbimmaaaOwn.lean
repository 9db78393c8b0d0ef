/- Slices of bytes in memory: what the call owns (Own: the blocks from lo on, below hi), what can be read (Rd: blocks below hi), and what is left as it was. -/
import Derived.Test.YtgpglgchbimmaaaProg
import Derived.Test.YtgpglgchbimmaaaBits
import Derived.WalkKit
import Derived.WalkLawsBesides
namespace Go.Proofs.Ytgpglgchbimmaaa
open Go.RowKit F256

def cellsOf (n : Nat) (f : Nat → Nat) : List Value := (List.range n).map fun i => Value.int .u8 (f i)
theorem cellsOf_length (n : Nat) (f : Nat → Nat) : (cellsOf n f).length = n := by simp [cellsOf]
theorem cellsOf_get (n : Nat) (f : Nat → Nat) (i : Nat) (h : i < n) : (cellsOf n f)[i]? = some (.int .u8 (f i)) := by simp [cellsOf, h]
theorem cellsOf_eq {n : Nat} {f g : Nat → Nat} (h : ∀ i, i < n → f i = g i) : cellsOf n f = cellsOf n g := by
  apply List.map_congr_left
  intro i hi
  rw [h i (List.mem_range.mp hi)]
theorem cellsOf_set (n : Nat) (f g : Nat → Nat) (k : Nat) (x : Nat) (hk : k < n) (h : ∀ i, i < n → g i = if i = k then x else f i) : (cellsOf n f).set k (.int .u8 x) = cellsOf n g := by
  apply List.ext_getElem?
  intro i
  by_cases hi : i < n
  · rw [cellsOf_get n g i hi, h i hi, List.getElem?_set]
    by_cases e : k = i
    · subst e; simp [cellsOf_length, hk]
    · rw [if_neg e, if_neg (fun h => e h.symm), cellsOf_get n f i hi]
  · rw [List.getElem?_eq_none (by rw [List.length_set, cellsOf_length]; omega), List.getElem?_eq_none (by rw [cellsOf_length]; omega)]
theorem cellsOf_snoc (n : Nat) (f : Nat → Nat) : cellsOf n f ++ [.int .u8 (f n)] = cellsOf (n + 1) f := by
  simp [cellsOf, List.range_succ]
theorem cellsOf_made (n : Nat) : (madeCells #[Value.int .u8 0] n).toList = cellsOf n fun _ => 0 := by
  rw [toList_madeCells_one]
  apply List.ext_getElem?
  intro i
  by_cases hi : i < n
  · rw [cellsOf_get _ _ _ hi]; simp [hi]
  · rw [List.getElem?_eq_none (by simp; omega), List.getElem?_eq_none (by rw [cellsOf_length]; omega)]

/-- the slice v owns n bytes, f i the i-th, in a block from lo on, below hi -/
def Own (w : World) (lo hi : Nat) (v : Value) (n : Nat) (f : Nat → Nat) : Prop :=
  w.ownsRow lo 5 1 v n (cellsOf n f) ∧ ∀ k, v.ownBlock = some k → k < hi
/-- the slice v reads as n bytes, f i the i-th, in a block below hi -/
def Rd (w : World) (hi : Nat) (v : Value) (n : Nat) (f : Nat → Nat) : Prop :=
  ∃ ao cap, v = .slice ao n cap ∧ n ≤ maxLen ∧ (n ≠ 0 → ∃ b off, ao = some ⟨b, off, none⟩ ∧ b < hi ∧ ∀ i, i < n → w.cell? ⟨b, off + i, none⟩ = some (.int .u8 (f i)))
/-- nothing but the blocks from lo on, below hi, has turned -/
structure Out (lo hi : Nat) (w w' : World) : Prop where
  os : w'.os = w.os
  tape : w'.tape = w.tape
  output : w'.output = w.output
  size : w'.heap.size = w.heap.size
  block : ∀ k, (k < lo ∨ hi ≤ k) → w'.heap[k]? = w.heap[k]?

theorem Out.refl (lo hi : Nat) (w : World) : Out lo hi w w := ⟨rfl, rfl, rfl, rfl, fun _ _ => rfl⟩
theorem Out.below {lo hi : Nat} {w w' : World} (h : Out lo hi w w') : Below lo w w' := ⟨h.os, h.tape, h.output, Nat.le_of_eq h.size.symm, fun k hk => h.block k (.inl hk)⟩
theorem Own.below {w w' : World} {lo hi B : Nat} {v : Value} {n : Nat} {f : Nat → Nat} (h : Own w lo hi v n f) (hb : Below B w w') (hB : hi ≤ B) : Own w' lo hi v n f := by
  refine ⟨⟨h.1.1, ?_⟩, h.2⟩
  rcases h.1.2 with hn | ⟨g, cap, cur, rfl, hbg, hgg, rest⟩
  · exact .inl hn
  · have := h.2 g rfl
    exact .inr ⟨g, cap, cur, rfl, hbg, (hb.block g (by omega)).trans hgg, rest⟩
theorem Own.out {w w' : World} {lo hi lo' hi' : Nat} {v : Value} {n : Nat} {f : Nat → Nat} (h : Own w lo hi v n f) (hb : Out lo' hi' w w') (hB : hi ≤ lo' ∨ hi' ≤ lo) : Own w' lo hi v n f := by
  refine ⟨⟨h.1.1, ?_⟩, h.2⟩
  rcases h.1.2 with hn | ⟨g, cap, cur, rfl, hbg, hgg, rest⟩
  · exact .inl hn
  · have := h.2 g rfl
    exact .inr ⟨g, cap, cur, rfl, hbg, (hb.block g (by omega)).trans hgg, rest⟩
theorem Own.mono {w : World} {lo hi hi' : Nat} {v : Value} {n : Nat} {f : Nat → Nat} (h : Own w lo hi v n f) (hB : hi ≤ hi') : Own w lo hi' v n f :=
  ⟨h.1, fun k hk => Nat.lt_of_lt_of_le (h.2 k hk) hB⟩
theorem Own.rd {w : World} {lo hi : Nat} {v : Value} {n : Nat} {f : Nat → Nat} (h : Own w lo hi v n f) : Rd w hi v n f := by
  rcases h.1.2 with ⟨rfl, rfl⟩ | ⟨g, cap, cur, rfl, hbg, hgg, hnc, hcm, rest⟩
  · exact ⟨none, 0, rfl, Nat.zero_le _, fun h => absurd rfl h⟩
  · refine ⟨_, _, rfl, Nat.le_trans hnc hcm, fun _ => ⟨g, 0, rfl, h.2 g rfl, fun i hi => ?_⟩⟩
    have := h.1.cellAt i (by omega)
    rw [Nat.zero_add, this, cellsOf_get n f i hi]
theorem Rd.below {w w' : World} {hi B : Nat} {v : Value} {n : Nat} {f : Nat → Nat} (h : Rd w hi v n f) (hb : Below B w w') (hB : hi ≤ B) : Rd w' hi v n f := by
  obtain ⟨ao, cap, rfl, hn, hc⟩ := h
  refine ⟨ao, cap, rfl, hn, fun h0 => ?_⟩
  obtain ⟨b, off, rfl, hlt, hcell⟩ := hc h0
  exact ⟨b, off, rfl, hlt, fun i hi => (hb.cell (p := ⟨b, off + i, none⟩) (by show b < B; omega)).trans (hcell i hi)⟩
theorem Rd.mono {w : World} {hi hi' : Nat} {v : Value} {n : Nat} {f : Nat → Nat} (h : Rd w hi v n f) (hB : hi ≤ hi') : Rd w hi' v n f := by
  obtain ⟨ao, cap, rfl, hn, hc⟩ := h
  refine ⟨ao, cap, rfl, hn, fun h0 => ?_⟩
  obtain ⟨b, off, rfl, hlt, hcell⟩ := hc h0
  exact ⟨b, off, rfl, by omega, hcell⟩
theorem Own.congr {w : World} {lo hi : Nat} {v : Value} {n : Nat} {f g : Nat → Nat} (h : Own w lo hi v n f) (e : ∀ i, i < n → f i = g i) : Own w lo hi v n g := by
  refine ⟨?_, h.2⟩
  rw [← cellsOf_eq e]
  exact h.1
theorem own_nil (w : World) (lo hi : Nat) (f : Nat → Nat) : Own w lo hi (.slice none 0 0) 0 f := ⟨World.ownsRow_nil _ _ _ _, fun _ h => by cases h⟩
/-- an own slice, written out -/
theorem Own.form {w : World} {lo hi : Nat} {v : Value} {n : Nat} {f : Nat → Nat} (h : Own w lo hi v n f) (h0 : n ≠ 0) :
    ∃ g cap, v = .slice (some ⟨g, 0, none⟩) n cap ∧ lo ≤ g ∧ g < hi ∧ g < w.heap.size ∧ n ≤ cap := by
  rcases h.1.2 with ⟨rfl, rfl⟩ | ⟨g, cap, cur, rfl, hbg, hgg, hnc, _⟩
  · exact absurd rfl h0
  · exact ⟨g, cap, rfl, hbg, h.2 g rfl, (Array.getElem?_eq_some_iff.1 hgg).1, hnc⟩
theorem Own.slice {w : World} {lo hi : Nat} {v : Value} {n : Nat} {f : Nat → Nat} (h : Own w lo hi v n f) : ∃ ao cap, v = .slice ao n cap := by
  rcases h.1.2 with ⟨rfl, rfl⟩ | ⟨g, cap, cur, rfl, _⟩
  · exact ⟨_, _, rfl⟩
  · exact ⟨_, _, rfl⟩
theorem Own.le {w : World} {lo hi : Nat} {v : Value} {n : Nat} {f : Nat → Nat} (h : Own w lo hi v n f) : n ≤ maxLen := by
  rcases h.1.2 with ⟨rfl, rfl⟩ | ⟨g, cap, cur, rfl, _, _, hnc, hcm, _⟩
  · exact Nat.zero_le _
  · omega
/-- behind a store of a byte -/
theorem Own.store {w : World} {lo hi g cap n : Nat} {f g' : Nat → Nat} (h : Own w lo hi (.slice (some ⟨g, 0, none⟩) n cap) n f) (k x : Nat) (hk : k < n)
    (e : ∀ i, i < n → g' i = if i = k then x else f i) : Own (w.setCell ⟨g, k, none⟩ (.int .u8 x)) lo hi (.slice (some ⟨g, 0, none⟩) n cap) n g' := by
  refine ⟨?_, h.2⟩
  have := (h.1.stored k (.int .u8 x)).1
  rw [cellsOf_set n f g' k x hk e] at this
  exact this
theorem out_store (w : World) (lo hi g k : Nat) (u : Value) (h1 : lo ≤ g) (h2 : g < hi) : Out lo hi w (w.setCell ⟨g, k, none⟩ u) :=
  ⟨rfl, rfl, rfl, by simp, fun j hj => heap_setCell_other w ⟨g, k, none⟩ j u (by show j ≠ g; omega)⟩
theorem Out.trans {lo hi : Nat} {a b c : World} (h : Out lo hi a b) (k : Out lo hi b c) : Out lo hi a c :=
  ⟨k.os.trans h.os, k.tape.trans h.tape, k.output.trans h.output, k.size.trans h.size, fun i hi => (k.block i hi).trans (h.block i hi)⟩
theorem info_u8 : (Try.prog.info? 5).map (fun i => (i.zero, i.size, i.bytes)) = some (some (.int .u8 0), 1, 1) := by kernel_rfl

theorem below_of_grown {w w' : World} (h : w.grownBy w' none) : Below w.heap.size w w' := ⟨h.os, h.tape, h.output, h.size, fun k hk => h.block k hk (by simp)⟩
/-- make([]byte, n) -/
theorem wp_makeB (w : World) {ops : Array Oper} {rest : List Oper} {o : Oper} {a : Act} {Q : Exit → Act → World → Prop}
    (hg : o.guard = none) (l c : Operand) (hop : o.op = Op.makeSlice 39 l c) (L C : Int) (n : Nat) (hl : a.eval l = .int .i64 L) (hc : a.eval c = .int .i64 C) (hL : L = (n : Int)) (hC : C = (n : Int)) (hn : n ≤ 140737488351232)
    (hK : ∀ w', Own w' w.heap.size w'.heap.size (.slice (some ⟨w.heap.size, 0, none⟩) n n) n (fun _ => 0) → Below w.heap.size w w' → w.heap.size < w'.heap.size → wpList Try.prog ops Q rest (a.put o.dst (.slice (some ⟨w.heap.size, 0, none⟩) n n)) w') :
    wpList Try.prog ops Q (o :: rest) a w := by
  obtain ⟨i0, hi0, hz0, hz1, hz2⟩ := info_parts info_u8
  refine wpList_make_full w hg l c 39 hop w.heap.size 5 i0 (.int .u8 0) 1 Try.underlying39 hi0 hz0 hz1 .i64 .i64 L C n hl hc hL hC (by rw [hz2]; omega) (by unfold maxLen; omega) (Nat.le_refl _) ?_
  intro w' hown hgrow
  have hown' : w'.ownsRow w.heap.size 5 1 (.slice (some ⟨w.heap.size, 0, none⟩) n n) n (cellsOf n fun _ => 0) := by
    rw [← cellsOf_made n]
    have e : (madeCells (Value.int IntKind.u8 0).cells (n * 1)).toList = (madeCells #[Value.int .u8 0] n).toList := by rw [Nat.mul_one]; rfl
    rw [← e]
    exact hown
  have hlt := (hown'.lt _ rfl).2
  exact hK w' ⟨hown', fun k hk => (hown'.lt k hk).2⟩ (below_of_grown hgrow) hlt

theorem Own.alloc {w : World} {lo hi : Nat} {v : Value} {n : Nat} {f : Nat → Nat} (h : Own w lo hi v n f) (o : Obj) : Own (w.alloc o) lo hi v n f := ⟨h.1.alloc o, h.2⟩
theorem Own.drewN {w : World} {lo hi : Nat} {v : Value} {n : Nat} {f : Nat → Nat} (h : Own w lo hi v n f) (m : Nat) : Own (w.drewN m) lo hi v n f := h
theorem Own.drew {w : World} {lo hi : Nat} {v : Value} {n : Nat} {f : Nat → Nat} (h : Own w lo hi v n f) : Own w.drew lo hi v n f := h

/-- append(v, x), x a byte that lies in a block of its own, v the call's own -/
theorem run_appendB (w : World) (ty : TypeId) (lo hi : Nat) (v : Value) (n : Nat) (f : Nat → Nat) (hown : Own w lo hi v n f) (b c : Nat) (hcell : w.cell? ⟨b, 0, none⟩ = some (.int .u8 (f n))) (hn : n + 1 ≤ 140737488351232) (hlo : lo ≤ w.heap.size) :
    ∃ v' w', (Builtin.append_ #[39, 39] ty #[v, .slice (some ⟨b, 0, none⟩) 1 c]).run Try.prog w = .ok v' w' ∧ Own w' lo w'.heap.size v' (n + 1) f ∧ Below lo w w' := by
  obtain ⟨i0, hi0, hz0, hz1, hz2⟩ := info_parts info_u8
  obtain ⟨v', w', hr, h2, h3, _⟩ := run_append_own (P := Try.prog) w lo 39 ty 5 i0 (.int .u8 0) 1 1 Try.underlying39 hi0 hz0 hz1 hz2 rfl (by decide) v n (cellsOf n f) hown.1 ⟨b, 0, none⟩ 1 c [.int .u8 (f n)] rfl
    (fun j u hj => by
      match j, hj with
      | 0, hj => simp at hj; subst hj; simpa [Addr.add] using hcell)
    (fun u hu => by simp at hu; subst hu; rfl) (by unfold maxLen; omega) (by omega) hlo
  rw [cellsOf_snoc] at h2
  exact ⟨v', w', hr, ⟨h2, fun k hk => (h2.lt k hk).2⟩, (Below.refl _ _).grown h3 hlo (fun k hk => (hown.1.lt k hk).1)⟩
theorem step_appendB {ops : Array Oper} {o : Oper} {a : Act} {w : World} {K : Act → World → Prop} {Q : Exit → Act → World → Prop} {E : Prop}
    (hg : o.guard = none) (s x : Operand) (hop : o.op = Op.call { callee := Callee.builtin Builtin.append, args := #[s, x], argTypes := #[39, 39] })
    (lo hi : Nat) (v : Value) (n : Nat) (f : Nat → Nat) (hs : a.eval s = v) (hown : Own w lo hi v n f) (b c : Nat) (hx : a.eval x = .slice (some ⟨b, 0, none⟩) 1 c) (hcell : w.cell? ⟨b, 0, none⟩ = some (.int .u8 (f n)))
    (hn : n + 1 ≤ 140737488351232) (hlo : lo ≤ w.heap.size)
    (hK : ∀ v' w', Own w' lo w'.heap.size v' (n + 1) f → Below lo w w' → K (a.put o.dst v') w') :
    if Region.wanted o (yielded ops a.tmps) = true then Oper.wp Try.prog o a w K Q else E := by
  have hw : Region.wanted o (yielded ops a.tmps) = true := by simp [Region.wanted, hg]
  rw [if_pos hw]
  obtain ⟨v', w', hrun, r1, r2⟩ := run_appendB w o.type lo hi v n f hown b c hcell hn hlo
  unfold Oper.wp
  simp [execOp, hop, resolve, invoke, builtin, hs, hx, hrun, Result.andThen]
  exact hK v' w' r1 r2
theorem wp_appendB {ops : Array Oper} {rest : List Oper} {o : Oper} {a : Act} {w : World} {Q : Exit → Act → World → Prop}
    (hg : o.guard = none) (s x : Operand) (hop : o.op = Op.call { callee := Callee.builtin Builtin.append, args := #[s, x], argTypes := #[39, 39] })
    (lo hi : Nat) (v : Value) (n : Nat) (f : Nat → Nat) (hs : a.eval s = v) (hown : Own w lo hi v n f) (b c : Nat) (hx : a.eval x = .slice (some ⟨b, 0, none⟩) 1 c) (hcell : w.cell? ⟨b, 0, none⟩ = some (.int .u8 (f n)))
    (hn : n + 1 ≤ 140737488351232) (hlo : lo ≤ w.heap.size)
    (hK : ∀ v' w', Own w' lo w'.heap.size v' (n + 1) f → Below lo w w' → wpList Try.prog ops Q rest (a.put o.dst v') w') : wpList Try.prog ops Q (o :: rest) a w := by
  refine wpList_plain hg fun K hK' => ?_
  obtain ⟨v', w', hrun, r1, r2⟩ := run_appendB w o.type lo hi v n f hown b c hcell hn hlo
  unfold Oper.wp
  simp [execOp, hop, resolve, invoke, builtin, hs, hx, hrun, Result.andThen]
  exact hK' _ _ (hK v' w' r1 r2)
/-- []byte{} -/
theorem own_lit0 (w : World) (g : Nat → Nat) : Own (w.alloc (.cells #[] 5)) w.heap.size (w.alloc (.cells #[] 5)).heap.size (.slice (some ⟨w.heap.size, 0, none⟩) 0 0) 0 g := by
  have h := World.ownsRow_lit (base := w.heap.size) (e := 5) (size := 1) w #[] 0 (Nat.le_refl _) (Nat.zero_le _) rfl
  exact ⟨h, fun k hk => (h.lt k hk).2⟩
theorem Own.weaken {w : World} {lo hi lo' hi' : Nat} {v : Value} {n : Nat} {f : Nat → Nat} (h : Own w lo hi v n f) (h1 : lo' ≤ lo) (h2 : hi ≤ hi') : Own w lo' hi' v n f := by
  refine ⟨⟨h.1.1, ?_⟩, fun k hk => Nat.lt_of_lt_of_le (h.2 k hk) h2⟩
  rcases h.1.2 with hn | ⟨g, cap, cur, rfl, hbg, rest⟩
  · exact .inl hn
  · exact .inr ⟨g, cap, cur, rfl, by omega, rest⟩
/-- a result of two cells, laid ahead of what is owned and filled behind it -/
theorem own_set2 {w w1 : World} {o : Obj} {v x y : Value} {n : Nat} {g : Nat → Nat} (h : Own w1 (w.alloc o).heap.size w1.heap.size v n g) :
    Own ((w1.setCell ⟨w.heap.size, 0, none⟩ x).setCell ⟨w.heap.size, 1, none⟩ y) w.heap.size ((w1.setCell ⟨w.heap.size, 0, none⟩ x).setCell ⟨w.heap.size, 1, none⟩ y).heap.size v n g := by
  have o1 := out_store w1 w.heap.size (w.heap.size + 1) w.heap.size 0 x (Nat.le_refl _) (by omega)
  have o2 := out_store (w1.setCell ⟨w.heap.size, 0, none⟩ x) w.heap.size (w.heap.size + 1) w.heap.size 1 y (Nat.le_refl _) (by omega)
  exact (h.out (o1.trans o2) (.inr (by simp))).weaken (by simp) (Nat.le_of_eq (o1.trans o2).size.symm)
theorem below_set2 {w w1 : World} {o : Obj} {x y : Value} (h : Below (w.alloc o).heap.size (w.alloc o) w1) :
    Below w.heap.size w ((w1.setCell ⟨w.heap.size, 0, none⟩ x).setCell ⟨w.heap.size, 1, none⟩ y) :=
  ((bnew h).setCell (Nat.le_refl _) _).setCell (Nat.le_refl _) _
theorem Out.drew {lo hi : Nat} {a w : World} (h : Out lo hi a w) : Out lo hi a w.drew := ⟨h.os, h.tape, h.output, h.size, h.block⟩
/-- the block of a result of two cells, laid first -/
theorem res_row {w w1 wr : World} {cs : Array Value} {t : TypeId} {hi : Nat} (h1 : Below (w.alloc (.cells cs t)).heap.size (w.alloc (.cells cs t)) w1) (h2 : Out (w.heap.size + 1) hi w1 wr) :
    wr.heap[w.heap.size]? = some (.cells cs t (0, 0)) := by
  rw [h2.block _ (.inl (by omega)), h1.block _ (by simp)]
  exact heap_alloc_new w _
theorem res_cells {wr : World} {g : Nat} {x y : Value} {t : TypeId} (h : wr.heap[g]? = some (.cells #[x, y] t (0, 0))) :
    wr.cell? ⟨g, 0, none⟩ = some x ∧ wr.cell? ⟨g, 1, none⟩ = some y ∧ wr.frozen? ⟨g, 0, none⟩ = false ∧ wr.frozen? ⟨g, 1, none⟩ = false :=
  ⟨by rw [cell_of_row wr g 0 _ t _ h]; rfl, by rw [cell_of_row wr g 1 _ t _ h]; rfl, frozen_of_row wr g 0 _ t h, frozen_of_row wr g 1 _ t h⟩
/-- of what was there, nothing but the blocks from lo on, below hi, has turned -/
structure Chg (lo hi : Nat) (w w' : World) : Prop where
  os : w'.os = w.os
  tape : w'.tape = w.tape
  output : w'.output = w.output
  size : w.heap.size ≤ w'.heap.size
  block : ∀ k, k < w.heap.size → (k < lo ∨ hi ≤ k) → w'.heap[k]? = w.heap[k]?
theorem Out.chg {lo hi : Nat} {w w' : World} (h : Out lo hi w w') : Chg lo hi w w' := ⟨h.os, h.tape, h.output, Nat.le_of_eq h.size.symm, fun k _ hk => h.block k hk⟩
theorem Below.chg {w w' : World} (h : Below w.heap.size w w') (lo hi : Nat) : Chg lo hi w w' := ⟨h.os, h.tape, h.output, h.size, fun k hk _ => h.block k hk⟩
theorem Chg.trans {lo hi : Nat} {a b c : World} (h : Chg lo hi a b) (k : Chg lo hi b c) : Chg lo hi a c :=
  ⟨k.os.trans h.os, k.tape.trans h.tape, k.output.trans h.output, Nat.le_trans h.size k.size, fun i hi ho => (k.block i (Nat.lt_of_lt_of_le hi h.size) ho).trans (h.block i hi ho)⟩
theorem Chg.below {lo hi B : Nat} {w w' : World} (h : Chg lo hi w w') (h1 : B ≤ lo) (h2 : B ≤ w.heap.size) : Below B w w' := ⟨h.os, h.tape, h.output, h.size, fun k hk => h.block k (by omega) (.inl (by omega))⟩
theorem Own.chg {w w' : World} {lo hi lo' hi' : Nat} {v : Value} {n : Nat} {f : Nat → Nat} (h : Own w lo hi v n f) (hb : Chg lo' hi' w w') (hB : hi ≤ lo' ∨ hi' ≤ lo) : Own w' lo hi v n f := by
  refine ⟨⟨h.1.1, ?_⟩, h.2⟩
  rcases h.1.2 with hn | ⟨g, cap, cur, rfl, hbg, hgg, rest⟩
  · exact .inl hn
  · have := h.2 g rfl
    exact .inr ⟨g, cap, cur, rfl, hbg, (hb.block g (Array.getElem?_eq_some_iff.1 hgg).1 (by omega)).trans hgg, rest⟩
theorem Rd.chg {w w' : World} {hi lo' hi' : Nat} {v : Value} {n : Nat} {f : Nat → Nat} (h : Rd w hi v n f) (hb : Chg lo' hi' w w') (hB : hi ≤ lo') (hB2 : hi ≤ w.heap.size) : Rd w' hi v n f := h.below (hb.below hB hB2) (Nat.le_refl _)
/-- a box: a block of cells of the call's own -/
def Box (w : World) (b : Nat) (cs : Array Value) (t : TypeId) : Prop := w.heap[b]? = some (.cells cs t (0, 0))
theorem Box.lt {w : World} {b : Nat} {cs : Array Value} {t : TypeId} (h : Box w b cs t) : b < w.heap.size := (Array.getElem?_eq_some_iff.1 h).1
theorem Box.below {w w' : World} {b B : Nat} {cs : Array Value} {t : TypeId} (h : Box w b cs t) (hb : Below B w w') (hB : b < B) : Box w' b cs t := (hb.block b hB).trans h
theorem Box.chg {w w' : World} {b lo hi : Nat} {cs : Array Value} {t : TypeId} (h : Box w b cs t) (hb : Chg lo hi w w') (hB : b < lo ∨ hi ≤ b) : Box w' b cs t := (hb.block b h.lt hB).trans h
theorem Box.cell {w : World} {b : Nat} {cs : Array Value} {t : TypeId} (h : Box w b cs t) (j : Nat) : w.cell? ⟨b, j, none⟩ = cs[j]? := cell_of_row w b j cs t _ h
theorem Box.frozen {w : World} {b : Nat} {cs : Array Value} {t : TypeId} (h : Box w b cs t) (j : Nat) : w.frozen? ⟨b, j, none⟩ = false := frozen_of_row w b j cs t h
theorem box_new (w : World) (cs : Array Value) (t : TypeId) : Box (w.alloc (.cells cs t)) w.heap.size cs t := heap_alloc_new w _
/-- a call of a Go function by its contract, as one step of a region that draws its order -/
theorem step_call {ops : Array Oper} {o : Oper} {a : Act} {w : World} {K : Act → World → Prop} {Q : Exit → Act → World → Prop} {E : Prop}
    (hg : o.guard = none) (n : Nat) (args : Array Operand) (ty : Array TypeId) (hop : o.op = Op.call { callee := Callee.value (.func n), args := args, argTypes := ty }) (vals : Array Value) (hv : args.map a.eval = vals)
    {fn : Func} (hfn : Try.prog.funcs[n]? = some fn) (hnm : (fn.name == "runtime.NumGoroutine") = false) (hbd : fn.body.isSome = true)
    {R : Ending → World → Prop} (hc : Calls Try.prog n vals w R) (hK : ∀ e w', R e w' → ∃ v, e = .returned v ∧ K (a.put o.dst v) w') :
    if Region.wanted o (yielded ops a.tmps) = true then Oper.wp Try.prog o a w K Q else E := by
  have hw : Region.wanted o (yielded ops a.tmps) = true := by simp [Region.wanted, hg]
  have hn' : ¬ fn.name = "runtime.NumGoroutine" := by simpa using hnm
  have hb' : ¬ fn.body = none := by intro h; rw [h] at hbd; cases hbd
  rw [if_pos hw]
  unfold Oper.wp
  simp [execOp, hop, resolve, invoke, Act.eval, Result.andThen, Deferred.ofValue, callFunc, Oper.upon, hv, hfn, hn', hb']
  refine hc.mono fun e w' h => ?_
  obtain ⟨v, rfl, hk⟩ := hK e w' h
  exact hk
theorem cell_alloc_old (w : World) (o : Obj) (b j : Nat) (h : b < w.heap.size) : (w.alloc o).cell? ⟨b, j, none⟩ = w.cell? ⟨b, j, none⟩ := World.cell?_of_block (Below.heap_alloc w o b h)
theorem frozen_alloc_old (w : World) (o : Obj) (b j : Nat) (h : b < w.heap.size) : (w.alloc o).frozen? ⟨b, j, none⟩ = w.frozen? ⟨b, j, none⟩ := World.frozen?_of_block (Below.heap_alloc w o b h)
/-- make([]byte, 0, n) -/
theorem wp_makeB0 (w : World) {ops : Array Oper} {rest : List Oper} {o : Oper} {a : Act} {Q : Exit → Act → World → Prop}
    (hg : o.guard = none) (l c : Operand) (hop : o.op = Op.makeSlice 39 l c) (C : Int) (n : Nat) (hl : a.eval l = .int .i64 0) (hc : a.eval c = .int .i64 C) (hC : C = (n : Int)) (hn : n ≤ 140737488351232)
    (hK : ∀ w', (∀ f, Own w' w.heap.size w'.heap.size (.slice (some ⟨w.heap.size, 0, none⟩) 0 n) 0 f) → Below w.heap.size w w' → w.heap.size < w'.heap.size → wpList Try.prog ops Q rest (a.put o.dst (.slice (some ⟨w.heap.size, 0, none⟩) 0 n)) w') :
    wpList Try.prog ops Q (o :: rest) a w := by
  obtain ⟨i0, hi0, hz0, hz1, hz2⟩ := info_parts info_u8
  refine wpList_make_own w hg l c 39 hop w.heap.size 5 i0 (.int .u8 0) 1 Try.underlying39 hi0 hz0 hz1 .i64 .i64 C n hl hc hC (by rw [hz2]; omega) (by unfold maxLen; omega) (Nat.le_refl _) ?_
  intro w' hown hgrow
  have hlt := (hown.lt _ rfl).2
  exact hK w' (fun f => ⟨hown, fun k hk => (hown.lt k hk).2⟩) (below_of_grown hgrow) hlt
end Go.Proofs.Ytgpglgchbimmaaa
