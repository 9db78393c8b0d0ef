/- Slices of numbers in memory, as Own.lean has slices of bytes. -/
import Derived.Test.YtgpglgchbimmaaaOwn
namespace Go.Proofs.Ytgpglgchbimmaaa
open Go.RowKit F256
set_option linter.unusedVariables false

def intsOf (n : Nat) (f : Nat → Int) : List Value := (List.range n).map fun i => Value.int .i64 (f i)
theorem intsOf_length (n : Nat) (f : Nat → Int) : (intsOf n f).length = n := by simp [intsOf]
theorem intsOf_get (n : Nat) (f : Nat → Int) (i : Nat) (h : i < n) : (intsOf n f)[i]? = some (.int .i64 (f i)) := by simp [intsOf, h]
theorem intsOf_eq {n : Nat} {f g : Nat → Int} (h : ∀ i, i < n → f i = g i) : intsOf n f = intsOf n g := by
  apply List.map_congr_left
  intro i hi
  rw [h i (List.mem_range.mp hi)]
theorem intsOf_set (n : Nat) (f g : Nat → Int) (k : Nat) (x : Int) (hk : k < n) (h : ∀ i, i < n → g i = if i = k then x else f i) : (intsOf n f).set k (.int .i64 x) = intsOf n g := by
  apply List.ext_getElem?
  intro i
  by_cases hi : i < n
  · rw [intsOf_get n g i hi, h i hi, List.getElem?_set]
    by_cases e : k = i
    · subst e; simp [intsOf_length, hk]
    · rw [if_neg e, if_neg (fun h => e h.symm), intsOf_get n f i hi]
  · rw [List.getElem?_eq_none (by rw [List.length_set, intsOf_length]; omega), List.getElem?_eq_none (by rw [intsOf_length]; omega)]
theorem intsOf_snoc (n : Nat) (f : Nat → Int) : intsOf n f ++ [.int .i64 (f n)] = intsOf (n + 1) f := by
  simp [intsOf, List.range_succ]
theorem intsOf_made (n : Nat) : (madeCells #[Value.int .i64 0] n).toList = intsOf n fun _ => 0 := by
  rw [toList_madeCells_one]
  apply List.ext_getElem?
  intro i
  by_cases hi : i < n
  · rw [intsOf_get _ _ _ hi]; simp [hi]
  · rw [List.getElem?_eq_none (by simp; omega), List.getElem?_eq_none (by rw [intsOf_length]; omega)]

/-- the slice v owns n bytes, f i the i-th, in a block from lo on, below hi -/
def OwnI (w : World) (lo hi : Nat) (v : Value) (n : Nat) (f : Nat → Int) : Prop :=
  w.ownsRow lo 2 1 v n (intsOf n f) ∧ ∀ k, v.ownBlock = some k → k < hi
/-- the slice v reads as n bytes, f i the i-th, in a block below hi -/
def RdI (w : World) (hi : Nat) (v : Value) (n : Nat) (f : Nat → Int) : Prop :=
  ∃ ao cap, v = .slice ao n cap ∧ n ≤ maxLen ∧ (n ≠ 0 → ∃ b off, ao = some ⟨b, off, none⟩ ∧ b < hi ∧ ∀ i, i < n → w.cell? ⟨b, off + i, none⟩ = some (.int .i64 (f i)))
theorem OwnI.below {w w' : World} {lo hi B : Nat} {v : Value} {n : Nat} {f : Nat → Int} (h : OwnI w lo hi v n f) (hb : Below B w w') (hB : hi ≤ B) : OwnI w' lo hi v n f := by
  refine ⟨⟨h.1.1, ?_⟩, h.2⟩
  rcases h.1.2 with hn | ⟨g, cap, cur, rfl, hbg, hgg, rest⟩
  · exact .inl hn
  · have := h.2 g rfl
    exact .inr ⟨g, cap, cur, rfl, hbg, (hb.block g (by omega)).trans hgg, rest⟩
theorem OwnI.out {w w' : World} {lo hi lo' hi' : Nat} {v : Value} {n : Nat} {f : Nat → Int} (h : OwnI w lo hi v n f) (hb : Out lo' hi' w w') (hB : hi ≤ lo' ∨ hi' ≤ lo) : OwnI w' lo hi v n f := by
  refine ⟨⟨h.1.1, ?_⟩, h.2⟩
  rcases h.1.2 with hn | ⟨g, cap, cur, rfl, hbg, hgg, rest⟩
  · exact .inl hn
  · have := h.2 g rfl
    exact .inr ⟨g, cap, cur, rfl, hbg, (hb.block g (by omega)).trans hgg, rest⟩
theorem OwnI.mono {w : World} {lo hi hi' : Nat} {v : Value} {n : Nat} {f : Nat → Int} (h : OwnI w lo hi v n f) (hB : hi ≤ hi') : OwnI w lo hi' v n f :=
  ⟨h.1, fun k hk => Nat.lt_of_lt_of_le (h.2 k hk) hB⟩
theorem OwnI.rd {w : World} {lo hi : Nat} {v : Value} {n : Nat} {f : Nat → Int} (h : OwnI w lo hi v n f) : RdI w hi v n f := by
  rcases h.1.2 with ⟨rfl, rfl⟩ | ⟨g, cap, cur, rfl, hbg, hgg, hnc, hcm, rest⟩
  · exact ⟨none, 0, rfl, Nat.zero_le _, fun h => absurd rfl h⟩
  · refine ⟨_, _, rfl, Nat.le_trans hnc hcm, fun _ => ⟨g, 0, rfl, h.2 g rfl, fun i hi => ?_⟩⟩
    have := h.1.cellAt i (by omega)
    rw [Nat.zero_add, this, intsOf_get n f i hi]
theorem RdI.below {w w' : World} {hi B : Nat} {v : Value} {n : Nat} {f : Nat → Int} (h : RdI w hi v n f) (hb : Below B w w') (hB : hi ≤ B) : RdI w' hi v n f := by
  obtain ⟨ao, cap, rfl, hn, hc⟩ := h
  refine ⟨ao, cap, rfl, hn, fun h0 => ?_⟩
  obtain ⟨b, off, rfl, hlt, hcell⟩ := hc h0
  exact ⟨b, off, rfl, hlt, fun i hi => (hb.cell (p := ⟨b, off + i, none⟩) (by show b < B; omega)).trans (hcell i hi)⟩
theorem RdI.mono {w : World} {hi hi' : Nat} {v : Value} {n : Nat} {f : Nat → Int} (h : RdI w hi v n f) (hB : hi ≤ hi') : RdI w hi' v n f := by
  obtain ⟨ao, cap, rfl, hn, hc⟩ := h
  refine ⟨ao, cap, rfl, hn, fun h0 => ?_⟩
  obtain ⟨b, off, rfl, hlt, hcell⟩ := hc h0
  exact ⟨b, off, rfl, by omega, hcell⟩
theorem OwnI.congr {w : World} {lo hi : Nat} {v : Value} {n : Nat} {f g : Nat → Int} (h : OwnI w lo hi v n f) (e : ∀ i, i < n → f i = g i) : OwnI w lo hi v n g := by
  refine ⟨?_, h.2⟩
  rw [← intsOf_eq e]
  exact h.1
theorem ownI_nil (w : World) (lo hi : Nat) (f : Nat → Int) : OwnI w lo hi (.slice none 0 0) 0 f := ⟨World.ownsRow_nil _ _ _ _, fun _ h => by cases h⟩
/-- an own slice, written out -/
theorem OwnI.form {w : World} {lo hi : Nat} {v : Value} {n : Nat} {f : Nat → Int} (h : OwnI w lo hi v n f) (h0 : n ≠ 0) :
    ∃ g cap, v = .slice (some ⟨g, 0, none⟩) n cap ∧ lo ≤ g ∧ g < hi ∧ g < w.heap.size ∧ n ≤ cap := by
  rcases h.1.2 with ⟨rfl, rfl⟩ | ⟨g, cap, cur, rfl, hbg, hgg, hnc, _⟩
  · exact absurd rfl h0
  · exact ⟨g, cap, rfl, hbg, h.2 g rfl, (Array.getElem?_eq_some_iff.1 hgg).1, hnc⟩
theorem OwnI.slice {w : World} {lo hi : Nat} {v : Value} {n : Nat} {f : Nat → Int} (h : OwnI w lo hi v n f) : ∃ ao cap, v = .slice ao n cap := by
  rcases h.1.2 with ⟨rfl, rfl⟩ | ⟨g, cap, cur, rfl, _⟩
  · exact ⟨_, _, rfl⟩
  · exact ⟨_, _, rfl⟩
theorem OwnI.le {w : World} {lo hi : Nat} {v : Value} {n : Nat} {f : Nat → Int} (h : OwnI w lo hi v n f) : n ≤ maxLen := by
  rcases h.1.2 with ⟨rfl, rfl⟩ | ⟨g, cap, cur, rfl, _, _, hnc, hcm, _⟩
  · exact Nat.zero_le _
  · omega
/-- behind a store of a byte -/
theorem OwnI.store {w : World} {lo hi g cap n : Nat} {f g' : Nat → Int} (h : OwnI w lo hi (.slice (some ⟨g, 0, none⟩) n cap) n f) (k : Nat) (x : Int) (hk : k < n)
    (e : ∀ i, i < n → g' i = if i = k then x else f i) : OwnI (w.setCell ⟨g, k, none⟩ (.int .i64 x)) lo hi (.slice (some ⟨g, 0, none⟩) n cap) n g' := by
  refine ⟨?_, h.2⟩
  have := (h.1.stored k (.int .i64 x)).1
  rw [intsOf_set n f g' k x hk e] at this
  exact this
theorem info_i64 : (Try.prog.info? 2).map (fun i => (i.zero, i.size, i.bytes)) = some (some (.int .i64 0), 1, 8) := by kernel_rfl

/-- make([]byte, n) -/
theorem wp_makeI (w : World) {ops : Array Oper} {rest : List Oper} {o : Oper} {a : Act} {Q : Exit → Act → World → Prop}
    (hg : o.guard = none) (l c : Operand) (hop : o.op = Op.makeSlice 25 l c) (L C : Int) (n : Nat) (hl : a.eval l = .int .i64 L) (hc : a.eval c = .int .i64 C) (hL : L = (n : Int)) (hC : C = (n : Int)) (hn : n ≤ 1000000000)
    (hK : ∀ w', OwnI w' w.heap.size w'.heap.size (.slice (some ⟨w.heap.size, 0, none⟩) n n) n (fun _ => 0) → Below w.heap.size w w' → w.heap.size < w'.heap.size → wpList Try.prog ops Q rest (a.put o.dst (.slice (some ⟨w.heap.size, 0, none⟩) n n)) w') :
    wpList Try.prog ops Q (o :: rest) a w := by
  obtain ⟨i0, hi0, hz0, hz1, hz2⟩ := info_parts info_i64
  refine wpList_make_full w hg l c 25 hop w.heap.size 2 i0 (.int .i64 0) 1 Try.underlying25 hi0 hz0 hz1 .i64 .i64 L C n hl hc hL hC (by rw [hz2]; omega) (by unfold maxLen; omega) (Nat.le_refl _) ?_
  intro w' hown hgrow
  have hown' : w'.ownsRow w.heap.size 2 1 (.slice (some ⟨w.heap.size, 0, none⟩) n n) n (intsOf n fun _ => 0) := by
    rw [← intsOf_made n]
    have e : (madeCells (Value.int IntKind.i64 0).cells (n * 1)).toList = (madeCells #[Value.int .i64 0] n).toList := by rw [Nat.mul_one]; rfl
    rw [← e]
    exact hown
  have hlt := (hown'.lt _ rfl).2
  exact hK w' ⟨hown', fun k hk => (hown'.lt k hk).2⟩ (below_of_grown hgrow) hlt

theorem OwnI.alloc {w : World} {lo hi : Nat} {v : Value} {n : Nat} {f : Nat → Int} (h : OwnI w lo hi v n f) (o : Obj) : OwnI (w.alloc o) lo hi v n f := ⟨h.1.alloc o, h.2⟩
theorem OwnI.drewN {w : World} {lo hi : Nat} {v : Value} {n : Nat} {f : Nat → Int} (h : OwnI w lo hi v n f) (m : Nat) : OwnI (w.drewN m) lo hi v n f := h
theorem OwnI.drew {w : World} {lo hi : Nat} {v : Value} {n : Nat} {f : Nat → Int} (h : OwnI w lo hi v n f) : OwnI w.drew lo hi v n f := h

/-- append(v, x), x a byte that lies in a block of its own, v the call's own -/
theorem run_appendI (w : World) (ty : TypeId) (lo hi : Nat) (v : Value) (n : Nat) (f : Nat → Int) (hown : OwnI w lo hi v n f) (b c : Nat) (hcell : w.cell? ⟨b, 0, none⟩ = some (.int .i64 (f n))) (hn : n + 1 ≤ 1000000000) (hlo : lo ≤ w.heap.size) :
    ∃ v' w', (Builtin.append_ #[25, 25] ty #[v, .slice (some ⟨b, 0, none⟩) 1 c]).run Try.prog w = .ok v' w' ∧ OwnI w' lo w'.heap.size v' (n + 1) f ∧ Below lo w w' := by
  obtain ⟨i0, hi0, hz0, hz1, hz2⟩ := info_parts info_i64
  obtain ⟨v', w', hr, h2, h3, _⟩ := run_append_own (P := Try.prog) w lo 25 ty 2 i0 (.int .i64 0) 1 8 Try.underlying25 hi0 hz0 hz1 hz2 rfl (by decide) v n (intsOf n f) hown.1 ⟨b, 0, none⟩ 1 c [.int .i64 (f n)] rfl
    (fun j u hj => by
      match j, hj with
      | 0, hj => simp at hj; subst hj; simpa [Addr.add] using hcell)
    (fun u hu => by simp at hu; subst hu; rfl) (by unfold maxLen; omega) (by omega) hlo
  rw [intsOf_snoc] at h2
  exact ⟨v', w', hr, ⟨h2, fun k hk => (h2.lt k hk).2⟩, (Below.refl _ _).grown h3 hlo (fun k hk => (hown.1.lt k hk).1)⟩
theorem wp_appendI {ops : Array Oper} {rest : List Oper} {o : Oper} {a : Act} {w : World} {Q : Exit → Act → World → Prop}
    (hg : o.guard = none) (s x : Operand) (hop : o.op = Op.call { callee := Callee.builtin Builtin.append, args := #[s, x], argTypes := #[25, 25] })
    (lo hi : Nat) (v : Value) (n : Nat) (f : Nat → Int) (hs : a.eval s = v) (hown : OwnI w lo hi v n f) (b c : Nat) (hx : a.eval x = .slice (some ⟨b, 0, none⟩) 1 c) (hcell : w.cell? ⟨b, 0, none⟩ = some (.int .i64 (f n)))
    (hn : n + 1 ≤ 1000000000) (hlo : lo ≤ w.heap.size)
    (hK : ∀ v' w', OwnI w' lo w'.heap.size v' (n + 1) f → Below lo w w' → wpList Try.prog ops Q rest (a.put o.dst v') w') : wpList Try.prog ops Q (o :: rest) a w := by
  refine wpList_plain hg fun K hK' => ?_
  obtain ⟨v', w', hrun, r1, r2⟩ := run_appendI w o.type lo hi v n f hown b c hcell hn hlo
  unfold Oper.wp
  simp [execOp, hop, resolve, invoke, builtin, hs, hx, hrun, Result.andThen]
  exact hK' _ _ (hK v' w' r1 r2)
/-- []byte{} -/
theorem ownI_lit0 (w : World) (g : Nat → Int) : OwnI (w.alloc (.cells #[] 2)) w.heap.size (w.alloc (.cells #[] 2)).heap.size (.slice (some ⟨w.heap.size, 0, none⟩) 0 0) 0 g := by
  have h := World.ownsRow_lit (base := w.heap.size) (e := 2) (size := 1) w #[] 0 (Nat.le_refl _) (Nat.zero_le _) rfl
  exact ⟨h, fun k hk => (h.lt k hk).2⟩
theorem OwnI.weaken {w : World} {lo hi lo' hi' : Nat} {v : Value} {n : Nat} {f : Nat → Int} (h : OwnI w lo hi v n f) (h1 : lo' ≤ lo) (h2 : hi ≤ hi') : OwnI w lo' hi' v n f := by
  refine ⟨⟨h.1.1, ?_⟩, fun k hk => Nat.lt_of_lt_of_le (h.2 k hk) h2⟩
  rcases h.1.2 with hn | ⟨g, cap, cur, rfl, hbg, rest⟩
  · exact .inl hn
  · exact .inr ⟨g, cap, cur, rfl, by omega, rest⟩
theorem OwnI.chg {w w' : World} {lo hi lo' hi' : Nat} {v : Value} {n : Nat} {f : Nat → Int} (h : OwnI w lo hi v n f) (hb : Chg lo' hi' w w') (hB : hi ≤ lo' ∨ hi' ≤ lo) : OwnI w' lo hi v n f := by
  refine ⟨⟨h.1.1, ?_⟩, h.2⟩
  rcases h.1.2 with hn | ⟨g, cap, cur, rfl, hbg, hgg, rest⟩
  · exact .inl hn
  · have := h.2 g rfl
    exact .inr ⟨g, cap, cur, rfl, hbg, (hb.block g (Array.getElem?_eq_some_iff.1 hgg).1 (by omega)).trans hgg, rest⟩
theorem RdI.chg {w w' : World} {hi lo' hi' : Nat} {v : Value} {n : Nat} {f : Nat → Int} (h : RdI w hi v n f) (hb : Chg lo' hi' w w') (hB : hi ≤ lo') (hB2 : hi ≤ w.heap.size) : RdI w' hi v n f := h.below (hb.below hB hB2) (Nat.le_refl _)
end Go.Proofs.Ytgpglgchbimmaaa
