/- Slices of texts in memory, as Own.lean has slices of bytes. -/
import Derived.Test.YthncbkgklhbcjaaOwn
namespace Go.Proofs.Ythncbkgklhbcjaa
open Go.RowKit F256
set_option linter.unusedVariables false

def strsOf (n : Nat) (f : Nat → ByteArray) : List Value := (List.range n).map fun i => Value.string (f i)
theorem strsOf_length (n : Nat) (f : Nat → ByteArray) : (strsOf n f).length = n := by simp [strsOf]
theorem strsOf_get (n : Nat) (f : Nat → ByteArray) (i : Nat) (h : i < n) : (strsOf n f)[i]? = some (.string (f i)) := by simp [strsOf, h]
theorem strsOf_eq {n : Nat} {f g : Nat → ByteArray} (h : ∀ i, i < n → f i = g i) : strsOf n f = strsOf n g := by
  apply List.map_congr_left
  intro i hi
  rw [h i (List.mem_range.mp hi)]
theorem strsOf_set (n : Nat) (f g : Nat → ByteArray) (k : Nat) (x : ByteArray) (hk : k < n) (h : ∀ i, i < n → g i = if i = k then x else f i) : (strsOf n f).set k (.string x) = strsOf n g := by
  apply List.ext_getElem?
  intro i
  by_cases hi : i < n
  · rw [strsOf_get n g i hi, h i hi, List.getElem?_set]
    by_cases e : k = i
    · subst e; simp [strsOf_length, hk]
    · rw [if_neg e, if_neg (fun h => e h.symm), strsOf_get n f i hi]
  · rw [List.getElem?_eq_none (by rw [List.length_set, strsOf_length]; omega), List.getElem?_eq_none (by rw [strsOf_length]; omega)]
theorem strsOf_snoc (n : Nat) (f : Nat → ByteArray) : strsOf n f ++ [.string (f n)] = strsOf (n + 1) f := by
  simp [strsOf, List.range_succ]
theorem strsOf_made (n : Nat) : (madeCells #[Value.string ByteArray.empty] n).toList = strsOf n fun _ => ByteArray.empty := by
  rw [toList_madeCells_one]
  apply List.ext_getElem?
  intro i
  by_cases hi : i < n
  · rw [strsOf_get _ _ _ hi]; simp [hi]
  · rw [List.getElem?_eq_none (by simp; omega), List.getElem?_eq_none (by rw [strsOf_length]; omega)]

/-- the slice v owns n bytes, f i the i-th, in a block from lo on, below hi -/
def OwnS (w : World) (lo hi : Nat) (v : Value) (n : Nat) (f : Nat → ByteArray) : Prop :=
  w.ownsRow lo 9 1 v n (strsOf n f) ∧ ∀ k, v.ownBlock = some k → k < hi
/-- the slice v reads as n bytes, f i the i-th, in a block below hi -/
def RdS (w : World) (hi : Nat) (v : Value) (n : Nat) (f : Nat → ByteArray) : Prop :=
  ∃ ao cap, v = .slice ao n cap ∧ n ≤ maxLen ∧ (n ≠ 0 → ∃ b off, ao = some ⟨b, off, none⟩ ∧ b < hi ∧ ∀ i, i < n → w.cell? ⟨b, off + i, none⟩ = some (.string (f i)))
theorem OwnS.below {w w' : World} {lo hi B : Nat} {v : Value} {n : Nat} {f : Nat → ByteArray} (h : OwnS w lo hi v n f) (hb : Below B w w') (hB : hi ≤ B) : OwnS w' lo hi v n f := by
  refine ⟨⟨h.1.1, ?_⟩, h.2⟩
  rcases h.1.2 with hn | ⟨g, cap, cur, rfl, hbg, hgg, rest⟩
  · exact .inl hn
  · have := h.2 g rfl
    exact .inr ⟨g, cap, cur, rfl, hbg, (hb.block g (by omega)).trans hgg, rest⟩
theorem OwnS.out {w w' : World} {lo hi lo' hi' : Nat} {v : Value} {n : Nat} {f : Nat → ByteArray} (h : OwnS w lo hi v n f) (hb : Out lo' hi' w w') (hB : hi ≤ lo' ∨ hi' ≤ lo) : OwnS w' lo hi v n f := by
  refine ⟨⟨h.1.1, ?_⟩, h.2⟩
  rcases h.1.2 with hn | ⟨g, cap, cur, rfl, hbg, hgg, rest⟩
  · exact .inl hn
  · have := h.2 g rfl
    exact .inr ⟨g, cap, cur, rfl, hbg, (hb.block g (by omega)).trans hgg, rest⟩
theorem OwnS.mono {w : World} {lo hi hi' : Nat} {v : Value} {n : Nat} {f : Nat → ByteArray} (h : OwnS w lo hi v n f) (hB : hi ≤ hi') : OwnS w lo hi' v n f :=
  ⟨h.1, fun k hk => Nat.lt_of_lt_of_le (h.2 k hk) hB⟩
theorem OwnS.rd {w : World} {lo hi : Nat} {v : Value} {n : Nat} {f : Nat → ByteArray} (h : OwnS w lo hi v n f) : RdS w hi v n f := by
  rcases h.1.2 with ⟨rfl, rfl⟩ | ⟨g, cap, cur, rfl, hbg, hgg, hnc, hcm, rest⟩
  · exact ⟨none, 0, rfl, Nat.zero_le _, fun h => absurd rfl h⟩
  · refine ⟨_, _, rfl, Nat.le_trans hnc hcm, fun _ => ⟨g, 0, rfl, h.2 g rfl, fun i hi => ?_⟩⟩
    have := h.1.cellAt i (by omega)
    rw [Nat.zero_add, this, strsOf_get n f i hi]
theorem RdS.below {w w' : World} {hi B : Nat} {v : Value} {n : Nat} {f : Nat → ByteArray} (h : RdS w hi v n f) (hb : Below B w w') (hB : hi ≤ B) : RdS w' hi v n f := by
  obtain ⟨ao, cap, rfl, hn, hc⟩ := h
  refine ⟨ao, cap, rfl, hn, fun h0 => ?_⟩
  obtain ⟨b, off, rfl, hlt, hcell⟩ := hc h0
  exact ⟨b, off, rfl, hlt, fun i hi => (hb.cell (p := ⟨b, off + i, none⟩) (by show b < B; omega)).trans (hcell i hi)⟩
theorem RdS.mono {w : World} {hi hi' : Nat} {v : Value} {n : Nat} {f : Nat → ByteArray} (h : RdS w hi v n f) (hB : hi ≤ hi') : RdS w hi' v n f := by
  obtain ⟨ao, cap, rfl, hn, hc⟩ := h
  refine ⟨ao, cap, rfl, hn, fun h0 => ?_⟩
  obtain ⟨b, off, rfl, hlt, hcell⟩ := hc h0
  exact ⟨b, off, rfl, by omega, hcell⟩
theorem OwnS.congr {w : World} {lo hi : Nat} {v : Value} {n : Nat} {f g : Nat → ByteArray} (h : OwnS w lo hi v n f) (e : ∀ i, i < n → f i = g i) : OwnS w lo hi v n g := by
  refine ⟨?_, h.2⟩
  rw [← strsOf_eq e]
  exact h.1
theorem ownS_nil (w : World) (lo hi : Nat) (f : Nat → ByteArray) : OwnS w lo hi (.slice none 0 0) 0 f := ⟨World.ownsRow_nil _ _ _ _, fun _ h => by cases h⟩
/-- an own slice, written out -/
theorem OwnS.form {w : World} {lo hi : Nat} {v : Value} {n : Nat} {f : Nat → ByteArray} (h : OwnS w lo hi v n f) (h0 : n ≠ 0) :
    ∃ g cap, v = .slice (some ⟨g, 0, none⟩) n cap ∧ lo ≤ g ∧ g < hi ∧ g < w.heap.size ∧ n ≤ cap := by
  rcases h.1.2 with ⟨rfl, rfl⟩ | ⟨g, cap, cur, rfl, hbg, hgg, hnc, _⟩
  · exact absurd rfl h0
  · exact ⟨g, cap, rfl, hbg, h.2 g rfl, (Array.getElem?_eq_some_iff.1 hgg).1, hnc⟩
theorem OwnS.slice {w : World} {lo hi : Nat} {v : Value} {n : Nat} {f : Nat → ByteArray} (h : OwnS w lo hi v n f) : ∃ ao cap, v = .slice ao n cap := by
  rcases h.1.2 with ⟨rfl, rfl⟩ | ⟨g, cap, cur, rfl, _⟩
  · exact ⟨_, _, rfl⟩
  · exact ⟨_, _, rfl⟩
theorem OwnS.le {w : World} {lo hi : Nat} {v : Value} {n : Nat} {f : Nat → ByteArray} (h : OwnS w lo hi v n f) : n ≤ maxLen := by
  rcases h.1.2 with ⟨rfl, rfl⟩ | ⟨g, cap, cur, rfl, _, _, hnc, hcm, _⟩
  · exact Nat.zero_le _
  · omega
/-- behind a store of a byte -/
theorem OwnS.store {w : World} {lo hi g cap n : Nat} {f g' : Nat → ByteArray} (h : OwnS w lo hi (.slice (some ⟨g, 0, none⟩) n cap) n f) (k : Nat) (x : ByteArray) (hk : k < n)
    (e : ∀ i, i < n → g' i = if i = k then x else f i) : OwnS (w.setCell ⟨g, k, none⟩ (.string x)) lo hi (.slice (some ⟨g, 0, none⟩) n cap) n g' := by
  refine ⟨?_, h.2⟩
  have := (h.1.stored k (.string x)).1
  rw [strsOf_set n f g' k x hk e] at this
  exact this
theorem info_str : (Try.prog.info? 9).map (fun i => (i.zero, i.size, i.bytes)) = some (some (.string ByteArray.empty), 1, 16) := by kernel_rfl

/-- make([]byte, n) -/
theorem wp_makeS (w : World) {ops : Array Oper} {rest : List Oper} {o : Oper} {a : Act} {Q : Exit → Act → World → Prop}
    (hg : o.guard = none) (l c : Operand) (hop : o.op = Op.makeSlice 29 l c) (L C : Int) (n : Nat) (hl : a.eval l = .int .i64 L) (hc : a.eval c = .int .i64 C) (hL : L = (n : Int)) (hC : C = (n : Int)) (hn : n ≤ 1000000000)
    (hK : ∀ w', OwnS w' w.heap.size w'.heap.size (.slice (some ⟨w.heap.size, 0, none⟩) n n) n (fun _ => ByteArray.empty) → Below w.heap.size w w' → w.heap.size < w'.heap.size → wpList Try.prog ops Q rest (a.put o.dst (.slice (some ⟨w.heap.size, 0, none⟩) n n)) w') :
    wpList Try.prog ops Q (o :: rest) a w := by
  obtain ⟨i0, hi0, hz0, hz1, hz2⟩ := info_parts info_str
  refine wpList_make_full w hg l c 29 hop w.heap.size 9 i0 (.string ByteArray.empty) 1 Try.underlying29 hi0 hz0 hz1 .i64 .i64 L C n hl hc hL hC (by rw [hz2]; omega) (by unfold maxLen; omega) (Nat.le_refl _) ?_
  intro w' hown hgrow
  have hown' : w'.ownsRow w.heap.size 9 1 (.slice (some ⟨w.heap.size, 0, none⟩) n n) n (strsOf n fun _ => ByteArray.empty) := by
    rw [← strsOf_made n]
    have e : (madeCells (Value.string ByteArray.empty).cells (n * 1)).toList = (madeCells #[Value.string ByteArray.empty] n).toList := by rw [Nat.mul_one]; rfl
    rw [← e]
    exact hown
  have hlt := (hown'.lt _ rfl).2
  exact hK w' ⟨hown', fun k hk => (hown'.lt k hk).2⟩ (below_of_grown hgrow) hlt

theorem OwnS.alloc {w : World} {lo hi : Nat} {v : Value} {n : Nat} {f : Nat → ByteArray} (h : OwnS w lo hi v n f) (o : Obj) : OwnS (w.alloc o) lo hi v n f := ⟨h.1.alloc o, h.2⟩
theorem OwnS.drewN {w : World} {lo hi : Nat} {v : Value} {n : Nat} {f : Nat → ByteArray} (h : OwnS w lo hi v n f) (m : Nat) : OwnS (w.drewN m) lo hi v n f := h
theorem OwnS.drew {w : World} {lo hi : Nat} {v : Value} {n : Nat} {f : Nat → ByteArray} (h : OwnS w lo hi v n f) : OwnS w.drew lo hi v n f := h

/-- append(v, x), x a byte that lies in a block of its own, v the call's own -/
theorem run_appendS (w : World) (ty : TypeId) (lo hi : Nat) (v : Value) (n : Nat) (f : Nat → ByteArray) (hown : OwnS w lo hi v n f) (b c : Nat) (hcell : w.cell? ⟨b, 0, none⟩ = some (.string (f n))) (hn : n + 1 ≤ 1000000000) (hlo : lo ≤ w.heap.size) :
    ∃ v' w', (Builtin.append_ #[29, 29] ty #[v, .slice (some ⟨b, 0, none⟩) 1 c]).run Try.prog w = .ok v' w' ∧ OwnS w' lo w'.heap.size v' (n + 1) f ∧ Below lo w w' := by
  obtain ⟨i0, hi0, hz0, hz1, hz2⟩ := info_parts info_str
  obtain ⟨v', w', hr, h2, h3, _⟩ := run_append_own (P := Try.prog) w lo 29 ty 9 i0 (.string ByteArray.empty) 1 16 Try.underlying29 hi0 hz0 hz1 hz2 rfl (by decide) v n (strsOf n f) hown.1 ⟨b, 0, none⟩ 1 c [.string (f n)] rfl
    (fun j u hj => by
      match j, hj with
      | 0, hj => simp at hj; subst hj; simpa [Addr.add] using hcell)
    (fun u hu => by simp at hu; subst hu; rfl) (by unfold maxLen; omega) (by omega) hlo
  rw [strsOf_snoc] at h2
  exact ⟨v', w', hr, ⟨h2, fun k hk => (h2.lt k hk).2⟩, (Below.refl _ _).grown h3 hlo (fun k hk => (hown.1.lt k hk).1)⟩
theorem wp_appendS {ops : Array Oper} {rest : List Oper} {o : Oper} {a : Act} {w : World} {Q : Exit → Act → World → Prop}
    (hg : o.guard = none) (s x : Operand) (hop : o.op = Op.call { callee := Callee.builtin Builtin.append, args := #[s, x], argTypes := #[29, 29] })
    (lo hi : Nat) (v : Value) (n : Nat) (f : Nat → ByteArray) (hs : a.eval s = v) (hown : OwnS w lo hi v n f) (b c : Nat) (hx : a.eval x = .slice (some ⟨b, 0, none⟩) 1 c) (hcell : w.cell? ⟨b, 0, none⟩ = some (.string (f n)))
    (hn : n + 1 ≤ 1000000000) (hlo : lo ≤ w.heap.size)
    (hK : ∀ v' w', OwnS w' lo w'.heap.size v' (n + 1) f → Below lo w w' → wpList Try.prog ops Q rest (a.put o.dst v') w') : wpList Try.prog ops Q (o :: rest) a w := by
  refine wpList_plain hg fun K hK' => ?_
  obtain ⟨v', w', hrun, r1, r2⟩ := run_appendS w o.type lo hi v n f hown b c hcell hn hlo
  unfold Oper.wp
  simp [execOp, hop, resolve, invoke, builtin, hs, hx, hrun, Result.andThen]
  exact hK' _ _ (hK v' w' r1 r2)
/-- []byte{} -/
theorem ownS_lit0 (w : World) (g : Nat → ByteArray) : OwnS (w.alloc (.cells #[] 9)) w.heap.size (w.alloc (.cells #[] 9)).heap.size (.slice (some ⟨w.heap.size, 0, none⟩) 0 0) 0 g := by
  have h := World.ownsRow_lit (base := w.heap.size) (e := 9) (size := 1) w #[] 0 (Nat.le_refl _) (Nat.zero_le _) rfl
  exact ⟨h, fun k hk => (h.lt k hk).2⟩
theorem OwnS.weaken {w : World} {lo hi lo' hi' : Nat} {v : Value} {n : Nat} {f : Nat → ByteArray} (h : OwnS w lo hi v n f) (h1 : lo' ≤ lo) (h2 : hi ≤ hi') : OwnS w lo' hi' v n f := by
  refine ⟨⟨h.1.1, ?_⟩, fun k hk => Nat.lt_of_lt_of_le (h.2 k hk) h2⟩
  rcases h.1.2 with hn | ⟨g, cap, cur, rfl, hbg, rest⟩
  · exact .inl hn
  · exact .inr ⟨g, cap, cur, rfl, by omega, rest⟩
theorem OwnS.chg {w w' : World} {lo hi lo' hi' : Nat} {v : Value} {n : Nat} {f : Nat → ByteArray} (h : OwnS w lo hi v n f) (hb : Chg lo' hi' w w') (hB : hi ≤ lo' ∨ hi' ≤ lo) : OwnS w' lo hi v n f := by
  refine ⟨⟨h.1.1, ?_⟩, h.2⟩
  rcases h.1.2 with hn | ⟨g, cap, cur, rfl, hbg, hgg, rest⟩
  · exact .inl hn
  · have := h.2 g rfl
    exact .inr ⟨g, cap, cur, rfl, hbg, (hb.block g (Array.getElem?_eq_some_iff.1 hgg).1 (by omega)).trans hgg, rest⟩
theorem RdS.chg {w w' : World} {hi lo' hi' : Nat} {v : Value} {n : Nat} {f : Nat → ByteArray} (h : RdS w hi v n f) (hb : Chg lo' hi' w w') (hB : hi ≤ lo') (hB2 : hi ≤ w.heap.size) : RdS w' hi v n f := h.below (hb.below hB hB2) (Nat.le_refl _)
end Go.Proofs.Ythncbkgklhbcjaa
