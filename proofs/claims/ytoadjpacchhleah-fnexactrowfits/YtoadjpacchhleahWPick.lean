/- What is picked out: numbers and slices gathered side by side. -/
import Derived.Test.YtoadjpacchhleahWInts
import Derived.Test.YtoadjpacchhleahWAppend
namespace Go.Proofs.Ytoadjpacchhleah
open Go.RowKit F256
set_option linter.unusedVariables false
set_option linter.unusedSimpArgs false

/-- append(v, x), x a number that lies in a block of its own: what else is left -/
theorem wp_appendIt {ops : Array Oper} {rest : List Oper} {o : Oper} {a : Act} {w : World} {Q : Exit → Act → World → Prop}
    (hg : o.guard = none) (s x : Operand) (hop : o.op = Op.call { callee := Callee.builtin Builtin.append, args := #[s, x], argTypes := #[64, 64] })
    (lo hi : Nat) (v : Value) (n : Nat) (f : Nat → Int) (hs : a.eval s = v) (hown : OwnI w lo hi v n f) (b c : Nat) (hx : a.eval x = .slice (some ⟨b, 0, none⟩) 1 c) (hcell : w.cell? ⟨b, 0, none⟩ = some (.int .i64 (f n)))
    (hn : n + 1 ≤ 1000000) (hlo : lo ≤ w.heap.size)
    (hK : ∀ v' w', OwnI w' lo w'.heap.size v' (n + 1) f → w.grownBy w' v.ownBlock → wpList Try.prog ops Q rest (a.put o.dst v') w') : wpList Try.prog ops Q (o :: rest) a w := by
  obtain ⟨i0, hi0, hz0, hz1, hz2⟩ := info_parts info_i64
  refine wpList_append_own w hg s x 64 hop lo 2 i0 (.int .i64 0) 1 8 Try.underlying64 hi0 hz0 hz1 hz2 rfl (by decide) v n (intsOf n f) hs hown.1 ⟨b, 0, none⟩ 1 c [.int .i64 (f n)] hx rfl ?_ ?_ (by unfold maxLen; omega) (by omega) hlo ?_
  · intro j u hj
    match j, hj with
    | 0, hj => simp at hj; subst hj; simpa [Addr.add] using hcell
  · intro u hu
    simp at hu
    subst hu
    rfl
  · intro v' w' h1 h2 _
    rw [intsOf_snoc] at h1
    exact hK v' w' ⟨h1, fun k hk => (h1.lt k hk).2⟩ h2
/-- a row of slices and a row of numbers lie in two blocks -/
theorem two_types {w : World} {lo lo' hi : Nat} {v x : Value} {k n : Nat} {xs : List Value} {f : Nat → Int} (h : w.ownsRow lo 23 1 v k xs) (ho : OwnI w lo' hi x n f) (b : Nat) (hb : v.ownBlock = some b) : x.ownBlock ≠ some b := by
  intro hx
  rcases h.2 with ⟨rfl, _⟩ | ⟨g, cap, cur, rfl, _, hg, _⟩
  · cases hb
  · rcases ho.1.2 with ⟨rfl, _⟩ | ⟨g', cap', cur', rfl, _, hg', _⟩
    · cases hx
    · simp [Value.ownBlock] at hb hx
      subst hb
      subst hx
      rw [hg] at hg'
      simp at hg'
theorem OwnI.kept {w w' : World} {lo hi : Nat} {v : Value} {n : Nat} {f : Nat → Int} (h : OwnI w lo hi v n f) (hk : ∀ g, v.ownBlock = some g → w'.heap[g]? = w.heap[g]?) : OwnI w' lo hi v n f := by
  refine ⟨⟨h.1.1, ?_⟩, h.2⟩
  rcases h.1.2 with hn | ⟨g, cap, cur, rfl, hbg, hgg, rest⟩
  · exact .inl hn
  · exact .inr ⟨g, cap, cur, rfl, hbg, (hk g rfl).trans hgg, rest⟩

end Go.Proofs.Ytoadjpacchhleah
