/- append of an element that holds slices. -/
import Derived.Test.YtgpglgchbimmaaaLay3
import Derived.Maps.AppendAt
namespace Go.Proofs.Ytgpglgchbimmaaa
open Go.RowKit
set_option linter.unusedVariables false

/-- a slice that is gathered: its elements laid open, its blocks no two alike, from lo on -/
structure SlG {α : Type} (E : Lay α) (t : TypeId) (w : World) (lo : Nat) (v : Value) (n : Nat) (x : Nat → α) (ce : Nat → List Value) (Ls : Nat → List Nat) : Prop where
  row : w.ownsRow lo t E.sz v n (catN n ce)
  each : ∀ i, i < n → E.own w (x i) (ce i) (Ls i)
  nd : (v.ownBlock.toList ++ catN n Ls).Nodup
  low : ∀ b, b ∈ catN n Ls → lo ≤ b
section
variable {α : Type} {E : Lay α} {t : TypeId} {w w' : World} {lo n : Nat} {v : Value} {x : Nat → α} {ce : Nat → List Value} {Ls : Nat → List Nat}
theorem SlG.nil (x : Nat → α) (w : World) (lo : Nat) : SlG E t w lo (.slice none 0 0) 0 x (fun _ => []) (fun _ => []) := ⟨World.ownsRow_nil w lo t E.sz, fun i hi => by omega, by simp [Value.ownBlock, catN_zero], fun b hb => by rw [catN_zero] at hb; cases hb⟩
theorem SlG.mem_lt (h : SlG E t w lo v n x ce Ls) : ∀ b, b ∈ v.ownBlock.toList ++ catN n Ls → b < w.heap.size := fun b hb => by
  rcases List.mem_append.1 hb with h1 | h1
  · exact (h.row.lt b (by simpa using h1)).2
  · obtain ⟨i, hi, hbi⟩ := mem_catN.1 h1
    exact E.own_lt (h.each i hi) b hbi
theorem SlG.kept (h : SlG E t w lo v n x ce Ls) (hk : ∀ b, b ∈ v.ownBlock.toList ++ catN n Ls → w'.heap[b]? = w.heap[b]?) : SlG E t w' lo v n x ce Ls := by
  refine ⟨⟨h.row.1, ?_⟩, fun i hi => E.own_kept (h.each i hi) (fun b hb => hk b (List.mem_append_right _ (mem_catN.2 ⟨i, hi, hb⟩))), h.nd, h.low⟩
  rcases h.row.2 with hn | ⟨g, cap, cur, rfl, hbg, hgg, rest⟩
  · exact .inl hn
  · exact .inr ⟨g, cap, cur, rfl, hbg, (hk g (by simp [Value.ownBlock])).trans hgg, rest⟩
theorem SlG.below (h : SlG E t w lo v n x ce Ls) (hb : Below w.heap.size w w') : SlG E t w' lo v n x ce Ls := h.kept (fun b hb' => hb.block b (h.mem_lt b hb'))
theorem SlG.own (h : SlG E t w lo v n x ce Ls) : OwnT (E.slice t) w lo w.heap.size (n, x) [v] := by
  refine ⟨v.ownBlock.toList ++ catN n Ls, ⟨v, ce, Ls, rfl, rfl, ⟨h.row.1, ?_⟩, h.each⟩, h.nd, fun b hb => ⟨?_, h.mem_lt b hb⟩⟩
  · rcases h.row.2 with hn | ⟨g, cap, cur, rfl, hbg, rest⟩
    · exact .inl hn
    · exact .inr ⟨g, cap, cur, rfl, Nat.zero_le _, rest⟩
  · rcases List.mem_append.1 hb with h1 | h1
    · exact (h.row.lt b (by simpa using h1)).1
    · exact h.low b h1
/-- behind an append of the element a, whose blocks K are no others' -/
theorem SlG.grown (h : SlG E t w lo v n x ce Ls) {a : α} {cs : List Value} {K : List Nat} (ha : E.own w a cs K) (hnd : K.Nodup) (hK : ∀ b, b ∈ K → lo ≤ b ∧ b ∉ v.ownBlock.toList ++ catN n Ls) {v' : Value}
    (hr : w'.ownsRow lo t E.sz v' (n + 1) (catN n ce ++ cs)) (hg : w.grownBy w' v.ownBlock) (h5 : v'.ownBlock = v.ownBlock ∨ v'.ownBlock = some w.heap.size) :
    SlG E t w' lo v' (n + 1) (upd x n a) (upd ce n cs) (upd Ls n K) := by
  have eL : catN (n + 1) (upd Ls n K) = catN n Ls ++ K := by
    rw [catN_succ, upd_at, catN_congr (g := Ls) (fun i hi => upd_ne Ls K (by omega))]
  have eC : catN (n + 1) (upd ce n cs) = catN n ce ++ cs := by
    rw [catN_succ, upd_at, catN_congr (g := ce) (fun i hi => upd_ne ce cs (by omega))]
  have nd1 := List.nodup_append.1 h.nd
  have hall : ∀ b, b ∈ catN n Ls ++ K → b < w.heap.size ∧ some b ≠ v.ownBlock := fun b hb => by
    rcases List.mem_append.1 hb with h1 | h1
    · exact ⟨h.mem_lt b (List.mem_append_right _ h1), fun hh => nd1.2.2 b (by rw [← hh]; simp) b h1 rfl⟩
    · exact ⟨E.own_lt ha b h1, fun hh => (hK b h1).2 (List.mem_append_left _ (by rw [← hh]; simp))⟩
  refine ⟨by rw [eC]; exact hr, fun i hi => ?_, ?_, ?_⟩
  · by_cases c : i = n
    · subst c
      rw [upd_at, upd_at, upd_at]
      exact E.own_kept ha (fun b hb => by
        have := hall b (List.mem_append_right _ hb)
        exact hg.block b this.1 this.2)
    · rw [upd_ne x a c, upd_ne ce cs c, upd_ne Ls K c]
      exact E.own_kept (h.each i (by omega)) (fun b hb => by
        have := hall b (List.mem_append_left _ (mem_catN.2 ⟨i, by omega, hb⟩))
        exact hg.block b this.1 this.2)
  · rw [eL]
    refine List.nodup_append.2 ⟨?_, List.nodup_append.2 ⟨nd1.2.1, hnd, fun b hb c hc hh => ?_⟩, fun b hb c hc hh => ?_⟩
    · cases hv : v'.ownBlock with
      | none => simp
      | some g => simp
    · subst hh
      exact (hK b hc).2 (List.mem_append_right _ hb)
    · subst hh
      have h3 := hall b hc
      have h4 : v'.ownBlock = some b := by simpa using hb
      rcases h5 with h5 | h5
      · exact h3.2 (by rw [← h5, h4])
      · rw [h5] at h4
        simp at h4
        omega
  · rw [eL]
    intro b hb
    rcases List.mem_append.1 hb with h1 | h1
    · exact h.low b h1
    · exact (hK b h1).1
end
theorem add_o (b j : Nat) : (⟨b, 0, none⟩ : Addr).add j = ⟨b, j, none⟩ := by unfold Addr.add; split <;> simp_all
/-- append(v, a), a laid into a block of its own -/
theorem wp_appendT {α : Type} (E : Lay α) (T e : TypeId) (by_ : Nat) (zs : List Value) (hs : 0 < E.sz) (hzs : zs.length = E.sz) (hu : Try.prog.underlying T = some (.slice e)) (hi : (Try.prog.info? e).map (fun i => (i.zero.map (·.cells), i.size, i.bytes)) = some (some zs.toArray, E.sz, by_))
    {ops : Array Oper} {rest : List Oper} {o : Oper} {a : Act} {w : World} {Q : Exit → Act → World → Prop}
    (hg : o.guard = none) (s y : Operand) (hop : o.op = Op.call { callee := Callee.builtin Builtin.append, args := #[s, y], argTypes := #[T, T] })
    (lo : Nat) (v : Value) (n : Nat) (x : Nat → α) (ce : Nat → List Value) (Ls : Nat → List Nat) (hev : a.eval s = v) (hG : SlG E e w lo v n x ce Ls) (b c : Nat) (hx : a.eval y = .slice (some ⟨b, 0, none⟩) 1 c)
    (d : α) (cs : List Value) (K : List Nat) (ha : E.own w d cs K) (hcell : ∀ j, j < E.sz → w.cell? ⟨b, j, none⟩ = cs[j]?) (hnd : K.Nodup) (hK : ∀ b, b ∈ K → lo ≤ b ∧ b ∉ v.ownBlock.toList ++ catN n Ls)
    (hm : n + 1 ≤ maxLen) (hby : (n + 1) * by_ ≤ 140737488355328) (hlo : lo ≤ w.heap.size)
    (hK' : ∀ v' w', SlG E e w' lo v' (n + 1) (upd x n d) (upd ce n cs) (upd Ls n K) → w.grownBy w' v.ownBlock → v' ≠ .slice none 0 0 → wpList Try.prog ops Q rest (a.put o.dst v') w') : wpList Try.prog ops Q (o :: rest) a w := by
  obtain ⟨i0, hi0⟩ : ∃ i0, Try.prog.info? e = some i0 := by
    cases h : Try.prog.info? e with
    | none => rw [h] at hi; cases hi
    | some i0 => exact ⟨i0, rfl⟩
  rw [hi0] at hi
  simp only [Option.map_some, Option.some.injEq, Prod.mk.injEq] at hi
  obtain ⟨h1, h2, h3⟩ := hi
  obtain ⟨z, hz, hzc⟩ : ∃ z, i0.zero = some z ∧ z.cells = zs.toArray := by
    cases h : i0.zero with
    | none => rw [h] at h1; cases h1
    | some z => rw [h] at h1; exact ⟨z, rfl, by simpa using h1⟩
  have hcs := E.own_len ha
  refine wpList_append_own_at w hg s y T hop lo e i0 z E.sz by_ hu hi0 hz h2 h3 (by rw [hzc]; simpa using hzs) hs v n (catN n ce) hev hG.row ⟨b, 0, none⟩ 1 c cs hx (by rw [hcs, Nat.one_mul]) ?_ (E.own_one ha) hm hby hlo ?_
  · intro j u hj
    have hlt : j < cs.length := (List.getElem?_eq_some_iff.1 hj).1
    have := hcell j (by omega)
    rw [hj] at this
    rw [add_o]
    exact this
  · intro v' w' r1 r2 r3 r4
    exact hK' v' w' (hG.grown ha hnd hK r1 r2 r4) r2 (fun hh => by have := (r3.mp hh).2; omega)
end Go.Proofs.Ytgpglgchbimmaaa
