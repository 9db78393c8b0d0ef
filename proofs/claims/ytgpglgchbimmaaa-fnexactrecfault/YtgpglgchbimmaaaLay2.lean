/- Owned slices whose elements hold slices: a store into an element, a change within an element. -/
import Derived.Test.YtgpglgchbimmaaaLay
import Derived.Test.YtgpglgchbimmaaaWInts
namespace Go.Proofs.Ytgpglgchbimmaaa
open Go.RowKit

/-- a slice's room -/
def CapP (v : Value) (n : Nat) : Prop := ∃ ao cap, v = .slice ao n cap ∧ n ≤ cap
/-- slices of numbers -/
def layInts : Lay (Nat × (Nat → Int)) where
  sz := 1
  rd := fun w hi p cs => ∃ v, cs = [v] ∧ (RdI w hi v p.1 p.2 ∧ CapP v p.1) ∧ ∀ i, -9223372036854775808 ≤ p.2 i ∧ p.2 i ≤ 9223372036854775807
  own := fun w p cs L => ∃ v, cs = [v] ∧ L = v.ownBlock.toList ∧ OwnI w 0 w.heap.size v p.1 p.2 ∧ ∀ i, -9223372036854775808 ≤ p.2 i ∧ p.2 i ≤ 9223372036854775807
  rd_len := fun h => by obtain ⟨v, rfl, _⟩ := h; rfl
  rd_below := fun h hb hB => by obtain ⟨v, rfl, ⟨h1, hcp⟩, h2⟩ := h; exact ⟨v, rfl, ⟨h1.below hb hB, hcp⟩, h2⟩
  rd_mono := fun h hb => by
    obtain ⟨v, rfl, ⟨⟨ao, cap, rfl, hm, hc⟩, hcp⟩, h2⟩ := h
    refine ⟨_, rfl, ⟨⟨ao, cap, rfl, hm, fun h0 => ?_⟩, hcp⟩, h2⟩
    obtain ⟨b, off, rfl, hbh, hcell⟩ := hc h0
    exact ⟨b, off, rfl, by omega, hcell⟩
  own_len := fun h => by obtain ⟨v, rfl, _⟩ := h; rfl
  own_kept := fun h hk => by
    obtain ⟨v, rfl, rfl, h1, h2⟩ := h
    refine ⟨v, rfl, rfl, ?_, h2⟩
    rcases h1.1.2 with hn | ⟨g, cap, cur, rfl, hbg, hgg, rest⟩
    · exact ⟨⟨h1.1.1, .inl hn⟩, fun k hk' => by rw [hn.1] at hk'; cases hk'⟩
    · have e := hk g (by simp [Value.ownBlock])
      rw [hgg] at e
      exact ⟨⟨h1.1.1, .inr ⟨g, cap, cur, rfl, hbg, e, rest⟩⟩, fun k hk' => by
        simp [Value.ownBlock] at hk'
        subst hk'
        exact (Array.getElem?_eq_some_iff.1 e).1⟩
  own_lt := fun h b hb => by
    obtain ⟨v, rfl, rfl, h1, h2⟩ := h
    exact (h1.1.lt b (by simpa using hb)).2
  own_rd := fun {w hi p cs L} h hk => by
    obtain ⟨v, rfl, rfl, h1, h2⟩ := h
    have hcp : CapP v p.1 := by
      rcases h1.1.2 with ⟨e, h0⟩ | ⟨g, cap, cur, e, hbg, hgg, hnc, _⟩
      · exact ⟨none, 0, by rw [e, h0], by omega⟩
      · exact ⟨_, cap, e, hnc⟩
    refine ⟨v, rfl, ⟨?_, hcp⟩, h2⟩
    obtain ⟨ao, cap, rfl, hm, hc⟩ := h1.rd
    refine ⟨ao, cap, rfl, hm, fun h0 => ?_⟩
    obtain ⟨b, off, rfl, hb, hcell⟩ := hc h0
    exact ⟨b, off, rfl, hk b (by simp [Value.ownBlock]), hcell⟩
  own_one := fun h u hu => by
    obtain ⟨v, rfl, rfl, h1, h2⟩ := h
    obtain ⟨ao, cap, rfl⟩ := h1.slice
    simp at hu
    subst hu
    rfl

/-- only the blocks of K have turned -/
structure ChgL (K : List Nat) (w w' : World) : Prop where
  os : w'.os = w.os
  tape : w'.tape = w.tape
  output : w'.output = w.output
  size : w.heap.size ≤ w'.heap.size
  block : ∀ b, b < w.heap.size → b ∉ K → w'.heap[b]? = w.heap[b]?
theorem ChgL.refl (K : List Nat) (w : World) : ChgL K w w := ⟨rfl, rfl, rfl, Nat.le_refl _, fun _ _ _ => rfl⟩
theorem ChgL.trans {K : List Nat} {a b c : World} (h : ChgL K a b) (k : ChgL K b c) : ChgL K a c :=
  ⟨k.os.trans h.os, k.tape.trans h.tape, k.output.trans h.output, Nat.le_trans h.size k.size, fun i hi hn => (k.block i (Nat.lt_of_lt_of_le hi h.size) hn).trans (h.block i hi hn)⟩
theorem ChgL.mono {K K' : List Nat} {w w' : World} (h : ChgL K w w') (hs : ∀ b, b ∈ K → b ∈ K') : ChgL K' w w' :=
  ⟨h.os, h.tape, h.output, h.size, fun b hb hn => h.block b hb (fun x => hn (hs b x))⟩
theorem ChgL.store (K : List Nat) (w : World) (b j : Nat) (u : Value) (hb : b ∈ K) : ChgL K w (w.setCell ⟨b, j, none⟩ u) :=
  ⟨rfl, rfl, rfl, by simp, fun k hk hn => heap_setCell_other w ⟨b, j, none⟩ k u (by show k ≠ b; intro h; subst h; exact hn hb)⟩
theorem ChgL.of_below {K : List Nat} {w w' : World} (h : Below w.heap.size w w') : ChgL K w w' := ⟨h.os, h.tape, h.output, h.size, fun b hb _ => h.block b hb⟩
theorem ChgL.of_out {K : List Nat} {g : Nat} {w w' : World} (h : Out g (g + 1) w w') (hg : g ∈ K) : ChgL K w w' :=
  ⟨h.os, h.tape, h.output, Nat.le_of_eq h.size.symm, fun b _ hn => h.block b (by
    by_cases c : b = g
    · subst c; exact absurd hg hn
    · omega)⟩
theorem ChgL.chg {K : List Nat} {lo hi : Nat} {w w' : World} (h : ChgL K w w') (hK : ∀ b, b ∈ K → lo ≤ b ∧ b < hi) : Chg lo hi w w' :=
  ⟨h.os, h.tape, h.output, h.size, fun b hb hn => h.block b hb (fun x => by have := hK b x; omega)⟩
theorem Lay.own_chgL {α : Type} (A : Lay α) {w w' : World} {a : α} {cs : List Value} {K L : List Nat} (h : A.own w a cs L) (hc : ChgL K w w') (hd : ∀ b, b ∈ L → b ∉ K) : A.own w' a cs L :=
  A.own_kept h (fun b hb => hc.block b (A.own_lt h b hb) (hd b hb))

def upd {β : Type} (f : Nat → β) (i : Nat) (a : β) : Nat → β := fun k => if k = i then a else f k
theorem upd_at {β : Type} (f : Nat → β) (i : Nat) (a : β) : upd f i a i = a := by simp [upd]
theorem upd_ne {β : Type} (f : Nat → β) {i k : Nat} (a : β) (h : k ≠ i) : upd f i a k = f k := by simp [upd, h]

/-- the elements of an owned slice, laid open -/
structure SlO {α : Type} (E : Lay α) (t : TypeId) (w : World) (g cap n : Nat) (x : Nat → α) (ce : Nat → List Value) (Ls : Nat → List Nat) : Prop where
  row : w.ownsRow 0 t E.sz (.slice (some ⟨g, 0, none⟩) n cap) n (catN n ce)
  each : ∀ i, i < n → E.own w (x i) (ce i) (Ls i)
section
variable {α : Type} {E : Lay α} {t : TypeId} {w w' : World} {g cap n : Nat} {x : Nat → α} {ce : Nat → List Value} {Ls : Nat → List Nat}
theorem slice_form {p : Nat × (Nat → α)} {cs : List Value} {L : List Nat} (h : (E.slice t).own w p cs L) (h0 : p.1 ≠ 0) : ∃ g cap ce Ls, cs = [.slice (some ⟨g, 0, none⟩) p.1 cap] ∧ L = g :: catN p.1 Ls ∧ SlO E t w g cap p.1 p.2 ce Ls := by
  obtain ⟨v, ce, Ls, rfl, rfl, h1, h2⟩ := h
  have h1' := h1
  rcases h1.2 with ⟨rfl, h⟩ | ⟨g, cap, cur, rfl, _⟩
  · exact absurd h h0
  · exact ⟨g, cap, ce, Ls, rfl, by simp [Value.ownBlock], h1', h2⟩
theorem slice_nil {p : Nat × (Nat → α)} (h0 : p.1 = 0) : (E.slice t).own w p [.slice none 0 0] [] :=
  ⟨_, fun _ => [], fun _ => [], rfl, by rw [h0]; rfl, ⟨by rw [h0]; simp [catN], .inl ⟨rfl, h0⟩⟩, fun i hi => by omega⟩
theorem SlO.own (h : SlO E t w g cap n x ce Ls) : (E.slice t).own w (n, x) [.slice (some ⟨g, 0, none⟩) n cap] (g :: catN n Ls) :=
  ⟨_, ce, Ls, rfl, by simp [Value.ownBlock], h.row, h.each⟩
theorem SlO.lens (h : SlO E t w g cap n x ce Ls) : ∀ i, i < n → (ce i).length = E.sz := fun i hi => E.own_len (h.each i hi)
theorem mul_lt {i n s j : Nat} (hi : i < n) (hj : j < s) : i * s + j < n * s := by
  have := Nat.mul_le_mul_right s (show i + 1 ≤ n from hi)
  rw [Nat.succ_mul] at this
  omega
theorem SlO.cell (h : SlO E t w g cap n x ce Ls) {i j : Nat} (hi : i < n) (hj : j < E.sz) : w.cell? ⟨g, i * E.sz + j, none⟩ = (ce i)[j]? := by
  rw [h.row.cellAt _ (mul_lt hi hj), catN_get h.lens hi hj]
theorem SlO.frozen (h : SlO E t w g cap n x ce Ls) (j : Nat) : w.frozen? ⟨g, j, none⟩ = false := h.row.frozenAt j
theorem SlO.lt (h : SlO E t w g cap n x ce Ls) : g < w.heap.size := (h.row.lt g rfl).2
/-- a store into a cell of the element i -/
theorem SlO.store (h : SlO E t w g cap n x ce Ls) (nd : (g :: catN n Ls).Nodup) {i j : Nat} (hi : i < n) (hj : j < E.sz) (u : Value) {a' : α} (ha : E.own w a' ((ce i).set j u) (Ls i)) :
    SlO E t (w.setCell ⟨g, i * E.sz + j, none⟩ u) g cap n (upd x i a') (upd ce i ((ce i).set j u)) Ls := by
  have hg : ∀ k, k < n → ∀ b, b ∈ Ls k → b ≠ g := fun k hk b hb hh => by
    subst hh
    exact (List.nodup_cons.1 nd).1 (mem_catN.2 ⟨k, hk, hb⟩)
  refine ⟨?_, fun k hk => ?_⟩
  · have := (h.row.stored (i * E.sz + j) u).1
    rw [catN_set h.lens hi hj] at this
    exact this
  · by_cases c : k = i
    · subst c
      rw [upd_at, upd_at]
      exact E.own_kept ha (fun b hb => heap_setCell_other w _ b u (hg k hk b hb))
    · rw [upd_ne x a' c, upd_ne ce _ c]
      exact E.own_kept (h.each k hk) (fun b hb => heap_setCell_other w _ b u (hg k hk b hb))
theorem cat_apart {n : Nat} {Ls : Nat → List Nat} (nd : (catN n Ls).Nodup) {i k : Nat} (hi : i < n) (hk : k < n) (hne : k ≠ i) {b : Nat} (hb : b ∈ Ls k) : b ∉ Ls i := by
  induction n with
  | zero => omega
  | succ n ih =>
    rw [catN_succ] at nd
    obtain ⟨n1, n2, n3⟩ := List.nodup_append.1 nd
    by_cases ci : i = n
    · subst ci
      intro hbi
      exact n3 b (mem_catN.2 ⟨k, by omega, hb⟩) b hbi rfl
    · by_cases ck : k = n
      · subst ck
        intro hbi
        exact n3 b (mem_catN.2 ⟨i, by omega, hbi⟩) b hb rfl
      · exact ih n1 (by omega) (by omega)
/-- a change within the element i -/
theorem SlO.into (h : SlO E t w g cap n x ce Ls) (nd : (g :: catN n Ls).Nodup) {i : Nat} (hi : i < n) (hc : ChgL (Ls i) w w') {a' : α} (ha : E.own w' a' (ce i) (Ls i)) :
    SlO E t w' g cap n (upd x i a') ce Ls := by
  refine ⟨?_, fun k hk => ?_⟩
  · refine ⟨h.row.1, ?_⟩
    rcases h.row.2 with ⟨hn, _⟩ | ⟨g', cap', cur, he, hbg, hgg, rest⟩
    · cases hn
    · cases he
      refine .inr ⟨g, cap, cur, rfl, hbg, (hc.block g h.lt (fun hb => (List.nodup_cons.1 nd).1 (mem_catN.2 ⟨i, hi, hb⟩))).trans hgg, rest⟩
  · by_cases c : k = i
    · subst c
      rw [upd_at]
      exact ha
    · rw [upd_ne x a' c]
      exact E.own_chgL (h.each k hk) hc (fun b hb => cat_apart (List.nodup_cons.1 nd).2 hi hk c hb)
theorem SlO.kept (h : SlO E t w g cap n x ce Ls) (hk : ∀ b, b ∈ g :: catN n Ls → w'.heap[b]? = w.heap[b]?) : SlO E t w' g cap n x ce Ls := by
  refine ⟨⟨h.row.1, ?_⟩, fun i hi => E.own_kept (h.each i hi) (fun b hb => hk b (List.mem_cons_of_mem _ (mem_catN.2 ⟨i, hi, hb⟩)))⟩
  rcases h.row.2 with ⟨hn, _⟩ | ⟨g', cap', cur, he, hbg, hgg, rest⟩
  · cases hn
  · cases he
    exact .inr ⟨g, cap, cur, rfl, hbg, (hk g (List.mem_cons_self ..)).trans hgg, rest⟩
end
end Go.Proofs.Ytgpglgchbimmaaa
