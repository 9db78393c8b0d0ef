/- Owned slices whose elements hold slices, made and filled one by one. -/
import Derived.Test.YtgpglgchbimmaaaLay2
namespace Go.Proofs.Ytgpglgchbimmaaa
open Go.RowKit
set_option linter.unusedVariables false

/-- cells stored one behind the other -/
def stN (w : World) (g : Nat) : Nat → List Value → World
  | _, [] => w
  | off, c :: cs => stN (w.setCell ⟨g, off, none⟩ c) g (off + 1) cs
def setL {β : Type} (xs : List β) : Nat → List β → List β
  | _, [] => xs
  | off, c :: cs => setL (xs.set off c) (off + 1) cs
theorem stN_heap (g b : Nat) (hb : b ≠ g) : ∀ (cs : List Value) (w : World) (off : Nat), (stN w g off cs).heap[b]? = w.heap[b]?
  | [], w, off => rfl
  | c :: cs, w, off => (stN_heap g b hb cs _ _).trans (heap_setCell_other w ⟨g, off, none⟩ b c hb)
theorem stN_size (g : Nat) : ∀ (cs : List Value) (w : World) (off : Nat), (stN w g off cs).heap.size = w.heap.size
  | [], w, off => rfl
  | c :: cs, w, off => (stN_size g cs _ _).trans (by simp)
theorem stN_rest (g : Nat) : ∀ (cs : List Value) (w : World) (off : Nat), (stN w g off cs).os = w.os ∧ (stN w g off cs).tape = w.tape ∧ (stN w g off cs).output = w.output
  | [], w, off => ⟨rfl, rfl, rfl⟩
  | c :: cs, w, off => stN_rest g cs _ _
theorem stN_below {B g : Nat} {w : World} (h : B ≤ g) (cs : List Value) (off : Nat) : Below B w (stN w g off cs) :=
  ⟨(stN_rest g cs w off).1, (stN_rest g cs w off).2.1, (stN_rest g cs w off).2.2, Nat.le_of_eq (stN_size g cs w off).symm, fun k hk => stN_heap g k (by omega) cs w off⟩
theorem row_stN {base cap n s g : Nat} {t : TypeId} : ∀ (cs : List Value) (w : World) (off : Nat) (xs : List Value), w.ownsRow base t s (.slice (some ⟨g, 0, none⟩) n cap) n xs → (stN w g off cs).ownsRow base t s (.slice (some ⟨g, 0, none⟩) n cap) n (setL xs off cs)
  | [], w, off, xs, h => h
  | c :: cs, w, off, xs, h => row_stN cs _ _ _ (h.stored off c).1
theorem setL_len {β : Type} : ∀ (cs : List β) (xs : List β) (off : Nat), (setL xs off cs).length = xs.length
  | [], xs, off => rfl
  | c :: cs, xs, off => (setL_len cs _ _).trans (by simp)
theorem setL_get {β : Type} : ∀ (cs : List β) (xs : List β) (off i : Nat), off + cs.length ≤ xs.length → (setL xs off cs)[i]? = if off ≤ i ∧ i < off + cs.length then cs[i - off]? else xs[i]?
  | [], xs, off, i, h => by simp [setL]; omega
  | c :: cs, xs, off, i, h => by
    simp only [List.length_cons] at h
    rw [setL, setL_get cs (xs.set off c) (off + 1) i (by simp; omega), List.length_cons]
    by_cases c1 : off + 1 ≤ i ∧ i < off + 1 + cs.length
    · rw [if_pos c1, if_pos (by omega), show i - off = (i - (off + 1)) + 1 by omega, List.getElem?_cons_succ]
    · rw [if_neg c1]
      by_cases c2 : i = off
      · subst c2
        rw [if_pos (by omega), List.getElem?_set_self (by omega), Nat.sub_self]
        rfl
      · rw [if_neg (by omega), List.getElem?_set_ne (fun h => c2 h.symm)]
theorem catN_setL {n s : Nat} {ce : Nat → List Value} (h : ∀ i, i < n → (ce i).length = s) {k : Nat} (hk : k < n) {cs : List Value} (hcs : cs.length = s) : setL (catN n ce) (k * s) cs = catN n (upd ce k cs) := by
  have hl := catN_len h
  have hu : ∀ i, i < n → (upd ce k cs i).length = s := fun i hi => by
    by_cases c : i = k
    · subst c; rw [upd_at]; exact hcs
    · rw [upd_ne ce cs c]; exact h i hi
  have hl2 := catN_len hu
  have hks : k * s + s ≤ n * s := by
    have := Nat.mul_le_mul_right s (show k + 1 ≤ n from hk)
    rw [Nat.succ_mul] at this
    exact this
  apply List.ext_getElem?
  intro i
  rw [setL_get cs _ _ i (by omega)]
  by_cases hi : i < n * s
  · have hs : 0 < s := by
      rcases Nat.eq_zero_or_pos s with h0 | h0
      · rw [h0] at hi; omega
      · exact h0
    have e : i / s * s + i % s = i := by rw [Nat.mul_comm]; exact Nat.div_add_mod i s
    have hq : i / s < n := (Nat.div_lt_iff_lt_mul hs).2 hi
    have hr := Nat.mod_lt i hs
    have g1 := catN_get h hq hr
    have g2 := catN_get hu hq hr
    rw [e] at g1 g2
    rw [g1, g2]
    by_cases c : i / s = k
    · have h1 : k * s ≤ i := by rw [← c]; omega
      have h2 : i < k * s + s := by rw [← c]; omega
      rw [if_pos ⟨h1, by omega⟩, c, upd_at]
      congr 1
      rw [← c]
      omega
    · rw [upd_ne ce cs c, if_neg]
      rintro ⟨h1, h2⟩
      apply c
      have h3 : k ≤ i / s := (Nat.le_div_iff_mul_le hs).2 h1
      have h4 : i / s < k + 1 := (Nat.div_lt_iff_lt_mul hs).2 (by rw [Nat.succ_mul]; omega)
      omega
  · rw [if_neg (by omega), List.getElem?_eq_none (by omega), List.getElem?_eq_none (by omega)]

/-- a slice of n elements of which the first k are laid -/
structure SlP {α : Type} (E : Lay α) (t : TypeId) (w : World) (lo g cap n k : Nat) (x : Nat → α) (ce : Nat → List Value) (Ls : Nat → List Nat) : Prop where
  row : w.ownsRow lo t E.sz (.slice (some ⟨g, 0, none⟩) n cap) n (catN n ce)
  lens : ∀ i, i < n → (ce i).length = E.sz
  each : ∀ i, i < k → E.own w (x i) (ce i) (Ls i)
  nd : (g :: catN k Ls).Nodup
  low : ∀ b, b ∈ catN k Ls → lo ≤ b
section
variable {α : Type} {E : Lay α} {t : TypeId} {w w' : World} {lo g cap n k : Nat} {x : Nat → α} {ce : Nat → List Value} {Ls : Nat → List Nat}
theorem SlP.cell (h : SlP E t w lo g cap n k x ce Ls) {i j : Nat} (hi : i < n) (hj : j < E.sz) : w.cell? ⟨g, i * E.sz + j, none⟩ = (ce i)[j]? := by
  rw [h.row.cellAt _ (mul_lt hi hj), catN_get h.lens hi hj]
theorem SlP.frozen (h : SlP E t w lo g cap n k x ce Ls) (j : Nat) : w.frozen? ⟨g, j, none⟩ = false := h.row.frozenAt j
theorem SlP.lt (h : SlP E t w lo g cap n k x ce Ls) : g < w.heap.size := (h.row.lt g rfl).2
theorem SlP.mem_lt (h : SlP E t w lo g cap n k x ce Ls) : ∀ b, b ∈ catN k Ls → b < w.heap.size := fun b hb => by
  obtain ⟨i, hi, hbi⟩ := mem_catN.1 hb
  exact E.own_lt (h.each i hi) b hbi
/-- behind a call that only makes memory -/
theorem SlP.below (h : SlP E t w lo g cap n k x ce Ls) (hb : Below w.heap.size w w') : SlP E t w' lo g cap n k x ce Ls := by
  refine ⟨⟨h.row.1, ?_⟩, h.lens, fun i hi => E.own_kept (h.each i hi) (fun b hb' => hb.block b (E.own_lt (h.each i hi) b hb')), h.nd, h.low⟩
  rcases h.row.2 with ⟨hn, _⟩ | ⟨g', cap', cur, he, hbg, hgg, rest⟩
  · cases hn
  · cases he
    exact .inr ⟨g, cap, cur, rfl, hbg, (hb.block g h.lt).trans hgg, rest⟩
/-- the element k is laid: w1 the world ahead of the call that made it, w the one behind it -/
theorem SlP.lay {w1 : World} (h1 : SlP E t w1 lo g cap n k x ce Ls) (hb : Below w1.heap.size w1 w) (hk : k < n) {a : α} {cs : List Value} {K : List Nat} (ha : E.own w a cs K) (hnd : K.Nodup) (hK : ∀ b, b ∈ K → w1.heap.size ≤ b) (hlo : lo ≤ w1.heap.size) :
    SlP E t (stN w g (k * E.sz) cs) lo g cap n (k + 1) (upd x k a) (upd ce k cs) (upd Ls k K) := by
  have h := h1.below hb
  have hcs := E.own_len ha
  have eL : catN (k + 1) (upd Ls k K) = catN k Ls ++ K := by
    rw [catN_succ, upd_at, catN_congr (g := Ls) (fun i hi => upd_ne Ls K (by omega))]
  have hg1 := h1.lt
  have hgne : ∀ b, b ∈ catN (k + 1) (upd Ls k K) → b ≠ g := fun b hb' hh => by
    subst hh
    rw [eL] at hb'
    rcases List.mem_append.1 hb' with h3 | h3
    · exact (List.nodup_cons.1 h.nd).1 h3
    · have := hK b h3; omega
  have own' : ∀ i, i < k + 1 → E.own w (upd x k a i) (upd ce k cs i) (upd Ls k K i) := fun i hi => by
    by_cases c : i = k
    · subst c; rw [upd_at, upd_at, upd_at]; exact ha
    · rw [upd_ne x a c, upd_ne ce cs c, upd_ne Ls K c]; exact h.each i (by omega)
  refine ⟨?_, fun i hi => ?_, fun i hi => ?_, ?_, ?_⟩
  · have := row_stN cs w (k * E.sz) _ h.row
    rw [catN_setL h.lens hk hcs] at this
    exact this
  · by_cases c : i = k
    · subst c; rw [upd_at]; exact hcs
    · rw [upd_ne ce cs c]; exact h.lens i hi
  · exact E.own_kept (own' i hi) (fun b hb' => stN_heap g b (hgne b (mem_catN.2 ⟨i, hi, hb'⟩)) cs w _)
  · rw [eL]
    refine List.nodup_cons.2 ⟨fun hb' => hgne g (by rw [eL]; exact hb') rfl, List.nodup_append.2 ⟨(List.nodup_cons.1 h.nd).2, hnd, fun b hb1 c hc1 hh => ?_⟩⟩
    subst hh
    have k1 := h1.mem_lt b hb1
    have k2 := hK b hc1
    omega
  · rw [eL]
    intro b hb'
    rcases List.mem_append.1 hb' with h3 | h3
    · exact h.low b h3
    · have := hK b h3; omega
theorem SlP.done (h : SlP E t w lo g cap n n x ce Ls) (hg : lo ≤ g) : OwnT (E.slice t) w lo w.heap.size (n, x) [.slice (some ⟨g, 0, none⟩) n cap] := by
  refine ⟨g :: catN n Ls, ⟨_, ce, Ls, rfl, by simp [Value.ownBlock], ⟨h.row.1, ?_⟩, h.each⟩, h.nd, fun b hb => ?_⟩
  · rcases h.row.2 with ⟨hn, _⟩ | ⟨g', cap', cur, he, hbg, rest⟩
    · cases hn
    · exact .inr ⟨g', cap', cur, he, Nat.zero_le _, rest⟩
  · rcases List.mem_cons.1 hb with rfl | hb
    · exact ⟨hg, h.lt⟩
    · exact ⟨h.low b hb, h.mem_lt b hb⟩
end
end Go.Proofs.Ytgpglgchbimmaaa
