/- How values that hold slices lie in memory: what can be read, and what is owned, block by block. -/
import Derived.Test.YtgpglgchbimmaaaOwn
namespace Go.Proofs.Ytgpglgchbimmaaa
open Go.RowKit

/-- lists one behind the other -/
def catN {β : Type} (n : Nat) (f : Nat → List β) : List β := (List.range n).flatMap f
theorem catN_zero {β : Type} (f : Nat → List β) : catN 0 f = [] := rfl
theorem catN_succ {β : Type} (n : Nat) (f : Nat → List β) : catN (n + 1) f = catN n f ++ f n := by
  unfold catN
  rw [List.range_succ, List.flatMap_append]
  simp
theorem catN_len {β : Type} {n s : Nat} {f : Nat → List β} (h : ∀ i, i < n → (f i).length = s) : (catN n f).length = n * s := by
  induction n with
  | zero => simp [catN]
  | succ n ih => rw [catN_succ, List.length_append, ih (fun i hi => h i (by omega)), h n (by omega), Nat.succ_mul]
theorem catN_congr {β : Type} {n : Nat} {f g : Nat → List β} (h : ∀ i, i < n → f i = g i) : catN n f = catN n g := by
  induction n with
  | zero => rfl
  | succ n ih => rw [catN_succ, catN_succ, ih (fun i hi => h i (by omega)), h n (by omega)]
theorem catN_get {β : Type} {n s : Nat} {f : Nat → List β} (h : ∀ i, i < n → (f i).length = s) {i j : Nat} (hi : i < n) (hj : j < s) : (catN n f)[i * s + j]? = (f i)[j]? := by
  induction n with
  | zero => omega
  | succ n ih =>
    have hl : (catN n f).length = n * s := catN_len (fun i hi => h i (by omega))
    rw [catN_succ]
    by_cases c : i < n
    · have : i * s + j < n * s := by
        have := Nat.mul_le_mul_right s (show i + 1 ≤ n from c)
        rw [Nat.succ_mul] at this
        omega
      rw [List.getElem?_append_left (by omega), ih (fun i hi => h i (by omega)) c]
    · obtain rfl : i = n := by omega
      rw [List.getElem?_append_right (by omega), hl]
      congr 1
      omega
theorem catN_set {β : Type} {n s : Nat} {f : Nat → List β} (h : ∀ i, i < n → (f i).length = s) {i j : Nat} (hi : i < n) (hj : j < s) (u : β) : (catN n f).set (i * s + j) u = catN n (fun k => if k = i then (f i).set j u else f k) := by
  induction n with
  | zero => omega
  | succ n ih =>
    have hl : (catN n f).length = n * s := catN_len (fun i hi => h i (by omega))
    rw [catN_succ, catN_succ]
    by_cases c : i < n
    · have : i * s + j < n * s := by
        have := Nat.mul_le_mul_right s (show i + 1 ≤ n from c)
        rw [Nat.succ_mul] at this
        omega
      rw [List.set_append_left _ _ (by omega), ih (fun i hi => h i (by omega)) c, if_neg (by omega)]
    · obtain rfl : i = n := by omega
      rw [List.set_append_right _ _ (by omega), hl, if_pos rfl]
      congr 1
      · exact catN_congr (fun k hk => by rw [if_neg (by omega)])
      · congr 1
        omega
theorem mem_catN {β : Type} {n : Nat} {f : Nat → List β} {b : β} : b ∈ catN n f ↔ ∃ i, i < n ∧ b ∈ f i := by
  unfold catN
  simp [List.mem_flatMap]

/-- how values of α lie in cells: what can be read below the block hi, and what is owned with the blocks L -/
structure Lay (α : Type) where
  sz : Nat
  rd : World → Nat → α → List Value → Prop
  own : World → α → List Value → List Nat → Prop
  rd_len : ∀ {w : World} {hi : Nat} {a : α} {cs : List Value}, rd w hi a cs → cs.length = sz
  rd_below : ∀ {w w' : World} {hi B : Nat} {a : α} {cs : List Value}, rd w hi a cs → Below B w w' → hi ≤ B → rd w' hi a cs
  rd_mono : ∀ {w : World} {hi hi' : Nat} {a : α} {cs : List Value}, rd w hi a cs → hi ≤ hi' → rd w hi' a cs
  own_len : ∀ {w : World} {a : α} {cs : List Value} {L : List Nat}, own w a cs L → cs.length = sz
  own_kept : ∀ {w w' : World} {a : α} {cs : List Value} {L : List Nat}, own w a cs L → (∀ b, b ∈ L → w'.heap[b]? = w.heap[b]?) → own w' a cs L
  own_lt : ∀ {w : World} {a : α} {cs : List Value} {L : List Nat}, own w a cs L → ∀ b, b ∈ L → b < w.heap.size
  own_rd : ∀ {w : World} {hi : Nat} {a : α} {cs : List Value} {L : List Nat}, own w a cs L → (∀ b, b ∈ L → b < hi) → rd w hi a cs
  own_one : ∀ {w : World} {a : α} {cs : List Value} {L : List Nat}, own w a cs L → ∀ u, u ∈ cs → u.oneCell' = true

/-- values of one cell that hold no memory -/
def Lay.plain {α : Type} (enc : α → Value) (ok : α → Prop) (one : ∀ a, (enc a).oneCell' = true) : Lay α where
  sz := 1
  rd := fun _ _ a cs => cs = [enc a] ∧ ok a
  own := fun _ a cs L => cs = [enc a] ∧ ok a ∧ L = []
  rd_len := fun h => by rw [h.1]; rfl
  rd_below := fun h _ _ => h
  rd_mono := fun h _ => h
  own_len := fun h => by rw [h.1]; rfl
  own_kept := fun h _ => h
  own_lt := fun h b hb => by rw [h.2.2] at hb; cases hb
  own_rd := fun h _ => ⟨h.1, h.2.1⟩
  own_one := fun {w a cs L} h u hu => by rw [h.1] at hu; simp at hu; subst hu; exact one a
/-- an int64 -/
def layI : Lay Int := Lay.plain (fun a => .int .i64 a) (fun a => -9223372036854775808 ≤ a ∧ a ≤ 9223372036854775807) (fun _ => rfl)
def layB : Lay Bool := Lay.plain (fun a => .bool a) (fun _ => True) (fun _ => rfl)
def layS : Lay ByteArray := Lay.plain (fun a => .string a) (fun a => a.size ≤ maxLen) (fun _ => rfl)

/-- two values, one behind the other -/
def Lay.two {α β : Type} (A : Lay α) (B : Lay β) : Lay (α × β) where
  sz := A.sz + B.sz
  rd := fun w hi p cs => ∃ c d, cs = c ++ d ∧ A.rd w hi p.1 c ∧ B.rd w hi p.2 d
  own := fun w p cs L => ∃ c d K M, cs = c ++ d ∧ L = K ++ M ∧ A.own w p.1 c K ∧ B.own w p.2 d M
  rd_len := fun h => by obtain ⟨c, d, rfl, h1, h2⟩ := h; rw [List.length_append, A.rd_len h1, B.rd_len h2]
  rd_below := fun h hb hB => by obtain ⟨c, d, rfl, h1, h2⟩ := h; exact ⟨c, d, rfl, A.rd_below h1 hb hB, B.rd_below h2 hb hB⟩
  rd_mono := fun h hb => by obtain ⟨c, d, rfl, h1, h2⟩ := h; exact ⟨c, d, rfl, A.rd_mono h1 hb, B.rd_mono h2 hb⟩
  own_len := fun h => by obtain ⟨c, d, K, M, rfl, rfl, h1, h2⟩ := h; rw [List.length_append, A.own_len h1, B.own_len h2]
  own_kept := fun h hk => by
    obtain ⟨c, d, K, M, rfl, rfl, h1, h2⟩ := h
    exact ⟨c, d, K, M, rfl, rfl, A.own_kept h1 (fun b hb => hk b (List.mem_append_left _ hb)), B.own_kept h2 (fun b hb => hk b (List.mem_append_right _ hb))⟩
  own_lt := fun h b hb => by
    obtain ⟨c, d, K, M, rfl, rfl, h1, h2⟩ := h
    rcases List.mem_append.1 hb with h | h
    · exact A.own_lt h1 b h
    · exact B.own_lt h2 b h
  own_rd := fun h hk => by
    obtain ⟨c, d, K, M, rfl, rfl, h1, h2⟩ := h
    exact ⟨c, d, rfl, A.own_rd h1 (fun b hb => hk b (List.mem_append_left _ hb)), B.own_rd h2 (fun b hb => hk b (List.mem_append_right _ hb))⟩
  own_one := fun h u hu => by
    obtain ⟨c, d, K, M, rfl, rfl, h1, h2⟩ := h
    rcases List.mem_append.1 hu with h | h
    · exact A.own_one h1 u h
    · exact B.own_one h2 u h
/-- the same under another name -/
def Lay.as {α β : Type} (A : Lay α) (to : β → α) : Lay β where
  sz := A.sz
  rd := fun w hi b cs => A.rd w hi (to b) cs
  own := fun w b cs L => A.own w (to b) cs L
  rd_len := A.rd_len
  rd_below := A.rd_below
  rd_mono := A.rd_mono
  own_len := A.own_len
  own_kept := A.own_kept
  own_lt := A.own_lt
  own_rd := A.own_rd
  own_one := A.own_one

/-- slices of bytes -/
def layBytes : Lay (Nat × (Nat → Nat)) where
  sz := 1
  rd := fun w hi p cs => ∃ v, cs = [v] ∧ Rd w hi v p.1 p.2 ∧ ∀ i, p.2 i < 256
  own := fun w p cs L => ∃ v, cs = [v] ∧ L = v.ownBlock.toList ∧ Own w 0 w.heap.size v p.1 p.2 ∧ ∀ i, p.2 i < 256
  rd_len := fun h => by obtain ⟨v, rfl, _⟩ := h; rfl
  rd_below := fun h hb hB => by obtain ⟨v, rfl, h1, h2⟩ := h; exact ⟨v, rfl, h1.below hb hB, h2⟩
  rd_mono := fun h hb => by obtain ⟨v, rfl, h1, h2⟩ := h; exact ⟨v, rfl, h1.mono hb, h2⟩
  own_len := fun h => by obtain ⟨v, rfl, _⟩ := h; rfl
  own_kept := fun h hk => by
    obtain ⟨v, rfl, rfl, h1, h2⟩ := h
    have h3 := h1.1.lt
    refine ⟨v, rfl, rfl, ?_, h2⟩
    rcases h1.1.2 with hn | ⟨g, cap, cur, rfl, hbg, hgg, rest⟩
    · exact ⟨⟨h1.1.1, .inl hn⟩, fun k hk' => by rw [hn.1] at hk'; cases hk'⟩
    · have e := hk g (by simp [Value.ownBlock])
      rw [hgg] at e
      exact ⟨⟨h1.1.1, .inr ⟨g, cap, cur, rfl, hbg, e, rest⟩⟩, fun k hk' => by
        simp [Value.ownBlock] at hk'
        subst hk'
        exact (Array.getElem?_eq_some_iff.1 e).1⟩
  own_lt := fun h b hb => by
    obtain ⟨v, rfl, rfl, h1, h2⟩ := h
    exact (h1.1.lt b (by simpa using hb)).2
  own_rd := fun h hk => by
    obtain ⟨v, rfl, rfl, h1, h2⟩ := h
    refine ⟨v, rfl, ?_, h2⟩
    obtain ⟨ao, cap, rfl, hm, hc⟩ := h1.rd
    refine ⟨ao, cap, rfl, hm, fun h0 => ?_⟩
    obtain ⟨b, off, rfl, hb, hcell⟩ := hc h0
    exact ⟨b, off, rfl, hk b (by simp [Value.ownBlock]), hcell⟩
  own_one := fun h u hu => by
    obtain ⟨v, rfl, rfl, h1, h2⟩ := h
    obtain ⟨ao, cap, rfl⟩ := h1.slice
    simp at hu
    subst hu
    rfl

/-- slices of what E lays -/
def Lay.slice {α : Type} (E : Lay α) (t : TypeId) : Lay (Nat × (Nat → α)) where
  sz := 1
  rd := fun w hi p cs => ∃ ao cap, cs = [.slice ao p.1 cap] ∧ p.1 ≤ maxLen ∧ (p.1 ≠ 0 → ∃ b off, ao = some ⟨b, off, none⟩ ∧ b < hi ∧ ∀ i, i < p.1 → ∃ ce, E.rd w hi (p.2 i) ce ∧ ∀ j, j < E.sz → w.cell? ⟨b, off + (i * E.sz + j), none⟩ = ce[j]?)
  own := fun w p cs L => ∃ (v : Value) (ce : Nat → List Value) (Ls : Nat → List Nat), cs = [v] ∧ L = v.ownBlock.toList ++ catN p.1 Ls ∧ w.ownsRow 0 t E.sz v p.1 (catN p.1 ce) ∧ ∀ i, i < p.1 → E.own w (p.2 i) (ce i) (Ls i)
  rd_len := fun h => by obtain ⟨ao, cap, rfl, _⟩ := h; rfl
  rd_below := fun h hb hB => by
    obtain ⟨ao, cap, rfl, hm, hc⟩ := h
    refine ⟨ao, cap, rfl, hm, fun h0 => ?_⟩
    obtain ⟨b, off, rfl, hbh, hcell⟩ := hc h0
    refine ⟨b, off, rfl, hbh, fun i hi => ?_⟩
    obtain ⟨ce, h1, h2⟩ := hcell i hi
    exact ⟨ce, E.rd_below h1 hb hB, fun j hj => (hb.cell (p := ⟨b, off + (i * E.sz + j), none⟩) (by show b < _; omega)).trans (h2 j hj)⟩
  rd_mono := fun h hb => by
    obtain ⟨ao, cap, rfl, hm, hc⟩ := h
    refine ⟨ao, cap, rfl, hm, fun h0 => ?_⟩
    obtain ⟨b, off, rfl, hbh, hcell⟩ := hc h0
    refine ⟨b, off, rfl, by omega, fun i hi => ?_⟩
    obtain ⟨ce, h1, h2⟩ := hcell i hi
    exact ⟨ce, E.rd_mono h1 hb, h2⟩
  own_len := fun h => by obtain ⟨v, ce, Ls, rfl, _⟩ := h; rfl
  own_kept := fun h hk => by
    obtain ⟨v, ce, Ls, rfl, rfl, h1, h2⟩ := h
    refine ⟨v, ce, Ls, rfl, rfl, ⟨h1.1, ?_⟩, fun i hi => E.own_kept (h2 i hi) (fun b hb => hk b (List.mem_append_right _ (mem_catN.2 ⟨i, hi, hb⟩)))⟩
    rcases h1.2 with hn | ⟨g, cap, cur, rfl, hbg, hgg, rest⟩
    · exact .inl hn
    · exact .inr ⟨g, cap, cur, rfl, hbg, (hk g (by simp [Value.ownBlock])).trans hgg, rest⟩
  own_lt := fun h b hb => by
    obtain ⟨v, ce, Ls, rfl, rfl, h1, h2⟩ := h
    rcases List.mem_append.1 hb with h | h
    · exact (h1.lt b (by simpa using h)).2
    · obtain ⟨i, hi, hbi⟩ := mem_catN.1 h
      exact E.own_lt (h2 i hi) b hbi
  own_rd := fun {w} {hi0} {p} {cs} {L} h hk => by
    obtain ⟨v, ce, Ls, rfl, rfl, h1, h2⟩ := h
    rcases h1.2 with ⟨rfl, h0⟩ | ⟨g, cap, cur, rfl, hbg, hgg, hnc, hcm, hcs, htake⟩
    · exact ⟨none, 0, by rw [h0], by omega, fun h => absurd h0 h⟩
    · refine ⟨_, _, rfl, by omega, fun h0 => ⟨g, 0, rfl, hk g (by simp [Value.ownBlock]), fun i hi => ?_⟩⟩
      refine ⟨ce i, E.own_rd (h2 i hi) (fun b hb => hk b (List.mem_append_right _ (mem_catN.2 ⟨i, hi, hb⟩))), fun j hj => ?_⟩
      have hlt : i * E.sz + j < p.1 * E.sz := by
        have := Nat.mul_le_mul_right E.sz (show i + 1 ≤ p.1 from hi)
        rw [Nat.succ_mul] at this
        omega
      rw [Nat.zero_add, h1.cellAt _ hlt, catN_get (fun i hi => E.own_len (h2 i hi)) hi hj]
  own_one := fun h u hu => by
    obtain ⟨v, ce, Ls, rfl, rfl, h1, h2⟩ := h
    simp at hu
    subst hu
    rcases h1.2 with ⟨rfl, _⟩ | ⟨g, cap, cur, rfl, _⟩
    · rfl
    · rfl

/-- owned, its blocks from lo on, below hi, no two alike -/
def OwnT {α : Type} (A : Lay α) (w : World) (lo hi : Nat) (a : α) (cs : List Value) : Prop := ∃ L, A.own w a cs L ∧ L.Nodup ∧ ∀ b, b ∈ L → lo ≤ b ∧ b < hi
theorem OwnT.rd {α : Type} {A : Lay α} {w : World} {lo hi : Nat} {a : α} {cs : List Value} (h : OwnT A w lo hi a cs) : A.rd w hi a cs := by
  obtain ⟨L, h1, _, h3⟩ := h
  exact A.own_rd h1 (fun b hb => (h3 b hb).2)
theorem OwnT.below {α : Type} {A : Lay α} {w w' : World} {lo hi B : Nat} {a : α} {cs : List Value} (h : OwnT A w lo hi a cs) (hb : Below B w w') (hB : hi ≤ B) : OwnT A w' lo hi a cs := by
  obtain ⟨L, h1, h2, h3⟩ := h
  exact ⟨L, A.own_kept h1 (fun b hb' => hb.block b (by have := (h3 b hb').2; omega)), h2, h3⟩
theorem OwnT.chg {α : Type} {A : Lay α} {w w' : World} {lo hi lo' hi' : Nat} {a : α} {cs : List Value} (h : OwnT A w lo hi a cs) (hc : Chg lo' hi' w w') (hB : hi ≤ lo' ∨ hi' ≤ lo) : OwnT A w' lo hi a cs := by
  obtain ⟨L, h1, h2, h3⟩ := h
  exact ⟨L, A.own_kept h1 (fun b hb' => hc.block b (A.own_lt h1 b hb') (by have := h3 b hb'; omega)), h2, h3⟩
theorem OwnT.weaken {α : Type} {A : Lay α} {w : World} {lo hi lo' hi' : Nat} {a : α} {cs : List Value} (h : OwnT A w lo hi a cs) (h1 : lo' ≤ lo) (h2 : hi ≤ hi') : OwnT A w lo' hi' a cs := by
  obtain ⟨L, k1, k2, k3⟩ := h
  exact ⟨L, k1, k2, fun b hb => by have := k3 b hb; omega⟩
end Go.Proofs.Ytgpglgchbimmaaa
