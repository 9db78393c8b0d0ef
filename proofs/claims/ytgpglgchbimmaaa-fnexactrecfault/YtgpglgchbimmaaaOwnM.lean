/- Slices of slices of bytes in memory: what can be read (RdM), what the call owns (OwnM: the outer row and each inner row in a block of its own, no two alike). -/
import Derived.Test.YtgpglgchbimmaaaWBytes
namespace Go.Proofs.Ytgpglgchbimmaaa
open Go.RowKit F256

def valsOf (n : Nat) (e : Nat → Value) : List Value := (List.range n).map e
theorem valsOf_length (n : Nat) (e : Nat → Value) : (valsOf n e).length = n := by simp [valsOf]
theorem valsOf_get (n : Nat) (e : Nat → Value) (i : Nat) (h : i < n) : (valsOf n e)[i]? = some (e i) := by simp [valsOf, h]
theorem valsOf_eq {n : Nat} {e g : Nat → Value} (h : ∀ i, i < n → e i = g i) : valsOf n e = valsOf n g := by
  apply List.map_congr_left
  intro i hi
  rw [h i (List.mem_range.mp hi)]
theorem valsOf_set (n : Nat) (e g : Nat → Value) (k : Nat) (x : Value) (hk : k < n) (h : ∀ i, i < n → g i = if i = k then x else e i) : (valsOf n e).set k x = valsOf n g := by
  apply List.ext_getElem?
  intro i
  by_cases hi : i < n
  · rw [valsOf_get n g i hi, h i hi, List.getElem?_set]
    by_cases c : k = i
    · subst c; simp [valsOf_length, hk]
    · rw [if_neg c, if_neg (fun h => c h.symm), valsOf_get n e i hi]
  · rw [List.getElem?_eq_none (by rw [List.length_set, valsOf_length]; omega), List.getElem?_eq_none (by rw [valsOf_length]; omega)]
theorem valsOf_snoc (n : Nat) (e : Nat → Value) : valsOf n e ++ [e n] = valsOf (n + 1) e := by
  simp [valsOf, List.range_succ]
abbrev nilS : Value := .slice none 0 0
theorem valsOf_made (n : Nat) : (madeCells #[nilS] n).toList = valsOf n fun _ => nilS := by
  rw [toList_madeCells_one]
  apply List.ext_getElem?
  intro i
  by_cases hi : i < n
  · rw [valsOf_get _ _ _ hi]; simp [hi]
  · rw [List.getElem?_eq_none (by simp; omega), List.getElem?_eq_none (by rw [valsOf_length]; omega)]

/-- what reads as R rows, n i bytes in the row i -/
def RdM (w : World) (hi : Nat) (v : Value) (R : Nat) (n : Nat → Nat) (f : Nat → Nat → Nat) : Prop :=
  ∃ (ao : Option Addr) (cap : Nat) (e : Nat → Value), v = .slice ao R cap ∧ R ≤ maxLen ∧ (R ≠ 0 → ∃ b off, ao = some ⟨b, off, none⟩ ∧ b < hi ∧ ∀ i, i < R → w.cell? ⟨b, off + i, none⟩ = some (e i)) ∧
    ∀ i, i < R → Rd w hi (e i) (n i) (f i)
/-- no two of these lie in one block, none in the block g -/
def Apart (g R : Nat) (e : Nat → Value) : Prop := (∀ i, i < R → (e i).ownBlock ≠ some g) ∧ ∀ i j, i < R → j < R → i ≠ j → ∀ k, (e i).ownBlock = some k → (e j).ownBlock ≠ some k
/-- the slice v, in block g, owns R rows: e i the i-th row's slice -/
structure OwnE (w : World) (lo hi : Nat) (v : Value) (R : Nat) (n : Nat → Nat) (f : Nat → Nat → Nat) (g cap : Nat) (e : Nat → Value) : Prop where
  val : v = .slice (some ⟨g, 0, none⟩) R cap
  low : lo ≤ g
  high : g < hi
  row : w.ownsRow lo 39 1 v R (valsOf R e)
  each : ∀ i, i < R → Own w lo hi (e i) (n i) (f i)
  apart : Apart g R e
def OwnM (w : World) (lo hi : Nat) (v : Value) (R : Nat) (n : Nat → Nat) (f : Nat → Nat → Nat) : Prop := ∃ g cap e, OwnE w lo hi v R n f g cap e

theorem RdM.below {w w' : World} {hi B : Nat} {v : Value} {R : Nat} {n : Nat → Nat} {f : Nat → Nat → Nat} (h : RdM w hi v R n f) (hb : Below B w w') (hB : hi ≤ B) : RdM w' hi v R n f := by
  obtain ⟨ao, cap, e, rfl, hm, hc, he⟩ := h
  refine ⟨ao, cap, e, rfl, hm, fun h0 => ?_, fun i hi => (he i hi).below hb hB⟩
  obtain ⟨b, off, rfl, hlt, hcell⟩ := hc h0
  exact ⟨b, off, rfl, hlt, fun i hi => (hb.cell (p := ⟨b, off + i, none⟩) (by show b < B; omega)).trans (hcell i hi)⟩
theorem RdM.chg {w w' : World} {hi lo' hi' : Nat} {v : Value} {R : Nat} {n : Nat → Nat} {f : Nat → Nat → Nat} (h : RdM w hi v R n f) (hb : Chg lo' hi' w w') (hB : hi ≤ lo') (hB2 : hi ≤ w.heap.size) : RdM w' hi v R n f := h.below (hb.below hB hB2) (Nat.le_refl _)
theorem row_kept {w w' : World} {lo : Nat} {t : TypeId} {v : Value} {R : Nat} {xs : List Value} (h : w.ownsRow lo t 1 v R xs) (hk : ∀ g, v.ownBlock = some g → w'.heap[g]? = w.heap[g]?) : w'.ownsRow lo t 1 v R xs := by
  refine ⟨h.1, ?_⟩
  rcases h.2 with hn | ⟨g, cap, cur, rfl, hbg, hgg, rest⟩
  · exact .inl hn
  · exact .inr ⟨g, cap, cur, rfl, hbg, (hk g rfl).trans hgg, rest⟩
theorem Own.kept {w w' : World} {lo hi : Nat} {v : Value} {n : Nat} {f : Nat → Nat} (h : Own w lo hi v n f) (hk : ∀ g, v.ownBlock = some g → w'.heap[g]? = w.heap[g]?) : Own w' lo hi v n f := ⟨row_kept h.1 hk, h.2⟩
theorem OwnE.below {w w' : World} {lo hi B : Nat} {v : Value} {R : Nat} {n : Nat → Nat} {f : Nat → Nat → Nat} {g cap : Nat} {e : Nat → Value} (h : OwnE w lo hi v R n f g cap e) (hb : Below B w w') (hB : hi ≤ B) : OwnE w' lo hi v R n f g cap e := by
  refine ⟨h.val, h.low, h.high, row_kept h.row fun k hk => hb.block k ?_, fun i hi => (h.each i hi).below hb hB, h.apart⟩
  rw [h.val] at hk
  simp [Value.ownBlock] at hk
  have := h.high
  omega
theorem OwnM.below {w w' : World} {lo hi B : Nat} {v : Value} {R : Nat} {n : Nat → Nat} {f : Nat → Nat → Nat} (h : OwnM w lo hi v R n f) (hb : Below B w w') (hB : hi ≤ B) : OwnM w' lo hi v R n f := by
  obtain ⟨g, cap, e, h⟩ := h
  exact ⟨g, cap, e, h.below hb hB⟩
theorem OwnM.chg {w w' : World} {lo hi lo' hi' : Nat} {v : Value} {R : Nat} {n : Nat → Nat} {f : Nat → Nat → Nat} (h : OwnM w lo hi v R n f) (hb : Chg lo' hi' w w') (hB : hi ≤ lo' ∨ hi' ≤ lo) : OwnM w' lo hi v R n f := by
  obtain ⟨g, cap, e, h⟩ := h
  refine ⟨g, cap, e, h.val, h.low, h.high, row_kept h.row fun k hk => ?_, fun i hi => (h.each i hi).chg hb hB, h.apart⟩
  have hlt := (h.row.lt k hk).2
  rw [h.val] at hk
  simp [Value.ownBlock] at hk
  have h1 := h.high
  have h2 := h.low
  exact hb.block k hlt (by omega)
theorem OwnE.cell {w : World} {lo hi : Nat} {v : Value} {R : Nat} {n : Nat → Nat} {f : Nat → Nat → Nat} {g cap : Nat} {e : Nat → Value} (h : OwnE w lo hi v R n f g cap e) (i : Nat) (hi : i < R) : w.cell? ⟨g, i, none⟩ = some (e i) := by
  have hr := h.row
  rw [h.val] at hr
  rw [hr.cellAt i (by omega), valsOf_get R e i hi]
theorem OwnE.rd {w : World} {lo hi : Nat} {v : Value} {R : Nat} {n : Nat → Nat} {f : Nat → Nat → Nat} {g cap : Nat} {e : Nat → Value} (h : OwnE w lo hi v R n f g cap e) : RdM w hi v R n f := by
  have hle : R ≤ maxLen := by
    rcases h.row.2 with ⟨h1, h2⟩ | ⟨g', cap', cur, h1, _, _, hnc, hcm, _⟩
    · rw [h2]; exact Nat.zero_le _
    · omega
  exact ⟨_, cap, e, h.val, hle, fun _ => ⟨g, 0, rfl, h.high, fun i hi => by rw [Nat.zero_add]; exact h.cell i hi⟩, fun i hi => (h.each i hi).rd⟩
theorem OwnM.rd {w : World} {lo hi : Nat} {v : Value} {R : Nat} {n : Nat → Nat} {f : Nat → Nat → Nat} (h : OwnM w lo hi v R n f) : RdM w hi v R n f := by
  obtain ⟨g, cap, e, h⟩ := h
  exact h.rd
theorem OwnM.alloc {w : World} {lo hi : Nat} {v : Value} {R : Nat} {n : Nat → Nat} {f : Nat → Nat → Nat} (h : OwnM w lo hi v R n f) (o : Obj) : OwnM (w.alloc o) lo hi v R n f := by
  obtain ⟨g, cap, e, h⟩ := h
  exact ⟨g, cap, e, h.val, h.low, h.high, h.row.alloc o, fun i hi => (h.each i hi).alloc o, h.apart⟩
theorem OwnM.weaken {w : World} {lo hi lo' hi' : Nat} {v : Value} {R : Nat} {n : Nat → Nat} {f : Nat → Nat → Nat} (h : OwnM w lo hi v R n f) (h1 : lo' ≤ lo) (h2 : hi ≤ hi') : OwnM w lo' hi' v R n f := by
  obtain ⟨g, cap, e, h⟩ := h
  have hr : w.ownsRow lo' 39 1 v R (valsOf R e) := by
    refine ⟨h.row.1, ?_⟩
    rcases h.row.2 with hn | ⟨g, cap, cur, hv, hbg, rest⟩
    · exact .inl hn
    · exact .inr ⟨g, cap, cur, hv, by omega, rest⟩
  exact ⟨g, cap, e, h.val, Nat.le_trans h1 h.low, Nat.lt_of_lt_of_le h.high h2, hr, fun i hi => (h.each i hi).weaken h1 h2, h.apart⟩
/-- the block that a slice owns, as a range -/
def tlo (v : Value) (lo : Nat) : Nat := match v.ownBlock with | some k => k | none => lo
def thi (v : Value) (lo : Nat) : Nat := match v.ownBlock with | some k => k + 1 | none => lo
theorem Own.tight {w : World} {lo hi : Nat} {v : Value} {n : Nat} {f : Nat → Nat} (h : Own w lo hi v n f) : Own w (tlo v lo) (thi v lo) v n f := by
  rcases h.1.2 with ⟨rfl, rfl⟩ | ⟨g, cap, cur, rfl, hbg, rest⟩
  · exact own_nil _ _ _ _
  · exact ⟨⟨h.1.1, .inr ⟨g, cap, cur, rfl, Nat.le_refl _, rest⟩⟩, fun k hk => by simp [Value.ownBlock] at hk; subst hk; simp [thi, Value.ownBlock]⟩
theorem Own.untight {w : World} {lo hi : Nat} {v : Value} {n : Nat} {f : Nat → Nat} {n' : Nat} {f' : Nat → Nat} {w' : World} (h : Own w lo hi v n f) (h' : Own w' (tlo v lo) (thi v lo) v n' f') : Own w' lo hi v n' f' := by
  refine ⟨⟨h'.1.1, ?_⟩, h.2⟩
  rcases h'.1.2 with hn | ⟨g, cap, cur, rfl, hbg, rest⟩
  · exact .inl hn
  · refine .inr ⟨g, cap, cur, rfl, ?_, rest⟩
    exact (h.1.lt g rfl).1
theorem tight_sub {w : World} {lo hi : Nat} {v : Value} {n : Nat} {f : Nat → Nat} (h : Own w lo hi v n f) (hlh : lo ≤ hi) : lo ≤ tlo v lo ∧ thi v lo ≤ hi := by
  cases hv : v.ownBlock with
  | none => simp [tlo, thi, hv, hlh]
  | some k =>
    have h1 := (h.1.lt k hv).1
    have h2 := h.2 k hv
    simp [tlo, thi, hv]
    omega
theorem not_in_tight {v : Value} {lo k : Nat} (h : ∀ g, v.ownBlock = some g → k ≠ g) : k < tlo v lo ∨ thi v lo ≤ k := by
  cases hv : v.ownBlock with
  | none => simp [tlo, thi, hv]; omega
  | some g =>
    have := h g hv
    simp [tlo, thi, hv]
    omega
theorem Chg.widen {lo hi lo' hi' : Nat} {w w' : World} (h : Chg lo hi w w') (h1 : lo' ≤ lo) (h2 : hi ≤ hi') : Chg lo' hi' w w' := ⟨h.os, h.tape, h.output, h.size, fun k hk ho => h.block k hk (by omega)⟩
def sumN (n : Nat → Nat) : Nat → Nat
  | 0 => 0
  | k + 1 => sumN n k + n k
theorem sumN_mono (n : Nat → Nat) : ∀ {a b : Nat}, a ≤ b → sumN n a ≤ sumN n b
  | a, 0, h => by have : a = 0 := by omega
                  subst this; exact Nat.le_refl _
  | a, b + 1, h => by
    by_cases e : a = b + 1
    · subst e; exact Nat.le_refl _
    · have := sumN_mono n (show a ≤ b by omega)
      simp only [sumN]
      omega
theorem info_sl : (Try.prog.info? 39).map (fun i => (i.zero, i.size, i.bytes)) = some (some nilS, 1, 24) := by kernel_rfl
theorem Chg.refl' (lo hi : Nat) (w : World) : Chg lo hi w w := ⟨rfl, rfl, rfl, Nat.le_refl _, fun _ _ _ => rfl⟩
end Go.Proofs.Ytgpglgchbimmaaa
