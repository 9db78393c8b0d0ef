/- Words of a text: pure, and lists of texts as they lie in memory. -/
import Derived.Test.YthncbkgklhbcjaaWStrs
import Derived.Test.YthncbkgklhbcjaaDigA
namespace Go.Proofs.Ythncbkgklhbcjaa
open Go.RowKit F256
set_option linter.unusedVariables false
set_option linter.unusedSimpArgs false

/-- the pieces that end ahead of i, and where the one under way begins -/
def pcs (b : ByteArray) : Nat → List ByteArray × Nat
  | 0 => ([], 0)
  | i + 1 => if strB b i = 32 then ((pcs b i).1 ++ [b.extract (pcs b i).2 i], i + 1) else pcs b i
def full (x : ByteArray) : Bool := !(x.toList.isEmpty)
/-- all pieces -/
def pieces (b : ByteArray) : List ByteArray := (pcs b b.size).1 ++ [b.extract (pcs b b.size).2 b.size]
def words (b : ByteArray) : List ByteArray := (pieces b).filter full
theorem pcs_from_le (b : ByteArray) : ∀ i, (pcs b i).2 ≤ i
  | 0 => Nat.le_refl _
  | i + 1 => by
    have := pcs_from_le b i
    unfold pcs
    split
    · exact Nat.le_refl _
    · omega
theorem pcs_len (b : ByteArray) : ∀ i, (pcs b i).1.length ≤ i
  | 0 => Nat.le_refl _
  | i + 1 => by
    have := pcs_len b i
    unfold pcs
    split
    · simp; omega
    · omega
theorem pcs_space {b : ByteArray} {i : Nat} (h : strB b i = 32) : pcs b (i + 1) = ((pcs b i).1 ++ [b.extract (pcs b i).2 i], i + 1) := by
  show (if strB b i = 32 then _ else _) = _
  rw [if_pos h]
theorem pcs_other {b : ByteArray} {i : Nat} (h : strB b i ≠ 32) : pcs b (i + 1) = pcs b i := by
  show (if strB b i = 32 then _ else _) = _
  rw [if_neg h]
theorem pcs_skip {b : ByteArray} {i : Nat} : ∀ m, (∀ k, k < m → strB b (i + k) ≠ 32) → pcs b (i + m) = pcs b i
  | 0, _ => rfl
  | m + 1, h => by
    rw [← Nat.add_assoc, pcs_other (h m (by omega))]
    exact pcs_skip m (fun k hk => h k (by omega))
theorem isEmpty_extract (b : ByteArray) (f i : Nat) (h : i ≤ b.size) : (b.extract f i).toList.isEmpty = decide (i ≤ f) := by
  rw [ByteArray.toList_eq]
  have hs : (b.extract f i).data.toList.length = i - f := by
    rw [Array.length_toList]
    have : (b.extract f i).data.size = (b.extract f i).size := rfl
    rw [this, ByteArray.size_extract]
    omega
  cases hd : (b.extract f i).data.toList with
  | nil => rw [hd] at hs; simp at hs ⊢; omega
  | cons x l => rw [hd] at hs; simp at hs ⊢; omega
theorem full_extract (b : ByteArray) (f i : Nat) (h : i ≤ b.size) : full (b.extract f i) = decide (f < i) := by
  unfold full
  rw [isEmpty_extract b f i h]
  by_cases c : i ≤ f
  · simp [c]
  · simp [c]; omega
theorem filter_snoc (l : List ByteArray) (x : ByteArray) : (l ++ [x]).filter full = if full x = true then l.filter full ++ [x] else l.filter full := by
  rw [List.filter_append]
  by_cases c : full x = true
  · simp [c]
  · simp [c]
theorem words_eq (b : ByteArray) : words b = if (pcs b b.size).2 < b.size then (pcs b b.size).1.filter full ++ [b.extract (pcs b b.size).2 b.size] else (pcs b b.size).1.filter full := by
  unfold words pieces
  rw [filter_snoc, full_extract _ _ _ (Nat.le_refl _)]
  by_cases c : (pcs b b.size).2 < b.size
  · simp [c]
  · simp [c]

/-- what the walk of the words has at k -/
def wst (b : ByteArray) (k : Nat) : List ByteArray × Nat := if k ≤ b.size then ((pcs b k).1.filter full, (pcs b k).2) else (words b, k)
theorem wst_at {b : ByteArray} {k : Nat} (h : k ≤ b.size) : wst b k = ((pcs b k).1.filter full, (pcs b k).2) := if_pos h
theorem wst_end {b : ByteArray} {k : Nat} (h : b.size < k) : wst b k = (words b, k) := if_neg (by omega)
theorem wst_from {b : ByteArray} {k : Nat} (h : k ≤ b.size) : (wst b k).2 ≤ k := by rw [wst_at h]; exact pcs_from_le b k
theorem wst_len {b : ByteArray} {k : Nat} (h : k ≤ b.size) : (wst b k).1.length ≤ k := by rw [wst_at h]; exact Nat.le_trans (List.length_filter_le _ _) (pcs_len b k)
theorem wst_stop {b : ByteArray} {k : Nat} (h : k ≤ b.size) (hs : k = b.size ∨ strB b k = 32) :
    wst b (k + 1) = (if (wst b k).2 < k then (wst b k).1 ++ [b.extract (wst b k).2 k] else (wst b k).1, k + 1) := by
  by_cases hk : k = b.size
  · subst hk
    rw [wst_end (by omega), wst_at (Nat.le_refl _), words_eq]
  · have hs' : strB b k = 32 := by rcases hs with h1 | h1; exact absurd h1 hk; exact h1
    rw [wst_at (k := k + 1) (by omega), wst_at h, pcs_space hs']
    simp only
    rw [filter_snoc, full_extract _ _ _ h]
    by_cases c : (pcs b k).2 < k
    · simp [c]
    · simp [c]
theorem wst_on {b : ByteArray} {k : Nat} (h : k < b.size) (hs : strB b k ≠ 32) : wst b (k + 1) = wst b k := by
  rw [wst_at (k := k + 1) (by omega), wst_at (by omega), pcs_other hs]

/-- a list of texts, as places -/
def lst (l : List ByteArray) : Nat → ByteArray := fun i => l.getD i ByteArray.empty
theorem lst_at (l : List ByteArray) (i : Nat) (h : i < l.length) : lst l i = l[i] := by simp [lst, h]
theorem lst_snoc_at (l : List ByteArray) (x : ByteArray) : lst (l ++ [x]) l.length = x := by simp [lst]
theorem lst_snoc_old (l : List ByteArray) (x : ByteArray) (i : Nat) (h : i < l.length) : lst l i = lst (l ++ [x]) i := by
  simp [lst, List.getElem?_append_left h]
theorem OwnS.snoc {w : World} {lo hi : Nat} {v : Value} {l : List ByteArray} (x : ByteArray) (h : OwnS w lo hi v l.length (lst l)) : OwnS w lo hi v l.length (lst (l ++ [x])) := h.congr fun i hi => lst_snoc_old l x i hi
theorem length_snoc (l : List ByteArray) (x : ByteArray) : (l ++ [x]).length = l.length + 1 := by simp
end Go.Proofs.Ythncbkgklhbcjaa
