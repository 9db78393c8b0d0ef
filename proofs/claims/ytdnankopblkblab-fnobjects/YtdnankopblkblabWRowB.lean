/- Walk of the specification's l2Encode: the blocks of a row. -/
import Derived.Test.YtdnankopblkblabWRowA
import Derived.Test.YtdnankopblkblabWAppend
namespace Go.Proofs.Ytdnankopblkblab
open Go.RowKit F256
set_option linter.unusedVariables false
set_option linter.unusedSimpArgs false

/-- the bytes of a row in blocks of four -/
def cutN (b : Nat → Nat) : Mat := fun i j => b (4 * i + j)
/-- the blocks of a row with d data blocks: those, then the spare ones -/
def encN (d : Nat) (b : Nat → Nat) : Mat := fun i j => if i < d then cutN b i j else mixN (cutN b) (genN d i 0) d j
theorem mixN_congr {f g : Mat} {c : Nat → Nat} : ∀ {k : Nat} {j : Nat}, (∀ i, i < k → f i j = g i j) → mixN f c k j = mixN g c k j
  | 0, _, _ => rfl
  | k + 1, j, h => by rw [mixN, mixN, mixN_congr (fun i hi => h i (by omega)), h k (by omega)]
theorem encN_byt {d : Nat} {b : Nat → Nat} (kb : ∀ i, b i < 256) : Byt (encN d b) := fun i j => by
  unfold encN
  split
  · exact kb _
  · exact mixN_lt _ _ (genN_lt d i 0) _ _
theorem vals_put (k : Nat) (e : Nat → Value) (x : Value) : valsOf k e ++ [x] = valsOf (k + 1) (fun i => if i = k then x else e i) := by
  rw [← valsOf_snoc]
  simp only [if_pos]
  rw [valsOf_eq (e := e) (g := fun i => if i = k then x else e i) (fun i hi => by simp [show ¬ i = k by omega])]
theorem encN_spare {d : Nat} {b : Nat → Nat} {k j : Nat} (hk : d ≤ k) : mixN (encN d b) (genN d k 0) d j = encN d b k j := by
  have h1 : ¬ k < d := by omega
  rw [mixN_congr (g := cutN b) (fun i hi => by simp [encN, hi])]
  simp [encN, h1]
theorem one_of_own {w : World} {lo hi : Nat} {v : Value} {n : Nat} {f : Nat → Nat} (h : Own w lo hi v n f) : v.oneCell' = true := by
  obtain ⟨ao, cap, rfl⟩ := h.slice
  rfl

end Go.Proofs.Ytdnankopblkblab
