/- Walk of the specification's HomeOf. -/
import Derived.Test.YtdnankopblkblabWName
import Derived.Test.YtdnankopblkblabWInt
namespace Go.Proofs.Ytdnankopblkblab
open Go.RowKit F256
set_option linter.unusedVariables false
set_option linter.unusedSimpArgs false

/-- the sum of a name's first bytes -/
def nameSum (b : ByteArray) : Nat → Nat
  | 0 => 0
  | k + 1 => nameSum b k + nameByte b k
theorem nameSum_lt (b : ByteArray) (k : Nat) : nameSum b k ≤ 255 * k := by
  induction k with
  | zero => exact Nat.le_refl _
  | succ k ih => have := nameByte_lt b k; simp only [nameSum]; omega

/-- what HomeOf answers -/
def HoAns (s : Nat → Int) (b : ByteArray) (x c : Int) : Prop :=
  (¬ OkShape s ∧ c = 3 ∧ x = 0) ∨ (OkShape s ∧ ¬ OkName b ∧ c = 5 ∧ x = 0) ∨ (OkShape s ∧ OkName b ∧ c = 0 ∧ x = (nameSum b b.size : Int) % s 0)
theorem HoAns.one {s : Nat → Int} {b : ByteArray} {x c y d : Int} (h : HoAns s b x c) (k : HoAns s b y d) : x = y ∧ c = d := by
  rcases h with ⟨h1, rfl, rfl⟩ | ⟨h1, h2, rfl, rfl⟩ | ⟨h1, h2, rfl, rfl⟩ <;> rcases k with ⟨k1, rfl, rfl⟩ | ⟨k1, k2, rfl, rfl⟩ | ⟨k1, k2, rfl, rfl⟩ <;>
    first | exact ⟨rfl, rfl⟩ | exact absurd h1 k1 | exact absurd k1 h1 | exact absurd h2 k2 | exact absurd k2 h2

theorem two_new {w w1 : World} {cs ds : Array Value} {t u : TypeId} (h : Below ((w.alloc (.cells cs t)).alloc (.cells ds u)).heap.size ((w.alloc (.cells cs t)).alloc (.cells ds u)) w1) :
    Box w1 w.heap.size cs t ∧ Box w1 (w.heap.size + 1) ds u ∧ Below w.heap.size w w1 ∧ w.heap.size + 1 < w1.heap.size := by
  have h2 := bnew h
  have e : (w.alloc (.cells cs t)).heap.size = w.heap.size + 1 := by simp
  have k2 := box_new (w.alloc (.cells cs t)) ds u
  rw [e] at k2
  have z := bsize h
  rw [e] at z
  exact ⟨(box_new w cs t).below h2 (by simp), k2.below h (by simp), bnew h2, z⟩

end Go.Proofs.Ytdnankopblkblab
