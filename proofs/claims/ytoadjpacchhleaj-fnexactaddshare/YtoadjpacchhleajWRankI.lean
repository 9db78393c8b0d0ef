/- Walk of the program's RankG. -/
import Derived.Test.YtoadjpacchhleajWReduce2
import Derived.Test.YtoadjpacchhleajWJoin
import Derived.Test.YtoadjpacchhleajWBytess
import Derived.Test.YtoadjpacchhleajWSz
import Derived.Test.YtoadjpacchhleajWInt
namespace Go.Proofs.Ytoadjpacchhleaj
open Go.RowKit F256
set_option linter.unusedVariables false
set_option linter.unusedSimpArgs false

theorem OwnE.congrN {w : World} {lo hi : Nat} {v : Value} {R : Nat} {n n' : Nat → Nat} {M : Mat} {g cap : Nat} {e : Nat → Value} (h : OwnE w lo hi v R n M g cap e) (hn : ∀ i, i < R → n i = n' i) : OwnE w lo hi v R n' M g cap e :=
  ⟨h.val, h.low, h.high, h.row, fun i hi => by rw [← hn i hi]; exact h.each i hi, h.apart⟩
theorem rd_nil (w : World) (hi : Nat) (f : Nat → Nat) : Rd w hi (.slice none 0 0) 0 f := ⟨none, 0, rfl, Nat.zero_le _, fun h => absurd rfl h⟩

/-- the answers of RankG -/
def RankAns (R : Nat) (n : Nat → Nat) (f : Mat) (c x : Int) : Prop :=
  (c = 2 ∧ x = 0 ∧ (16 < R ∨ ∃ i, i < R ∧ 16 < n i)) ∨ (c = 1 ∧ x = 0 ∧ R ≤ 16 ∧ (∀ i, i < R → n i ≤ 16) ∧ ∃ i, i < R ∧ n i ≠ n 0) ∨
    (c = 0 ∧ R ≤ 16 ∧ (∀ i, i < R → n i ≤ 16) ∧ (∀ i, i < R → n i = n 0) ∧ x = (if R = 0 then 0 else ((gaussM R f (n 0)).2 : Int)))
theorem RankAns.one {R : Nat} {n : Nat → Nat} {f : Mat} {c x c' x' : Int} (h : RankAns R n f c x) (k : RankAns R n f c' x') : c = c' ∧ x = x' := by
  rcases h with ⟨rfl, rfl, h1⟩ | ⟨rfl, rfl, h1, h2, i, hi, hne⟩ | ⟨rfl, h1, h2, h3, rfl⟩ <;> rcases k with ⟨rfl, rfl, k1⟩ | ⟨rfl, rfl, k1, k2, j, hj, hne'⟩ | ⟨rfl, k1, k2, k3, rfl⟩
  · exact ⟨rfl, rfl⟩
  · rcases h1 with h1 | ⟨i, hi, h1⟩
    · omega
    · have := k2 i hi; omega
  · rcases h1 with h1 | ⟨i, hi, h1⟩
    · omega
    · have := k2 i hi; omega
  · rcases k1 with k1 | ⟨j, hj, k1⟩
    · omega
    · have := h2 j hj; omega
  · exact ⟨rfl, rfl⟩
  · exact absurd (k3 i hi) hne
  · rcases k1 with k1 | ⟨j, hj, k1⟩
    · omega
    · have := h2 j hj; omega
  · exact absurd (h3 j hj) hne'
  · exact ⟨rfl, rfl⟩

end Go.Proofs.Ytoadjpacchhleaj
