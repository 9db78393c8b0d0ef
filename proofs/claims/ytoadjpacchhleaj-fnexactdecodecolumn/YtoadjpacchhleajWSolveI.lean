/- Walk of the program's SolveG. -/
import Derived.Test.YtoadjpacchhleajWRankI
import Derived.Test.YtoadjpacchhleajGaussT
namespace Go.Proofs.Ytoadjpacchhleaj
open Go.RowKit F256
set_option linter.unusedVariables false
set_option linter.unusedSimpArgs false

/-- right[k:k+1] -/
theorem run_slice_one (gr N cap k : Nat) (h1 : k < N) (h2 : N ≤ cap) (w : World) :
    (Instr.slice 23 (.slice (some ⟨gr, 0, none⟩) N cap) (some (.int .i64 (k : Int))) (some (.int .i64 ((k : Int) + 1))) none).run Try.prog w = .ok (.slice (some ⟨gr, k, none⟩) 1 (cap - k)) w := by
  have e1 : (0 : Int) ≤ (k : Int) + 1 ∧ (k : Int) + 1 ≤ (cap : Int) := by omega
  have e2 : ((k : Int) + 1).toNat = k + 1 := by omega
  have e3 : (0 : Int) ≤ (k : Int) ∧ (k : Int) ≤ (k : Int) + 1 := by omega
  have e4 : ¬ cap = k := by omega
  have e5 : k + 1 - k = 1 := by omega
  simp [Instr.slice, run_underlying Try.underlying23, Instr.sliceBounds, Instr.sliceBound, asIntOf, go_sem, e1, e2, e3, e4, e5]

/-- the answers of SolveG -/
def SolveAns (R m : Nat) (n : Nat → Nat) (f : Mat) (c : Nat → Nat) (x : Int) : Prop :=
  (x = 2 ∧ 16 < R) ∨ (x = 1 ∧ R ≤ 16 ∧ (R = 0 ∨ m ≠ R ∨ ∃ i, i < R ∧ n i ≠ R)) ∨ (R ≤ 16 ∧ R ≠ 0 ∧ m = R ∧ (∀ i, i < R → n i = R) ∧ ((x = 4 ∧ (gaussM R (aug R f c) R).2 < R) ∨ (x = 0 ∧ (gaussM R (aug R f c) R).2 = R)))
theorem SolveAns.one {R m : Nat} {n : Nat → Nat} {f : Mat} {c : Nat → Nat} {x y : Int} (h : SolveAns R m n f c x) (k : SolveAns R m n f c y) : x = y := by
  rcases h with ⟨rfl, h1⟩ | ⟨rfl, h1, h2⟩ | ⟨h1, h2, h3, h4, h5⟩ <;> rcases k with ⟨rfl, k1⟩ | ⟨rfl, k1, k2⟩ | ⟨k1, k2, k3, k4, k5⟩
  · rfl
  · omega
  · omega
  · omega
  · rfl
  · rcases h2 with h2 | h2 | ⟨i, hi, h2⟩
    · omega
    · omega
    · exact absurd (k4 i hi) h2
  · omega
  · rcases k2 with k2 | k2 | ⟨i, hi, k2⟩
    · omega
    · omega
    · exact absurd (h4 i hi) k2
  · rcases h5 with ⟨rfl, h5⟩ | ⟨rfl, h5⟩ <;> rcases k5 with ⟨rfl, k5⟩ | ⟨rfl, k5⟩
    · rfl
    · omega
    · omega
    · rfl

end Go.Proofs.Ytoadjpacchhleaj
