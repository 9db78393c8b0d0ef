/- The weights do what they are for: the place want is the weighed sum of the places hv. No Go in sight. -/
import Derived.Test.YtgpglgchbimmaaaGaussT
namespace Go.Proofs.Ytgpglgchbimmaaa
open F256

/-- the weights of the place want by the places hv -/
def weightsN (n base : Nat) (hv : Nat → Nat) (want : Nat) : Nat → Nat := fun i => (gaussM n (aug n (wtM n base hv) (genN n want base)) n).1 i n
theorem weightsN_lt (n base : Nat) (hv : Nat → Nat) (want i : Nat) : weightsN n base hv want i < 256 := gaussM_byt (aug_byt (wtM_byt n base hv) (genN_lt n want base)) n i n
theorem dotN_swap {r x : Nat → Nat} (hr : ∀ j, r j < 256) (hx : ∀ j, x j < 256) : ∀ k, dotN r x k = dotN x r k
  | 0 => rfl
  | k + 1 => by rw [dotN, dotN, dotN_swap hr hx k, mulN_comm (hr k) (hx k)]
theorem dotN_congr2 {r x y : Nat → Nat} : ∀ {k : Nat}, (∀ j, j < k → x j = y j) → dotN r x k = dotN r y k
  | 0, _ => rfl
  | k + 1, h => by rw [dotN, dotN, dotN_congr2 (fun j hj => h j (by omega)), h k (by omega)]
/-- x is what the data places hold: the place want holds the weighed sum of what the places hv hold -/
theorem weights_sum {n base want : Nat} {hv x : Nat → Nat} (hx : ∀ j, x j < 256) (hfull : (gaussM n (aug n (wtM n base hv) (genN n want base)) n).2 = n) :
    dotN (weightsN n base hv want) (fun k => dotN (genN n (hv k) base) x n) n = dotN (genN n want base) x n := by
  have hc := dotN_comb (R := n) (b := weightsN n base hv want) (A := fun k i => genN n (hv k) base i) (x := x) (weightsN_lt n base hv want) (fun k i => genN_lt n (hv k) base i) hx n (Nat.le_refl _) n
  rw [← hc]
  refine dotN_congr fun i hi => ?_
  have hs := gaussM_solves (aug_byt (wtM_byt n base hv) (genN_lt n want base)) hfull i hi
  have h1 : aug n (wtM n base hv) (genN n want base) i n = genN n want base i := by simp [aug]
  rw [h1] at hs
  show dotN (weightsN n base hv want) (fun k => genN n (hv k) base i) n = genN n want base i
  rw [dotN_swap (weightsN_lt n base hv want) (fun k => genN_lt n (hv k) base i), ← hs]
  exact dotN_congr fun j hj => by simp [aug, hj, wtM]
/-- a data place holds what it holds -/
theorem dotN_gen {n p base : Nat} {x : Nat → Nat} (hx : ∀ j, x j < 256) (hp : p < n) : dotN (genN n p base) x n = x p := by
  have h1 : ¬ n ≤ p := by omega
  rw [dotN_unit (i := p) hx n (fun j _ => by
    simp only [genN, if_neg h1]
    by_cases e : j = p
    · simp [e]
    · rw [if_neg e, if_neg (fun h => e h.symm)]), if_pos hp]
end Go.Proofs.Ytgpglgchbimmaaa
