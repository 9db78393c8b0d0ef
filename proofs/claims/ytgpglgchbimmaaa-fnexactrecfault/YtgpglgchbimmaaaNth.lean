/- The numbers that are not 0, counted. No Go in sight. -/
namespace Go.Proofs.Ytgpglgchbimmaaa

/-- how many of the first i are not 0 -/
def cntN (n : Nat → Nat) : Nat → Nat
  | 0 => 0
  | i + 1 => if n i = 0 then cntN n i else cntN n i + 1
def nthF (n : Nat → Nat) (k : Nat) : Nat → Nat → Nat
  | 0, i => i
  | d + 1, i => if n i ≠ 0 ∧ cntN n i = k then i else nthF n k d (i + 1)
/-- the k-th that is not 0 -/
def nthN (n : Nat → Nat) (R k : Nat) : Nat := nthF n k R 0
theorem cntN_mono (n : Nat → Nat) {i j : Nat} (h : i ≤ j) : cntN n i ≤ cntN n j := by
  induction j with
  | zero => rw [show i = 0 by omega]; exact Nat.le_refl _
  | succ j ih =>
    by_cases e : i = j + 1
    · rw [e]; exact Nat.le_refl _
    · have := ih (by omega)
      rw [cntN]
      split <;> omega
theorem cntN_lt {n : Nat → Nat} {i j : Nat} (h : i < j) (hi : n i ≠ 0) : cntN n i < cntN n j := by
  have h1 : cntN n (i + 1) = cntN n i + 1 := by rw [cntN, if_neg hi]
  have h2 := cntN_mono n (show i + 1 ≤ j by omega)
  omega
theorem nthF_is {n : Nat → Nat} {j : Nat} (hj : n j ≠ 0) : ∀ d i, i ≤ j → j < i + d → nthF n (cntN n j) d i = j
  | 0, i, h1, h2 => by omega
  | d + 1, i, h1, h2 => by
    rw [nthF]
    by_cases e : i = j
    · rw [if_pos ⟨by rw [e]; exact hj, by rw [e]⟩, e]
    · rw [if_neg (fun hh => by have := cntN_lt (show i < j by omega) hh.1; omega)]
      exact nthF_is hj d (i + 1) (by omega) (by omega)
theorem nthN_is {n : Nat → Nat} {R j : Nat} (hR : j < R) (hj : n j ≠ 0) : nthN n R (cntN n j) = j := nthF_is hj R 0 (Nat.zero_le _) (by omega)
theorem cntN_ex {n : Nat → Nat} : ∀ {i k : Nat}, k < cntN n i → ∃ j, j < i ∧ n j ≠ 0 ∧ cntN n j = k
  | 0, k, h => by simp [cntN] at h
  | i + 1, k, h => by
    rw [cntN] at h
    by_cases e : n i = 0
    · rw [if_pos e] at h
      obtain ⟨j, h1, h2⟩ := cntN_ex h
      exact ⟨j, by omega, h2⟩
    · rw [if_neg e] at h
      by_cases e2 : k = cntN n i
      · exact ⟨i, by omega, e, e2.symm⟩
      · obtain ⟨j, h1, h2⟩ := cntN_ex (n := n) (i := i) (k := k) (by omega)
        exact ⟨j, by omega, h2⟩
theorem nthN_spec {n : Nat → Nat} {R k : Nat} (h : k < cntN n R) : nthN n R k < R ∧ n (nthN n R k) ≠ 0 ∧ cntN n (nthN n R k) = k := by
  obtain ⟨j, h1, h2, h3⟩ := cntN_ex h
  rw [← h3, nthN_is h1 h2]
  exact ⟨h1, h2, rfl⟩
theorem nthN_rise {n : Nat → Nat} {R k : Nat} (h : k + 1 < cntN n R) : nthN n R k < nthN n R (k + 1) := by
  have a := nthN_spec (n := n) (R := R) (k := k) (by omega)
  have b := nthN_spec h
  refine Classical.byContradiction fun hh => ?_
  have := cntN_mono n (show nthN n R (k + 1) ≤ nthN n R k by omega)
  omega
theorem cntN_le (n : Nat → Nat) : ∀ i, cntN n i ≤ i
  | 0 => Nat.le_refl _
  | i + 1 => by
    have := cntN_le n i
    rw [cntN]
    split <;> omega
end Go.Proofs.Ytgpglgchbimmaaa
