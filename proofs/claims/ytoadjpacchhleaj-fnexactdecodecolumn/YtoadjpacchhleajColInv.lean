/- The program's way to the weights of a column: the rows of the places at hand with the one matrix behind them, reduced. No Go in sight. -/
import Derived.Test.YtoadjpacchhleajGaussU
namespace Go.Proofs.Ytoadjpacchhleaj
open F256
set_option linter.unusedVariables false

/-- the rows of the places hv, the one matrix behind them -/
def eyeM (n : Nat) (hv : Nat → Nat) : Mat := fun k j => if j < n then genN n (hv k) 8 j else if j = n + k then 1 else 0
theorem eyeM_byt (n : Nat) (hv : Nat → Nat) : Byt (eyeM n hv) := fun k j => by
  unfold eyeM
  split
  · exact genN_lt n (hv k) 8 j
  · split <;> omega
/-- what stands ahead is what stands behind, times F -/
def LinP (n : Nat) (F M : Mat) : Prop := ∀ i j, i < n → j < n → M i j = dotN (fun k => M i (n + k)) (fun k => F k j) n
theorem LinP.swap {n r a : Nat} {F M : Mat} (hr : r < n) (ha : a < n) (h : LinP n F M) : LinP n F (swapM M r a) := fun i j hi hj => by
  by_cases e : i = r
  · simp only [swapM, if_pos e]
    exact h a j ha hj
  · by_cases e2 : i = a
    · simp only [swapM, if_neg e, if_pos e2]
      exact h r j hr hj
    · simp only [swapM, if_neg e, if_neg e2]
      exact h i j hi hj
theorem LinP.scale {n r c : Nat} {F M : Mat} (kF : Byt F) (kM : Byt M) (h : LinP n F M) : LinP n F (scaleM M r c) := fun i j hi hj => by
  by_cases e : i = r
  · subst e
    simp only [scaleM, if_pos]
    rw [dotN_scale (powN_lt _) (fun k => kM i (n + k)) (fun k => kF k j), h i j hi hj]
  · simp only [scaleM, if_neg e]
    exact h i j hi hj
theorem LinP.clear {n r c : Nat} {F M : Mat} (kF : Byt F) (kM : Byt M) (hr : r < n) (h : LinP n F M) : LinP n F (clearM M r c n) := fun i j hi hj => by
  by_cases e : i < n ∧ i ≠ r
  · simp only [clearM, if_pos e]
    rw [dotN_add (fun k => kM i (n + k)) (fun k => mulN_lt (kM i c)), dotN_scale (kM i c) (fun k => kM r (n + k)) (fun k => kF k j), ← h i j hi hj, ← h r j hr hj]
  · simp only [clearM, if_neg e]
    exact h i j hi hj
theorem LinP.step {n c : Nat} {F : Mat} {s : Mat × Nat} (kF : Byt F) (kM : Byt s.1) (hr : s.2 ≤ n) (h : LinP n F s.1) : LinP n F (stepM n s c).1 := by
  have hl := lead_is s.1 c n s.2 hr
  unfold stepM
  by_cases e : lead s.1 c n s.2 = n
  · rw [if_pos e]; exact h
  · rw [if_neg e]
    have h1 := hl.1
    have h2 := hl.2.1
    have hrR : s.2 < n := by omega
    have k1 := swapM_byt kM s.2 (lead s.1 c n s.2)
    exact LinP.clear kF (scaleM_byt k1 s.2 c) hrR (LinP.scale kF k1 (LinP.swap hrR (by omega) h))
theorem LinP.gauss {n : Nat} {F M : Mat} (kF : Byt F) (kM : Byt M) (h : LinP n F M) : ∀ k, LinP n F (gaussM n M k).1
  | 0 => h
  | k + 1 => LinP.step kF (gaussM_byt kM k) (gaussM_le k).1 (LinP.gauss kF kM h k)
/-- the places as rows -/
def plM (n : Nat) (hv : Nat → Nat) : Mat := fun k j => genN n (hv k) 8 j
theorem plM_byt (n : Nat) (hv : Nat → Nat) : Byt (plM n hv) := fun k j => genN_lt n (hv k) 8 j
theorem eyeM_lin (n : Nat) (hv : Nat → Nat) : LinP n (plM n hv) (eyeM n hv) := fun i j hi hj => by
  rw [dotN_unit (i := i) (fun k => plM_byt n hv k j) n (fun k hk => by
    have h1 : ¬ n + k < n := by omega
    simp only [eyeM, if_neg h1]
    by_cases e : i = k
    · rw [if_pos e, if_pos (by omega)]
    · rw [if_neg e, if_neg (by omega)]), if_pos hi]
  simp only [eyeM, if_pos hj, plM]
theorem eye_full (n : Nat) (h1 : 1 ≤ n) (h2 : n ≤ 4) (hv : Nat → Nat) (hlt : ∀ j, j < n → hv j < n + 2) (hr : ∀ j, j + 1 < n → hv j < hv (j + 1)) : (gaussM n (eyeM n hv) n).2 = n := by
  have hsame : Same n (eyeM n hv) (fun k j => if j < n then genN n (hv k) 8 j else 0) := fun i j hj => by simp only [eyeM, if_pos hj]
  rw [(gaussM_same (R := n) hsame n (Nat.le_refl _)).2]
  have kc : ∀ c i : Nat, (if i = c then 1 else 0 : Nat) < 256 := fun c i => by split <;> omega
  have kB : Byt fun c k => (gaussM n (aug n (wtM n 8 hv) (fun i => if i = c then 1 else 0)) n).1 k n := fun c k => gaussM_byt (aug_byt (wtM_byt n 8 hv) (kc c)) n k n
  have kA : Byt fun k j => if j < n then genN n (hv k) 8 j else 0 := fun k j => by
    show (if j < n then genN n (hv k) 8 j else 0) < 256
    split
    · exact genN_lt n (hv k) 8 j
    · omega
  refine full_of_inv kA kB (fun i => by simp) fun c j hc hj => ?_
  have hs := gaussM_solves (aug_byt (wtM_byt n 8 hv) (kc c)) (col_full n h1 h2 hv (fun i => if i = c then 1 else 0) hlt hr) j hj
  have e1 : aug n (wtM n 8 hv) (fun i => if i = c then 1 else 0) j n = if j = c then 1 else 0 := by simp [aug]
  rw [e1] at hs
  show dotN (fun k => (gaussM n (aug n (wtM n 8 hv) (fun i => if i = c then 1 else 0)) n).1 k n) (fun k => if j < n then genN n (hv k) 8 j else 0) n = _
  rw [dotN_swap (kB c) (fun k => kA k j)]
  have e2 : dotN (fun k => if j < n then genN n (hv k) 8 j else 0) (fun k => (gaussM n (aug n (wtM n 8 hv) (fun i => if i = c then 1 else 0)) n).1 k n) n = dotN (aug n (wtM n 8 hv) (fun i => if i = c then 1 else 0) j) (fun k => (gaussM n (aug n (wtM n 8 hv) (fun i => if i = c then 1 else 0)) n).1 k n) n :=
    dotN_congr fun k hk => by simp [aug, hk, hj, wtM]
  rw [e2, hs]
  by_cases e : c = j
  · rw [if_pos e, if_pos e.symm]
  · rw [if_neg e, if_neg (fun h => e h.symm)]
/-- by which bytes the places hv sum up to the data places -/
def dW (n : Nat) (hv : Nat → Nat) : Mat := fun i k => (gaussM n (eyeM n hv) n).1 i (n + k)
theorem dW_byt (n : Nat) (hv : Nat → Nat) : Byt (dW n hv) := fun i k => gaussM_byt (eyeM_byt n hv) n i (n + k)
theorem dW_inv {n : Nat} {hv : Nat → Nat} (hf : (gaussM n (eyeM n hv) n).2 = n) (i j : Nat) (hi : i < n) (hj : j < n) : dotN (dW n hv i) (fun k => genN n (hv k) 8 j) n = if i = j then 1 else 0 := by
  have h1 := LinP.gauss (plM_byt n hv) (eyeM_byt n hv) (eyeM_lin n hv) n i j hi hj
  have h2 := gaussM_unit (eyeM_byt n hv) n (Nat.le_refl _) hf i j hi hj
  exact h1.symm.trans h2
/-- the sums of these are the weights -/
theorem weights_way {n want : Nat} (h1 : 1 ≤ n) (h2 : n ≤ 4) {hv : Nat → Nat} (hlt : ∀ j, j < n → hv j < n + 2) (hr : ∀ j, j + 1 < n → hv j < hv (j + 1)) (k : Nat) (hk : k < n) :
    dotN (genN n want 8) (fun t => dW n hv t k) n = weightsN n 8 hv want k := by
  have hf := eye_full n h1 h2 hv hlt hr
  have kg := genN_lt n want 8
  have kx : ∀ k, (fun k => dotN (genN n want 8) (fun t => dW n hv t k) n) k < 256 := fun k => dotN_lt kg n
  refine (gaussM_only (x := fun k => dotN (genN n want 8) (fun t => dW n hv t k) n) (aug_byt (wtM_byt n 8 hv) kg) kx (col_full n h1 h2 hv (genN n want 8) hlt hr) (fun i hi => ?_) k hk).symm
  have e1 : aug n (wtM n 8 hv) (genN n want 8) i n = genN n want 8 i := by simp [aug]
  have kp : ∀ k, (fun k => genN n (hv k) 8 i) k < 256 := fun k => genN_lt n (hv k) 8 i
  rw [e1, dotN_congr (s := fun k => genN n (hv k) 8 i) (fun k hk => by simp [aug, hk, wtM]), dotN_swap kp kx, dotN_comb (R := n) kg (dW_byt n hv) kp n (Nat.le_refl _) n,
    dotN_congr2 (y := fun t => if i = t then 1 else 0) (fun t ht => by
      show dotN (dW n hv t) (fun k => genN n (hv k) 8 i) n = _
      rw [dW_inv hf t i ht hi]
      by_cases e : t = i
      · rw [if_pos e, if_pos e.symm]
      · rw [if_neg e, if_neg (fun h => e h.symm)]),
    dotN_swap kg (fun t => by show (if i = t then 1 else 0) < 256; split <;> omega), dotN_unit (i := i) kg n (fun t _ => rfl), if_pos hi]
end Go.Proofs.Ytoadjpacchhleaj
