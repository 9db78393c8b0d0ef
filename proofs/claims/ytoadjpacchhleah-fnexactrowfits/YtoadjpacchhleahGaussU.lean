/- Where all rows lead there is one solution: so a place that is among those at hand weighs 1 and the others 0. No Go in sight. -/
import Derived.Test.YtoadjpacchhleahGaussW
namespace Go.Proofs.Ytoadjpacchhleah
open F256

theorem Sol.to_swap {R r a : Nat} {M : Mat} {x : Nat → Nat} (hr : r < R) (ha : a < R) (h : Sol R M x) : Sol R (swapM M r a) x := fun i hi => by
  unfold swapM
  split
  · exact h a ha
  · split
    · exact h r hr
    · exact h i hi
theorem Sol.to_scale {R r c : Nat} {M : Mat} {x : Nat → Nat} (kM : Byt M) (kx : ∀ j, x j < 256) (h : Sol R M x) : Sol R (scaleM M r c) x := fun i hi => by
  by_cases e : i = r
  · subst e
    simp only [scaleM, if_pos]
    rw [dotN_scale (powN_lt _) (kM i) kx, h i hi]
  · simp only [scaleM, if_neg e]
    exact h i hi
theorem Sol.to_clear {R r c : Nat} {M : Mat} {x : Nat → Nat} (kM : Byt M) (kx : ∀ j, x j < 256) (hr : r < R) (h : Sol R M x) : Sol R (clearM M r c R) x := fun i hi => by
  by_cases e : i < R ∧ i ≠ r
  · simp only [clearM, if_pos e]
    rw [dotN_add (kM i) (fun j => mulN_lt (kM i c)), dotN_scale (kM i c) (kM r) kx, h i hi, h r hr]
  · simp only [clearM, if_neg e]
    exact h i hi
theorem Sol.to_step {R c : Nat} {s : Mat × Nat} {x : Nat → Nat} (kM : Byt s.1) (kx : ∀ j, x j < 256) (hr : s.2 ≤ R) (h : Sol R s.1 x) : Sol R (stepM R s c).1 x := by
  have hl := lead_is s.1 c R s.2 hr
  unfold stepM
  by_cases e : lead s.1 c R s.2 = R
  · rw [if_pos e]; exact h
  · rw [if_neg e]
    have h1 := hl.1
    have h2 := hl.2.1
    have hrR : s.2 < R := by omega
    have k1 := swapM_byt kM s.2 (lead s.1 c R s.2)
    exact Sol.to_clear (scaleM_byt k1 s.2 c) kx hrR (Sol.to_scale k1 kx (Sol.to_swap hrR (by omega) h))
theorem Sol.to_gauss {R : Nat} {M : Mat} {x : Nat → Nat} (kM : Byt M) (kx : ∀ j, x j < 256) (h : Sol R M x) : ∀ k, Sol R (gaussM R M k).1 x
  | 0 => h
  | k + 1 => Sol.to_step (gaussM_byt kM k) kx (gaussM_le k).1 (Sol.to_gauss kM kx h k)
/-- where all rows lead, a solution is the right column -/
theorem gaussM_only {R : Nat} {M : Mat} {x : Nat → Nat} (kM : Byt M) (kx : ∀ j, x j < 256) (hf : (gaussM R M R).2 = R) (h : Sol R M x) (i : Nat) (hi : i < R) : (gaussM R M R).1 i R = x i := by
  have h1 := Sol.to_gauss kM kx h R i hi
  have u := gaussM_unit kM R (Nat.le_refl _) hf
  rw [dotN_unit (i := i) kx R (fun j hj => u i j hi hj), if_pos hi] at h1
  exact h1.symm
/-- a place that is at hand weighs 1, the others 0 -/
theorem weights_unit {n base k0 : Nat} {hv : Nat → Nat} (hk : k0 < n) (hfull : (gaussM n (aug n (wtM n base hv) (genN n (hv k0) base)) n).2 = n) (i : Nat) (hi : i < n) :
    weightsN n base hv (hv k0) i = if i = k0 then 1 else 0 := by
  refine gaussM_only (x := fun i => if i = k0 then 1 else 0) (aug_byt (wtM_byt n base hv) (genN_lt n (hv k0) base)) (fun j => by show (if j = k0 then 1 else 0) < 256; split <;> omega) hfull (fun i hi => ?_) i hi
  have h1 : aug n (wtM n base hv) (genN n (hv k0) base) i n = genN n (hv k0) base i := by simp [aug]
  have kA : ∀ j, aug n (wtM n base hv) (genN n (hv k0) base) i j < 256 := fun j => aug_byt (wtM_byt n base hv) (genN_lt n (hv k0) base) i j
  have ku : ∀ j, (fun i => if i = k0 then 1 else 0 : Nat → Nat) j < 256 := fun j => by show (if j = k0 then 1 else 0) < 256; split <;> omega
  rw [h1, dotN_swap kA ku, dotN_unit (i := k0) kA n (fun j _ => by
    show (if j = k0 then 1 else 0) = if k0 = j then 1 else 0
    by_cases e : j = k0
    · rw [if_pos e, if_pos e.symm]
    · rw [if_neg e, if_neg (fun h => e h.symm)]), if_pos hk]
  simp [aug, hk, wtM]
end Go.Proofs.Ytoadjpacchhleah
