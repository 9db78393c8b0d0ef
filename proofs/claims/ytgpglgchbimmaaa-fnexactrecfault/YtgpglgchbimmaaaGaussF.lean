/- Rows with a left inverse all lead. No Go in sight. -/
import Derived.Test.YtgpglgchbimmaaaGaussS
namespace Go.Proofs.Ytgpglgchbimmaaa
open F256

/-- the column C is 0 in every row -/
def NoCol (C : Nat) (M : Mat) : Prop := ∀ i, M i C = 0
theorem NoCol.step {R C c : Nat} {s : Mat × Nat} (h : NoCol C s.1) : NoCol C (stepM R s c).1 := by
  unfold stepM
  split
  · exact h
  · intro i
    show clearM (scaleM (swapM s.1 s.2 (lead s.1 c R s.2)) s.2 c) s.2 c R i C = 0
    have h1 : ∀ i, swapM s.1 s.2 (lead s.1 c R s.2) i C = 0 := fun i => by
      unfold swapM
      split
      · exact h _
      · split
        · exact h _
        · exact h _
    have h2 : ∀ i, scaleM (swapM s.1 s.2 (lead s.1 c R s.2)) s.2 c i C = 0 := fun i => by
      unfold scaleM
      split
      · show mulN _ (swapM s.1 s.2 (lead s.1 c R s.2) s.2 C) = 0
        rw [h1, mulN_zero]
      · exact h1 _
    unfold clearM
    split
    · show scaleM (swapM s.1 s.2 (lead s.1 c R s.2)) s.2 c i C ^^^ mulN _ (scaleM (swapM s.1 s.2 (lead s.1 c R s.2)) s.2 c s.2 C) = 0
      rw [h2, h2, mulN_zero]
      rfl
    · exact h2 _
theorem NoCol.gauss {R C : Nat} {M : Mat} (h : NoCol C M) : ∀ k, NoCol C (gaussM R M k).1
  | 0 => h
  | k + 1 => NoCol.step (NoCol.gauss h k)

/-- where a column does not lead, some x that is not 0 is sent to 0 -/
theorem dotN_two {r x : Nat → Nat} {c i : Nat} (hx : ∀ j, x j < 256) (hr : ∀ j, j < c → r j = if i = j then 1 else 0) (hx0 : ∀ j, c < j → x j = 0) (hc : x c = 1) (hr2 : r c < 256) : ∀ R, c < R → dotN r x R = (if i < c then x i else 0) ^^^ r c
  | 0, h => by omega
  | R + 1, h => by
    rw [dotN]
    by_cases e : c = R
    · subst e
      rw [dotN_unit hx c hr, hc, mulN_one hr2]
    · rw [dotN_two hx hr hx0 hc hr2 R (by omega), hx0 R (by omega), mulN_zero, Nat.xor_zero]
theorem gaussM_null {R : Nat} {M : Mat} (kM : Byt M) (h0 : NoCol R M) (h : (gaussM R M R).2 ≠ R) : ∃ (x : Nat → Nat) (c : Nat), (∀ j, x j < 256) ∧ c < R ∧ x c = 1 ∧ ∀ i, i < R → dotN (M i) x R = 0 := by
  -- the first column that does not lead
  have hex : ∃ c, c < R ∧ (gaussM R M c).2 = c ∧ (gaussM R M (c + 1)).2 ≠ c + 1 := by
    have : ∀ k, k ≤ R → (gaussM R M k).2 = k ∨ ∃ c, c < k ∧ (gaussM R M c).2 = c ∧ (gaussM R M (c + 1)).2 ≠ c + 1 := by
      intro k
      induction k with
      | zero => intro _; exact .inl rfl
      | succ k ih =>
        intro hk
        rcases ih (by omega) with h1 | ⟨c, h1, h2⟩
        · by_cases h2 : (gaussM R M (k + 1)).2 = k + 1
          · exact .inl h2
          · exact .inr ⟨k, by omega, h1, h2⟩
        · exact .inr ⟨c, by omega, h2⟩
    rcases this R (Nat.le_refl _) with h1 | ⟨c, h1, h2⟩
    · exact absurd h1 h
    · exact ⟨c, h1, h2⟩
  obtain ⟨c, hcR, hc1, hc2⟩ := hex
  have kG := gaussM_byt (R := R) kM c
  have u := gaussM_unit kM c (by omega) hc1
  have hl := lead_is (gaussM R M c).1 c R c (by omega)
  have hlead : lead (gaussM R M c).1 c R c = R := Classical.byContradiction fun hne => hc2 (by
    show (stepM R (gaussM R M c) c).2 = c + 1
    unfold stepM
    rw [hc1, if_neg hne])
  have hz : ∀ i, c ≤ i → i < R → (gaussM R M c).1 i c = 0 := fun i h1 h2 => hl.2.2.1 i h1 (by omega)
  refine ⟨fun j => if j < c then (gaussM R M c).1 j c else if j = c then 1 else 0, c, fun j => ?_, hcR, by simp, ?_⟩
  · show (if j < c then (gaussM R M c).1 j c else if j = c then 1 else 0) < 256
    split
    · exact kG j c
    · split <;> omega
  · have hx : ∀ j, (fun j => if j < c then (gaussM R M c).1 j c else if j = c then 1 else 0) j < 256 := fun j => by
      show (if j < c then (gaussM R M c).1 j c else if j = c then 1 else 0) < 256
      split
      · exact kG j c
      · split <;> omega
    have hsol : Sol R (gaussM R M c).1 (fun j => if j < c then (gaussM R M c).1 j c else if j = c then 1 else 0) := fun i hi => by
      rw [dotN_two (c := c) (i := i) hx (fun j hj => u i j hi hj) (fun j hj => by simp [show ¬ j < c by omega, show ¬ j = c by omega]) (by simp) (kG i c) R hcR, NoCol.gauss h0 c i]
      by_cases e : i < c
      · simp [e]
      · rw [if_neg e, hz i (by omega) hi]
        rfl
    have hs := Sol.of_gauss kM hx c hsol
    intro i hi
    rw [hs i hi, h0 i]
/-- rows with a left inverse (B times the rows is the one matrix) all lead -/
def mulM (B A : Mat) (R : Nat) : Mat := fun i j => dotN (B i) (fun k => A k j) R
theorem dotN_comb {R : Nat} {b : Nat → Nat} {A : Mat} {x : Nat → Nat} (hb : ∀ j, b j < 256) (hA : Byt A) (hx : ∀ j, x j < 256) : ∀ n, n ≤ R → ∀ m, dotN (fun j => dotN b (fun k => A k j) n) x m = dotN b (fun k => dotN (A k) x m) n := by
  intro n
  induction n with
  | zero =>
    intro _ m
    induction m with
    | zero => rfl
    | succ m ihm =>
      show dotN (fun j => dotN b (fun k => A k j) 0) x m ^^^ mulN 0 (x m) = 0
      rw [zero_mulN (hx m), ihm]
      simp [dotN]
  | succ n ih =>
    intro hn m
    have e1 : (fun j => dotN b (fun k => A k j) (n + 1)) = fun j => dotN b (fun k => A k j) n ^^^ mulN (b n) (A n j) := rfl
    rw [e1, dotN_add (fun j => dotN_lt hb n) (fun j => mulN_lt (hb n)), ih (by omega) m, dotN_scale (hb n) (hA n) hx]
    rfl
theorem full_of_inv {R : Nat} {A B : Mat} (kA : Byt A) (kB : Byt B) (h0 : NoCol R A) (h : ∀ i j, i < R → j < R → mulM B A R i j = if i = j then 1 else 0) : (gaussM R A R).2 = R := by
  refine Classical.byContradiction fun hne => ?_
  obtain ⟨x, c, hx, hc, hxc, hz⟩ := gaussM_null kA h0 hne
  have h1 := dotN_comb (R := R) (b := B c) (A := A) (x := x) (kB c) kA hx R (Nat.le_refl _) R
  have h2 : dotN (fun j => dotN (B c) (fun k => A k j) R) x R = x c := by
    have := dotN_unit (x := x) (r := fun j => dotN (B c) (fun k => A k j) R) (i := c) hx R (fun j hj => h c j hc hj)
    rw [this, if_pos hc]
  have h3 : dotN (B c) (fun k => dotN (A k) x R) R = 0 := by
    have : ∀ n, n ≤ R → dotN (B c) (fun k => dotN (A k) x R) n = 0 := by
      intro n
      induction n with
      | zero => intro _; rfl
      | succ n ih =>
        intro hn
        rw [dotN, ih (by omega)]
        show 0 ^^^ mulN (B c n) (dotN (A n) x R) = 0
        rw [hz n (by omega), mulN_zero]
        rfl
    exact this R (Nat.le_refl _)
  rw [h2, h3, hxc] at h1
  exact absurd h1 (by decide)
end Go.Proofs.Ytgpglgchbimmaaa
