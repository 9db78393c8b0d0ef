/- What the steps tell: a system whose rows all lead is solved by its right column, and leading hangs on the left columns alone. No Go in sight. -/
import Derived.Test.YtgpglgchbimmaaaGauss
namespace Go.Proofs.Ytgpglgchbimmaaa
open F256

/-- the sum of a row's products with x, the first k of them -/
def dotN (r x : Nat → Nat) : Nat → Nat
  | 0 => 0
  | k + 1 => dotN r x k ^^^ mulN (r k) (x k)
theorem dotN_lt {r x : Nat → Nat} (hr : ∀ j, r j < 256) : ∀ k, dotN r x k < 256
  | 0 => by show 0 < 256; decide
  | k + 1 => xor_lt (dotN_lt hr k) (mulN_lt (hr k))
theorem dotN_congr {r s x : Nat → Nat} : ∀ {k : Nat}, (∀ j, j < k → r j = s j) → dotN r x k = dotN s x k
  | 0, _ => rfl
  | k + 1, h => by rw [dotN, dotN, dotN_congr (fun j hj => h j (by omega)), h k (by omega)]
theorem dotN_add {r s x : Nat → Nat} (hr : ∀ j, r j < 256) (hs : ∀ j, s j < 256) : ∀ k, dotN (fun j => r j ^^^ s j) x k = dotN r x k ^^^ dotN s x k
  | 0 => by simp [dotN]
  | k + 1 => by rw [dotN, dotN, dotN, dotN_add hr hs k, mulN_xor_left (hr k) (hs k), xor4]
theorem dotN_scale {p : Nat} {r x : Nat → Nat} (hp : p < 256) (hr : ∀ j, r j < 256) (hx : ∀ j, x j < 256) : ∀ k, dotN (fun j => mulN p (r j)) x k = mulN p (dotN r x k)
  | 0 => (mulN_zero p).symm
  | k + 1 => by rw [dotN, dotN, dotN_scale hp hr hx k, mulN_assoc hp (hr k) (hx k), mulN_xor_right hp (dotN_lt hr k) (mulN_lt (hr k))]

/-- x solves the first R rows, whose right bytes stand in the column R -/
def Sol (R : Nat) (M : Mat) (x : Nat → Nat) : Prop := ∀ i, i < R → dotN (M i) x R = M i R
theorem Sol.of_swap {R r a : Nat} {M : Mat} {x : Nat → Nat} (hr : r < R) (ha : a < R) (h : Sol R (swapM M r a) x) : Sol R M x := fun i hi => by
  by_cases e1 : i = r
  · subst e1
    have := h a ha
    simp only [swapM] at this
    by_cases e2 : a = i
    · subst e2
      simpa using this
    · simpa [e2] using this
  · by_cases e2 : i = a
    · subst e2
      have := h r hr
      simpa [swapM] using this
    · have := h i hi
      simpa [swapM, e1, e2] using this
theorem Sol.of_scale {R r c : Nat} {M : Mat} {x : Nat → Nat} (kM : Byt M) (kx : ∀ j, x j < 256) (hr : r < R) (h0 : M r c ≠ 0) (h : Sol R (scaleM M r c) x) : Sol R M x := fun i hi => by
  by_cases e1 : i = r
  · subst e1
    have h1 := h i hr
    simp only [scaleM, if_pos] at h1
    rw [dotN_scale (powN_lt _) (kM i) kx] at h1
    have h2 : mulN (powN (M i c) 254) (M i c) = 1 := invN_mul (kM i c) h0
    have h3 : mulN (M i c) (powN (M i c) 254) = 1 := by rw [mulN_comm (kM i c) (powN_lt _)]; exact h2
    have h4 := congrArg (mulN (M i c)) h1
    rw [← mulN_assoc (kM i c) (powN_lt _) (dotN_lt (kM i) R), ← mulN_assoc (kM i c) (powN_lt _) (kM i R), h3, one_mulN (dotN_lt (kM i) R), one_mulN (kM i R)] at h4
    exact h4
  · have := h i hi
    simpa [scaleM, e1] using this
theorem xor_cancel {a b c d : Nat} (h : a ^^^ b = c ^^^ d) (e : b = d) : a = c := by
  subst e
  have := congrArg (· ^^^ b) h
  simpa [Nat.xor_assoc] using this
theorem Sol.of_clear {R r c : Nat} {M : Mat} {x : Nat → Nat} (kM : Byt M) (kx : ∀ j, x j < 256) (hr : r < R) (h : Sol R (clearM M r c R) x) : Sol R M x := fun i hi => by
  have hrr : dotN (M r) x R = M r R := by
    have := h r hr
    simpa [clearM] using this
  by_cases e1 : i = r
  · rw [e1]; exact hrr
  · have h1 := h i hi
    have hc : i < R ∧ i ≠ r := ⟨hi, e1⟩
    simp only [clearM, if_pos hc] at h1
    rw [dotN_add (kM i) (fun j => mulN_lt (kM i c)), dotN_scale (kM i c) (kM r) kx, hrr] at h1
    exact xor_cancel h1 rfl
theorem swapM_at {M : Mat} {r a j : Nat} : swapM M r a r j = M a j := by simp [swapM]
theorem Sol.of_step {R c : Nat} {s : Mat × Nat} {x : Nat → Nat} (kM : Byt s.1) (kx : ∀ j, x j < 256) (hr : s.2 ≤ R) (h : Sol R (stepM R s c).1 x) : Sol R s.1 x := by
  have hl := lead_is s.1 c R s.2 hr
  unfold stepM at h
  by_cases e : lead s.1 c R s.2 = R
  · rw [if_pos e] at h
    exact h
  · rw [if_neg e] at h
    have h1 := hl.1
    have h2 := hl.2.1
    have h4 := hl.2.2.2 (by omega)
    have hrR : s.2 < R := by omega
    have k1 := swapM_byt kM s.2 (lead s.1 c R s.2)
    have q1 := Sol.of_clear (scaleM_byt k1 s.2 c) kx hrR h
    have q2 := Sol.of_scale k1 kx hrR (by rw [swapM_at]; exact h4) q1
    exact Sol.of_swap hrR (by omega) q2
theorem Sol.of_gauss {R : Nat} {M : Mat} {x : Nat → Nat} (kM : Byt M) (kx : ∀ j, x j < 256) : ∀ k, Sol R (gaussM R M k).1 x → Sol R M x
  | 0, h => h
  | k + 1, h => Sol.of_gauss kM kx k (Sol.of_step (gaussM_byt kM k) kx (gaussM_le k).1 h)

/-- the first k columns are those of the one matrix -/
def Unit (R k : Nat) (M : Mat) : Prop := ∀ i j, i < R → j < k → M i j = if i = j then 1 else 0
theorem gaussM_grow {R : Nat} {M : Mat} (k : Nat) : (gaussM R M (k + 1)).2 ≤ (gaussM R M k).2 + 1 := by
  simp only [gaussM, stepM]
  split
  · omega
  · exact Nat.le_refl _
theorem Unit.step {R k : Nat} {M : Mat} (kM : Byt M) (h : Unit R k M) (hne : (stepM R (M, k) k).2 = k + 1) (hk : k ≤ R) : Unit R (k + 1) (stepM R (M, k) k).1 := by
  have hl := lead_is M k R k hk
  unfold stepM at hne ⊢
  by_cases e : lead M k R k = R
  · rw [if_pos e] at hne
    exact absurd hne (by simp)
  · rw [if_neg e]
    show Unit R (k + 1) (clearM (scaleM (swapM M k (lead M k R k)) k k) k k R)
    obtain ⟨a, ha⟩ : ∃ a, a = lead M k R k := ⟨_, rfl⟩
    rw [← ha] at hl e ⊢
    have h1 := hl.1
    have h2 := hl.2.1
    have h4 := hl.2.2.2 (by omega)
    obtain ⟨S, hS⟩ : ∃ S, S = swapM M k a := ⟨_, rfl⟩
    have kS : Byt S := by rw [hS]; exact swapM_byt kM k a
    have hSk : S k k ≠ 0 := by rw [hS, swapM_at]; exact h4
    have uS : Unit R k S := fun i j hi hj => by
      rw [hS]
      by_cases c1 : i = k
      · have e2 := h a j (by omega) hj
        rw [if_neg (by omega)] at e2
        simp only [swapM, if_pos c1]
        rw [e2, if_neg (by omega)]
      · by_cases c2 : i = a
        · have e2 := h k j (by omega) hj
          rw [if_neg (by omega)] at e2
          simp only [swapM, if_neg c1, if_pos c2]
          rw [e2, if_neg (by omega)]
        · simp only [swapM, if_neg c1, if_neg c2]
          exact h i j hi hj
    rw [← hS]
    obtain ⟨T, hT⟩ : ∃ T, T = scaleM S k k := ⟨_, rfl⟩
    have kT : Byt T := by rw [hT]; exact scaleM_byt kS k k
    have hTk : T k k = 1 := by
      rw [hT]
      simp only [scaleM, if_pos]
      exact invN_mul (kS k k) hSk
    have uT : Unit R k T := fun i j hi hj => by
      rw [hT]
      by_cases c1 : i = k
      · have e2 := uS k j (by omega) hj
        rw [if_neg (by omega)] at e2
        simp only [scaleM, if_pos c1]
        rw [e2, mulN_zero, if_neg (by omega)]
      · simp only [scaleM, if_neg c1]
        exact uS i j hi hj
    rw [← hT]
    intro i j hi hj
    by_cases c1 : i = k
    · have hc : ¬ (i < R ∧ i ≠ k) := by omega
      simp only [clearM, if_neg hc]
      by_cases c2 : j = k
      · rw [c1, c2, hTk, if_pos rfl]
      · exact uT i j hi (by omega)
    · have hc : i < R ∧ i ≠ k := ⟨hi, c1⟩
      simp only [clearM, if_pos hc]
      by_cases c2 : j = k
      · rw [c2, hTk, mulN_one (kT i k), Nat.xor_self, if_neg c1]
      · have e2 := uT k j (by omega) (by omega)
        rw [if_neg (by omega)] at e2
        rw [e2, mulN_zero, Nat.xor_zero]
        exact uT i j hi (by omega)
theorem gaussM_unit {R : Nat} {M : Mat} (kM : Byt M) : ∀ k, k ≤ R → (gaussM R M k).2 = k → Unit R k (gaussM R M k).1
  | 0, _, _ => fun i j _ hj => absurd hj (Nat.not_lt_zero j)
  | k + 1, hk, h => by
    have h1 := gaussM_grow (R := R) (M := M) k
    have h2 := (gaussM_le (R := R) (M := M) k).2
    have h3 : (gaussM R M k).2 = k := by omega
    have ih := gaussM_unit kM k (by omega) h3
    have e : gaussM R M k = ((gaussM R M k).1, k) := Prod.ext rfl h3
    have hstep : gaussM R M (k + 1) = stepM R ((gaussM R M k).1, k) k := by
      show stepM R (gaussM R M k) k = _
      rw [← e]
    rw [hstep] at h ⊢
    exact Unit.step (gaussM_byt kM k) ih h (by omega)
theorem dotN_unit {x : Nat → Nat} {i : Nat} {r : Nat → Nat} (hx : ∀ j, x j < 256) : ∀ k, (∀ j, j < k → r j = if i = j then 1 else 0) → dotN r x k = if i < k then x i else 0
  | 0, _ => rfl
  | k + 1, h => by
    rw [dotN, dotN_unit hx k (fun j hj => h j (by omega)), h k (by omega)]
    by_cases e : i = k
    · subst e
      rw [if_neg (by omega), if_pos rfl, if_pos (by omega), one_mulN (hx i), Nat.zero_xor]
    · rw [if_neg e, zero_mulN (hx k), Nat.xor_zero]
      by_cases c : i < k
      · rw [if_pos c, if_pos (by omega)]
      · rw [if_neg c, if_neg (by omega)]
/-- where all rows lead, the right column solves them -/
theorem gaussM_solves {R : Nat} {M : Mat} (kM : Byt M) (h : (gaussM R M R).2 = R) : Sol R M (fun i => (gaussM R M R).1 i R) := by
  have kG := gaussM_byt (R := R) kM R
  refine Sol.of_gauss kM (fun j => kG j R) R fun i hi => ?_
  have u := gaussM_unit kM R (Nat.le_refl _) h
  have := dotN_unit (x := fun i => (gaussM R M R).1 i R) (i := i) (r := (gaussM R M R).1 i) (fun j => kG j R) R (fun j hj => u i j hi hj)
  rw [this, if_pos hi]

/-- two matrices that are the same in the first C columns -/
def Same (C : Nat) (M N : Mat) : Prop := ∀ i j, j < C → M i j = N i j
theorem leadF_same {C c R : Nat} {M N : Mat} (h : Same C M N) (hc : c < C) : ∀ d i, leadF M c R d i = leadF N c R d i
  | 0, _ => rfl
  | d + 1, i => by simp only [leadF, h i c hc, leadF_same h hc d (i + 1)]
theorem lead_same {C c R r : Nat} {M N : Mat} (h : Same C M N) (hc : c < C) : lead M c R r = lead N c R r := leadF_same h hc _ _
theorem swapM_same {C r a : Nat} {M N : Mat} (h : Same C M N) : Same C (swapM M r a) (swapM N r a) := fun i j hj => by
  unfold swapM
  split
  · exact h a j hj
  · split
    · exact h r j hj
    · exact h i j hj
theorem scaleM_same {C r c : Nat} {M N : Mat} (h : Same C M N) (hc : c < C) : Same C (scaleM M r c) (scaleM N r c) := fun i j hj => by
  unfold scaleM
  split
  · show mulN (powN (M r c) 254) (M r j) = mulN (powN (N r c) 254) (N r j)
    rw [h r c hc, h r j hj]
  · exact h i j hj
theorem clearM_same {C r c k : Nat} {M N : Mat} (h : Same C M N) (hc : c < C) : Same C (clearM M r c k) (clearM N r c k) := fun i j hj => by
  unfold clearM
  split
  · show M i j ^^^ mulN (M i c) (M r j) = N i j ^^^ mulN (N i c) (N r j)
    rw [h i c hc, h r j hj, h i j hj]
  · exact h i j hj
theorem gaussM_same {C R : Nat} {M N : Mat} (h : Same C M N) : ∀ k, k ≤ C → Same C (gaussM R M k).1 (gaussM R N k).1 ∧ (gaussM R M k).2 = (gaussM R N k).2
  | 0, _ => ⟨h, rfl⟩
  | k + 1, hk => by
    obtain ⟨i1, i2⟩ := gaussM_same h k (by omega)
    have hl := lead_same (R := R) (r := (gaussM R M k).2) i1 (show k < C by omega)
    simp only [gaussM, stepM]
    rw [← i2, ← hl]
    by_cases e : lead (gaussM R M k).1 k R (gaussM R M k).2 = R
    · rw [if_pos e, if_pos e]
      exact ⟨i1, i2⟩
    · rw [if_neg e, if_neg e]
      exact ⟨clearM_same (scaleM_same (swapM_same i1) (by omega)) (by omega), rfl⟩
end Go.Proofs.Ytgpglgchbimmaaa
