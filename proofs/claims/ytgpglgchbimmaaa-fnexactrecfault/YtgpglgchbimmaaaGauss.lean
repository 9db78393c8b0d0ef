/- Rows brought to steps, as plain functions on matrices of bytes. No Go in sight. -/
import Derived.Test.YtgpglgchbimmaaaField
namespace Go.Proofs.Ytgpglgchbimmaaa
open F256
abbrev Mat := Nat → Nat → Nat

/-- a is the first row from r on that is not 0 in the column c, or R -/
def IsLead (M : Mat) (c R r a : Nat) : Prop := r ≤ a ∧ a ≤ R ∧ (∀ i, r ≤ i → i < a → M i c = 0) ∧ (a < R → M a c ≠ 0)
theorem IsLead.one {M : Mat} {c R r a b : Nat} (h : IsLead M c R r a) (k : IsLead M c R r b) : a = b := by
  obtain ⟨h1, h2, h3, h4⟩ := h
  obtain ⟨k1, k2, k3, k4⟩ := k
  rcases Nat.lt_trichotomy a b with hlt | he | hlt
  · exact absurd (k3 a h1 hlt) (h4 (by omega))
  · exact he
  · exact absurd (h3 b k1 hlt) (k4 (by omega))
def leadF (M : Mat) (c R : Nat) : Nat → Nat → Nat
  | 0, _ => R
  | d + 1, i => if M i c = 0 then leadF M c R d (i + 1) else i
theorem leadF_is (M : Mat) (c R : Nat) : ∀ d i, i + d = R → IsLead M c R i (leadF M c R d i)
  | 0, i, h => ⟨by simp only [leadF]; omega, Nat.le_refl _, fun j h1 h2 => by simp only [leadF] at h2; omega, fun h => by simp only [leadF] at h; omega⟩
  | d + 1, i, h => by
    have ih := leadF_is M c R d (i + 1) (by omega)
    by_cases e : M i c = 0
    · simp only [leadF, if_pos e]
      refine ⟨by have := ih.1; omega, ih.2.1, fun j h1 h2 => ?_, ih.2.2.2⟩
      by_cases ej : j = i
      · rw [ej]; exact e
      · exact ih.2.2.1 j (by omega) h2
    · simp only [leadF, if_neg e]
      exact ⟨Nat.le_refl _, by omega, fun j h1 h2 => by omega, fun _ => e⟩
def lead (M : Mat) (c R r : Nat) : Nat := leadF M c R (R - r) r
theorem lead_is (M : Mat) (c R r : Nat) (h : r ≤ R) : IsLead M c R r (lead M c R r) := leadF_is M c R (R - r) r (by omega)
theorem lead_eq {M : Mat} {c R r a : Nat} (h : IsLead M c R r a) : lead M c R r = a := (lead_is M c R r (Nat.le_trans h.1 h.2.1)).one h
theorem lead_end (M : Mat) (c R : Nat) : lead M c R R = R := by simp [lead, leadF]

def swapM (M : Mat) (r a : Nat) : Mat := fun i => if i = r then M a else if i = a then M r else M i
def scaleM (M : Mat) (r c : Nat) : Mat := fun i => if i = r then (fun j => mulN (powN (M r c) 254) (M r j)) else M i
/-- the first k rows but r cleared in the column c -/
def clearM (M : Mat) (r c k : Nat) : Mat := fun i => if i < k ∧ i ≠ r then (fun j => M i j ^^^ mulN (M i c) (M r j)) else M i
def stepM (R : Nat) (s : Mat × Nat) (c : Nat) : Mat × Nat :=
  if lead s.1 c R s.2 = R then s else (clearM (scaleM (swapM s.1 s.2 (lead s.1 c R s.2)) s.2 c) s.2 c R, s.2 + 1)
def gaussM (R : Nat) (M : Mat) : Nat → Mat × Nat
  | 0 => (M, 0)
  | k + 1 => stepM R (gaussM R M k) k
def Byt (M : Mat) : Prop := ∀ i j, M i j < 256
theorem swapM_byt {M : Mat} (h : Byt M) (r a : Nat) : Byt (swapM M r a) := fun i j => by
  unfold swapM
  split
  · exact h a j
  · split
    · exact h r j
    · exact h i j
theorem scaleM_byt {M : Mat} (h : Byt M) (r c : Nat) : Byt (scaleM M r c) := fun i j => by
  unfold scaleM
  split
  · exact mulN_lt (powN_lt _)
  · exact h i j
theorem clearM_byt {M : Mat} (h : Byt M) (r c k : Nat) : Byt (clearM M r c k) := fun i j => by
  unfold clearM
  split
  · exact xor_lt (h i j) (mulN_lt (h i c))
  · exact h i j
theorem stepM_byt {R : Nat} {s : Mat × Nat} (h : Byt s.1) (c : Nat) : Byt (stepM R s c).1 := by
  unfold stepM
  split
  · exact h
  · exact clearM_byt (scaleM_byt (swapM_byt h _ _) _ _) _ _ _
theorem gaussM_byt {R : Nat} {M : Mat} (h : Byt M) : ∀ k, Byt (gaussM R M k).1
  | 0 => h
  | k + 1 => stepM_byt (gaussM_byt h k) k
theorem gaussM_le {R : Nat} {M : Mat} : ∀ k, (gaussM R M k).2 ≤ R ∧ (gaussM R M k).2 ≤ k
  | 0 => ⟨Nat.zero_le _, Nat.le_refl _⟩
  | k + 1 => by
    have ih := gaussM_le (R := R) (M := M) k
    have hl := lead_is (gaussM R M k).1 k R (gaussM R M k).2 ih.1
    simp only [gaussM, stepM]
    split
    · omega
    · rename_i hne
      have h1 := hl.1
      have h2 := hl.2.1
      show (gaussM R M k).2 + 1 ≤ R ∧ _
      omega
/-- where all rows have led, nothing turns -/
theorem gaussM_full {R : Nat} {M : Mat} {k : Nat} (h : (gaussM R M k).2 = R) : ∀ d, gaussM R M (k + d) = gaussM R M k
  | 0 => rfl
  | d + 1 => by
    have ih := gaussM_full h d
    show stepM R (gaussM R M (k + d)) (k + d) = _
    rw [ih]
    unfold stepM
    rw [if_pos]
    rw [h]
    exact lead_end _ _ _
theorem clearM_next {M : Mat} {r c k : Nat} (hk : k ≠ r) : clearM M r c (k + 1) = fun i => if i = k then (fun j => clearM M r c k k j ^^^ mulN (clearM M r c k k c) (clearM M r c k r j)) else clearM M r c k i := by
  funext i
  by_cases e : i = k
  · subst e
    have h1 : i < i + 1 ∧ i ≠ r := ⟨by omega, hk⟩
    have h2 : ¬ (i < i ∧ i ≠ r) := by omega
    have h3 : ¬ (r < i ∧ r ≠ r) := by omega
    simp only [clearM, if_pos h1, if_neg h2, if_neg h3, if_pos]
  · by_cases h : i < k ∧ i ≠ r
    · have h' : i < k + 1 ∧ i ≠ r := ⟨by omega, h.2⟩
      simp only [clearM, if_pos h, if_pos h', if_neg e]
    · have h' : ¬ (i < k + 1 ∧ i ≠ r) := by omega
      simp only [clearM, if_neg h, if_neg h', if_neg e]
theorem clearM_skip {M : Mat} {c k : Nat} : clearM M k c (k + 1) = clearM M k c k := by
  funext i
  by_cases h : i < k ∧ i ≠ k
  · have h' : i < k + 1 ∧ i ≠ k := ⟨by omega, h.2⟩
    simp only [clearM, if_pos h, if_pos h']
  · have h' : ¬ (i < k + 1 ∧ i ≠ k) := by omega
    simp only [clearM, if_neg h, if_neg h']
theorem clearM_zero {M : Mat} {r c : Nat} : clearM M r c 0 = M := by
  funext i
  simp [clearM]
end Go.Proofs.Ytgpglgchbimmaaa
