/- Any so many lists of a column as it has groups tell it. No Go in sight. -/
import Derived.Test.YtoadjpacchhleaaColDefs
namespace Go.Proofs.Ytoadjpacchhleaa
open F256

theorem mixN_dotC (f : Mat) (c : Nat → Nat) (j : Nat) : ∀ k, mixN f c k j = dotN c (fun t => f t j) k
  | 0 => rfl
  | k + 1 => by rw [mixN, dotN, mixN_dotC f c j k]
theorem mixN_sameC {f g : Mat} {c : Nat → Nat} {j : Nat} : ∀ {k : Nat}, (∀ i, i < k → f i j = g i j) → mixN f c k j = mixN g c k j
  | 0, _ => rfl
  | k + 1, h => by rw [mixN, mixN, mixN_sameC (fun i hi => h i (by omega)), h k (by omega)]
/-- the lists of a column: R of data, the parity behind them -/
def allN (R : Nat) (f : Mat) : Mat := fun p => if p < R then f p else parN R f (p - R)
theorem allN_byt {R : Nat} {f : Mat} (kf : Byt f) : Byt (allN R f) := fun p t => by
  unfold allN
  split
  · exact kf p t
  · exact parN_byt R f _ _
theorem allN_dot {R : Nat} {f : Mat} (kf : Byt f) (p t : Nat) : allN R f p t = dotN (genN R p 8) (fun i => f i t) R := by
  unfold allN
  by_cases c : p < R
  · rw [if_pos c, dotN_gen (x := fun i => f i t) (fun i => kf _ _) c]
  · rw [if_neg c]
    unfold parN
    rw [mixN_dotC, show R + (p - R) = p by omega]
/-- what is picked lies one behind the other -/
theorem pickedC {D R : Nat} {n : Nat → Nat} (hc : D ≤ cntN n R) : (∀ t, t < D → nthN n R t < R ∧ n (nthN n R t) ≠ 0) ∧ ∀ t, t + 1 < D → nthN n R t < nthN n R (t + 1) := by
  refine ⟨fun t ht => ?_, fun t ht => nthN_rise (by omega)⟩
  have q := nthN_spec (n := n) (R := R) (k := t) (by omega)
  exact ⟨q.1, q.2.1⟩
theorem col_back {D R : Nat} {n : Nat → Nat} {f : Mat} (hD1 : 1 ≤ D) (hD : D ≤ 4) (hR : R ≤ D + 2) (hc : D ≤ cntN n R) (kf : Byt f) (p t : Nat) : colN D n R (allN D f) p t = allN D f p t := by
  obtain ⟨p1, p2⟩ := pickedC hc
  have hfull := col_full D hD1 hD (nthN n R) (genN D p 8) (fun t ht => by have := (p1 t ht).1; omega) p2
  have hs := weights_sum (x := fun i => f i t) (fun i => kf _ _) hfull
  unfold colN
  rw [mixN_dotC, allN_dot kf, ← hs]
  exact dotN_congr2 fun k _ => allN_dot kf _ _
theorem par_all {D : Nat} {f : Mat} (j t : Nat) : parN D (allN D f) j t = parN D f j t := by
  unfold parN
  exact mixN_sameC fun i hi => by unfold allN; rw [if_pos hi]
/-- a column with its parity fits -/
theorem fits_col {D c N : Nat} {f : Mat} (hs : Shp3 (D : Int) (c : Int)) : CfP (D + c) (fun _ => N) (allN D f) (c : Int) := by
  obtain ⟨h1, h2, h3, h4⟩ := hs
  refine ⟨⟨h3, h4⟩, ?_, fun _ _ => rfl, fun j hj t ht => ?_⟩
  · exact ⟨by omega, by omega, h3, h4⟩
  · rw [Int.toNat_natCast] at hj ⊢
    rw [show D + c - c = D by omega, par_all]
    unfold allN
    rw [if_neg (by omega), show D + j - D = j by omega]
/-- one list less -/
def lessC (n : Nat → Nat) (r : Nat) : Nat → Nat := fun i => if i = r then 0 else n i
theorem cnt_lessC (n : Nat → Nat) (r : Nat) : ∀ R, cntN n R ≤ cntN (lessC n r) R + (if r < R then 1 else 0)
  | 0 => Nat.zero_le _
  | R + 1 => by
    have ih := cnt_lessC n r R
    by_cases e : R = r
    · subst e
      rw [if_neg (Nat.lt_irrefl R)] at ih
      rw [if_pos (Nat.lt_succ_self R)]
      have h1 : cntN n (R + 1) ≤ cntN n R + 1 := by rw [cntN]; split <;> omega
      have h2 := cntN_mono (lessC n R) (show R ≤ R + 1 by omega)
      omega
    · have h1 : lessC n r R = n R := by unfold lessC; rw [if_neg e]
      have h3 : (if r < R + 1 then 1 else 0) = (if r < R then 1 else 0 : Nat) := by
        by_cases c : r < R
        · rw [if_pos c, if_pos (by omega)]
        · rw [if_neg c, if_neg (by omega)]
      rw [h3]
      by_cases c0 : n R = 0
      · have e1 : cntN n (R + 1) = cntN n R := by rw [cntN, if_pos c0]
        have e2 : cntN (lessC n r) (R + 1) = cntN (lessC n r) R := by rw [cntN, if_pos (by rw [h1]; exact c0)]
        omega
      · have e1 : cntN n (R + 1) = cntN n R + 1 := by rw [cntN, if_neg c0]
        have e2 : cntN (lessC n r) (R + 1) = cntN (lessC n r) R + 1 := by rw [cntN, if_neg (by rw [h1]; exact c0)]
        omega
theorem cntN_allC {n : Nat → Nat} : ∀ {k : Nat}, (∀ i, i < k → n i ≠ 0) → cntN n k = k
  | 0, _ => rfl
  | k + 1, h => by rw [cntN, if_neg (h k (by omega)), cntN_allC (fun i hi => h i (by omega))]
/-- lists of N bytes, some of which are struck out: what DecodeColumn answers -/
theorem dc_some {D c N : Nat} {n : Nat → Nat} (hs : Shp3 (D : Int) (c : Int)) (hN : N ≤ 4000) (hN1 : 1 ≤ N) (hn : ∀ i, i < D + c → n i = 0 ∨ n i = N) (hc : D ≤ cntN n (D + c)) : DcAns (D : Int) (c : Int) (D + c) n 0 ∧ n (nthN n (D + c) 0) = N := by
  have hD1 := hs.1
  have each : ∀ t, t < cntN n (D + c) → n (nthN n (D + c) t) = N := fun t ht => by
    have q := nthN_spec (n := n) (R := D + c) (k := t) ht
    rcases hn _ q.1 with h | h
    · exact absurd h q.2.1
    · exact h
  have h0 := each 0 (by omega)
  refine ⟨.inr (.inr (.inr (.inr (.inr ⟨rfl, hs, by omega, fun t ht => ?_, fun h => ?_, by omega⟩)))), h0⟩
  · show n (nthN n (D + c) t) = n (nthN n (D + c) 0)
    rw [each t ht, h0]
  · have := h.2
    rw [h0] at this
    omega
end Go.Proofs.Ytoadjpacchhleaa
