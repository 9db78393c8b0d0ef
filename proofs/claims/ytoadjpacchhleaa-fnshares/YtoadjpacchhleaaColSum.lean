/- Shares sum up to what is wanted, from the last one on. No Go in sight. -/
import Derived.Test.YtoadjpacchhleaaColBack
namespace Go.Proofs.Ytoadjpacchhleaa
open F256

/-- the sum of the last d shares of m -/
def topN (r : Nat → Nat) (F : Mat) (m : Nat) : Nat → Nat → Nat
  | 0, _ => 0
  | d + 1, t => topN r F m d t ^^^ mulN (r (m - 1 - d)) (F (m - 1 - d) t)
theorem topN_lt {r : Nat → Nat} {F : Mat} {m : Nat} (hr : ∀ i, r i < 256) : ∀ d t, topN r F m d t < 256
  | 0, _ => by show 0 < 256; omega
  | d + 1, t => xor_lt (topN_lt hr d t) (mulN_lt (hr _))
theorem topN_dot {r : Nat → Nat} {F : Mat} {m t : Nat} : ∀ d, d ≤ m → dotN r (fun k => F k t) m = dotN r (fun k => F k t) (m - d) ^^^ topN r F m d t
  | 0, _ => by simp [topN]
  | d + 1, h => by
    rw [topN_dot d (by omega)]
    obtain ⟨q, hq⟩ : ∃ q, m - d = q + 1 := ⟨m - d - 1, by omega⟩
    have h1 : m - 1 - d = q := by omega
    have h2 : m - (d + 1) = q := by omega
    rw [hq, dotN, topN, h1, h2, Nat.xor_assoc, Nat.xor_comm (mulN (r q) (F q t)) (topN r F m d t)]
theorem topN_all {r : Nat → Nat} {F : Mat} {m t : Nat} : topN r F m m t = dotN r (fun k => F k t) m := by
  rw [topN_dot m (Nat.le_refl _), Nat.sub_self]
  simp [dotN]
theorem dotN_more {r x : Nat → Nat} {D : Nat} (hx : ∀ i, x i < 256) : ∀ {m : Nat}, D ≤ m → (∀ k, D ≤ k → k < m → r k = 0) → dotN r x m = dotN r x D
  | 0, h, _ => by rw [show D = 0 by omega]
  | m + 1, h, h0 => by
    by_cases e : D = m + 1
    · rw [e]
    · rw [dotN, dotN_more hx (show D ≤ m by omega) (fun k h1 h2 => h0 k h1 (by omega)), h0 m (by omega) (by omega), zero_mulN (hx m), Nat.xor_zero]
theorem shareN_lt (n : Nat) (hv : Nat → Nat) (want i : Nat) : shareN n hv want i < 256 := by
  unfold shareN
  split
  · exact weightsN_lt _ _ _ _ _
  · omega
/-- the shares sum up to the list that is wanted -/
theorem shares_sum {D m : Nat} {hv : Nat → Nat} {ff : Mat} (hD1 : 1 ≤ D) (hD : D ≤ 4) (hDm : D ≤ m) (hb : ∀ k, k < m → hv k < D + 2) (hr : ∀ k, k + 1 < m → hv k < hv (k + 1)) (kf : Byt ff) (W t : Nat) :
    topN (shareN D hv W) (fun k => allN D ff (hv k)) m m t = allN D ff W t := by
  have hfull := col_full D hD1 hD hv (genN D W 8) (fun k hk => hb k (by omega)) (fun k hk => hr k (by omega))
  have hs := weights_sum (x := fun i => ff i t) (fun i => kf _ _) hfull
  rw [topN_all, dotN_more (D := D) (fun i => allN_byt kf _ _) hDm (fun k h1 _ => by unfold shareN; rw [if_neg (by omega)]), allN_dot kf, ← hs]
  rw [dotN_congr (s := weightsN D 8 hv W) (fun k hk => by unfold shareN; rw [if_pos hk])]
  exact dotN_congr2 fun k _ => allN_dot kf _ _
end Go.Proofs.Ytoadjpacchhleaa
