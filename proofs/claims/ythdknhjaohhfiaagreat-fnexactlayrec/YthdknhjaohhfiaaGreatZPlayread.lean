/- Walk of sums of bytes: the specification's l1Add. -/
import Derived.Test.YthdknhjaohhfiaaGreatZPlayreab
import Derived.Deep.RegionLaw
import Derived.Test.YthdknhjaohhfiaaGreatZPlayreac
import Derived.Test.YthdknhjaohhfiaaGreatZPlayreaa
namespace Go.Proofs.YthdknhjaohhfiaaGreat
open Go.RowKit F256

end Go.Proofs.YthdknhjaohhfiaaGreat

namespace Go.Proofs.YthdknhjaohhfiaaGreat
open Go.RowKit F256
set_option linter.unusedVariables false
set_option linter.unusedSimpArgs false

end Go.Proofs.YthdknhjaohhfiaaGreat

namespace Go.Proofs.YthdknhjaohhfiaaGreat
open F256
abbrev Mat := Nat → Nat → Nat

/-- a is the first row from r on that is not 0 in the column c, or R -/
def IsLead (M : Mat) (c R r a : Nat) : Prop := r ≤ a ∧ a ≤ R ∧ (∀ i, r ≤ i → i < a → M i c = 0) ∧ (a < R → M a c ≠ 0)
theorem IsLead.one {M : Mat} {c R r a b : Nat} (h : IsLead M c R r a) (k : IsLead M c R r b) : a = b := by
  obtain ⟨h1, h2, h3, h4⟩ := h
  obtain ⟨k1, k2, k3, k4⟩ := k
  rcases Nat.lt_trichotomy a b with hlt | he | hlt
  · exact absurd (k3 a h1 hlt) (h4 (by omega))
  · exact he
  · exact absurd (h3 b k1 hlt) (k4 (by omega))
def leadF (M : Mat) (c R : Nat) : Nat → Nat → Nat
  | 0, _ => R
  | d + 1, i => if M i c = 0 then leadF M c R d (i + 1) else i
theorem leadF_is (M : Mat) (c R : Nat) : ∀ d i, i + d = R → IsLead M c R i (leadF M c R d i)
  | 0, i, h => ⟨by simp only [leadF]; omega, Nat.le_refl _, fun j h1 h2 => by simp only [leadF] at h2; omega, fun h => by simp only [leadF] at h; omega⟩
  | d + 1, i, h => by
    have ih := leadF_is M c R d (i + 1) (by omega)
    by_cases e : M i c = 0
    · simp only [leadF, if_pos e]
      refine ⟨by have := ih.1; omega, ih.2.1, fun j h1 h2 => ?_, ih.2.2.2⟩
      by_cases ej : j = i
      · rw [ej]; exact e
      · exact ih.2.2.1 j (by omega) h2
    · simp only [leadF, if_neg e]
      exact ⟨Nat.le_refl _, by omega, fun j h1 h2 => by omega, fun _ => e⟩
def lead (M : Mat) (c R r : Nat) : Nat := leadF M c R (R - r) r
theorem lead_is (M : Mat) (c R r : Nat) (h : r ≤ R) : IsLead M c R r (lead M c R r) := leadF_is M c R (R - r) r (by omega)
def swapM (M : Mat) (r a : Nat) : Mat := fun i => if i = r then M a else if i = a then M r else M i
def scaleM (M : Mat) (r c : Nat) : Mat := fun i => if i = r then (fun j => mulN (powN (M r c) 254) (M r j)) else M i
/-- the first k rows but r cleared in the column c -/
def clearM (M : Mat) (r c k : Nat) : Mat := fun i => if i < k ∧ i ≠ r then (fun j => M i j ^^^ mulN (M i c) (M r j)) else M i
def stepM (R : Nat) (s : Mat × Nat) (c : Nat) : Mat × Nat :=
  if lead s.1 c R s.2 = R then s else (clearM (scaleM (swapM s.1 s.2 (lead s.1 c R s.2)) s.2 c) s.2 c R, s.2 + 1)
def Byt (M : Mat) : Prop := ∀ i j, M i j < 256
theorem swapM_byt {M : Mat} (h : Byt M) (r a : Nat) : Byt (swapM M r a) := fun i j => by
  unfold swapM
  split
  · exact h a j
  · split
    · exact h r j
    · exact h i j
theorem scaleM_byt {M : Mat} (h : Byt M) (r c : Nat) : Byt (scaleM M r c) := fun i j => by
  unfold scaleM
  split
  · exact mulN_lt (powN_lt _)
  · exact h i j
end Go.Proofs.YthdknhjaohhfiaaGreat

namespace Go.Proofs.YthdknhjaohhfiaaGreat
open F256

theorem swapM_at {M : Mat} {r a j : Nat} : swapM M r a r j = M a j := by simp [swapM]
/-- the first k columns are those of the one matrix -/
def Unit (R k : Nat) (M : Mat) : Prop := ∀ i j, i < R → j < k → M i j = if i = j then 1 else 0
theorem Unit.step {R k : Nat} {M : Mat} (kM : Byt M) (h : Unit R k M) (hne : (stepM R (M, k) k).2 = k + 1) (hk : k ≤ R) : Unit R (k + 1) (stepM R (M, k) k).1 := by
  have hl := lead_is M k R k hk
  unfold stepM at hne ⊢
  by_cases e : lead M k R k = R
  · rw [if_pos e] at hne
    exact absurd hne (by simp)
  · rw [if_neg e]
    show Unit R (k + 1) (clearM (scaleM (swapM M k (lead M k R k)) k k) k k R)
    obtain ⟨a, ha⟩ : ∃ a, a = lead M k R k := ⟨_, rfl⟩
    rw [← ha] at hl e ⊢
    have h1 := hl.1
    have h2 := hl.2.1
    have h4 := hl.2.2.2 (by omega)
    obtain ⟨S, hS⟩ : ∃ S, S = swapM M k a := ⟨_, rfl⟩
    have kS : Byt S := by rw [hS]; exact swapM_byt kM k a
    have hSk : S k k ≠ 0 := by rw [hS, swapM_at]; exact h4
    have uS : Unit R k S := fun i j hi hj => by
      rw [hS]
      by_cases c1 : i = k
      · have e2 := h a j (by omega) hj
        rw [if_neg (by omega)] at e2
        simp only [swapM, if_pos c1]
        rw [e2, if_neg (by omega)]
      · by_cases c2 : i = a
        · have e2 := h k j (by omega) hj
          rw [if_neg (by omega)] at e2
          simp only [swapM, if_neg c1, if_pos c2]
          rw [e2, if_neg (by omega)]
        · simp only [swapM, if_neg c1, if_neg c2]
          exact h i j hi hj
    rw [← hS]
    obtain ⟨T, hT⟩ : ∃ T, T = scaleM S k k := ⟨_, rfl⟩
    have kT : Byt T := by rw [hT]; exact scaleM_byt kS k k
    have hTk : T k k = 1 := by
      rw [hT]
      simp only [scaleM, if_pos]
      exact invN_mul (kS k k) hSk
    have uT : Unit R k T := fun i j hi hj => by
      rw [hT]
      by_cases c1 : i = k
      · have e2 := uS k j (by omega) hj
        rw [if_neg (by omega)] at e2
        simp only [scaleM, if_pos c1]
        rw [e2, mulN_zero, if_neg (by omega)]
      · simp only [scaleM, if_neg c1]
        exact uS i j hi hj
    rw [← hT]
    intro i j hi hj
    by_cases c1 : i = k
    · have hc : ¬ (i < R ∧ i ≠ k) := by omega
      simp only [clearM, if_neg hc]
      by_cases c2 : j = k
      · rw [c1, c2, hTk, if_pos rfl]
      · exact uT i j hi (by omega)
    · have hc : i < R ∧ i ≠ k := ⟨hi, c1⟩
      simp only [clearM, if_pos hc]
      by_cases c2 : j = k
      · rw [c2, hTk, mulN_one (kT i k), Nat.xor_self, if_neg c1]
      · have e2 := uT k j (by omega) (by omega)
        rw [if_neg (by omega)] at e2
        rw [e2, mulN_zero, Nat.xor_zero]
        exact uT i j hi (by omega)
end Go.Proofs.YthdknhjaohhfiaaGreat

namespace Go.Proofs.YthdknhjaohhfiaaGreat
open F256

/-- the column C is 0 in every row -/
def NoCol (C : Nat) (M : Mat) : Prop := ∀ i, M i C = 0
theorem NoCol.step {R C c : Nat} {s : Mat × Nat} (h : NoCol C s.1) : NoCol C (stepM R s c).1 := by
  unfold stepM
  split
  · exact h
  · intro i
    show clearM (scaleM (swapM s.1 s.2 (lead s.1 c R s.2)) s.2 c) s.2 c R i C = 0
    have h1 : ∀ i, swapM s.1 s.2 (lead s.1 c R s.2) i C = 0 := fun i => by
      unfold swapM
      split
      · exact h _
      · split
        · exact h _
        · exact h _
    have h2 : ∀ i, scaleM (swapM s.1 s.2 (lead s.1 c R s.2)) s.2 c i C = 0 := fun i => by
      unfold scaleM
      split
      · show mulN _ (swapM s.1 s.2 (lead s.1 c R s.2) s.2 C) = 0
        rw [h1, mulN_zero]
      · exact h1 _
    unfold clearM
    split
    · show scaleM (swapM s.1 s.2 (lead s.1 c R s.2)) s.2 c i C ^^^ mulN _ (scaleM (swapM s.1 s.2 (lead s.1 c R s.2)) s.2 c s.2 C) = 0
      rw [h2, h2, mulN_zero]
      rfl
    · exact h2 _
end Go.Proofs.YthdknhjaohhfiaaGreat

namespace Go.Proofs.YthdknhjaohhfiaaGreat
open F256
set_option linter.unusedSimpArgs false

end Go.Proofs.YthdknhjaohhfiaaGreat

namespace Go.Proofs.YthdknhjaohhfiaaGreat
open F256

end Go.Proofs.YthdknhjaohhfiaaGreat

namespace Go.Proofs.YthdknhjaohhfiaaGreat

/-- how many of the first i are not 0 -/
def cntN (n : Nat → Nat) : Nat → Nat
  | 0 => 0
  | i + 1 => if n i = 0 then cntN n i else cntN n i + 1
def nthF (n : Nat → Nat) (k : Nat) : Nat → Nat → Nat
  | 0, i => i
  | d + 1, i => if n i ≠ 0 ∧ cntN n i = k then i else nthF n k d (i + 1)
/-- the k-th that is not 0 -/
def nthN (n : Nat → Nat) (R k : Nat) : Nat := nthF n k R 0
end Go.Proofs.YthdknhjaohhfiaaGreat

namespace Go.Proofs.YthdknhjaohhfiaaGreat
open Go.RowKit F256

end Go.Proofs.YthdknhjaohhfiaaGreat

namespace Go.Proofs.YthdknhjaohhfiaaGreat
open Go.RowKit F256
set_option linter.unusedSimpArgs false

theorem l1In_yes (v a b : Int) (h1 : a ≤ v) (h2 : v ≤ b) (w : World) :
    Calls Tryz.prog 64 #[.int .i64 v, .int .i64 a, .int .i64 b] w fun e w' => e = .returned (.bool true) ∧ w' = w := by
  go_enter Tryz.func64, Tryz.ntmps64
  go_wp2
  go_ret
  exact ⟨rfl, rfl⟩
theorem l1In_no (v a b : Int) (h : v < a ∨ b < v) (w : World) :
    Calls Tryz.prog 64 #[.int .i64 v, .int .i64 a, .int .i64 b] w fun e w' => e = .returned (.bool false) ∧ w' = w := by
  by_cases h1 : v < a
  · have hd : decide (a ≤ v) = false := by simp; omega
    go_enter Tryz.func64, Tryz.ntmps64
    go_wp2
    go_ret
    exact ⟨rfl, rfl⟩
  · have h2 : b < v := by omega
    have h3 : a ≤ v := by omega
    have hd : decide (v ≤ b) = false := by simp; omega
    go_enter Tryz.func64, Tryz.ntmps64
    go_wp2
    go_ret
    exact ⟨rfl, rfl⟩

end Go.Proofs.YthdknhjaohhfiaaGreat

namespace Go.Proofs.YthdknhjaohhfiaaGreat
open Go.RowKit F256
set_option linter.unusedVariables false

/-- the row i changed in its place -/
theorem OwnE.upd {w w' : World} {lo hi : Nat} {v : Value} {R C : Nat} {M M' : Mat} {g cap : Nat} {e : Nat → Value} (h : OwnE w lo hi v R (fun _ => C) M g cap e) (i : Nat) (hi' : i < R) (hc : Chg (tlo (e i) lo) (thi (e i) lo) w w')
    (ho : Own w' lo hi (e i) C (M' i)) (hM : ∀ j, j < R → j ≠ i → M' j = M j) : OwnE w' lo hi v R (fun _ => C) M' g cap e := by
  have hsz : ∀ b, w.heap[b]? ≠ none → b < w.heap.size := fun b hb => by
    cases hq : w.heap[b]? with
    | none => exact absurd hq hb
    | some o => exact (Array.getElem?_eq_some_iff.1 hq).1
  refine ⟨h.val, h.low, h.high, row_kept h.row fun k hk => ?_, fun j hj => ?_, h.apart⟩
  · have hlt := (h.row.lt k hk).2
    rw [h.val] at hk
    simp [Value.ownBlock] at hk
    subst hk
    exact hc.block g hlt (not_in_tight fun q hq hh => h.apart.1 i hi' (by rw [hq, hh]))
  · by_cases e1 : j = i
    · subst e1; exact ho
    · rw [hM j hj e1]
      refine (h.each j hj).kept fun k hk => ?_
      exact hc.block k ((h.each j hj).1.lt k hk).2 (not_in_tight fun q hq hh => h.apart.2 i j hi' hj (fun x => e1 x.symm) q hq (by rw [← hh]; exact hk))
/-- the row i replaced by a new slice -/
theorem OwnE.put {w w2 : World} {lo hi : Nat} {v : Value} {R C : Nat} {M M' : Mat} {g cap : Nat} {e : Nat → Value} {x : Value} (h : OwnE w lo hi v R (fun _ => C) M g cap e) (i : Nat) (hi' : i < R) (hb : Below w.heap.size w w2) (hhi : hi ≤ w.heap.size)
    (ho : Own w2 w.heap.size w2.heap.size x C (M' i)) (hM : ∀ j, j < R → j ≠ i → M' j = M j) : OwnE (w2.setCell ⟨g, i, none⟩ x) lo w2.heap.size v R (fun _ => C) M' g cap (fun j => if j = i then x else e j) := by
  have hg := h.high
  have h2 := h.below hb hhi
  have hr := h2.row
  rw [h.val] at hr
  have hst := (hr.stored i x).1
  rw [valsOf_set R e (fun j => if j = i then x else e j) i x hi' (fun j _ => rfl)] at hst
  have oth : ∀ b, b ≠ g → (w2.setCell ⟨g, i, none⟩ x).heap[b]? = w2.heap[b]? := fun b hbg => heap_setCell_other w2 ⟨g, i, none⟩ b _ hbg
  have hs := hb.size
  have new : ∀ k, x.ownBlock = some k → w.heap.size ≤ k := fun k hk => (ho.1.lt k hk).1
  refine ⟨h.val, h.low, by omega, by rw [h.val]; exact hst, fun j hj => ?_, ⟨fun j hj => ?_, fun j l hj hl hne k hk => ?_⟩⟩
  · by_cases c : j = i
    · subst c
      simp only [if_pos]
      exact (ho.kept fun k hk => oth k (by have := new k hk; omega)).weaken (by have := h.low; omega) (Nat.le_refl _)
    · simp only [if_neg c]
      rw [hM j hj c]
      have hj2 := h2.each j hj
      exact (hj2.kept fun k hk => oth k fun hkg => h.apart.1 j hj (by rw [hk, hkg])).weaken (Nat.le_refl _) (by omega)
  · by_cases c : j = i
    · simp only [if_pos c]
      intro hh
      have := new g hh
      omega
    · simp only [if_neg c]
      exact h.apart.1 j hj
  · have low : ∀ q, q < R → ∀ k, (e q).ownBlock = some k → k < w.heap.size := fun q hq k hk => by have := (h.each q hq).2 k hk; omega
    by_cases c : j = i
    · have c2 : ¬ l = i := fun z => hne (by rw [c, z])
      simp only [if_pos c] at hk
      simp only [if_neg c2]
      intro hh
      have h1 := new k hk
      have h3 := low l hl k hh
      omega
    · simp only [if_neg c] at hk
      by_cases c2 : l = i
      · simp only [if_pos c2]
        intro hh
        have h1 := new k hh
        have h3 := low j hj k hk
        omega
      · simp only [if_neg c2]
        exact h.apart.2 j l hj hl hne k hk
theorem OwnE.drewN {w : World} {lo hi : Nat} {v : Value} {R : Nat} {n : Nat → Nat} {M : Mat} {g cap : Nat} {e : Nat → Value} (h : OwnE w lo hi v R n M g cap e) (m : Nat) : OwnE (w.drewN m) lo hi v R n M g cap e := ⟨h.val, h.low, h.high, h.row, h.each, h.apart⟩
theorem OwnE.weaken {w : World} {lo hi hi' : Nat} {v : Value} {R : Nat} {n : Nat → Nat} {M : Mat} {g cap : Nat} {e : Nat → Value} (h : OwnE w lo hi v R n M g cap e) (h2 : hi ≤ hi') : OwnE w lo hi' v R n M g cap e :=
  ⟨h.val, h.low, Nat.lt_of_lt_of_le h.high h2, h.row, fun i hi => (h.each i hi).mono h2, h.apart⟩
theorem OwnE.frozen {w : World} {lo hi : Nat} {v : Value} {R : Nat} {n : Nat → Nat} {M : Mat} {g cap : Nat} {e : Nat → Value} (h : OwnE w lo hi v R n M g cap e) (i : Nat) : w.frozen? ⟨g, i, none⟩ = false := by
  have hr := h.row
  rw [h.val] at hr
  exact hr.frozenAt i
end Go.Proofs.YthdknhjaohhfiaaGreat
