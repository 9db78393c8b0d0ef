/- Walks of the laws' helpers over slices of slices of bytes: a copy, a comparison, a marking, a measure. -/
import Derived.Test.YtcdnhhdknkhnkaaGreatZPmissiab
import Derived.Deep.RegionLaw
import Derived.BigQuiet
import Derived.Deep.QuietTactic
import Derived.Test.YtcdnhhdknkhnkaaGreatProg
import Derived.Test.YtcdnhhdknkhnkaaGreatZPmissiaa
import Derived.WalkKit
import Derived.WalkLawsBesides
set_option linter.unusedVariables false
set_option linter.unusedSimpArgs false
namespace Go.Proofs.YtcdnhhdknkhnkaaGreat
open Go.RowKit F256
structure Cpy (w wr : World) (R k : Nat) (n : Nat → Nat) (f : Nat → Nat → Nat) (e : Nat → Value) : Prop where
  row : wr.ownsRow w.heap.size 90 1 (.slice (some ⟨w.heap.size, 0, none⟩) R R) R (valsOf R fun i => if i < k then e i else nilS)
  each : ∀ i, i < k → Own wr (w.heap.size + 1) wr.heap.size (e i) (n i) (f i)
  apart : Apart w.heap.size k e
  bel : Below w.heap.size w wr
  lt : w.heap.size < wr.heap.size
theorem Cpy.next {w wr w2 : World} {R k : Nat} {n : Nat → Nat} {f : Nat → Nat → Nat} {e : Nat → Value} {ao : Option Addr} {cap : Nat} (h : Cpy w wr R k n f e) (hk : k < R) (hb : Below wr.heap.size wr w2) (ho : Own w2 wr.heap.size w2.heap.size (.slice ao (n k) cap) (n k) (f k)) :
    Cpy w (w2.setCell ⟨w.heap.size, k, none⟩ (.slice ao (n k) cap)) R (k + 1) n f (fun i => if i = k then .slice ao (n k) cap else e i) := by
  have l := h.lt
  have hr2 : w2.ownsRow w.heap.size 90 1 (.slice (some ⟨w.heap.size, 0, none⟩) R R) R (valsOf R fun i => if i < k then e i else nilS) :=
    row_kept h.row fun g hg => hb.block g (by simp [Value.ownBlock] at hg; omega)
  have hst := (hr2.stored k (.slice ao (n k) cap)).1
  rw [valsOf_set R _ (fun i => if i < k + 1 then (if i = k then .slice ao (n k) cap else e i) else nilS) k _ hk (fun i hi => by
    by_cases c : i = k
    · subst c; simp
    · by_cases c' : i < k
      · have c2 : i < k + 1 := by omega
        simp [c, c', c2]
      · have c2 : ¬ i < k + 1 := by omega
        simp [c, c', c2])] at hst
  have oth : ∀ g, w.heap.size + 1 ≤ g → (w2.setCell ⟨w.heap.size, k, none⟩ (.slice ao (n k) cap)).heap[g]? = w2.heap[g]? := fun g hg => heap_setCell_other w2 ⟨w.heap.size, k, none⟩ g _ (by show g ≠ w.heap.size; omega)
  have hsz : (w2.setCell ⟨w.heap.size, k, none⟩ (.slice ao (n k) cap)).heap.size = w2.heap.size := by simp
  have hs2 := hb.size
  refine ⟨hst, fun i hi => ?_, ⟨fun i hi => ?_, fun i j hi hj hij b hbi => ?_⟩, (h.bel.trans (hb.mono (by omega))).setCell (Nat.le_refl _) _, by rw [hsz]; omega⟩
  · by_cases c : i = k
    · subst c
      simp only [if_pos]
      exact (ho.kept fun g hg => oth g (by have := (ho.1.lt g hg).1; omega)).weaken (by omega) (Nat.le_of_eq hsz.symm)
    · simp only [if_neg c]
      have h1 := (h.each i (by omega)).below hb (Nat.le_refl _)
      exact (h1.kept fun g hg => oth g (h1.1.lt g hg).1).weaken (Nat.le_refl _) (by rw [hsz]; exact hs2)
  · by_cases c : i = k
    · subst c
      simp only [if_pos]
      intro hh
      have := (ho.1.lt _ hh).1
      omega
    · simp only [if_neg c]
      exact h.apart.1 i (by omega)
  · by_cases c : i = k
    · subst c
      simp only [if_pos] at hbi
      have c2 : ¬ j = i := fun x => hij x.symm
      simp only [if_neg c2]
      intro hh
      have h1 := (ho.1.lt _ hbi).1
      have h2 := (h.each j (by omega)).2 _ hh
      omega
    · simp only [if_neg c] at hbi
      by_cases c2 : j = k
      · subst c2
        simp only [if_pos]
        intro hh
        have h1 := (ho.1.lt _ hh).1
        have h2 := (h.each i (by omega)).2 _ hbi
        omega
      · simp only [if_neg c2]
        exact h.apart.2 i j (by omega) (by omega) hij b hbi
theorem Cpy.done {w wr : World} {R : Nat} {n : Nat → Nat} {f : Nat → Nat → Nat} {e : Nat → Value} (h : Cpy w wr R R n f e) : OwnM wr w.heap.size wr.heap.size (.slice (some ⟨w.heap.size, 0, none⟩) R R) R n f := by
  have hr := h.row
  rw [valsOf_eq (g := e) (fun i hi => by simp [hi])] at hr
  exact ⟨w.heap.size, R, e, rfl, Nat.le_refl _, h.lt, hr, fun i hi => (h.each i hi).weaken (by omega) (Nat.le_refl _), h.apart⟩
end Go.Proofs.YtcdnhhdknkhnkaaGreat
namespace Go.Proofs.YtcdnhhdknkhnkaaGreat
open Go.RowKit F256
end Go.Proofs.YtcdnhhdknkhnkaaGreat
namespace Go.Proofs.YtcdnhhdknkhnkaaGreat
open Go.RowKit F256
def tcell (a k i : Nat) : Value := .int .u8 ((if i < k then tabN a i else 0 : Nat) : Int)
def T (a k : Nat) : Array Value := #[tcell a k 0, tcell a k 1, tcell a k 2, tcell a k 3, tcell a k 4, tcell a k 5, tcell a k 6, tcell a k 7]
theorem T8 (a : Nat) : T a 8 = #[.int .u8 (tabN a 0), .int .u8 (tabN a 1), .int .u8 (tabN a 2), .int .u8 (tabN a 3), .int .u8 (tabN a 4), .int .u8 (tabN a 5), .int .u8 (tabN a 6), .int .u8 (tabN a 7)] := by simp [T, tcell]
end Go.Proofs.YtcdnhhdknkhnkaaGreat
namespace Go.Proofs.YtcdnhhdknkhnkaaGreat
open Go.RowKit F256
theorem Chg.refl (lo hi : Nat) (w : World) : Chg lo hi w w := ⟨rfl, rfl, rfl, Nat.le_refl _, fun _ _ _ => rfl⟩
theorem Chg.drew {lo hi : Nat} {a w : World} (h : Chg lo hi a w) : Chg lo hi a w.drew := ⟨h.os, h.tape, h.output, h.size, h.block⟩
end Go.Proofs.YtcdnhhdknkhnkaaGreat
namespace Go.Proofs.YtcdnhhdknkhnkaaGreat
open Go.RowKit F256
end Go.Proofs.YtcdnhhdknkhnkaaGreat
namespace Go.Proofs.YtcdnhhdknkhnkaaGreat
open Go.RowKit F256
end Go.Proofs.YtcdnhhdknkhnkaaGreat
namespace Go.Proofs.YtcdnhhdknkhnkaaGreat
open F256
abbrev Mat := Nat → Nat → Nat
def IsLead (M : Mat) (c R r a : Nat) : Prop := r ≤ a ∧ a ≤ R ∧ (∀ i, r ≤ i → i < a → M i c = 0) ∧ (a < R → M a c ≠ 0)
theorem IsLead.one {M : Mat} {c R r a b : Nat} (h : IsLead M c R r a) (k : IsLead M c R r b) : a = b := by
  obtain ⟨h1, h2, h3, h4⟩ := h
  obtain ⟨k1, k2, k3, k4⟩ := k
  rcases Nat.lt_trichotomy a b with hlt | he | hlt
  · exact absurd (k3 a h1 hlt) (h4 (by omega))
  · exact he
  · exact absurd (h3 b k1 hlt) (k4 (by omega))
def leadF (M : Mat) (c R : Nat) : Nat → Nat → Nat
  | 0, _ => R
  | d + 1, i => if M i c = 0 then leadF M c R d (i + 1) else i
theorem leadF_is (M : Mat) (c R : Nat) : ∀ d i, i + d = R → IsLead M c R i (leadF M c R d i)
  | 0, i, h => ⟨by simp only [leadF]; omega, Nat.le_refl _, fun j h1 h2 => by simp only [leadF] at h2; omega, fun h => by simp only [leadF] at h; omega⟩
  | d + 1, i, h => by
    have ih := leadF_is M c R d (i + 1) (by omega)
    by_cases e : M i c = 0
    · simp only [leadF, if_pos e]
      refine ⟨by have := ih.1; omega, ih.2.1, fun j h1 h2 => ?_, ih.2.2.2⟩
      by_cases ej : j = i
      · rw [ej]; exact e
      · exact ih.2.2.1 j (by omega) h2
    · simp only [leadF, if_neg e]
      exact ⟨Nat.le_refl _, by omega, fun j h1 h2 => by omega, fun _ => e⟩
def lead (M : Mat) (c R r : Nat) : Nat := leadF M c R (R - r) r
theorem lead_is (M : Mat) (c R r : Nat) (h : r ≤ R) : IsLead M c R r (lead M c R r) := leadF_is M c R (R - r) r (by omega)
def swapM (M : Mat) (r a : Nat) : Mat := fun i => if i = r then M a else if i = a then M r else M i
def scaleM (M : Mat) (r c : Nat) : Mat := fun i => if i = r then (fun j => mulN (powN (M r c) 254) (M r j)) else M i
def clearM (M : Mat) (r c k : Nat) : Mat := fun i => if i < k ∧ i ≠ r then (fun j => M i j ^^^ mulN (M i c) (M r j)) else M i
def stepM (R : Nat) (s : Mat × Nat) (c : Nat) : Mat × Nat :=
  if lead s.1 c R s.2 = R then s else (clearM (scaleM (swapM s.1 s.2 (lead s.1 c R s.2)) s.2 c) s.2 c R, s.2 + 1)
def Byt (M : Mat) : Prop := ∀ i j, M i j < 256
theorem swapM_byt {M : Mat} (h : Byt M) (r a : Nat) : Byt (swapM M r a) := fun i j => by
  unfold swapM
  split
  · exact h a j
  · split
    · exact h r j
    · exact h i j
theorem scaleM_byt {M : Mat} (h : Byt M) (r c : Nat) : Byt (scaleM M r c) := fun i j => by
  unfold scaleM
  split
  · exact mulN_lt (powN_lt _)
  · exact h i j
end Go.Proofs.YtcdnhhdknkhnkaaGreat
namespace Go.Proofs.YtcdnhhdknkhnkaaGreat
open F256
theorem swapM_at {M : Mat} {r a j : Nat} : swapM M r a r j = M a j := by simp [swapM]
def Unit (R k : Nat) (M : Mat) : Prop := ∀ i j, i < R → j < k → M i j = if i = j then 1 else 0
theorem Unit.step {R k : Nat} {M : Mat} (kM : Byt M) (h : Unit R k M) (hne : (stepM R (M, k) k).2 = k + 1) (hk : k ≤ R) : Unit R (k + 1) (stepM R (M, k) k).1 := by
  have hl := lead_is M k R k hk
  unfold stepM at hne ⊢
  by_cases e : lead M k R k = R
  · rw [if_pos e] at hne
    exact absurd hne (by simp)
  · rw [if_neg e]
    show Unit R (k + 1) (clearM (scaleM (swapM M k (lead M k R k)) k k) k k R)
    obtain ⟨a, ha⟩ : ∃ a, a = lead M k R k := ⟨_, rfl⟩
    rw [← ha] at hl e ⊢
    have h1 := hl.1
    have h2 := hl.2.1
    have h4 := hl.2.2.2 (by omega)
    obtain ⟨S, hS⟩ : ∃ S, S = swapM M k a := ⟨_, rfl⟩
    have kS : Byt S := by rw [hS]; exact swapM_byt kM k a
    have hSk : S k k ≠ 0 := by rw [hS, swapM_at]; exact h4
    have uS : Unit R k S := fun i j hi hj => by
      rw [hS]
      by_cases c1 : i = k
      · have e2 := h a j (by omega) hj
        rw [if_neg (by omega)] at e2
        simp only [swapM, if_pos c1]
        rw [e2, if_neg (by omega)]
      · by_cases c2 : i = a
        · have e2 := h k j (by omega) hj
          rw [if_neg (by omega)] at e2
          simp only [swapM, if_neg c1, if_pos c2]
          rw [e2, if_neg (by omega)]
        · simp only [swapM, if_neg c1, if_neg c2]
          exact h i j hi hj
    rw [← hS]
    obtain ⟨T, hT⟩ : ∃ T, T = scaleM S k k := ⟨_, rfl⟩
    have kT : Byt T := by rw [hT]; exact scaleM_byt kS k k
    have hTk : T k k = 1 := by
      rw [hT]
      simp only [scaleM, if_pos]
      exact invN_mul (kS k k) hSk
    have uT : Unit R k T := fun i j hi hj => by
      rw [hT]
      by_cases c1 : i = k
      · have e2 := uS k j (by omega) hj
        rw [if_neg (by omega)] at e2
        simp only [scaleM, if_pos c1]
        rw [e2, mulN_zero, if_neg (by omega)]
      · simp only [scaleM, if_neg c1]
        exact uS i j hi hj
    rw [← hT]
    intro i j hi hj
    by_cases c1 : i = k
    · have hc : ¬ (i < R ∧ i ≠ k) := by omega
      simp only [clearM, if_neg hc]
      by_cases c2 : j = k
      · rw [c1, c2, hTk, if_pos rfl]
      · exact uT i j hi (by omega)
    · have hc : i < R ∧ i ≠ k := ⟨hi, c1⟩
      simp only [clearM, if_pos hc]
      by_cases c2 : j = k
      · rw [c2, hTk, mulN_one (kT i k), Nat.xor_self, if_neg c1]
      · have e2 := uT k j (by omega) (by omega)
        rw [if_neg (by omega)] at e2
        rw [e2, mulN_zero, Nat.xor_zero]
        exact uT i j hi (by omega)
end Go.Proofs.YtcdnhhdknkhnkaaGreat
namespace Go.Proofs.YtcdnhhdknkhnkaaGreat
open F256
def NoCol (C : Nat) (M : Mat) : Prop := ∀ i, M i C = 0
theorem NoCol.step {R C c : Nat} {s : Mat × Nat} (h : NoCol C s.1) : NoCol C (stepM R s c).1 := by
  unfold stepM
  split
  · exact h
  · intro i
    show clearM (scaleM (swapM s.1 s.2 (lead s.1 c R s.2)) s.2 c) s.2 c R i C = 0
    have h1 : ∀ i, swapM s.1 s.2 (lead s.1 c R s.2) i C = 0 := fun i => by
      unfold swapM
      split
      · exact h _
      · split
        · exact h _
        · exact h _
    have h2 : ∀ i, scaleM (swapM s.1 s.2 (lead s.1 c R s.2)) s.2 c i C = 0 := fun i => by
      unfold scaleM
      split
      · show mulN _ (swapM s.1 s.2 (lead s.1 c R s.2) s.2 C) = 0
        rw [h1, mulN_zero]
      · exact h1 _
    unfold clearM
    split
    · show scaleM (swapM s.1 s.2 (lead s.1 c R s.2)) s.2 c i C ^^^ mulN _ (scaleM (swapM s.1 s.2 (lead s.1 c R s.2)) s.2 c s.2 C) = 0
      rw [h2, h2, mulN_zero]
      rfl
    · exact h2 _
end Go.Proofs.YtcdnhhdknkhnkaaGreat
namespace Go.Proofs.YtcdnhhdknkhnkaaGreat
open F256
end Go.Proofs.YtcdnhhdknkhnkaaGreat
namespace Go.Proofs.YtcdnhhdknkhnkaaGreat
open F256
end Go.Proofs.YtcdnhhdknkhnkaaGreat
namespace Go.Proofs.YtcdnhhdknkhnkaaGreat
def cntN (n : Nat → Nat) : Nat → Nat
  | 0 => 0
  | i + 1 => if n i = 0 then cntN n i else cntN n i + 1
def nthF (n : Nat → Nat) (k : Nat) : Nat → Nat → Nat
  | 0, i => i
  | d + 1, i => if n i ≠ 0 ∧ cntN n i = k then i else nthF n k d (i + 1)
def nthN (n : Nat → Nat) (R k : Nat) : Nat := nthF n k R 0
end Go.Proofs.YtcdnhhdknkhnkaaGreat
namespace Go.Proofs.YtcdnhhdknkhnkaaGreat
open Go.RowKit F256
end Go.Proofs.YtcdnhhdknkhnkaaGreat