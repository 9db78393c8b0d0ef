/- The parity of every drawn column fits its lists, and any so many of these as it has groups of data tell each of them; a code is as the document says: the law FnColumns returns true at every code, and changes nothing that was there. No condition. -/
import Derived.Test.YtoadjpacchhleaaWImplO
import Derived.Test.YtoadjpacchhleaaWBook
import Derived.Test.YtoadjpacchhleaaWImplL
import Derived.Test.YtoadjpacchhleaaWInts
import Derived.Test.YtoadjpacchhleaaWAppend
import Derived.Test.YtoadjpacchhleaaWImplA
import Derived.Test.YtoadjpacchhleaaNth
import Derived.Test.YtoadjpacchhleaaWOwnB
import Derived.Test.YtoadjpacchhleaaColBack
import Derived.Test.YtoadjpacchhleaaWJoin
import Derived.BigQuiet
import Derived.Deep.QuietTactic
import Derived.Test.YtoadjpacchhleaaWColumns
import Derived.Test.YtoadjpacchhleaaWImplM
import Derived.Test.YtoadjpacchhleaaRows
import Derived.Test.YtoadjpacchhleaaFrameB
namespace Go.Proofs.Ytoadjpacchhleaa
open Go.RowKit F256
set_option linter.unusedVariables false
set_option linter.unusedSimpArgs false

/-- the lineup behind k places -/
def keyN (hv : Nat → Nat) : Nat → Nat → Nat
  | 0, _ => 0
  | k + 1, i => if i = hv k then 1 else keyN hv k i
theorem keyN_lt (hv : Nat → Nat) : ∀ k i, keyN hv k i < 256
  | 0, _ => by simp [keyN]
  | k + 1, i => by
    simp only [keyN]
    split
    · omega
    · exact keyN_lt hv k i
def keyA (hv : Nat → Nat) (k : Nat) : Array Value := #[.int .u8 (keyN hv k 0), .int .u8 (keyN hv k 1), .int .u8 (keyN hv k 2), .int .u8 (keyN hv k 3), .int .u8 (keyN hv k 4), .int .u8 (keyN hv k 5)]
theorem keyA_size (hv : Nat → Nat) (k : Nat) : (keyA hv k).size = 6 := rfl
theorem keyA_set (hv : Nat → Nat) (k p : Nat) (hp : p = hv k) (h6 : p < 6) : (keyA hv k).setIfInBounds p (.int .u8 1) = keyA hv (k + 1) := by
  have : p = 0 ∨ p = 1 ∨ p = 2 ∨ p = 3 ∨ p = 4 ∨ p = 5 := by omega
  rcases this with rfl | rfl | rfl | rfl | rfl | rfl <;> simp [keyA, keyN, ← hp]

set_option maxRecDepth 20000 in
set_option maxHeartbeats 4000000 in
theorem weights_new (B D C : Nat) (vh : Value) (hv : Nat → Nat) (h1 : Nat) (w : World) (hM : MapAt w B #[] 0) (rh : RdI w h1 vh D (fun i => (hv i : Int))) (hh : h1 ≤ w.heap.size) (hD1 : 1 ≤ D) (hD : D ≤ 4) (hC : C ≤ 2) (hbd : ∀ k, k < D → hv k < D + 2) :
    Calls Try.prog 74 #[.map (some B), .int .i64 D, .int .i64 C, vh] w fun e w' => ∃ v', e = .returned v' ∧ OwnM w' w.heap.size w'.heap.size v' (D + C) (fun _ => D) (colW D hv) ∧ MapAt w' B #[⟨arr6 (keyN hv D), v', 0⟩] 1 ∧ Chg B (B + 1) w w' := by
  have HRH : Hid (RdI w h1 vh D (fun i => (hv i : Int))) := rh
  obtain ⟨aoh, caph, rfl, hmm, hch⟩ := rh
  obtain ⟨bh, oh, rfl, hbh, hcell⟩ := hch (by omega)
  have HC : Hid (∀ i, i < D → w.cell? ⟨bh, oh + i, none⟩ = some (.int .i64 (hv i : Int))) := hcell
  have HBD : Hid (∀ k, k < D → hv k < D + 2) := hbd
  have hbw : bh < w.heap.size := by omega
  have hBw := hM.lt
  have HM : Hid (MapAt w B #[] 0) := hM
  clear hch hcell hbd hmm hM
  go_enter Try.func74, Try.ntmps74
  go_wp2
  go_loopw [16] (fun i wr => ∃ k : Nat, k ≤ D ∧ i = .int .i64 k ∧ wr = w.alloc (.cells (keyA hv k) 112)) (fun i _ => D - (intOf i).toNat)
  case atStart => exact ⟨0, Nat.zero_le _, rfl, rfl⟩
  case round =>
    obtain ⟨k, hk, rfl, rfl⟩ := hrel
    by_cases hlt : k < D
    · obtain ⟨p, hp⟩ : ∃ p, p = hv k := ⟨_, rfl⟩
      have ck : (w.alloc (.cells (keyA hv k) 112)).cell? ⟨bh, oh + k, none⟩ = some (.int .i64 (p : Int)) := by
        rw [cell_alloc_old _ _ _ _ hbw, hp]
        exact HC.out k hlt
      have hp6 : p < 6 := by have := HBD.out k hlt; omega
      have hT := keyA_size hv k
      have HP : Hid (p = hv k) := hp
      clear hp
      go_wp2
      go_roundw
      case rel => exact ⟨k + 1, by omega, by go_num, by rw [keyA_set hv k p HP.out hp6]⟩
      case measure => simp [intOf]; omega
    · obtain rfl : k = D := by omega
      obtain ⟨k0, hk0⟩ : ∃ x, x = keyN hv k 0 := ⟨_, rfl⟩
      obtain ⟨k1, hk1⟩ : ∃ x, x = keyN hv k 1 := ⟨_, rfl⟩
      obtain ⟨k2, hk2⟩ : ∃ x, x = keyN hv k 2 := ⟨_, rfl⟩
      obtain ⟨k3, hk3⟩ : ∃ x, x = keyN hv k 3 := ⟨_, rfl⟩
      obtain ⟨k4, hk4⟩ : ∃ x, x = keyN hv k 4 := ⟨_, rfl⟩
      obtain ⟨k5, hk5⟩ : ∃ x, x = keyN hv k 5 := ⟨_, rfl⟩
      have HKA : Hid (arr6 (keyN hv k) = .agg #[.int .u8 k0, .int .u8 k1, .int .u8 k2, .int .u8 k3, .int .u8 k4, .int .u8 k5]) := by
        show arr6 (keyN hv k) = _
        rw [hk0, hk1, hk2, hk3, hk4, hk5]
        rfl
      have ha : keyA hv k = #[.int .u8 k0, .int .u8 k1, .int .u8 k2, .int .u8 k3, .int .u8 k4, .int .u8 k5] := by
        rw [hk0, hk1, hk2, hk3, hk4, hk5]
        rfl
      obtain ⟨wK, hwK⟩ : ∃ wK, wK = w.alloc (.cells (keyA hv k) 112) := ⟨_, rfl⟩
      have BK : Below w.heap.size w wK := by rw [hwK]; exact (Below.refl _ _).alloc (Nat.le_refl _) _
      have XK : Box wK w.heap.size #[.int .u8 k0, .int .u8 k1, .int .u8 k2, .int .u8 k3, .int .u8 k4, .int .u8 k5] 112 := by rw [hwK, ← ha]; exact box_new w _ _
      have MK : MapAt wK B #[] 0 := HM.out.below BK hBw
      have L1 := look6_none MK (keyN hv k)
      rw [HKA.out] at L1
      rw [← hwK]
      have d0 := XK.cell 0
      have d1 := XK.cell 1
      have d2 := XK.cell 2
      have d3 := XK.cell 3
      have d4 := XK.cell 4
      have d5 := XK.cell 5
      simp only [List.getElem?_toArray, List.getElem?_cons_zero, List.getElem?_cons_succ] at d0 d1 d2 d3 d4 d5
      clear ha hwK hk0 hk1 hk2 hk3 hk4 hk5
      go_wp2
      have CW := columnWeights_any k C (.slice (some ⟨bh, oh, none⟩) k caph) hv h1 (wK.drewN 1) (HRH.out.below (below_drewN BK 1) hh) (Nat.le_trans hh BK.size) hD1 hD hC HBD.out
      clear L1 HC
      go_region_with (go_at_call 94; refine CW.mono ?_; rintro ee w3 ⟨v3, rfl, o3, b3⟩; obtain ⟨gW, cW, eW, hW⟩ := o3; have hval := hW.val; subst hval; have b4 : Below wK.heap.size wK w3 := undrewN' b3; have M3 : MapAt w3 B #[] 0 := MK.below b4 (by show B < wK.heap.size; have := BK.size; omega); have PU := put6_none M3 (keyN hv k) (.slice (some ⟨gW, 0, none⟩) (k + C) cW); rw [HKA.out] at PU; have X3 : Box w3 w.heap.size #[.int .u8 k0, .int .u8 k1, .int .u8 k2, .int .u8 k3, .int .u8 k4, .int .u8 k5] 112 := XK.below b4 XK.lt; have f0 : w3.cell? ⟨w.heap.size, 0, none⟩ = some (.int .u8 k0) := X3.cell 0; have f1 : w3.cell? ⟨w.heap.size, 1, none⟩ = some (.int .u8 k1) := X3.cell 1; have f2 : w3.cell? ⟨w.heap.size, 2, none⟩ = some (.int .u8 k2) := X3.cell 2; have f3 : w3.cell? ⟨w.heap.size, 3, none⟩ = some (.int .u8 k3) := X3.cell 3; have f4 : w3.cell? ⟨w.heap.size, 4, none⟩ = some (.int .u8 k4) := X3.cell 4; have f5 : w3.cell? ⟨w.heap.size, 5, none⟩ = some (.int .u8 k5) := X3.cell 5)
      all_goals
        obtain ⟨w5, hw5⟩ : ∃ w5, w5 = ChangeMaps.setBlock w3 B (.map #[⟨.agg #[.int .u8 k0, .int .u8 k1, .int .u8 k2, .int .u8 k3, .int .u8 k4, .int .u8 k5], .slice (some ⟨gW, 0, none⟩) (k + C) cW, 0⟩] 1) := ⟨_, rfl⟩
        have sK := BK.size
        have s4 := b4.size
        have hs5 : w5.heap.size = w3.heap.size := by rw [hw5]; exact setB_size _ _ _
        have M5 : MapAt w5 B #[⟨arr6 (keyN hv k), .slice (some ⟨gW, 0, none⟩) (k + C) cW, 0⟩] 1 := by rw [hw5, HKA.out]; exact setB_same M3 _
        have C5 : Chg B (B + 1) w w5 := by
          have h5 := setB_chg M3 (.map #[⟨.agg #[.int .u8 k0, .int .u8 k1, .int .u8 k2, .int .u8 k3, .int .u8 k4, .int .u8 k5], .slice (some ⟨gW, 0, none⟩) (k + C) cW, 0⟩] 1)
          rw [← hw5] at h5
          exact ((below_chg (lo := B) (hi := B + 1) BK (Nat.le_refl _)).trans (below_chg b4 (Nat.le_refl _))).trans h5
        have oth : ∀ b, b ≠ B → w5.heap[b]? = w3.heap[b]? := fun b hb => by rw [hw5]; exact setB_other M3 _ hb
        have OM : OwnM w5 w.heap.size w5.heap.size (.slice (some ⟨gW, 0, none⟩) (k + C) cW) (k + C) (fun _ => k) (colW k hv) := by
          have h6 := hW.keep (w2 := w5) (fun b hb1 _ => oth b (by have hb2 : wK.heap.size ≤ b := hb1; omega))
          have h7 : OwnM w5 wK.heap.size w3.heap.size (.slice (some ⟨gW, 0, none⟩) (k + C) cW) (k + C) (fun _ => k) (colW k hv) := ⟨_, _, _, h6⟩
          exact h7.weaken sK (by omega)
        have L5 := look6_one (keyN_lt hv k) M5 false
        rw [HKA.out] at L5
        simp only [Bool.false_eq_true, if_false] at L5
        have X5 : Box w5 w.heap.size #[.int .u8 k0, .int .u8 k1, .int .u8 k2, .int .u8 k3, .int .u8 k4, .int .u8 k5] 112 := (oth _ (by omega)).trans X3
        have g0 : w5.cell? ⟨w.heap.size, 0, none⟩ = some (.int .u8 k0) := X5.cell 0
        have g1 : w5.cell? ⟨w.heap.size, 1, none⟩ = some (.int .u8 k1) := X5.cell 1
        have g2 : w5.cell? ⟨w.heap.size, 2, none⟩ = some (.int .u8 k2) := X5.cell 2
        have g3 : w5.cell? ⟨w.heap.size, 3, none⟩ = some (.int .u8 k3) := X5.cell 3
        have g4 : w5.cell? ⟨w.heap.size, 4, none⟩ = some (.int .u8 k4) := X5.cell 4
        have g5 : w5.cell? ⟨w.heap.size, 5, none⟩ = some (.int .u8 k5) := X5.cell 5
        have HOM : Hid (OwnM w5 w.heap.size w5.heap.size (.slice (some ⟨gW, 0, none⟩) (k + C) cW) (k + C) (fun _ => k) (colW k hv)) := OM
        have HM5 : Hid (MapAt w5 B #[⟨arr6 (keyN hv k), .slice (some ⟨gW, 0, none⟩) (k + C) cW, 0⟩] 1) := M5
        rw [← hw5]
        clear hw5 oth PU M3 X3 f0 f1 f2 f3 f4 f5 b3 b4 hW CW MK BK XK d0 d1 d2 d3 d4 d5 OM M5
        go_wp2
        go_ret
        exact ⟨_, rfl, HOM.out, HM5.out, C5⟩

set_option maxRecDepth 20000 in
set_option maxHeartbeats 4000000 in
theorem weights_old (B D C : Nat) (vh : Value) (hv : Nat → Nat) (h1 : Nat) (w : World) (t u : Nat) (ao : Option Addr) (nv cv : Nat) (hM : MapAt w B #[⟨arr6 (keyN hv D), .slice ao nv cv, t⟩] u) (rh : RdI w h1 vh D (fun i => (hv i : Int))) (hh : h1 ≤ w.heap.size) (hD1 : 1 ≤ D) (hD : D ≤ 4) (hbd : ∀ k, k < D → hv k < D + 2) :
    Calls Try.prog 74 #[.map (some B), .int .i64 D, .int .i64 C, vh] w fun e w' => e = .returned (.slice ao nv cv) ∧ Below w.heap.size w w' := by
  obtain ⟨aoh, caph, rfl, hmm, hch⟩ := rh
  obtain ⟨bh, oh, rfl, hbh, hcell⟩ := hch (by omega)
  have HC : Hid (∀ i, i < D → w.cell? ⟨bh, oh + i, none⟩ = some (.int .i64 (hv i : Int))) := hcell
  have HBD : Hid (∀ k, k < D → hv k < D + 2) := hbd
  have hbw : bh < w.heap.size := by omega
  have hBw := hM.lt
  have HM : Hid (MapAt w B #[⟨arr6 (keyN hv D), .slice ao nv cv, t⟩] u) := hM
  clear hch hcell hbd hmm hM
  go_enter Try.func74, Try.ntmps74
  go_wp2
  go_loopw [16] (fun i wr => ∃ k : Nat, k ≤ D ∧ i = .int .i64 k ∧ wr = w.alloc (.cells (keyA hv k) 112)) (fun i _ => D - (intOf i).toNat)
  case atStart => exact ⟨0, Nat.zero_le _, rfl, rfl⟩
  case round =>
    obtain ⟨k, hk, rfl, rfl⟩ := hrel
    by_cases hlt : k < D
    · obtain ⟨p, hp⟩ : ∃ p, p = hv k := ⟨_, rfl⟩
      have ck : (w.alloc (.cells (keyA hv k) 112)).cell? ⟨bh, oh + k, none⟩ = some (.int .i64 (p : Int)) := by
        rw [cell_alloc_old _ _ _ _ hbw, hp]
        exact HC.out k hlt
      have hp6 : p < 6 := by have := HBD.out k hlt; omega
      have hT := keyA_size hv k
      have HP : Hid (p = hv k) := hp
      clear hp
      go_wp2
      go_roundw
      case rel => exact ⟨k + 1, by omega, by go_num, by rw [keyA_set hv k p HP.out hp6]⟩
      case measure => simp [intOf]; omega
    · obtain rfl : k = D := by omega
      obtain ⟨k0, hk0⟩ : ∃ x, x = keyN hv k 0 := ⟨_, rfl⟩
      obtain ⟨k1, hk1⟩ : ∃ x, x = keyN hv k 1 := ⟨_, rfl⟩
      obtain ⟨k2, hk2⟩ : ∃ x, x = keyN hv k 2 := ⟨_, rfl⟩
      obtain ⟨k3, hk3⟩ : ∃ x, x = keyN hv k 3 := ⟨_, rfl⟩
      obtain ⟨k4, hk4⟩ : ∃ x, x = keyN hv k 4 := ⟨_, rfl⟩
      obtain ⟨k5, hk5⟩ : ∃ x, x = keyN hv k 5 := ⟨_, rfl⟩
      have HKA : Hid (arr6 (keyN hv k) = .agg #[.int .u8 k0, .int .u8 k1, .int .u8 k2, .int .u8 k3, .int .u8 k4, .int .u8 k5]) := by
        show arr6 (keyN hv k) = _
        rw [hk0, hk1, hk2, hk3, hk4, hk5]
        rfl
      have ha : keyA hv k = #[.int .u8 k0, .int .u8 k1, .int .u8 k2, .int .u8 k3, .int .u8 k4, .int .u8 k5] := by
        rw [hk0, hk1, hk2, hk3, hk4, hk5]
        rfl
      obtain ⟨wK, hwK⟩ : ∃ wK, wK = w.alloc (.cells (keyA hv k) 112) := ⟨_, rfl⟩
      have BK : Below w.heap.size w wK := by rw [hwK]; exact (Below.refl _ _).alloc (Nat.le_refl _) _
      have XK : Box wK w.heap.size #[.int .u8 k0, .int .u8 k1, .int .u8 k2, .int .u8 k3, .int .u8 k4, .int .u8 k5] 112 := by rw [hwK, ← ha]; exact box_new w _ _
      have MK : MapAt wK B #[⟨arr6 (keyN hv k), .slice ao nv cv, t⟩] u := HM.out.below BK hBw
      have L1 := look6_one (keyN_lt hv k) MK true
      have L2 := look6_one (keyN_lt hv k) MK false
      rw [HKA.out] at L1 L2
      simp only [Bool.false_eq_true, if_false, if_true] at L1 L2
      rw [← hwK]
      have d0 : wK.cell? ⟨w.heap.size, 0, none⟩ = some (.int .u8 k0) := XK.cell 0
      have d1 : wK.cell? ⟨w.heap.size, 1, none⟩ = some (.int .u8 k1) := XK.cell 1
      have d2 : wK.cell? ⟨w.heap.size, 2, none⟩ = some (.int .u8 k2) := XK.cell 2
      have d3 : wK.cell? ⟨w.heap.size, 3, none⟩ = some (.int .u8 k3) := XK.cell 3
      have d4 : wK.cell? ⟨w.heap.size, 4, none⟩ = some (.int .u8 k4) := XK.cell 4
      have d5 : wK.cell? ⟨w.heap.size, 5, none⟩ = some (.int .u8 k5) := XK.cell 5
      clear ha hwK hk0 hk1 hk2 hk3 hk4 hk5
      go_wp2
      go_ret
      exact ⟨rfl, BK⟩
end Go.Proofs.Ytoadjpacchhleaa

namespace Go.Proofs.Ytoadjpacchhleaa
open Go.RowKit F256
set_option linter.unusedVariables false
set_option linter.unusedSimpArgs false

/-- the length of the first of k lists that is there -/
def flN (n : Nat → Nat) : Nat → Nat
  | 0 => 0
  | k + 1 => if flN n k = 0 then n k else flN n k
theorem flN_keep {n : Nat → Nat} {k : Nat} (h : flN n k ≠ 0) : ∀ d, flN n (k + d) = flN n k
  | 0 => rfl
  | d + 1 => by
    have := flN_keep h d
    show (if flN n (k + d) = 0 then n (k + d) else flN n (k + d)) = flN n k
    rw [this, if_neg h]
theorem flN_cnt {n : Nat → Nat} {R : Nat} : ∀ k, k ≤ R → (cntN n k = 0 ∧ flN n k = 0) ∨ (0 < cntN n k ∧ flN n k = n (nthN n R 0) ∧ flN n k ≠ 0)
  | 0, _ => .inl ⟨rfl, rfl⟩
  | k + 1, hk => by
    rcases flN_cnt (n := n) (R := R) k (by omega) with ⟨h1, h2⟩ | ⟨h1, h2, h3⟩
    · by_cases c : n k = 0
      · left
        exact ⟨by rw [cntN, if_pos c, h1], by simp only [flN, h2, if_pos, c]⟩
      · right
        have e1 : cntN n (k + 1) = 1 := by rw [cntN, if_neg c, h1]
        have e2 : flN n (k + 1) = n k := by simp only [flN, h2, if_pos]
        have e3 := nthN_is (n := n) (R := R) (j := k) (by omega) c
        rw [h1] at e3
        exact ⟨by omega, by rw [e2, e3], by rw [e2]; exact c⟩
    · right
      have e2 : flN n (k + 1) = flN n k := by simp only [flN, if_neg h3]
      have := cntN_mono n (show k ≤ k + 1 by omega)
      exact ⟨by omega, by rw [e2, h2], by rw [e2]; exact h3⟩
theorem even_fl {n : Nat → Nat} {R : Nat} : (∀ i, i < R → n i = 0 ∨ n i = flN n R) ↔ EvenM R n := by
  constructor
  · intro h t ht
    rcases flN_cnt (n := n) (R := R) R (Nat.le_refl _) with ⟨h1, h2⟩ | ⟨h1, h2, h3⟩
    · omega
    · obtain ⟨a, b, c⟩ := nthN_spec (n := n) (R := R) (k := t) ht
      show n (nthN n R t) = n (nthN n R 0)
      rw [← h2]
      exact (h _ a).resolve_left b
  · intro h i hi
    by_cases c : n i = 0
    · exact .inl c
    · right
      have e1 := nthN_is (n := n) (R := R) (j := i) hi c
      have e2 := cntN_lt hi c
      rcases flN_cnt (n := n) (R := R) R (Nat.le_refl _) with ⟨h1, h2⟩ | ⟨h1, h2, h3⟩
      · omega
      · have := h (cntN n i) e2
        show n i = flN n R
        rw [h2]
        have h4 : n (nthN n R (cntN n i)) = n (nthN n R 0) := this
        rw [e1] at h4
        exact h4

set_option maxHeartbeats 1000000 in
theorem equallyLongOrEmpty_any (v : Value) (R : Nat) (n : Nat → Nat) (f : Mat) (hi : Nat) (w : World) (r : RdM w hi v R n f) :
    Calls Try.prog 72 #[v] w (BoolP (EvenM R n) w) := by
  obtain ⟨ao, cap, e, rfl, hm, hc, he⟩ := r
  unfold maxLen at hm
  have HHE : Hid (∀ i, i < R → Rd w hi (e i) (n i) (f i)) := he
  have HHC : Hid (R ≠ 0 → ∃ b off, ao = some ⟨b, off, none⟩ ∧ b < hi ∧ ∀ i, i < R → w.cell? ⟨b, off + i, none⟩ = some (e i)) := hc
  clear hc he
  go_enter Try.func72, Try.ntmps72
  go_wp2
  go_loop [3, 7] (fun l i => ∃ k L : Nat, k ≤ R ∧ i = .int .i64 k ∧ l = .int .i64 L ∧ L = flN n k ∧ ∀ i, i < k → n i = 0 ∨ n i = flN n k) (fun _ i => R - (intOf i).toNat)
  case atStart => exact ⟨0, 0, Nat.zero_le _, rfl, rfl, rfl, fun i hi => by omega⟩
  case round =>
    obtain ⟨k, L, hk, rfl, rfl, hL, hall⟩ := hrel
    have HL : Hid (L = flN n k) := hL
    have HALL : Hid (∀ i, i < k → n i = 0 ∨ n i = flN n k) := hall
    clear hL hall
    by_cases hlt : k < R
    · obtain ⟨b, off, hao, hblt, hcell⟩ := HHC.out (by omega)
      subst hao
      have hck : w.cell? ⟨b, off + k, none⟩ = some (e k) := hcell k hlt
      obtain ⟨aok, capk, hsk, hmk, hqk⟩ := HHE.out k hlt
      unfold maxLen at hmk
      rw [hsk] at hck
      obtain ⟨nk, hnk⟩ : ∃ x, x = n k := ⟨_, rfl⟩
      have HK : Hid (nk = n k) := hnk
      rw [← hnk] at hck hmk
      clear hcell hsk hqk hnk
      by_cases hL0 : L = 0
      · have HF : Hid (flN n (k + 1) = nk) := by
          show flN n (k + 1) = nk
          simp only [flN, ← HL.out, hL0, if_pos, HK.out]
        have HZ : Hid (∀ i, i < k → n i = 0) := fun i hi => by
          rcases HALL.out i hi with h | h
          · exact h
          · rw [h, ← HL.out, hL0]
        subst hL0
        have tn : ((nk : Int) != (nk : Int)) = false := by simp
        by_cases hn0 : nk = 0
        · subst hn0
          go_wp2
          go_round
          case rel => exact ⟨k + 1, 0, by omega, by go_num, rfl, HF.out.symm, fun i hi => by
                        by_cases c : i = k
                        · left; rw [c, ← HK.out]
                        · left; exact HZ.out i (by omega)⟩
          case measure => simp [intOf]; omega
        · have t0 : ((nk : Int) != 0) = true := by simp; omega
          go_wp2
          go_round
          case rel => exact ⟨k + 1, nk, by omega, by go_num, rfl, HF.out.symm, fun i hi => by
                        by_cases c : i = k
                        · right; rw [c, HF.out, HK.out]
                        · left; exact HZ.out i (by omega)⟩
          case measure => simp [intOf]; omega
      · have HF : Hid (flN n (k + 1) = L) := by
          show flN n (k + 1) = L
          simp only [flN, ← HL.out, if_neg hL0]
        have HNZ : Hid (flN n (k + 1) ≠ 0) := by
          show flN n (k + 1) ≠ 0
          rw [HF.out]; exact hL0
        have tL : ((L : Int) == 0) = false := by simp; omega
        have HA : Hid (∀ i, i < k → n i = 0 ∨ n i = flN n (k + 1)) := fun i hi => by rw [HF.out, HL.out]; exact HALL.out i hi
        by_cases hn0 : nk = 0
        · subst hn0
          clear hL0
          go_wp2
          go_round
          case rel => exact ⟨k + 1, L, by omega, by go_num, rfl, HF.out.symm, fun i hi => by
                        by_cases c : i = k
                        · left; rw [c, ← HK.out]
                        · exact HA.out i (by omega)⟩
          case measure => simp [intOf]; omega
        · have t0 : ((nk : Int) != 0) = true := by simp; omega
          by_cases hnL : nk = L
          · subst hnL
            clear hL0 hn0
            go_wp2
            go_round
            case rel => exact ⟨k + 1, nk, by omega, by go_num, rfl, HF.out.symm, fun i hi => by
                          by_cases c : i = k
                          · right; rw [c, ← HK.out, HF.out]
                          · exact HA.out i (by omega)⟩
            case measure => simp [intOf]; omega
          · have tn : ((nk : Int) != (L : Int)) = true := by simp; omega
            have HNO : Hid (¬ EvenM R n) := fun h => by
              have h1 := even_fl.mpr h k hlt
              have h2 := flN_keep HNZ.out (R - (k + 1))
              rw [show k + 1 + (R - (k + 1)) = R by omega] at h2
              rw [h2, HF.out, ← HK.out] at h1
              omega
            clear hL0 hn0 hnL
            go_wp2
            go_ret
            exact boolNo rfl HNO.out (Below.refl _ _)
    · obtain rfl : k = R := by omega
      go_wp2
      go_ret
      exact boolYes rfl (even_fl.mp HALL.out) (Below.refl _ _)

set_option maxHeartbeats 4000000 in
theorem weighed_any (vl vh vw : Value) (R D N : Nat) (n : Nat → Nat) (f : Mat) (hv : Nat → Nat) (c : Nat → Nat) (h1 h2 h3 : Nat) (w : World) (rl : RdM w h1 vl R n f) (rh : RdI w h2 vh D (fun i => (hv i : Int))) (rw' : Rd w h3 vw D c) (hh1 : h1 ≤ w.heap.size) (hh2 : h2 ≤ w.heap.size) (hh3 : h3 ≤ w.heap.size)
    (hD1 : 1 ≤ D) (hD : D ≤ 1000) (hb : ∀ k, k < D → hv k < R) (hN : ∀ k, k < D → n (hv k) = N) (hN2 : N ≤ 1000000000) (kf : Byt f) (kc : ∀ i, c i < 256) :
    Calls Try.prog 73 #[vl, vh, vw] w fun e w' => ∃ v', e = .returned v' ∧ Own w' w.heap.size w'.heap.size v' N (mixN (fun k => f (hv k)) c D) ∧ Below w.heap.size w w' := by
  have hR0 : 0 < R := by have := hb 0 (by omega); omega
  obtain ⟨ao, cap, e, rfl, hm, hc, he⟩ := rl
  obtain ⟨b, off, rfl, hblt, hcell⟩ := hc (by omega)
  obtain ⟨aoh, caph, rfl, hmh, hch⟩ := rh
  obtain ⟨bh, oh, rfl, hbh, hcellh⟩ := hch (by omega)
  obtain ⟨aow, capw, rfl, hmw, hcw⟩ := rw'
  obtain ⟨bw, ow, rfl, hbw, hcellw⟩ := hcw (by omega)
  unfold maxLen at hm
  have HE : Hid (∀ k, k < D → Rd w h1 (e (hv k)) N (f (hv k))) := fun k hk => by have := he (hv k) (hb k hk); rw [hN k hk] at this; exact this
  have HC : Hid (∀ i, i < R → w.cell? ⟨b, off + i, none⟩ = some (e i)) := hcell
  have HCH : Hid (∀ i, i < D → w.cell? ⟨bh, oh + i, none⟩ = some (.int .i64 (hv i : Int))) := hcellh
  have HCW : Hid (∀ i, i < D → w.cell? ⟨bw, ow + i, none⟩ = some (.int .u8 (c i))) := hcellw
  have HBD : Hid (∀ k, k < D → hv k < R) := hb
  have hb0 : b < w.heap.size := by omega
  have hbh0 : bh < w.heap.size := by omega
  have hbw0 : bw < w.heap.size := by omega
  obtain ⟨p, hp⟩ : ∃ p, p = hv 0 := ⟨_, rfl⟩
  have c0 : w.cell? ⟨bh, oh, none⟩ = some (.int .i64 (p : Int)) := by rw [hp]; exact hcellh 0 (by omega)
  have hpR : p < R := by rw [hp]; exact hb 0 (by omega)
  obtain ⟨ao0, cap0, hs0, hm0, hq0⟩ := HE.out 0 (by omega)
  have c1 : w.cell? ⟨b, off + p, none⟩ = some (.slice ao0 N cap0) := by rw [← hs0, hp]; exact hcell (hv 0) (hb 0 (by omega))
  clear hc hch hcw he hb hN hcell hcellh hcellw hs0 hq0 hm0 hp hmh hmw
  go_enter Try.func73, Try.ntmps73
  go_wp2_with (at_make; refine wp_makeB _ rfl _ _ rfl _ _ N rfl rfl rfl rfl (by omega) ?_; intro w1 hown1 hb1 hz1)
  clear c0 c1
  go_loopw [20] (fun i wr => ∃ k : Nat, k ≤ D ∧ i = .int .i64 k ∧ Own wr w.heap.size w1.heap.size (.slice (some ⟨w.heap.size, 0, none⟩) N N) N (mixN (fun k => f (hv k)) c k) ∧ Below w.heap.size w wr ∧ w1.heap.size ≤ wr.heap.size) (fun i _ => D - (intOf i).toNat)
  case atStart => exact ⟨0, Nat.zero_le _, rfl, hown1, hb1, Nat.le_refl _⟩
  case round =>
    clear hown1 hb1
    obtain ⟨k, hk, rfl, ho, hb, hsz⟩ := hrel
    by_cases hlt : k < D
    · obtain ⟨p, hp⟩ : ∃ p, p = hv k := ⟨_, rfl⟩
      obtain ⟨y, hy⟩ : ∃ y, y = c k := ⟨_, rfl⟩
      have c0 : wr.cell? ⟨bh, oh + k, none⟩ = some (.int .i64 (p : Int)) := by rw [hp]; exact (hb.cell (p := ⟨bh, oh + k, none⟩) hbh0).trans (HCH.out k hlt)
      have hpR2 : p < R := by rw [hp]; exact HBD.out k hlt
      have c1 : wr.cell? ⟨b, off + p, none⟩ = some (e p) := (hb.cell (p := ⟨b, off + p, none⟩) hb0).trans (HC.out p hpR2)
      have c2 : wr.cell? ⟨bw, ow + k, none⟩ = some (.int .u8 y) := by rw [hy]; exact (hb.cell (p := ⟨bw, ow + k, none⟩) hbw0).trans (HCW.out k hlt)
      have rm : Rd wr h1 (e p) N (f p) := by rw [hp]; exact (HE.out k hlt).below hb hh1
      have CA := addScaled_any (.slice (some ⟨w.heap.size, 0, none⟩) N N) (e p) N (mixN (fun k => f (hv k)) c k) (f p) (mixN (fun k => f (hv k)) c (k + 1)) y w.heap.size w1.heap.size h1 (wr.drewN 1) (ho.drewN 1) hsz rm hh1 (Nat.le_trans hh1 hb.size) (mixN_lt _ _ kc k) (kf p) (by rw [hy]; exact kc k) (fun i _ => by rw [hy, hp]; rfl) hN2
      have HO : Hid (Own wr w.heap.size w1.heap.size (.slice (some ⟨w.heap.size, 0, none⟩) N N) N (mixN (fun k => f (hv k)) c k)) := ho
      have HBL : Hid (Below w.heap.size w wr) := hb
      obtain ⟨x, hx⟩ : ∃ x, x = e p := ⟨_, rfl⟩
      rw [← hx] at c1 CA rm
      obtain ⟨aox, capx, hsx, _, _⟩ := rm
      subst hsx
      clear ho hb hx hy hp
      go_wp2
      go_region_with (go_at_call 61; refine CA.mono ?_; rintro ee w7 ⟨rfl, o7, ch7⟩)
      all_goals
        have B7 : Below w.heap.size w w7 := (below_drewN HBL.out 1).trans (ch7.below (Nat.le_refl _) HBL.out.size)
        have S7 : w1.heap.size ≤ w7.heap.size := Nat.le_trans hsz ch7.size
        clear ch7 HO HBL CA c0 c1 c2
        go_wp2
        go_roundw
        case rel => exact ⟨k + 1, by omega, by go_num, o7, B7, S7⟩
        case measure => simp [intOf]; omega
    · obtain rfl : k = D := by omega
      go_wp2
      go_ret
      exact ⟨_, rfl, ho.weaken (Nat.le_refl _) hsz, hb⟩
end Go.Proofs.Ytoadjpacchhleaa

namespace Go.Proofs.Ytoadjpacchhleaa
open Go.RowKit F256
set_option linter.unusedVariables false
set_option linter.unusedSimpArgs false

/-- append(v, x), x a number that lies in a block of its own: what else is left -/
theorem wp_appendIt {ops : Array Oper} {rest : List Oper} {o : Oper} {a : Act} {w : World} {Q : Exit → Act → World → Prop}
    (hg : o.guard = none) (s x : Operand) (hop : o.op = Op.call { callee := Callee.builtin Builtin.append, args := #[s, x], argTypes := #[57, 57] })
    (lo hi : Nat) (v : Value) (n : Nat) (f : Nat → Int) (hs : a.eval s = v) (hown : OwnI w lo hi v n f) (b c : Nat) (hx : a.eval x = .slice (some ⟨b, 0, none⟩) 1 c) (hcell : w.cell? ⟨b, 0, none⟩ = some (.int .i64 (f n)))
    (hn : n + 1 ≤ 1000000) (hlo : lo ≤ w.heap.size)
    (hK : ∀ v' w', OwnI w' lo w'.heap.size v' (n + 1) f → w.grownBy w' v.ownBlock → wpList Try.prog ops Q rest (a.put o.dst v') w') : wpList Try.prog ops Q (o :: rest) a w := by
  obtain ⟨i0, hi0, hz0, hz1, hz2⟩ := info_parts info_i64
  refine wpList_append_own w hg s x 57 hop lo 2 i0 (.int .i64 0) 1 8 Try.underlying57 hi0 hz0 hz1 hz2 rfl (by decide) v n (intsOf n f) hs hown.1 ⟨b, 0, none⟩ 1 c [.int .i64 (f n)] hx rfl ?_ ?_ (by unfold maxLen; omega) (by omega) hlo ?_
  · intro j u hj
    match j, hj with
    | 0, hj => simp at hj; subst hj; simpa [Addr.add] using hcell
  · intro u hu
    simp at hu
    subst hu
    rfl
  · intro v' w' h1 h2 _
    rw [intsOf_snoc] at h1
    exact hK v' w' ⟨h1, fun k hk => (h1.lt k hk).2⟩ h2
/-- a row of slices and a row of numbers lie in two blocks -/
theorem two_types {w : World} {lo lo' hi : Nat} {v x : Value} {k n : Nat} {xs : List Value} {f : Nat → Int} (h : w.ownsRow lo 22 1 v k xs) (ho : OwnI w lo' hi x n f) (b : Nat) (hb : v.ownBlock = some b) : x.ownBlock ≠ some b := by
  intro hx
  rcases h.2 with ⟨rfl, _⟩ | ⟨g, cap, cur, rfl, _, hg, _⟩
  · cases hb
  · rcases ho.1.2 with ⟨rfl, _⟩ | ⟨g', cap', cur', rfl, _, hg', _⟩
    · cases hx
    · simp [Value.ownBlock] at hb hx
      subst hb
      subst hx
      rw [hg] at hg'
      simp at hg'
theorem OwnI.kept {w w' : World} {lo hi : Nat} {v : Value} {n : Nat} {f : Nat → Int} (h : OwnI w lo hi v n f) (hk : ∀ g, v.ownBlock = some g → w'.heap[g]? = w.heap[g]?) : OwnI w' lo hi v n f := by
  refine ⟨⟨h.1.1, ?_⟩, h.2⟩
  rcases h.1.2 with hn | ⟨g, cap, cur, rfl, hbg, hgg, rest⟩
  · exact .inl hn
  · exact .inr ⟨g, cap, cur, rfl, hbg, (hk g rfl).trans hgg, rest⟩

end Go.Proofs.Ytoadjpacchhleaa

namespace Go.Proofs.Ytoadjpacchhleaa
open Go.RowKit F256
set_option linter.unusedVariables false
set_option linter.unusedSimpArgs false

/-- make([]int64, 0, n) -/
theorem wp_makeI0 (w : World) {ops : Array Oper} {rest : List Oper} {o : Oper} {a : Act} {Q : Exit → Act → World → Prop}
    (hg : o.guard = none) (l c : Operand) (hop : o.op = Op.makeSlice 57 l c) (C : Int) (n : Nat) (hl : a.eval l = .int .i64 0) (hc : a.eval c = .int .i64 C) (hC : C = (n : Int)) (hn : n ≤ 1000000000)
    (hK : ∀ w', (∀ f, OwnI w' w.heap.size w'.heap.size (.slice (some ⟨w.heap.size, 0, none⟩) 0 n) 0 f) → Below w.heap.size w w' → w.heap.size < w'.heap.size → wpList Try.prog ops Q rest (a.put o.dst (.slice (some ⟨w.heap.size, 0, none⟩) 0 n)) w') :
    wpList Try.prog ops Q (o :: rest) a w := by
  obtain ⟨i0, hi0, hz0, hz1, hz2⟩ := info_parts info_i64
  refine wpList_make_own w hg l c 57 hop w.heap.size 2 i0 (.int .i64 0) 1 Try.underlying57 hi0 hz0 hz1 .i64 .i64 C n hl hc hC (by rw [hz2]; omega) (by unfold maxLen; omega) (Nat.le_refl _) ?_
  intro w' hown hgrow
  have hlt := (hown.lt _ rfl).2
  exact hK w' (fun f => ⟨hown, fun k hk => (hown.lt k hk).2⟩) (below_of_grown hgrow) hlt

/-- how many are picked of the first k -/
def pickN (D : Nat) (n : Nat → Nat) (k : Nat) : Nat := if cntN n k < D then cntN n k else D
theorem pickN_zero (D : Nat) (n : Nat → Nat) : pickN D n 0 = 0 := by
  have h0 : cntN n 0 = 0 := rfl
  unfold pickN
  rw [h0]
  by_cases c : 0 < D
  · rw [if_pos c]
  · rw [if_neg c]; omega
theorem pickN_none {D : Nat} {n : Nat → Nat} {k : Nat} (h : n k = 0) : pickN D n (k + 1) = pickN D n k := by
  unfold pickN
  rw [cntN, if_pos h]
theorem pickN_more {D : Nat} {n : Nat → Nat} {k : Nat} (h : n k ≠ 0) (hl : pickN D n k < D) : pickN D n (k + 1) = pickN D n k + 1 ∧ pickN D n k = cntN n k := by
  unfold pickN at hl ⊢
  rw [cntN, if_neg h]
  by_cases c : cntN n k < D
  · rw [if_pos c]
    refine ⟨?_, rfl⟩
    split <;> omega
  · rw [if_neg c] at hl
    omega
theorem pickN_full {D : Nat} {n : Nat → Nat} {k : Nat} (hl : ¬ pickN D n k < D) : pickN D n (k + 1) = pickN D n k := by
  unfold pickN at hl ⊢
  by_cases c : cntN n k < D
  · rw [if_pos c] at hl
    omega
  · have := cntN_mono n (show k ≤ k + 1 by omega)
    rw [if_neg c, if_neg (by omega)]
theorem pickN_all {D : Nat} {n : Nat → Nat} {k : Nat} (h : D ≤ cntN n k) : pickN D n k = D := by
  unfold pickN
  rw [if_neg (by omega)]
theorem pickN_few {D : Nat} {n : Nat → Nat} {k : Nat} (h : ¬ D ≤ cntN n k) : pickN D n k < D := by
  unfold pickN
  rw [if_pos (by omega)]
  omega

set_option maxHeartbeats 2000000 in
theorem firstThere_any (D : Nat) (v : Value) (R : Nat) (n : Nat → Nat) (f : Nat → Nat → Nat) (h1 : Nat) (w : World) (r : RdM w h1 v R n f) (hh : h1 ≤ w.heap.size) (hD : D ≤ 1000) :
    Calls Try.prog 58 #[.int .i64 D, v] w fun e w' => ∃ v', e = .returned v' ∧ OwnI w' w.heap.size w'.heap.size v' (pickN D n R) (fun t => (nthN n R t : Int)) ∧ Below w.heap.size w w' := by
  obtain ⟨ao, cap, e, rfl, hm, hc, he⟩ := r
  unfold maxLen at hm
  have HHE : Hid (∀ i, i < R → Rd w h1 (e i) (n i) (f i)) := he
  have HHC : Hid (R ≠ 0 → ∃ b off, ao = some ⟨b, off, none⟩ ∧ b < h1 ∧ ∀ i, i < R → w.cell? ⟨b, off + i, none⟩ = some (e i)) := hc
  clear hc he
  go_enter Try.func58, Try.ntmps58
  go_wp2_with (at_make; refine wp_makeI0 _ rfl _ _ rfl _ D rfl rfl rfl (by omega) ?_; intro w1 hown1 hb1 hz1)
  have I0 := hown1 (fun t => (nthN n R t : Int))
  clear hown1
  go_loopw [5, 11] (fun vh i wr => ∃ c k : Nat, k ≤ R ∧ i = .int .i64 k ∧ c = pickN D n k ∧ OwnI wr w.heap.size wr.heap.size vh c (fun t => (nthN n R t : Int)) ∧ Below w.heap.size w wr) (fun _ i _ => R - (intOf i).toNat)
  case atStart => exact ⟨0, 0, Nat.zero_le _, rfl, (pickN_zero D n).symm, I0, hb1⟩
  case round =>
    clear I0 hb1 hz1
    obtain ⟨c, k, hk, rfl, hck, hI, hb⟩ := hrel
    have HCK : Hid (c = pickN D n k) := hck
    have HI : Hid (OwnI wr w.heap.size wr.heap.size u5 c (fun t => (nthN n R t : Int))) := hI
    have HB : Hid (Below w.heap.size w wr) := hb
    obtain ⟨ao8, cap8, hs8⟩ := hI.slice
    subst hs8
    have szr := hb.size
    have hcD : c ≤ D := by
      rw [hck]
      unfold pickN
      split <;> omega
    clear hck
    by_cases hlt : k < R
    · obtain ⟨b, off, hao, hblt, hcell⟩ := HHC.out (by omega)
      subst hao
      have c1 : wr.cell? ⟨b, off + k, none⟩ = some (e k) := (hb.cell (p := ⟨b, off + k, none⟩) (by show b < w.heap.size; omega)).trans (hcell k hlt)
      obtain ⟨aok, capk, hsk, hmk, hqk⟩ := HHE.out k hlt
      unfold maxLen at hmk
      obtain ⟨nk, hnk⟩ : ∃ x, x = n k := ⟨_, rfl⟩
      have HNK : Hid (nk = n k) := hnk
      rw [hsk, ← hnk] at c1
      rw [← hnk] at hmk
      clear hnk hsk hqk hcell hI hb
      by_cases e1 : nk = 0
      · have HN0 : Hid (nk = 0) := e1
        have t1 : decide ((0 : Int) < (nk : Int)) = false := by simp; omega
        have t1n : decide (0 < nk) = false := by simp; omega
        clear e1
        go_wp2
        go_roundw
        case rel => exact ⟨c, k + 1, by omega, by go_num, by rw [pickN_none (by rw [← HNK.out]; exact HN0.out)]; exact HCK.out, HI.out, HB.out⟩
        case measure => simp [intOf]; omega
      · have HN0 : Hid (nk ≠ 0) := e1
        have t1 : (0 : Int) < (nk : Int) := by omega
        have t1n : decide (0 < nk) = true := by simp; omega
        have hbw : b < w.heap.size := by omega
        clear e1
        by_cases hcd : c < D
        · have t2 : (c : Int) < (D : Int) := by omega
          have HPM := pickN_more (D := D) (n := n) (k := k) (by rw [← HNK.out]; exact HN0.out) (by rw [← HCK.out]; exact hcd)
          have HNT : Hid (nthN n R c = k) := by
            show nthN n R c = k
            rw [HCK.out, HPM.2]
            exact nthN_is hlt (by rw [← HNK.out]; exact HN0.out)
          have HP1 : Hid (pickN D n (k + 1) = c + 1) := by show pickN D n (k + 1) = c + 1; rw [HPM.1, ← HCK.out]
          clear HPM
          go_wp2_with (at_builtin; refine wp_appendIt rfl (.tmp 26) (.tmp 28) rfl w.heap.size wr.heap.size (.slice ao8 c cap8) c (fun t => (nthN n R t : Int)) ?_ ?_ wr.heap.size 1 ?_ ?_ (by omega) ?_ ?_; (simp [Act.eval]); exact HI.out.alloc _; (simp [Act.eval]); (rw [HNT.out]; simp); (simp; omega); intro v2 w2 o2 g2)
          have b2 : Below w.heap.size wr w2 := ((Below.refl w.heap.size wr).alloc szr _).grown g2 (by simp; omega) (fun q hq => (HI.out.1.lt q hq).1)
          have b5 : Below w.heap.size w w2 := HB.out.trans b2
          clear g2 b2 c1 HI HB
          go_wp2
          go_roundw
          case rel => exact ⟨c + 1, k + 1, by omega, by go_num, HP1.out.symm, o2, b5⟩
          case measure => simp [intOf]; omega
        · have t2 : decide ((c : Int) < (D : Int)) = false := by simp; omega
          have t2n : decide (c < D) = false := by simp; omega
          have HP1 : Hid (c = pickN D n (k + 1)) := by
            show c = pickN D n (k + 1)
            rw [pickN_full (by rw [← HCK.out]; exact hcd)]
            exact HCK.out
          clear hcd
          go_wp2
          go_roundw
          case rel => exact ⟨c, k + 1, by omega, by go_num, HP1.out, HI.out, HB.out⟩
          case measure => simp [intOf]; omega
    · obtain rfl : k = R := by omega
      have HI2 : Hid (OwnI wr w.heap.size wr.heap.size (.slice ao8 c cap8) (pickN D n k) (fun t => (nthN n k t : Int))) := by
        show OwnI wr w.heap.size wr.heap.size (.slice ao8 c cap8) (pickN D n k) (fun t => (nthN n k t : Int))
        rw [← HCK.out]; exact hI
      clear hI
      go_wp2
      go_ret
      exact ⟨_, rfl, HI2.out, hb⟩

set_option maxHeartbeats 1000000 in
theorem index_any (v : Value) (n : Nat) (g : Nat → Int) (hi : Nat) (x : Int) (w : World) (r : RdI w hi v n g) :
    Calls Try.prog 95 #[v, .int .i64 x] w fun e w' => ∃ z : Int, e = .returned (.int .i64 z) ∧ (0 ≤ z ↔ ∃ t, t < n ∧ g t = x) ∧ w' = w := by
  obtain ⟨ao, cap, rfl, hm, hc⟩ := r
  unfold maxLen at hm
  go_enter Try.func95, Try.ntmps95
  go_wp2
  go_loop [8] (fun i => ∃ k : Nat, k ≤ n ∧ i = .int .i64 k ∧ ∀ i, i < k → g i ≠ x) (fun i => n - (intOf i).toNat)
  case atStart => exact ⟨0, Nat.zero_le _, rfl, fun i hi => by omega⟩
  case round =>
    obtain ⟨k, hk, rfl, hall⟩ := hrel
    have HALL : Hid (∀ i, i < k → g i ≠ x) := hall
    clear hall
    by_cases hlt : k < n
    · obtain ⟨b, off, rfl, hblt, hcell⟩ := hc (by omega)
      have hck : w.cell? ⟨b, off + k, none⟩ = some (.int .i64 (g k)) := hcell k hlt
      obtain ⟨y, hy⟩ : ∃ y, y = g k := ⟨_, rfl⟩
      have HY : Hid (y = g k) := hy
      rw [← hy] at hck
      clear hc hcell hy
      by_cases heq : x = y
      · have HP : Hid (0 ≤ (k : Int) ↔ ∃ t, t < n ∧ g t = x) := ⟨fun _ => ⟨k, hlt, by rw [← HY.out, heq]⟩, fun _ => by omega⟩
        have te : (x == y) = true := by simp [heq]
        clear heq
        go_wp2
        go_ret
        exact ⟨_, rfl, HP.out, rfl⟩
      · have te : (x == y) = false := by simp [heq]
        have HN : Hid (g k ≠ x) := by show g k ≠ x; rw [← HY.out]; exact fun h => heq h.symm
        clear heq
        go_wp2
        go_round
        case rel => exact ⟨k + 1, by omega, by go_num, fun i hi => by
                      by_cases c : i = k
                      · rw [c]; exact HN.out
                      · exact HALL.out i (by omega)⟩
        case measure => simp [intOf]; omega
    · obtain rfl : k = n := by omega
      have HP : Hid (0 ≤ (-1 : Int) ↔ ∃ t, t < k ∧ g t = x) := ⟨fun h => by omega, fun ⟨t, ht, he⟩ => absurd he (HALL.out t ht)⟩
      clear hc
      go_wp2
      go_ret
      exact ⟨-1, rfl, HP.out, rfl⟩

theorem contains_any (v : Value) (n : Nat) (g : Nat → Int) (hi : Nat) (x : Int) (w : World) (r : RdI w hi v n g) :
    Calls Try.prog 77 #[v, .int .i64 x] w (BoolP (∃ t, t < n ∧ g t = x) w) := by
  have C := index_any v n g hi x w r
  obtain ⟨ao, cap, rfl, hm, hc⟩ := r
  clear hc hm
  have HI : Hid (Calls Try.prog 95 #[.slice ao n cap, .int .i64 x] w fun e w' => ∃ z : Int, e = .returned (.int .i64 z) ∧ (0 ≤ z ↔ ∃ t, t < n ∧ g t = x) ∧ w' = w) := C
  clear C
  obtain ⟨P, hP⟩ : ∃ P : Prop, P = ∃ t, t < n ∧ g t = x := ⟨_, rfl⟩
  rw [← hP] at HI ⊢
  clear hP
  go_enter Try.func77, Try.ntmps77
  go_wp2_with fail
  refine HI.out.mono ?_
  rintro e w1 ⟨z, rfl, hz, hw1⟩
  obtain rfl := hw1.symm
  have HZ : Hid (0 ≤ z ↔ P) := hz
  clear hz HI
  by_cases h0 : 0 ≤ z
  · have HP : Hid P := HZ.out.mp h0
    go_wp2
    go_ret
    exact boolYes rfl HP.out (Below.refl _ _)
  · have HP : Hid (¬ P) := fun h => h0 (HZ.out.mpr h)
    have td : decide (0 ≤ z) = false := by simp; omega
    clear h0
    go_wp2
    go_ret
    exact boolNo rfl HP.out (Below.refl _ _)
end Go.Proofs.Ytoadjpacchhleaa

namespace Go.Proofs.Ytoadjpacchhleaa
open Go.RowKit F256
set_option linter.unusedVariables false
set_option linter.unusedSimpArgs false

/-- the book has the weights of this lineup -/
def BookP (w : World) (B D C : Nat) (hv : Nat → Nat) : Prop := ∃ gW cW eW hW, MapAt w B #[⟨arr6 (keyN hv D), .slice (some ⟨gW, 0, none⟩) (D + C) cW, 0⟩] 1 ∧ OwnE w (B + 2) hW (.slice (some ⟨gW, 0, none⟩) (D + C) cW) (D + C) (fun _ => D) (colW D hv) gW cW eW ∧ hW ≤ w.heap.size
theorem weights_any (B D C : Nat) (vh : Value) (hv : Nat → Nat) (h1 : Nat) (w : World) (hM : MapAt w B #[] 0 ∨ BookP w B D C hv) (hB : B + 2 ≤ w.heap.size) (rh : RdI w h1 vh D (fun i => (hv i : Int))) (hh : h1 ≤ w.heap.size) (hD1 : 1 ≤ D) (hD : D ≤ 4) (hC : C ≤ 2) (hbd : ∀ k, k < D → hv k < D + 2) :
    Calls Try.prog 74 #[.map (some B), .int .i64 D, .int .i64 C, vh] w fun e w' => ∃ gW cW eW hW, e = .returned (.slice (some ⟨gW, 0, none⟩) (D + C) cW) ∧ OwnE w' (B + 2) hW (.slice (some ⟨gW, 0, none⟩) (D + C) cW) (D + C) (fun _ => D) (colW D hv) gW cW eW ∧ hW ≤ w'.heap.size ∧ MapAt w' B #[⟨arr6 (keyN hv D), .slice (some ⟨gW, 0, none⟩) (D + C) cW, 0⟩] 1 ∧ Chg B (B + 1) w w' := by
  rcases hM with hM | ⟨gW, cW, eW, hW, hM, hE, hw⟩
  · refine (weights_new B D C vh hv h1 w hM rh hh hD1 hD hC hbd).mono ?_
    rintro e w' ⟨v', rfl, ⟨g, cap, e2, ho⟩, hm, hc⟩
    have hval := ho.val
    subst hval
    have ho2 : OwnE w' (B + 2) w'.heap.size (.slice (some ⟨g, 0, none⟩) (D + C) cap) (D + C) (fun _ => D) (colW D hv) g cap e2 := by
      refine ⟨rfl, Nat.le_trans hB ho.low, ho.high, ?_, fun i hi => (ho.each i hi).weaken hB (Nat.le_refl _), ho.apart⟩
      refine ⟨ho.row.1, ?_⟩
      rcases ho.row.2 with hn | ⟨g', cap', cur, hv', hbg, rest⟩
      · exact .inl hn
      · exact .inr ⟨g', cap', cur, hv', by omega, rest⟩
    exact ⟨g, cap, e2, w'.heap.size, rfl, ho2, Nat.le_refl _, hm, hc⟩
  · have hBw := hM.lt
    refine (weights_old B D C vh hv h1 w 0 1 (some ⟨gW, 0, none⟩) (D + C) cW hM rh hh hD1 hD hbd).mono ?_
    rintro e w' ⟨rfl, hb⟩
    exact ⟨gW, cW, eW, hW, rfl, hE.below hb hw, Nat.le_trans hw hb.size, hM.below hb hBw, below_chg hb (Nat.le_refl _)⟩
theorem mixN_by {f : Mat} {c d : Nat → Nat} {j : Nat} : ∀ {k : Nat}, (∀ i, i < k → c i = d i) → mixN f c k j = mixN f d k j
  | 0, _ => rfl
  | k + 1, h => by rw [mixN, mixN, mixN_by (fun i hi => h i (by omega)), h k (by omega)]
theorem colW_is {D : Nat} {hv : Nat → Nat} (h1 : 1 ≤ D) (h2 : D ≤ 4) (hlt : ∀ j, j < D → hv j < D + 2) (hr : ∀ j, j + 1 < D → hv j < hv (j + 1)) (p k : Nat) (hk : k < D) : colW D hv p k = weightsN D 8 hv p k := by
  show mixN (dW D hv) (genN D p 8) D k = _
  rw [mixN_dotC]
  exact weights_way h1 h2 hlt hr k hk
theorem colW_byt (D : Nat) (hv : Nat → Nat) : Byt (colW D hv) := fun p k => mixN_lt _ _ (genN_lt D p 8) D k
/-- one is longer just if the first that is there is -/
theorem one_longer {R : Nat} {n : Nat → Nat} (h : EvenM R n) : (∀ i, i < R → n i ≤ 4000) ↔ ¬ (0 < cntN n R ∧ 4000 < n (nthN n R 0)) := by
  constructor
  · rintro h1 ⟨h2, h3⟩
    have := h1 _ (nthN_spec (n := n) (R := R) (k := 0) h2).1
    omega
  · intro h1 i hi
    by_cases c : n i = 0
    · omega
    · have e1 := nthN_is (n := n) (R := R) (j := i) hi c
      have e2 := cntN_lt hi c
      have h4 : n (nthN n R (cntN n i)) = n (nthN n R 0) := h (cntN n i) e2
      rw [e1] at h4
      rw [h4]
      refine Classical.byContradiction fun h5 => h1 ⟨by omega, by omega⟩

set_option maxHeartbeats 8000000 in
theorem implDecodeC_any (g c : Int) (v : Value) (R : Nat) (n : Nat → Nat) (f : Mat) (h1 : Nat) (w : World) (r : RdM w h1 v R n f) (hh : h1 ≤ w.heap.size) (kf : Byt f) :
    Calls Try.prog 32 #[.int .i64 g, .int .i64 c, v] w fun ee w' => ∃ x v', ee = .returned (bytesR x v') ∧ DcAns g c R n x ∧ OwnB w' w.heap.size w'.heap.size v' (if x = 0 then R else 0) (fun _ => n (nthN n R 0)) (colN g.toNat n R f) ∧ Below w.heap.size w w' := by
  have HR : Hid (RdM w h1 v R n f) := r
  obtain ⟨ao, cap, e, rfl, hm, hc, he⟩ := r
  unfold maxLen at hm
  clear hc he
  go_enter Try.func32, Try.ntmps32
  go_wp2_with fail
  refine (columnInBounds_any g c _).mono ?_
  rintro e0 w1 ⟨b1, rfl, hb1, b1'⟩
  have HS : Hid (b1 = true ↔ Shp3 g c) := hb1
  have B1 : Below w.heap.size w w1 := bnew b1'
  have X1 : Box w1 w.heap.size #[.int .i64 0, .slice none 0 0] 53 := (box_new w _ _).below b1' (by simp)
  have z1 : w.heap.size < w1.heap.size := X1.lt
  obtain ⟨x0, x1, y0, y1⟩ := res_cells X1
  clear hb1 b1'
  cases b1 with
  | false =>
    have HNO : Hid (¬ Shp3 g c) := fun h => by have := HS.out.mpr h; cases this
    clear HS
    go_wp2
    exact bodyPost_ret (v := bytesR 3 (.slice none 0 0)) (by simp [results, Try.results32, go_sem, bytesR, x0, x1]) rfl ⟨3, _, rfl, .inl ⟨rfl, HNO.out⟩, OwnB.none _ _ _ _ _, (B1.setCell (Nat.le_refl _) _).setCell (Nat.le_refl _) _⟩
  | true =>
    have hsh := HS.out.mp rfl
    have HSH : Hid (Shp3 g c) := hsh
    obtain ⟨q1, q2, q3, q4⟩ := hsh
    obtain ⟨D, rfl⟩ : ∃ D : Nat, g = D := ⟨g.toNat, by omega⟩
    obtain ⟨C, rfl⟩ : ∃ C : Nat, c = C := ⟨c.toNat, by omega⟩
    clear HS
    by_cases hlen : (R : Int) = (D : Int) + (C : Int)
    · have HLEN : Hid ((R : Int) = (D : Int) + (C : Int)) := hlen
      have tl : ((R : Int) != (D : Int) + (C : Int)) = false := by simp [hlen]
      have hR6 : R ≤ 6 := by omega
      have CE := equallyLongOrEmpty_any (.slice ao R cap) R n f h1 w1 (HR.out.below B1 hh)
      clear hlen x0 x1 y0 y1
      go_wp2_with fail
      refine CE.mono ?_
      rintro e0 w2 ⟨b2, rfl, hb2, b2'⟩
      have HT : Hid (b2 = true ↔ EvenM R n) := hb2
      have B2 : Below w.heap.size w w2 := B1.trans (b2'.mono B1.size)
      have X2 : Box w2 w.heap.size #[.int .i64 0, .slice none 0 0] 53 := X1.below b2' z1
      have z2 : w.heap.size < w2.heap.size := X2.lt
      obtain ⟨x0, x1, y0, y1⟩ := res_cells X2
      clear hb2 b2' X1 B1 z1 CE
      cases b2 with
      | false =>
        have HNO : Hid (¬ EvenM R n) := fun h => by have := HT.out.mpr h; cases this
        clear HT
        go_wp2
        exact bodyPost_ret (v := bytesR 1 (.slice none 0 0)) (by simp [results, Try.results32, go_sem, bytesR, x0, x1]) rfl ⟨1, _, rfl, .inr (.inr (.inl ⟨rfl, HSH.out, HLEN.out, HNO.out⟩)), OwnB.none _ _ _ _ _, (B2.setCell (Nat.le_refl _) _).setCell (Nat.le_refl _) _⟩
      | true =>
        have HEV : Hid (EvenM R n) := HT.out.mp rfl
        clear HT
        by_cases hbig : 0 < cntN n R ∧ 4000 < n (nthN n R 0)
        · have HBG : Hid (0 < cntN n R ∧ 4000 < n (nthN n R 0)) := hbig
          have CL := oneLonger_any (.slice ao R cap) R n f h1 4000 (by omega) true ⟨fun h => (by cases h), fun h => absurd HBG.out ((one_longer HEV.out).mp h)⟩ w2 (HR.out.below B2 hh)
          have e4 : ((4000 : Nat) : Int) = 4000 := rfl
          rw [e4] at CL
          clear hbig
          go_wp2_with fail
          refine CL.mono ?_
          rintro e0 w3 ⟨rfl, hw3⟩
          obtain rfl := hw3.symm
          clear CL
          go_wp2
          exact bodyPost_ret (v := bytesR 2 (.slice none 0 0)) (by simp [results, Try.results32, go_sem, bytesR, x0, x1]) rfl ⟨2, _, rfl, .inr (.inr (.inr (.inl ⟨rfl, HSH.out, HLEN.out, HEV.out, HBG.out⟩))), OwnB.none _ _ _ _ _, (B2.setCell (Nat.le_refl _) _).setCell (Nat.le_refl _) _⟩
        · have HNB : Hid (¬ (0 < cntN n R ∧ 4000 < n (nthN n R 0))) := hbig
          have CL := oneLonger_any (.slice ao R cap) R n f h1 4000 (by omega) false ⟨fun _ => (one_longer HEV.out).mpr HNB.out, fun _ => rfl⟩ w2 (HR.out.below B2 hh)
          have e4 : ((4000 : Nat) : Int) = 4000 := rfl
          rw [e4] at CL
          have CF := firstThere_any D (.slice ao R cap) R n f h1 w2 (HR.out.below B2 hh) (Nat.le_trans hh B2.size) (by omega)
          clear hbig x0 x1 y0 y1
          go_wp2_with fail
          refine CL.mono ?_
          rintro e0 w3 ⟨rfl, hw3⟩
          obtain rfl := hw3.symm
          clear CL
          go_wp2_with fail
          refine CF.mono ?_
          rintro e0 wB ⟨v3, rfl, o3, b3'⟩
          have BB : Below w.heap.size w wB := B2.trans (b3'.mono B2.size)
          have XB : Box wB w.heap.size #[.int .i64 0, .slice none 0 0] 53 := X2.below b3' z2
          have zB : w.heap.size < wB.heap.size := XB.lt
          clear b3' X2 B2 z2 CF
          by_cases hcnt : D ≤ cntN n R
          · have HCN : Hid (D ≤ cntN n R) := hcnt
            rw [pickN_all hcnt] at o3
            obtain ⟨ao3, cap3, rfl⟩ := o3.slice
            have HO3 : Hid (RdI wB wB.heap.size (.slice ao3 D cap3) D (fun t => (nthN n R t : Int))) := o3.rd
            have hmm := @run_makeMap Try.prog
            obtain ⟨Q, hQ⟩ : ∃ Q, Q = D + C := ⟨_, rfl⟩
            have HQ : Hid (Q = D + C) := hQ
            have hQ6 : Q ≤ 6 := by omega
            have HQR : Hid (Q = R) := by show Q = R; have := HLEN.out; omega
            obtain ⟨N, hN⟩ : ∃ N, N = n (nthN n R 0) := ⟨_, rfl⟩
            have HN : Hid (N = n (nthN n R 0)) := hN
            have hN4 : N ≤ 4000 := by
              have := HNB.out
              rw [hN]
              refine Classical.byContradiction fun h5 => this ⟨by omega, by omega⟩
            have HPK : Hid ((∀ t, t < D → nthN n R t < R ∧ n (nthN n R t) ≠ 0) ∧ ∀ t, t + 1 < D → nthN n R t < nthN n R (t + 1)) := pickedC hcnt
            have HBD : Hid (∀ k, k < D → nthN n R k < D + 2) := fun k hk => by have := (HPK.out.1 k hk).1; have := HLEN.out; omega
            have HNN : Hid (∀ k, k < D → n (nthN n R k) = N) := fun k hk => by rw [hN]; exact HEV.out k (by have := HCN.out; omega)
            clear o3 hcnt hQ hN
            go_wp2_with (at_make; refine wp_makeM _ rfl _ _ rfl _ _ Q rfl rfl (by have := HQ.out; omega) (by have := HQ.out; omega) (by omega) ?_; intro w5 hown5 hb5 hz5)
            have hsA : (wB.alloc (.map #[] 0)).heap.size = wB.heap.size + 1 := by simp
            have BM : Below wB.heap.size wB w5 := ((Below.refl _ _).alloc (Nat.le_refl _) _).trans (hb5.mono (by omega))
            have M5 : MapAt w5 wB.heap.size #[] 0 := (mapAt_new wB).below hb5 (by omega)
            rw [hsA] at hown5 hb5 hz5
            have E0 : OwnE w5 (wB.heap.size + 1) w5.heap.size (.slice (some ⟨wB.heap.size + 1, 0, none⟩) Q Q) Q (lenN N 0) (colN D n R f) (wB.heap.size + 1) Q (fun _ => nilS) := ownE_made hown5 (Nat.le_refl _) hz5 (fun i hi => by simp [lenN])
            clear hown5 hmm hsA
            go_loopw [47] (fun i wr => ∃ k : Nat, k ≤ Q ∧ i = .int .i64 k ∧ (∃ e', OwnE wr (wB.heap.size + 1) wr.heap.size (.slice (some ⟨wB.heap.size + 1, 0, none⟩) Q Q) Q (lenN N k) (colN D n R f) (wB.heap.size + 1) Q e') ∧ (MapAt wr wB.heap.size #[] 0 ∨ BookP wr wB.heap.size D C (nthN n R)) ∧ Below wB.heap.size wB wr) (fun i _ => Q - (intOf i).toNat)
            case atStart => exact ⟨0, Nat.zero_le _, rfl, ⟨_, E0⟩, .inl M5, BM⟩
            case round =>
              clear E0 M5 BM hb5 hz5
              obtain ⟨k, hk, rfl, ⟨e', hE⟩, hbk, hb⟩ := hrel
              have szB := hb.size
              by_cases hlt : k < Q
              · have hlti : (k : Int) < (D : Int) + (C : Int) := by have := HQ.out; omega
                have hkDC : k < D + C := by have := HQ.out; omega
                have CW := weights_any wB.heap.size D C (.slice ao3 D cap3) (nthN n R) wB.heap.size wr hbk hE.high (HO3.out.below hb (Nat.le_refl _)) szB (by omega) (by omega) (by omega) HBD.out
                have HOE : Hid (OwnE wr (wB.heap.size + 1) wr.heap.size (.slice (some ⟨wB.heap.size + 1, 0, none⟩) Q Q) Q (lenN N k) (colN D n R f) (wB.heap.size + 1) Q e') := hE
                have HBL : Hid (Below wB.heap.size wB wr) := hb
                have hhig := hE.high
                clear hE hbk hb
                go_wp2_with fail
                refine CW.mono ?_
                rintro e0 w2 ⟨gW, cW, eW, hW, rfl, oW, hWs, mW, ch2⟩
                have c1 : w2.cell? ⟨gW, k, none⟩ = some (eW k) := oW.cell k hkDC
                have rk : Rd w2 hW (eW k) D (colW D (nthN n R) k) := (oW.each k hkDC).rd
                obtain ⟨x, hx⟩ : ∃ x, x = eW k := ⟨_, rfl⟩
                rw [← hx] at c1 rk
                have HRK : Hid (Rd w2 hW x D (colW D (nthN n R) k)) := rk
                obtain ⟨aok, capk, hsx, _, _⟩ := rk
                subst hsx
                have s2 := ch2.size
                have B2 : Below wB.heap.size wB w2 := HBL.out.trans (ch2.below (Nat.le_refl _) szB)
                have E2 : OwnE w2 (wB.heap.size + 1) wr.heap.size (.slice (some ⟨wB.heap.size + 1, 0, none⟩) Q Q) Q (lenN N k) (colN D n R f) (wB.heap.size + 1) Q e' := HOE.out.keep (fun b h5 h6 => ch2.block b h6 (.inr h5))
                have CD := weighed_any (.slice ao R cap) (.slice ao3 D cap3) (.slice aok D capk) R D N n f (nthN n R) (colW D (nthN n R) k) h1 wB.heap.size hW w2 (HR.out.below (BB.trans (B2.mono (by omega))) hh) (HO3.out.below B2 (Nat.le_refl _)) HRK.out (by omega) (by omega) hWs (by omega) (by omega) (fun t ht => (HPK.out.1 t ht).1) HNN.out (by omega) kf (colW_byt D (nthN n R) k)
                have HOW : Hid (OwnE w2 (wB.heap.size + 2) hW (.slice (some ⟨gW, 0, none⟩) (D + C) cW) (D + C) (fun _ => D) (colW D (nthN n R)) gW cW eW) := oW
                have HMW : Hid (MapAt w2 wB.heap.size #[⟨arr6 (keyN (nthN n R) D), .slice (some ⟨gW, 0, none⟩) (D + C) cW, 0⟩] 1) := mW
                have HE2 : Hid (OwnE w2 (wB.heap.size + 1) wr.heap.size (.slice (some ⟨wB.heap.size + 1, 0, none⟩) Q Q) Q (lenN N k) (colN D n R f) (wB.heap.size + 1) Q e') := E2
                clear CW oW mW ch2 hx HRK HOE HBL E2
                go_wp2_with fail
                refine CD.mono ?_
                rintro e0 w3 ⟨v3, rfl, o3, b3⟩
                obtain ⟨ao4, cap4, rfl⟩ := o3.slice
                have s3 := b3.size
                have E3 := HE2.out.below b3 s2
                have q1 : w3.cell? ⟨wB.heap.size + 1, k, none⟩ = some (e' k) := E3.cell k hlt
                have q2 : w3.frozen? ⟨wB.heap.size + 1, k, none⟩ = false := E3.frozen k
                have EN := E3.lay k hlt (n' := lenN N (k + 1)) (M' := colN D n R f) (lo2 := w2.heap.size) (hi2 := w3.heap.size) (x := .slice ao4 N cap4) (by
                  rw [show lenN N (k + 1) k = N by simp [lenN]]
                  exact o3.congr (fun i _ => mixN_by (fun t ht => colW_is (by omega) (by omega) HBD.out HPK.out.2 k t ht))) s2 (by omega) (fun j hj hne => by
                  unfold lenN
                  by_cases c : j < k
                  · rw [if_pos c, if_pos (by omega)]
                  · rw [if_neg c, if_neg (by omega)]) (fun j hj hne => rfl)
                have hlow := HOW.out.low
                have BKN : BookP (w3.setCell ⟨wB.heap.size + 1, k, none⟩ (.slice ao4 N cap4)) wB.heap.size D C (nthN n R) :=
                  ⟨gW, cW, eW, hW, (heap_setCell_other w3 ⟨wB.heap.size + 1, k, none⟩ wB.heap.size _ (by show wB.heap.size ≠ wB.heap.size + 1; omega)).trans (HMW.out.below b3 (by omega)), (HOW.out.below b3 hWs).keep (fun b h5 h6 => heap_setCell_other w3 ⟨wB.heap.size + 1, k, none⟩ b _ (by show b ≠ wB.heap.size + 1; omega)), by simp; omega⟩
                have BN : Below wB.heap.size wB (w3.setCell ⟨wB.heap.size + 1, k, none⟩ (.slice ao4 N cap4)) := (B2.trans (b3.mono (by omega))).setCell (by show wB.heap.size ≤ wB.heap.size + 1; omega) _
                have ES : OwnE (w3.setCell ⟨wB.heap.size + 1, k, none⟩ (.slice ao4 N cap4)) (wB.heap.size + 1) (w3.setCell ⟨wB.heap.size + 1, k, none⟩ (.slice ao4 N cap4)).heap.size (.slice (some ⟨wB.heap.size + 1, 0, none⟩) Q Q) Q (lenN N (k + 1)) (colN D n R f) (wB.heap.size + 1) Q (fun j => if j = k then .slice ao4 N cap4 else e' j) := EN.weaken (by simp)
                clear CD o3 b3 E3 EN HOW HMW HE2 B2 c1
                go_wp2
                go_roundw
                case rel => exact ⟨k + 1, by omega, by go_num, ⟨_, ES⟩, .inr BKN, BN⟩
                case measure => simp [intOf]; omega
              · have hlti : ¬ ((k : Int) < (D : Int) + (C : Int)) := by have := HQ.out; omega
                obtain rfl : k = Q := by omega
                have E9 := hE.congrN (n' := fun _ => N) (fun i hi => by simp [lenN, hi])
                have HE9 : Hid (OwnM wr (wB.heap.size + 1) wr.heap.size (.slice (some ⟨wB.heap.size + 1, 0, none⟩) k k) k (fun _ => N) (colN D n R f)) := ⟨_, _, _, E9⟩
                have B4 : Below w.heap.size w wr := BB.trans (hb.mono (by omega))
                have X4 : Box wr w.heap.size #[.int .i64 0, .slice none 0 0] 53 := XB.below hb zB
                obtain ⟨x0, x1, y0, y1⟩ := res_cells X4
                clear hE E9 hbk X4
                go_wp2
                refine bodyPost_ret (v := bytesR 0 (.slice (some ⟨wB.heap.size + 1, 0, none⟩) k k)) (by simp [results, Try.results32, go_sem, bytesR, x0, x1]) rfl ⟨0, _, rfl, .inr (.inr (.inr (.inr (.inr ⟨rfl, HSH.out, HLEN.out, HEV.out, HNB.out, by have := HCN.out; omega⟩)))), ?_, (B4.setCell (Nat.le_refl _) _).setCell (Nat.le_refl _) _⟩
                have o1 := out_store wr w.heap.size (w.heap.size + 1) w.heap.size 0 (.int .i64 0) (Nat.le_refl _) (by omega)
                have o2 := out_store (wr.setCell ⟨w.heap.size, 0, none⟩ (.int .i64 0)) w.heap.size (w.heap.size + 1) w.heap.size 1 (.slice (some ⟨wB.heap.size + 1, 0, none⟩) k k) (Nat.le_refl _) (by omega)
                simp only [if_pos]
                rw [← HN.out]
                have h9 := HE9.out.out (o1.trans o2) (.inr (by omega))
                obtain ⟨MM, hMM⟩ : ∃ MM, MM = colN D n R f := ⟨_, rfl⟩
                rw [← hMM] at h9 ⊢
                clear hMM
                rw [← HQR.out]
                exact .inr (h9.weaken (by omega) (by rw [(o1.trans o2).size]; exact Nat.le_refl _))
          · have HLT : Hid ((cntN n R : Int) < (D : Int)) := by show (cntN n R : Int) < (D : Int); omega
            have hpf := pickN_few hcnt
            obtain ⟨cc, hcc⟩ : ∃ cc, cc = pickN D n R := ⟨_, rfl⟩
            rw [← hcc] at o3 hpf
            obtain ⟨ao3, cap3, rfl⟩ := o3.slice
            have hci : (cc : Int) < (D : Int) := by omega
            obtain ⟨x0, x1, y0, y1⟩ := res_cells XB
            clear o3 hcnt hcc
            go_wp2
            exact bodyPost_ret (v := bytesR 10 (.slice none 0 0)) (by simp [results, Try.results32, go_sem, bytesR, x0, x1]) rfl ⟨10, _, rfl, .inr (.inr (.inr (.inr (.inl ⟨rfl, HSH.out, HLEN.out, HEV.out, HNB.out, HLT.out⟩)))), OwnB.none _ _ _ _ _, (BB.setCell (Nat.le_refl _) _).setCell (Nat.le_refl _) _⟩
    · have HLEN : Hid ((R : Int) ≠ (D : Int) + (C : Int)) := hlen
      have tl : ((R : Int) != (D : Int) + (C : Int)) = true := by simp [hlen]
      clear hlen
      go_wp2
      exact bodyPost_ret (v := bytesR 1 (.slice none 0 0)) (by simp [results, Try.results32, go_sem, bytesR, x0, x1]) rfl ⟨1, _, rfl, .inr (.inl ⟨rfl, HSH.out, HLEN.out⟩), OwnB.none _ _ _ _ _, (B1.setCell (Nat.le_refl _) _).setCell (Nat.le_refl _) _⟩
end Go.Proofs.Ytoadjpacchhleaa

namespace Go.Proofs.Ytoadjpacchhleaa
open Go.RowKit F256
set_option linter.unusedVariables false
set_option linter.unusedSimpArgs false

set_option maxHeartbeats 2000000 in
theorem implAddShare_any (v1 v2 : Value) (n m : Nat) (f g : Nat → Nat) (c : Nat) (h1 h2 : Nat) (w : World) (r1 : Rd w h1 v1 n f) (r2 : Rd w h2 v2 m g) (hh1 : h1 ≤ w.heap.size) (hh2 : h2 ≤ w.heap.size) (k1 : ∀ i, f i < 256) (k2 : ∀ i, g i < 256) (hc : c < 256) :
    Calls Try.prog 36 #[v1, v2, .int .u8 c] w fun ee w' => ∃ x v', ee = .returned (bytesR x v') ∧ AdsAns n m x ∧ Own w' w.heap.size w'.heap.size v' (if x = 0 then n else 0) (adsN f g c) ∧ Below w.heap.size w w' := by
  have H1 : Hid (Rd w h1 v1 n f) := r1
  have H2 : Hid (Rd w h2 v2 m g) := r2
  obtain ⟨ao, cap, rfl, hm, hx1⟩ := r1
  obtain ⟨ao2, cap2, rfl, hm2, hx2⟩ := r2
  clear hx1 hx2
  unfold maxLen at hm hm2
  have b0 : Below w.heap.size w (w.alloc (.cells #[.int .i64 0, .slice none 0 0] 36)) := (Below.refl _ _).alloc (Nat.le_refl _) _
  by_cases hne : n = m
  · subst hne
    by_cases hbig : 4000 < n
    · go_enter Try.func36, Try.ntmps36
      go_wp2
      exact bodyPost_ret (v := bytesR 2 (.slice none 0 0)) (by simp [results, Try.results36, go_sem, bytesR]) rfl ⟨2, _, rfl, .inr (.inl ⟨rfl, rfl, hbig⟩), own_nil _ _ _ _, (Below.refl _ _).alloc (Nat.le_refl _) _⟩
    · have C1 := joined_nil (.slice ao n cap) (.slice none 0 0) n f (fun _ => 0) h1 0 _ (H1.out.below b0 hh1) (rd_nil _ _ _) (by simp; omega) (by omega)
      go_enter Try.func36, Try.ntmps36
      go_wp2_with fail
      refine C1.mono ?_
      rintro e w2 ⟨v2, rfl, o2, b2⟩
      have B2 : Below w.heap.size w w2 := bnew b2
      have X2 : Box w2 w.heap.size #[.int .i64 0, .slice none 0 0] 36 := (box_new w _ _).below b2 (by simp)
      have z2 := X2.lt
      have hsA : (w.alloc (.cells #[.int .i64 0, .slice none 0 0] 36)).heap.size = w.heap.size + 1 := by simp
      rw [hsA] at o2
      obtain ⟨ao4, cap4, rfl⟩ := o2.slice
      have C2 := addScaled_any (.slice ao4 n cap4) (.slice ao2 n cap2) n f g (adsN f g c) c (w.heap.size + 1) w2.heap.size h2 w2 o2 (Nat.le_refl _) (H2.out.below B2 hh2) (by omega) (Nat.le_trans hh2 B2.size) k1 k2 hc (fun _ _ => rfl) (by omega)
      clear C1 o2 b2 hsA
      go_wp2_with fail
      refine C2.mono ?_
      rintro e w4 ⟨rfl, o4, ch4⟩
      have s4 := ch4.size
      have HO : Hid (Own w4 (w.heap.size + 1) w4.heap.size (.slice ao4 n cap4) n (adsN f g c)) := o4.mono s4
      have B4 : Below w.heap.size w w4 := B2.trans (ch4.below (by omega) (by omega))
      have X4 : Box w4 w.heap.size #[.int .i64 0, .slice none 0 0] 36 := X2.chg ch4 (.inl (by omega))
      have z4 := X4.lt
      obtain ⟨x0, x1, y0, y1⟩ := res_cells X4
      clear o4 ch4 C2 X4 X2
      go_wp2
      refine bodyPost_ret (v := bytesR 0 (.slice ao4 n cap4)) (by simp [results, Try.results36, go_sem, bytesR, x0, x1]) rfl ⟨0, _, rfl, .inr (.inr ⟨rfl, rfl, by omega⟩), ?_, (B4.setCell (Nat.le_refl _) _).setCell (Nat.le_refl _) _⟩
      have o1 := out_store w4 w.heap.size (w.heap.size + 1) w.heap.size 0 (.int .i64 0) (Nat.le_refl _) (by omega)
      have o2 := out_store (w4.setCell ⟨w.heap.size, 0, none⟩ (.int .i64 0)) w.heap.size (w.heap.size + 1) w.heap.size 1 (.slice ao4 n cap4) (Nat.le_refl _) (by omega)
      simp only [if_pos]
      exact (HO.out.out (o1.trans o2) (.inr (by omega))).weaken (by omega) (by rw [(o1.trans o2).size]; exact Nat.le_refl _)
  · have tn : ((n : Int) != (m : Int)) = true := by simp; omega
    go_enter Try.func36, Try.ntmps36
    go_wp2
    exact bodyPost_ret (v := bytesR 1 (.slice none 0 0)) (by simp [results, Try.results36, go_sem, bytesR]) rfl ⟨1, _, rfl, .inl ⟨rfl, hne⟩, own_nil _ _ _ _, (Below.refl _ _).alloc (Nat.le_refl _) _⟩

set_option maxHeartbeats 1000000 in
theorem equalB_any (v1 v2 : Value) (n m : Nat) (f g : Nat → Nat) (h1 h2 : Nat) (w : World) (r1 : Rd w h1 v1 n f) (r2 : Rd w h2 v2 m g) :
    Calls Try.prog 71 #[v1, v2] w (BoolP (SameP n m f g) w) := by
  obtain ⟨ao, cap, rfl, hm, hc⟩ := r1
  obtain ⟨ao2, cap2, rfl, hm2, hc2⟩ := r2
  unfold maxLen at hm hm2
  by_cases hnm : n = m
  · subst hnm
    go_enter Try.func71, Try.ntmps71
    go_wp2
    go_loopw [13] (fun i wr => ∃ k : Nat, k ≤ n ∧ i = .int .i64 k ∧ (∀ i, i < k → f i = g i) ∧ ∃ m, wr = w.drewN m) (fun i _ => n - (intOf i).toNat)
    case atStart => exact ⟨0, Nat.zero_le _, rfl, fun i hi => by omega, 0, rfl⟩
    case round =>
      obtain ⟨k, hk, rfl, hall, q, rfl⟩ := hrel
      have HALL : Hid (∀ i, i < k → f i = g i) := hall
      clear hall
      by_cases hlt : k < n
      · obtain ⟨b, off, rfl, hblt, hcell⟩ := hc (by omega)
        obtain ⟨b2, off2, rfl, hblt2, hcell2⟩ := hc2 (by omega)
        have hck : w.cell? ⟨b, off + k, none⟩ = some (.int .u8 (f k)) := hcell k hlt
        have hck2 : w.cell? ⟨b2, off2 + k, none⟩ = some (.int .u8 (g k)) := hcell2 k hlt
        obtain ⟨x, hx⟩ : ∃ x, x = f k := ⟨_, rfl⟩
        obtain ⟨y, hy⟩ : ∃ y, y = g k := ⟨_, rfl⟩
        have HX : Hid (x = f k) := hx
        have HY : Hid (y = g k) := hy
        rw [← hx] at hck
        rw [← hy] at hck2
        clear hc hc2 hcell hcell2 hx hy
        by_cases heq : x = y
        · subst heq
          go_wp2
          go_quiet (fail)
          go_wp2
          go_roundw
          case rel => exact ⟨k + 1, by omega, by go_num, fun i hi => by
                        by_cases c : i = k
                        · rw [c, ← HX.out, ← HY.out]
                        · exact HALL.out i (by omega), _, rfl⟩
          case measure => simp [intOf]; omega
        · have tn : ((x : Int) != (y : Int)) = true := by simp; omega
          go_wp2
          go_quiet (fail)
          go_wp2
          go_ret
          exact boolNo rfl (fun h => absurd (h.2 k hlt) (by rw [← HX.out, ← HY.out]; exact heq)) (below_drewN (below_drewN (Below.refl _ _) _) _)
      · have hkn : k = n := by omega
        subst hkn
        go_wp2
        go_ret
        exact boolYes rfl ⟨rfl, HALL.out⟩ (below_drewN (Below.refl _ _) _)
  · have tn : ((n : Int) != (m : Int)) = true := by simp; omega
    clear hc hc2
    go_enter Try.func71, Try.ntmps71
    go_wp2
    go_ret
    exact boolNo rfl (fun h => hnm h.1) (Below.refl _ _)

set_option maxHeartbeats 4000000 in
theorem implFitsC_any (v : Value) (R : Nat) (n : Nat → Nat) (f : Mat) (c : Int) (h1 : Nat) (w : World) (r : RdM w h1 v R n f) (hcap : ∃ ao cap, v = .slice ao R cap ∧ R ≤ cap) (hh : h1 ≤ w.heap.size) (kf : Byt f) (hcb : -9223372036854775808 ≤ c ∧ c ≤ 9223372036854775807) (hN9 : n 0 ≤ 1000000000) (hR9 : R ≤ 1000000000) :
    Calls Try.prog 31 #[v, .int .i64 c] w (BoolP (CfP R n f c) w) := by
  have HR : Hid (RdM w h1 v R n f) := r
  obtain ⟨ao, cap, e, rfl, hm, hc, he⟩ := r
  obtain ⟨ao', cap', heq, hcap⟩ := hcap
  simp only [Value.slice.injEq, true_and] at heq
  obtain ⟨rfl, rfl⟩ := heq
  unfold maxLen at hm
  have HE : Hid (∀ i, i < R → Rd w h1 (e i) (n i) (f i)) := he
  have HC : Hid (R ≠ 0 → ∃ b off, ao = some ⟨b, off, none⟩ ∧ b < h1 ∧ ∀ i, i < R → w.cell? ⟨b, off + i, none⟩ = some (e i)) := hc
  clear hc he
  by_cases hc2 : 0 ≤ c ∧ c ≤ 2
  · have HC2 : Hid (0 ≤ c ∧ c ≤ 2) := hc2
    obtain ⟨C, rfl⟩ : ∃ C : Nat, c = C := ⟨c.toNat, by omega⟩
    have hC : C ≤ 2 := by omega
    have CS := columnInBounds_any ((R : Int) - (C : Int)) (C : Int)
    have wsub : IntKind.i64.wrap ((R : Int) - (C : Int)) = (R : Int) - (C : Int) := by rw [IntKind.wrap_i64]; omega
    clear hc2 hcb
    by_cases hsh : Shp3 ((R : Int) - (C : Int)) (C : Int)
    · have HSH : Hid (Shp3 ((R : Int) - (C : Int)) (C : Int)) := hsh
      obtain ⟨q1, q2, q3, q4⟩ := hsh
      obtain ⟨D, hD⟩ : ∃ D : Nat, D + C = R := ⟨R - C, by omega⟩
      have HD : Hid (D + C = R) := hD
      have hsubi : (R : Int) - (C : Int) = (D : Int) := by omega
      have HDR : Hid (R - C = D) := by show R - C = D; omega
      have hD1 : 1 ≤ D := by omega
      have hD4 : D ≤ 4 := by omega
      have hDR : D ≤ R := by omega
      have hDc : (D : Int) ≤ (cap : Int) := by omega
      have hD0 : D ≠ 0 := by omega
      obtain ⟨b, off, hao, hblt, hcell⟩ := HC.out (by omega)
      subst hao
      have HCL : Hid (∀ i, i < R → w.cell? ⟨b, off + i, none⟩ = some (e i)) := hcell
      have hbw : b < w.heap.size := by omega
      rw [hsubi] at CS wsub
      clear hD hcell HC
      have CE := fun (w1 : World) (b' : Below w.heap.size w w1) => equallyLong_any (.slice (some ⟨b, off, none⟩) R cap) R n f h1 w1 (HR.out.below b' hh)
      by_cases hev : EvenP R n
      · have HEV : Hid (EvenP R n) := hev
        clear hev
        go_enter Try.func31, Try.ntmps31
        go_wp2_with fail
        refine (CS _).mono ?_
        rintro e0 w1 ⟨b1, rfl, hb1, B1⟩
        obtain rfl : b1 = true := hb1.mpr (by rw [← hsubi]; exact HSH.out)
        clear hb1 CS
        go_wp2_with fail
        refine (CE _ B1).mono ?_
        rintro e0 w2 ⟨b2, rfl, hb2, b2'⟩
        obtain rfl : b2 = true := hb2.mpr HEV.out
        have B2 : Below w.heap.size w w2 := B1.trans (b2'.mono B1.size)
        have s2 := B2.size
        clear hb2 b2' B1 CE
        have rP : RdM w2 w.heap.size (.slice (some ⟨b, off, none⟩) D cap) D n f := ⟨_, _, e, rfl, by unfold maxLen; omega, fun _ => ⟨b, off, rfl, hbw, fun i hi => (B2.cell (p := ⟨b, off + i, none⟩) hbw).trans (HCL.out i (by omega))⟩, fun i hi => ((HE.out i (by omega)).below B2 hh).mono hh⟩
        have CX := parityOf_any _ D C (n 0) n f w.heap.size w2 rP s2 hD1 hD4 hC (fun i hi => HEV.out i (by omega)) hN9 kf
        obtain ⟨N, hN⟩ : ∃ N, N = n 0 := ⟨_, rfl⟩
        have HN : Hid (N = n 0) := hN
        rw [← hN] at CX
        clear rP hN
        go_wp2_with fail
        refine CX.mono ?_
        rintro ee w4 ⟨v4, rfl, om, b4⟩
        obtain ⟨gW, cW, eW, hW⟩ := om
        have hv := hW.val
        subst hv
        have HW : Hid (OwnE w4 w2.heap.size w4.heap.size (.slice (some ⟨gW, 0, none⟩) C cW) C (fun _ => N) (parN D f) gW cW eW) := hW
        have hgW := hW.high
        have HB4 : Hid (Below w.heap.size w w4) := B2.trans (b4.mono s2)
        have s4 : w.heap.size ≤ w4.heap.size := HB4.out.size
        clear b4 B2 CX hW
        go_wp2
        go_loopw [33] (fun i wr => ∃ k : Nat, k ≤ C ∧ i = .int .i64 k ∧ (∀ j, j < k → ∀ t, t < N → f (D + j) t = parN D f j t) ∧ Below w4.heap.size w4 wr) (fun i _ => C - (intOf i).toNat)
        case atStart => exact ⟨0, Nat.zero_le _, rfl, fun i hi => by omega, Below.refl _ _⟩
        case round =>
          obtain ⟨k, hk, rfl, hall, hb⟩ := hrel
          have HALL : Hid (∀ j, j < k → ∀ t, t < N → f (D + j) t = parN D f j t) := hall
          have HB : Hid (Below w4.heap.size w4 wr) := hb
          have hB : Below w.heap.size w wr := HB4.out.trans (hb.mono s4)
          by_cases hlt : k < C
          · obtain ⟨q, hq⟩ : ∃ q, q = D + k := ⟨_, rfl⟩
            have HQ : Hid (q = D + k) := hq
            have hqR : q < R := by have := HD.out; omega
            have wq : IntKind.i64.wrap ((D : Int) + (k : Int)) = (q : Int) := by rw [IntKind.wrap_i64]; omega
            have c1 : wr.cell? ⟨b, off + q, none⟩ = some (e q) := (hB.cell (p := ⟨b, off + q, none⟩) hbw).trans (HCL.out q hqR)
            have c2 : wr.cell? ⟨gW, k, none⟩ = some (eW k) := (hb.cell (p := ⟨gW, k, none⟩) hgW).trans (HW.out.cell k hlt)
            have r1 := (HE.out q hqR).below hB hh
            have r2 := ((HW.out.each k hlt).below hb (Nat.le_refl _)).rd
            rw [HEV.out q hqR, ← HN.out] at r1
            obtain ⟨x1, hx1⟩ : ∃ x, x = e q := ⟨_, rfl⟩
            obtain ⟨x2, hx2⟩ : ∃ x, x = eW k := ⟨_, rfl⟩
            rw [← hx1] at c1 r1
            rw [← hx2] at c2 r2
            have HR1 : Hid (Rd wr h1 x1 N (f q)) := r1
            have HR2 : Hid (Rd wr w4.heap.size x2 N (parN D f k)) := r2
            obtain ⟨ao1, cap1, hq1, _, _⟩ := r1
            obtain ⟨ao2, cap2, hq2, _, _⟩ := r2
            subst hq1
            subst hq2
            clear hx1 hx2 hall hb hB hq
            by_cases hsm : SameP N N (parN D f k) (f q)
            · have HSM : Hid (SameP N N (parN D f k) (f q)) := hsm
              clear hsm
              go_wp2
              go_region_with (go_at_call 71; refine (equalB_any _ _ N N (parN D f k) (f q) w4.heap.size h1 _ ?_ ?_).mono ?_; exact HR2.out; exact HR1.out; rintro ee w5 ⟨bb, rfl, hbb, b5⟩)
              all_goals
                obtain rfl : bb = true := hbb.mpr HSM.out
                have R5 : Below w4.heap.size w4 w5 := HB.out.trans ((undrewN' b5).mono HB.out.size)
                clear b5 hbb c1 c2
                go_wp2
                go_roundw
                case rel => exact ⟨k + 1, by omega, by go_num, fun j hj t ht => by
                              by_cases cc : j = k
                              · rw [cc, ← HQ.out]; exact (HSM.out.2 t ht).symm
                              · exact HALL.out j (by omega) t ht, R5⟩
                case measure => simp [intOf]; omega
            · have HSM : Hid (¬ SameP N N (parN D f k) (f q)) := hsm
              clear hsm
              go_wp2
              go_region_with (go_at_call 71; refine (equalB_any _ _ N N (parN D f k) (f q) w4.heap.size h1 _ ?_ ?_).mono ?_; exact HR2.out; exact HR1.out; rintro ee w5 ⟨bb, rfl, hbb, b5⟩; obtain rfl : bb = false := by (cases bb with | false => rfl | true => exact absurd (hbb.mp rfl) HSM.out))
              all_goals
                have R5 : Below w4.heap.size w4 w5 := HB.out.trans ((undrewN' b5).mono HB.out.size)
                clear b5 hbb c1 c2
                go_wp2
                go_ret
                exact boolNo rfl (fun h => HSM.out ⟨rfl, fun t ht => by
                  have := h.2.2.2 k (by rw [Int.toNat_natCast]; exact hlt) t (by rw [← HN.out]; exact ht)
                  rw [Int.toNat_natCast, HDR.out, ← HQ.out] at this
                  exact this.symm⟩) (HB4.out.trans (R5.mono s4))
          · obtain rfl : k = C := by omega
            go_wp2
            go_ret
            exact boolYes rfl ⟨HC2.out, HSH.out, HEV.out, fun j hj t ht => by
              rw [Int.toNat_natCast] at hj ⊢
              rw [HDR.out]
              exact HALL.out j hj t (by rw [HN.out]; exact ht)⟩ hB
      · have HEV : Hid (¬ EvenP R n) := hev
        clear hev
        go_enter Try.func31, Try.ntmps31
        go_wp2_with fail
        refine (CS _).mono ?_
        rintro e0 w1 ⟨b1, rfl, hb1, B1⟩
        obtain rfl : b1 = true := hb1.mpr (by rw [← hsubi]; exact HSH.out)
        clear hb1 CS
        go_wp2_with fail
        refine (CE _ B1).mono ?_
        rintro e0 w2 ⟨b2, rfl, hb2, b2'⟩
        obtain rfl : b2 = false := by
          cases b2 with
          | false => rfl
          | true => exact absurd (hb2.mp rfl) HEV.out
        have B2 : Below w.heap.size w w2 := B1.trans (b2'.mono B1.size)
        clear hb2 b2' B1 CE
        go_wp2
        go_ret
        exact boolNo rfl (fun h => HEV.out h.2.2.1) B2
    · have HSH : Hid (¬ Shp3 ((R : Int) - (C : Int)) (C : Int)) := hsh
      clear hsh HC
      go_enter Try.func31, Try.ntmps31
      go_wp2_with fail
      refine (CS _).mono ?_
      rintro e0 w1 ⟨b1, rfl, hb1, B1⟩
      obtain rfl : b1 = false := by
        cases b1 with
        | false => rfl
        | true => exact absurd (hb1.mp rfl) HSH.out
      clear hb1 CS
      go_wp2
      go_ret
      exact boolNo rfl (fun h => HSH.out h.2.1) B1
  · have HC2 : Hid (¬ (0 ≤ c ∧ c ≤ 2)) := hc2
    by_cases hneg : c < 0
    · clear hc2 HC
      go_enter Try.func31, Try.ntmps31
      go_wp2
      go_ret
      exact boolNo rfl (fun h => HC2.out h.1) (Below.refl _ _)
    · have hbig : 2 < c := by omega
      have tneg : decide (c < 0) = false := by simp; omega
      clear hc2 HC hneg
      go_enter Try.func31, Try.ntmps31
      go_wp2
      go_ret
      exact boolNo rfl (fun h => HC2.out h.1) (Below.refl _ _)
end Go.Proofs.Ytoadjpacchhleaa

namespace Go.Proofs.Ytoadjpacchhleaa
open Go.RowKit F256
set_option linter.unusedVariables false

theorem ownB_keep {w : World} {lo : Nat} {v : Value} {m : Nat} {n : Nat → Nat} {f : Mat} (h : OwnB w lo w.heap.size v m n f) : KeepM lo w v m n f := by
  rcases h with ⟨rfl, rfl⟩ | ⟨g, cap, e, h⟩
  · exact ⟨none, 0, fun _ => nilS, rfl, Nat.zero_le _, ⟨fun h => absurd rfl h, fun i hi => by omega⟩, fun h => absurd rfl h, fun _ _ i hi => by omega⟩
  · obtain ⟨_, _, _, _, hm, _⟩ := h.rd
    refine ⟨some ⟨g, 0, none⟩, cap, e, h.val, hm, ⟨fun _ => ⟨g, 0, rfl, fun i hi => by rw [Nat.zero_add]; exact h.cell i hi⟩, fun i hi => ?_⟩, fun _ => ⟨g, 0, rfl, h.high⟩, fun w'' hk i hi => ((h.keep (w2 := w'') hk).each i hi).rd⟩
    obtain ⟨ao, cap, hs⟩ := (h.each i hi).slice
    rw [hs]
    rfl
theorem encCok : EncCok := fun v R n f c h1 w r hh kf hc => (implEncodeC_any v R n f c h1 w r hh kf).mono fun e w' ⟨x, v', he, ha, ho, hb⟩ => ⟨x, v', he, ha, ownB_keep (ho.weaken (Nat.le_refl _) (Nat.le_refl _)), hb⟩
theorem fitsCok : FitsCok := fun v R n f c h1 w r hcap hh kf hc hN hR => implFitsC_any v R n f c h1 w r hcap hh kf hc (by omega) (by omega)
theorem decCok : DecCok := fun g c v R n f h1 w r hh kf => (implDecodeC_any g c v R n f h1 w r hh kf).mono fun e w' ⟨x, v', he, ha, ho, hb⟩ => ⟨x, v', he, ha, ho.rd, hb⟩
theorem fnColumns_core (v : Value) (n0 : Nat) (f0 : Nat → Nat) (k0 : ∀ i, f0 i < 256) (w : World) (r0 : Rd w w.heap.size v n0 f0) :
    Calls Try.prog 7 #[v] w fun e w' => e = .returned (.bool true) ∧ Below w.heap.size w w' := fnColumns_over encCok fitsCok decCok v n0 f0 k0 w r0
end Go.Proofs.Ytoadjpacchhleaa

namespace Go.Proofs.Ytoadjpacchhleaa
open Go.ChangeShapes Go.WideShapes Go.ChangeAt Go.RowKit F256
set_option linter.unusedVariables false

theorem fnColumns_walk (a0 : Option Addr) (n0 c0 : Nat) (z0 : List Int) (w : World) (q0 : IsRow w a0 n0 c0 z0) :
    Calls Try.prog 7 #[.slice a0 n0 c0] w fun e w' => e = .returned (.bool true) ∧ Below w.heap.size w w' := by
  obtain ⟨f0, k0, r0⟩ := q0.rd
  exact fnColumns_core _ n0 f0 k0 w r0

set_option maxRecDepth 100000 in
theorem fnColumns_lifted (os : Os) (started : os.Started) (H : Type) (enc : TypeId × Value → H) :
    ReturnsInHanded {} Try.checked os 7 .any (Rows.fnColumnsSpec.pre6 enc Try.prog Try.f7 Rows.fnColumnsRow.domain false) (Rows.fnColumnsSpec.post enc Try.prog Try.f7 false true false false) := by
  refine returnsInHanded_of_change (C := Try.checked) frame_own started (by kernel_rfl) Try.func7
    (ChangeSpec.witness6 (enc := enc) (C := Try.checked) false ⟨#[], #[.slice none 0 0], []⟩ 8 (by kernel_rfl) (by kernel_rfl) (by kernel_rfl) (by kernel_rfl)) ?_
  intro W base args ds gs before hval0 hW hcnd _
  have hval : ∀ (j : Nat) t v, Try.f7.params[j]? = some t → args[j]? = some v → Value.okWide Try.prog W .any base t v := hval0
  have hW' := hW
  obtain ⟨p, q, hA0, hV, rfl, hfz, hnd⟩ := hW
  have hA : DataW.TrodAll enc Try.prog W 0 (fun _ => true) true Try.f7.params.toList args.toList ds p := hA0
  rw [Try.params7] at hA hval
  obtain ⟨v0, vs0, d0, ds0, p0, q0, hargs, rfl, rfl, h0, r0⟩ := trodAll_cons hA
  obtain ⟨rfl, rfl, rfl⟩ := trodAll_nil r0
  obtain rfl : args = #[v0] := by cases args; simp_all
  obtain ⟨rfl, rfl⟩ := trodVars_none hV
  obtain ⟨a0, len0, cap0, rfl⟩ := okWide_slice Try.underlying22 (hval 0 22 v0 rfl rfl)
  have k0 := h0
  have lt0 : ∀ x ∈ p0, x.block < W.heap.size := by obtain ⟨m, hm⟩ := k0; exact DataW.trod_lt m _ _ _ hm
  obtain ⟨z0, w0⟩ : ∃ zs, IsRow W a0 len0 cap0 zs := row_of_trod Try.underlying22 Try.underlying5 (by kernel_rfl) h0
  clear hA0 hval0
  refine (fnColumns_walk a0 len0 cap0 z0 W w0).mono fun e W' ⟨he, bel⟩ => ?_
  subst he
  exact ⟨_, rfl, _, _, _, [], _, [], hW', trodAll_mk1 (shut_bool Try.underlying4 _), (trodAll_cons_mk (Below.trod frame_laid (by kernel_rfl) (of_decide_eq_true (by kernel_rfl)) k0 bel lt0) trodAll_mk0), rfl, bel.frame _, fun h => by cases h⟩

theorem fnColumns_proved : Rows.FnColumnsSaid :=
  OpenClaim.holds_of_wide 7 Try.f7 rfl rfl rfl rfl rfl rfl rfl ⟨rfl, rfl, rfl, rfl, rfl⟩ rfl rfl rfl rfl rfl (by kernel_rfl) Try.func7 (by kernel_rfl)
    (of_decide_eq_true (by kernel_rfl)) (by unfold Func.isWrapper; first | (rw [if_pos (by decide +kernel)]; kernel_rfl) | (rw [if_neg (by decide +kernel)]; exact ⟨rfl, rfl⟩))
    (fun os started H enc _ => fnColumns_lifted os started H enc)
#print axioms fnColumns_proved
end Go.Proofs.Ytoadjpacchhleaa
