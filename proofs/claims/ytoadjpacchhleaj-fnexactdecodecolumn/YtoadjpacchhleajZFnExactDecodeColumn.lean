/- For every two numbers and every list of slices of bytes the program's DecodeColumn answers as the specification's does, writes into no argument and hands back memory of its own: the law FnExactDecodeColumn returns true at every input, and changes nothing that was there. No condition. -/
import Derived.Test.YtoadjpacchhleajWImplL
import Derived.Test.YtoadjpacchhleajColInv
import Derived.Test.YtoadjpacchhleajWJoin
import Derived.Test.YtoadjpacchhleajWInts
import Derived.Test.YtoadjpacchhleajWBytess
import Derived.Stop.BytesEq
import Derived.Maps.Own
import Derived.Maps.OwnOps
import Derived.Test.YtoadjpacchhleajWImplA
import Derived.Test.YtoadjpacchhleajNth
import Derived.Test.YtoadjpacchhleajWPick
import Derived.Test.YtoadjpacchhleajColDefs
import Derived.Test.YtoadjpacchhleajWOwnB
import Derived.Test.YtoadjpacchhleajRows
import Derived.Test.YtoadjpacchhleajFrameM
import Derived.Test.YtoadjpacchhleajWLists
import Derived.Test.YtoadjpacchhleajWColG
import Derived.Test.YtoadjpacchhleajWSz
namespace Go.Proofs.Ytoadjpacchhleaj
open Go.RowKit F256
set_option linter.unusedVariables false
set_option linter.unusedSimpArgs false

/-- list[d:] -/
theorem run_slice_tail (gr N cap d : Nat) (h1 : d < N) (h2 : N ≤ cap) (w : World) :
    (Instr.slice 23 (.slice (some ⟨gr, 0, none⟩) N cap) (some (.int .i64 (d : Int))) none none).run Try.prog w = .ok (.slice (some ⟨gr, d, none⟩) (N - d) (cap - d)) w := by
  have e1 : (0 : Int) ≤ (d : Int) ∧ (d : Int) ≤ (N : Int) := by omega
  have e4 : ¬ cap = d := by omega
  have e5 : d ≤ N := by omega
  simp [Instr.slice, run_underlying Try.underlying23, Instr.sliceBounds, Instr.sliceBound, asIntOf, go_sem, e1, e4, e5]

set_option maxHeartbeats 4000000 in
theorem dataWeights_any (D : Nat) (vh : Value) (hv : Nat → Nat) (h1 : Nat) (w : World) (rh : RdI w h1 vh D (fun i => (hv i : Int))) (hh : h1 ≤ w.heap.size) (hD1 : 1 ≤ D) (hD : D ≤ 4) (hb : ∀ k, k < D → hv k < D + 2) :
    Calls Try.prog 66 #[.int .i64 D, vh] w fun e w' => ∃ v', e = .returned v' ∧ RdM w' w'.heap.size v' D (fun _ => D) (dW D hv) ∧ Below w.heap.size w w' := by
  obtain ⟨aoh, caph, rfl, hmm, hch⟩ := rh
  obtain ⟨bh, oh, rfl, hbh, hcell⟩ := hch (by omega)
  have HC : Hid (∀ i, i < D → w.cell? ⟨bh, oh + i, none⟩ = some (.int .i64 (hv i : Int))) := hcell
  have HBD : Hid (∀ k, k < D → hv k < D + 2) := hb
  have hbw : bh < w.heap.size := by omega
  have e136 : ((136 : Nat) : Int) = 136 := rfl
  clear hch hcell hb hmm
  go_enter Try.func66, Try.ntmps66
  go_wp2_with (at_make; refine wp_makeM _ rfl _ _ rfl _ _ D rfl rfl rfl rfl (by omega) ?_; intro w1 hown1 hb1 hz1)
  go_loopw [12] (fun i wr => ∃ k : Nat, k ≤ D ∧ i = .int .i64 k ∧ ∃ e', Cpy w wr D k (fun _ => D + D) (eyeM D hv) e') (fun i _ => D - (intOf i).toNat)
  case atStart => exact ⟨0, Nat.zero_le _, rfl, fun _ => nilS, ⟨by rw [valsOf_eq (g := fun _ => nilS) (fun i hi => by simp)]; exact hown1, fun i hi => by omega, ⟨fun i hi => by omega, fun i j hi => by omega⟩, hb1, hz1⟩⟩
  case round =>
    clear hown1 hb1 hz1
    obtain ⟨k, hk, rfl, e', hcp⟩ := hrel
    by_cases hlt : k < D
    · have HCP : Hid (Cpy w wr D k (fun _ => D + D) (eyeM D hv) e') := hcp
      have hl := hcp.lt
      have ck : wr.cell? ⟨bh, oh + k, none⟩ = some (.int .i64 (hv k : Int)) := (hcp.bel.cell (p := ⟨bh, oh + k, none⟩) hbw).trans (HC.out k hlt)
      obtain ⟨p, hp⟩ : ∃ p, p = hv k := ⟨_, rfl⟩
      have HP : Hid (p = hv k) := hp
      have hp2 : p < D + 2 := by rw [hp]; exact HBD.out k hlt
      rw [← hp] at ck
      have szr := hcp.bel.size
      clear hcp hp
      go_wp2_with (at_make; refine wp_makeB _ rfl _ _ rfl _ _ D rfl rfl rfl rfl (by omega) ?_; intro w2 ho2 hb2 hz2; have hco : w2.cell? ⟨wr.heap.size, k, none⟩ = some (.int .u8 (0 : Nat)) := (by have := ho2.1.cellAt k (by omega); rw [this, cellsOf_get _ _ _ hlt]); have hfo : w2.frozen? ⟨wr.heap.size, k, none⟩ = false := ho2.1.frozenAt k; have ck2 : (w2.setCell ⟨wr.heap.size, k, none⟩ (.int .u8 1)).cell? ⟨bh, oh + k, none⟩ = some (.int .i64 (p : Int)) := ((hb2.setCell (Nat.le_refl _) _).cell (p := ⟨bh, oh + k, none⟩) (by show bh < wr.heap.size; omega)).trans ck)
      have oU : Own (w2.setCell ⟨wr.heap.size, k, none⟩ (.int .u8 (1 : Nat))) wr.heap.size w2.heap.size (.slice (some ⟨wr.heap.size, 0, none⟩) D D) D (fun i => if i = k then 1 else 0) := ho2.store k 1 hlt (fun i hi => rfl)
      have BU : Below wr.heap.size wr (w2.setCell ⟨wr.heap.size, k, none⟩ (.int .u8 (1 : Nat))) := hb2.setCell (Nat.le_refl _) _
      obtain ⟨wU, hwU⟩ : ∃ wU, wU = w2.setCell ⟨wr.heap.size, k, none⟩ (.int .u8 (1 : Nat)) := ⟨_, rfl⟩
      have hsU : wU.heap.size = w2.heap.size := by rw [hwU]; simp
      have CF := factorsFrom_any 8 D p 136 rfl (by omega) (by omega) (by omega) wU
      rw [e136] at CF
      have e1 : ((1 : Nat) : Int) = 1 := rfl
      rw [e1] at hwU oU BU
      rw [← hwU] at oU BU ⊢
      clear ho2 hb2 hco hfo ck2 ck hwU
      refine CF.mono ?_
      rintro ee w3 ⟨v3, rfl, o3, b3⟩
      obtain ⟨ao3, cap3, rfl⟩ := o3.slice
      have s3 := b3.size
      have oU3 := (oU.below b3 (by omega)).rd
      have B3 : Below wr.heap.size wr w3 := BU.trans (b3.mono (by omega))
      have CJ := joined_some (.slice ao3 D cap3) (.slice (some ⟨wr.heap.size, 0, none⟩) D D) D D (genN D p 8) (fun i => if i = k then 1 else 0) (eyeM D hv k) w3.heap.size w2.heap.size w3 o3.rd oU3 (Nat.le_refl _) (by omega) (by omega) (by omega) (by omega) (fun i hi => by
        simp only [eyeM, HP.out]
        by_cases c : i < D
        · rw [if_pos c, if_pos c]
        · rw [if_neg c, if_neg c]
          by_cases c2 : i = D + k
          · rw [if_pos c2, if_pos (by omega)]
          · rw [if_neg c2, if_neg (by omega)])
      clear CF o3 oU oU3 b3 BU
      go_wp2_with fail
      refine CJ.mono ?_
      rintro ee w4 ⟨v4, rfl, o4, b4⟩
      obtain ⟨ao4, cap4, rfl⟩ := o4.slice
      have B4 : Below wr.heap.size wr w4 := B3.trans (b4.mono (by omega))
      have q1 : w4.cell? ⟨w.heap.size, k, none⟩ = some nilS := by
        rw [B4.cell (p := ⟨w.heap.size, k, none⟩) hl, HCP.out.row.cellAt k (by omega), valsOf_get _ _ _ hlt, if_neg (Nat.lt_irrefl k)]
      have q2 : w4.frozen? ⟨w.heap.size, k, none⟩ = false := (B4.frozen (p := ⟨w.heap.size, k, none⟩) hl).trans (HCP.out.row.frozenAt k)
      have N1 := HCP.out.next hlt B4 (o4.weaken (by omega) (Nat.le_refl _))
      clear HCP CJ o4 b4 B4 B3
      go_wp2
      go_roundw
      case rel => exact ⟨k + 1, by omega, by go_num, _, N1⟩
      case measure => simp [intOf]; omega
    · obtain rfl : k = D := by omega
      obtain ⟨gg, cc, e2, hE⟩ := hcp.done
      have hval := hE.val
      simp only [Value.slice.injEq, Option.some.injEq, Addr.mk.injEq, and_true, true_and] at hval
      obtain ⟨rfl, rfl⟩ := hval
      have hbel := hcp.bel
      have RD := reduceRows_any _ k (k + k) k (eyeM k hv) w.heap.size w.heap.size k e2 (by omega) (by omega) (by omega) (eyeM_byt k hv) wr hE
      clear hE hcp
      go_wp2_with fail
      refine RD.mono ?_
      rintro ee w4 ⟨rfl, ⟨e4, hE4⟩, hb4⟩
      have HE4 : Hid (OwnE w4 w.heap.size w4.heap.size (.slice (some ⟨w.heap.size, 0, none⟩) k k) k (fun _ => k + k) (gaussM k (eyeM k hv) k).1 w.heap.size k e4) := hE4
      have B4 : Below w.heap.size w w4 := hbel.trans hb4
      have hf4 : ∀ i, i < k → ∃ gi ci, e4 i = .slice (some ⟨gi, 0, none⟩) (k + k) ci ∧ gi ≠ w.heap.size ∧ gi < w4.heap.size ∧ k + k ≤ ci := fun i hi => by
        obtain ⟨gi, ci, h5, h6, h7, h8, h9⟩ := (hE4.each i hi).form (by omega)
        exact ⟨gi, ci, h5, fun hg => hE4.apart.1 i hi (by rw [h5, hg]; rfl), h8, h9⟩
      have HF4 : Hid (∀ i, i < k → ∃ gi ci, e4 i = .slice (some ⟨gi, 0, none⟩) (k + k) ci ∧ gi ≠ w.heap.size ∧ gi < w4.heap.size ∧ k + k ≤ ci) := hf4
      have hr4 := hE4.row
      have hz4 := hE4.high
      clear RD hb4 hbel hE4 hf4
      go_wp2
      go_loopw [36] (fun i wr => ∃ q : Nat, q ≤ k ∧ i = .int .i64 q ∧ ∃ e5 : Nat → Value, wr.ownsRow w.heap.size 23 1 (.slice (some ⟨w.heap.size, 0, none⟩) k k) k (valsOf k e5) ∧ (∀ i, i < k → q ≤ i → e5 i = e4 i) ∧ (∀ i, i < q → ∃ gi ci cj, e4 i = .slice (some ⟨gi, 0, none⟩) (k + k) ci ∧ e5 i = .slice (some ⟨gi, k, none⟩) k cj) ∧ (∀ b, b ≠ w.heap.size → wr.heap[b]? = w4.heap[b]?) ∧ Below w.heap.size w wr ∧ wr.heap.size = w4.heap.size) (fun i _ => k - (intOf i).toNat)
      case atStart => exact ⟨0, Nat.zero_le _, rfl, e4, hr4, fun _ _ _ => rfl, fun i hi => by omega, fun _ _ => rfl, B4, rfl⟩
      case round =>
        clear hr4 B4
        obtain ⟨q, hq, rfl, e5, hr5, h51, h52, h53, h54, h55⟩ := hrel
        by_cases hqk : q < k
        · obtain ⟨gi, ci, h61, h62, h63, h64⟩ := HF4.out q hqk
          have c1 : wr.cell? ⟨w.heap.size, q, none⟩ = some (.slice (some ⟨gi, 0, none⟩) (k + k) ci) := by
            rw [hr5.cellAt q (by omega), valsOf_get k e5 q hqk, h51 q hqk (Nat.le_refl _), h61]
          have c2 : wr.frozen? ⟨w.heap.size, q, none⟩ = false := hr5.frozenAt q
          obtain ⟨T, hT⟩ : ∃ T, T = k + k := ⟨_, rfl⟩
          have HT : Hid (T = k + k) := hT
          have hsl := fun w => run_slice_tail gi T ci k (by omega) (by omega) w
          have hTk : T - k = k := by omega
          rw [hTk] at hsl
          rw [← hT] at c1
          have NR : (wr.setCell ⟨w.heap.size, q, none⟩ (.slice (some ⟨gi, k, none⟩) k (ci - k))).ownsRow w.heap.size 23 1 (.slice (some ⟨w.heap.size, 0, none⟩) k k) k (valsOf k fun i => if i = q then .slice (some ⟨gi, k, none⟩) k (ci - k) else e5 i) := by
            have := (hr5.stored q (.slice (some ⟨gi, k, none⟩) k (ci - k))).1
            rw [valsOf_set k e5 (fun i => if i = q then .slice (some ⟨gi, k, none⟩) k (ci - k) else e5 i) q _ hqk (fun i _ => rfl)] at this
            exact this
          have HX : Hid ((∀ i, i < k → q + 1 ≤ i → (if i = q then Value.slice (some ⟨gi, k, none⟩) k (ci - k) else e5 i) = e4 i) ∧ (∀ i, i < q + 1 → ∃ gi' ci' cj, e4 i = .slice (some ⟨gi', 0, none⟩) (k + k) ci' ∧ (if i = q then Value.slice (some ⟨gi, k, none⟩) k (ci - k) else e5 i) = .slice (some ⟨gi', k, none⟩) k cj)) :=
            ⟨fun i hi hqi => by rw [if_neg (by omega)]; exact h51 i hi (by omega), fun i hi => by
              by_cases c : i = q
              · exact ⟨gi, ci, ci - k, by rw [c]; exact h61, by rw [if_pos c]⟩
              · rw [if_neg c]; exact h52 i (by omega)⟩
          have N3 : ∀ b, b ≠ w.heap.size → (wr.setCell ⟨w.heap.size, q, none⟩ (.slice (some ⟨gi, k, none⟩) k (ci - k))).heap[b]? = w4.heap[b]? := fun b hb => (heap_setCell_other wr ⟨w.heap.size, q, none⟩ b _ hb).trans (h53 b hb)
          have N4 : Below w.heap.size w (wr.setCell ⟨w.heap.size, q, none⟩ (.slice (some ⟨gi, k, none⟩) k (ci - k))) := h54.setCell (Nat.le_refl _) _
          have N5 : (wr.setCell ⟨w.heap.size, q, none⟩ (.slice (some ⟨gi, k, none⟩) k (ci - k))).heap.size = w4.heap.size := by simp [h55]
          clear hr5 h51 h52 h53 h54 h61 hT
          go_wp2
          go_roundw
          case rel => exact ⟨q + 1, by omega, by go_num, _, NR, HX.out.1, HX.out.2, N3, N4, N5⟩
          case measure => simp [intOf]; omega
        · obtain rfl : q = k := by omega
          have HM : Hid (RdM wr wr.heap.size (.slice (some ⟨w.heap.size, 0, none⟩) q q) q (fun _ => q) (dW q hv)) := by
            refine ⟨_, _, e5, rfl, by unfold maxLen; omega, fun _ => ⟨w.heap.size, 0, rfl, by omega, fun i hi => ?_⟩, fun i hi => ?_⟩
            · rw [Nat.zero_add, hr5.cellAt i (by omega), valsOf_get q e5 i hi]
            · show Rd wr wr.heap.size (e5 i) q (dW q hv i)
              obtain ⟨gi, ci, cj, h61, h62⟩ := h52 i hi
              obtain ⟨gi', ci', h63, h64, h65, h66⟩ := HF4.out i hi
              rw [h61] at h63
              cases h63
              rw [h62]
              refine ⟨_, _, rfl, by unfold maxLen; omega, fun _ => ⟨gi, q, rfl, by omega, fun j hj => ?_⟩⟩
              have o6 := HE4.out.each i hi
              rw [h61] at o6
              have c6 := o6.1.cellAt (q + j) (by omega)
              rw [cellsOf_get _ _ _ (by omega)] at c6
              exact (World.cell?_of_block (h53 gi h64)).trans c6
          clear hr5 h51 h52 h53
          go_wp2
          go_ret
          exact ⟨_, rfl, HM.out, h54⟩
end Go.Proofs.Ytoadjpacchhleaj

namespace Go.Proofs.Ytoadjpacchhleaj
open Go.RowKit F256
set_option linter.unusedVariables false
set_option linter.unusedSimpArgs false

/-- the weights as the program reckons them -/
def colW (D : Nat) (hv : Nat → Nat) : Mat := fun p => mixN (dW D hv) (genN D p 8) D

set_option maxHeartbeats 4000000 in
theorem columnWeights_any (D C : Nat) (vh : Value) (hv : Nat → Nat) (h1 : Nat) (w : World) (rh : RdI w h1 vh D (fun i => (hv i : Int))) (hh : h1 ≤ w.heap.size) (hD1 : 1 ≤ D) (hD : D ≤ 4) (hC : C ≤ 2) (hbd : ∀ k, k < D → hv k < D + 2) :
    Calls Try.prog 58 #[.int .i64 D, .int .i64 C, vh] w fun e w' => ∃ v', e = .returned v' ∧ OwnM w' w.heap.size w'.heap.size v' (D + C) (fun _ => D) (colW D hv) ∧ Below w.heap.size w w' := by
  have CD := dataWeights_any D vh hv h1 w rh hh hD1 hD hbd
  obtain ⟨aoh, caph, rfl, hmm, hch⟩ := rh
  have e136 : ((136 : Nat) : Int) = 136 := rfl
  obtain ⟨Q, hQ⟩ : ∃ Q, Q = D + C := ⟨_, rfl⟩
  have HQ : Hid (Q = D + C) := hQ
  have hQ6 : Q ≤ 6 := by omega
  clear hch hmm hQ
  go_enter Try.func58, Try.ntmps58
  go_wp2_with fail
  refine CD.mono ?_
  rintro e0 wD ⟨vD, rfl, rD, BD⟩
  obtain ⟨ao, cap, e, rfl, hm, hc, he⟩ := rD
  obtain ⟨b, off, rfl, hbw, hcell⟩ := hc (by omega)
  have HE : Hid (∀ i, i < D → Rd wD wD.heap.size (e i) D (dW D hv i)) := he
  have HC : Hid (∀ i, i < D → wD.cell? ⟨b, off + i, none⟩ = some (e i)) := hcell
  clear hc he hcell hm CD
  go_wp2_with (at_make; refine wp_makeM _ rfl _ _ rfl _ _ Q rfl rfl (by have := HQ.out; omega) (by have := HQ.out; omega) (by omega) ?_; intro w1 hown1 hb1 hz1)
  have E0 : OwnE w1 wD.heap.size w1.heap.size (.slice (some ⟨wD.heap.size, 0, none⟩) Q Q) Q (lenN D 0) (colW D hv) wD.heap.size Q (fun _ => nilS) := ownE_made hown1 (Nat.le_refl _) hz1 (fun i hi => by simp [lenN])
  clear hown1
  go_loopw [22] (fun i wr => ∃ k : Nat, k ≤ Q ∧ i = .int .i64 k ∧ ∃ e', OwnE wr wD.heap.size wr.heap.size (.slice (some ⟨wD.heap.size, 0, none⟩) Q Q) Q (lenN D k) (colW D hv) wD.heap.size Q e' ∧ Below wD.heap.size wD wr) (fun i _ => Q - (intOf i).toNat)
  case atStart => exact ⟨0, Nat.zero_le _, rfl, _, E0, hb1⟩
  case round =>
    clear E0 hb1 hz1
    obtain ⟨k, hk, rfl, e', hE, hb⟩ := hrel
    by_cases hlt : k < Q
    · have HOE : Hid (OwnE wr wD.heap.size wr.heap.size (.slice (some ⟨wD.heap.size, 0, none⟩) Q Q) Q (lenN D k) (colW D hv) wD.heap.size Q e') := hE
      have HB : Hid (Below wD.heap.size wD wr) := hb
      have hlti : (k : Int) < (D : Int) + (C : Int) := by have := HQ.out; omega
      have szr := hb.size
      have hgr := hE.high
      clear hE hb
      go_wp2_with (at_make; refine wp_makeB _ rfl _ _ rfl _ _ D rfl rfl rfl rfl (by omega) ?_; intro w2 ho2 hb2 hz2; have q1 : w2.cell? ⟨wD.heap.size, k, none⟩ = some (e' k) := (HOE.out.below hb2 (Nat.le_refl _)).cell k hlt; have q2 : w2.frozen? ⟨wD.heap.size, k, none⟩ = false := (HOE.out.below hb2 (Nat.le_refl _)).frozen k)
      have e136 : ((136 : Nat) : Int) = 136 := rfl
      obtain ⟨wk, hwk⟩ : ∃ wk, wk = wr := ⟨_, rfl⟩
      rw [← hwk] at ho2 hb2 hz2 HOE HB szr hgr ⊢
      obtain ⟨row, hrow⟩ : ∃ row : Value, row = .slice (some ⟨wk.heap.size, 0, none⟩) D D := ⟨_, rfl⟩
      obtain ⟨E1, hE1k, ER⟩ : ∃ E1 : Nat → Value, E1 k = row ∧ OwnE (w2.setCell ⟨wD.heap.size, k, none⟩ (.slice (some ⟨wk.heap.size, 0, none⟩) D D)) wD.heap.size w2.heap.size (.slice (some ⟨wD.heap.size, 0, none⟩) Q Q) Q (lenN D (k + 1)) (sumM (colW D hv) (dW D hv) (genN D k 8) k 0) wD.heap.size Q E1 :=
        ⟨_, by simp [hrow], (HOE.out.below hb2 (Nat.le_refl _)).lay k hlt (n' := lenN D (k + 1)) (M' := sumM (colW D hv) (dW D hv) (genN D k 8) k 0) (lo2 := wk.heap.size) (hi2 := w2.heap.size) (by
          rw [show lenN D (k + 1) k = D by simp [lenN]]
          exact ho2.congr (fun i _ => by simp [sumM, mixN])) (Nat.le_refl _) hb2.size (fun j hj hne => by
          unfold lenN
          by_cases c : j < k
          · rw [if_pos c, if_pos (by omega)]
          · rw [if_neg c, if_neg (by omega)]) (fun j hj hne => by simp [sumM, hne])⟩
      have BA : Below wD.heap.size wD (w2.setCell ⟨wD.heap.size, k, none⟩ (.slice (some ⟨wk.heap.size, 0, none⟩) D D)) := (HB.out.trans (hb2.mono szr)).setCell (Nat.le_refl _) _
      obtain ⟨wA, hwA⟩ : ∃ wA, wA = w2.setCell ⟨wD.heap.size, k, none⟩ (.slice (some ⟨wk.heap.size, 0, none⟩) D D) := ⟨_, rfl⟩
      have hsA : wA.heap.size = w2.heap.size := by rw [hwA]; simp
      have CF := factorsFrom_any 8 D k 136 rfl (by omega) (by omega) (by have := HQ.out; omega) wA
      rw [e136] at CF
      rw [← hwA] at ER BA ⊢
      clear ho2 hb2 q1 q2 HOE HB hwk hwA
      refine CF.mono ?_
      rintro ee w3 ⟨v3, rfl, o3, b3⟩
      obtain ⟨gv, capv, hgv, h31, h32, h33, h34⟩ := o3.form (by omega)
      subst hgv
      have s3 := b3.size
      rw [hsA] at o3 h31 s3
      have E3 := ER.below b3 (by omega)
      have B3 : Below wD.heap.size wD w3 := BA.trans (b3.mono (by omega))
      clear CF b3 ER BA
      go_wp2
      go_loopw [34] (fun i wr => ∃ m : Nat, m ≤ D ∧ i = .int .i64 m ∧ OwnE wr wD.heap.size w2.heap.size (.slice (some ⟨wD.heap.size, 0, none⟩) Q Q) Q (lenN D (k + 1)) (sumM (colW D hv) (dW D hv) (genN D k 8) k m) wD.heap.size Q E1 ∧ Own wr w2.heap.size w3.heap.size (.slice (some ⟨gv, 0, none⟩) D capv) D (genN D k 8) ∧ Below wD.heap.size wD wr ∧ w3.heap.size ≤ wr.heap.size) (fun i _ => D - (intOf i).toNat)
      case atStart => exact ⟨0, Nat.zero_le _, rfl, E3, o3, B3, Nat.le_refl _⟩
      case round =>
        clear E3 o3 B3
        obtain ⟨m, hm', rfl, hE, ho, hb, hsz⟩ := hrel
        by_cases hmR : m < D
        · obtain ⟨y, hy⟩ : ∃ y, y = genN D k 8 m := ⟨_, rfl⟩
          have hyl : y < 256 := by rw [hy]; exact genN_lt D k 8 m
          have c1 : wr.cell? ⟨wD.heap.size, k, none⟩ = some (.slice (some ⟨wk.heap.size, 0, none⟩) D D) := by rw [← hrow, ← hE1k]; exact hE.cell k hlt
          have c2 : wr.cell? ⟨b, off + m, none⟩ = some (e m) := (hb.cell (p := ⟨b, off + m, none⟩) hbw).trans (HC.out m hmR)
          have c3 : wr.cell? ⟨gv, m, none⟩ = some (.int .u8 y) := by rw [hy]; exact (ho.1.cellAt m (by omega)).trans (cellsOf_get _ _ _ hmR)
          have ok : Own wr wD.heap.size w2.heap.size (.slice (some ⟨wk.heap.size, 0, none⟩) D D) D (mixN (dW D hv) (genN D k 8) m) := by
            have := hE.each k hlt
            rw [hE1k, hrow, show lenN D (k + 1) k = D by simp [lenN], show sumM (colW D hv) (dW D hv) (genN D k 8) k m k = mixN (dW D hv) (genN D k 8) m by simp [sumM]] at this
            exact this
          have rm : Rd wr wD.heap.size (e m) D (dW D hv m) := (HE.out m hmR).below hb (Nat.le_refl _)
          have CA := addScaled_any (.slice (some ⟨wk.heap.size, 0, none⟩) D D) (e m) D (mixN (dW D hv) (genN D k 8) m) (dW D hv m) (mixN (dW D hv) (genN D k 8) (m + 1)) y wk.heap.size (wk.heap.size + 1) wD.heap.size (wr.drewN 1) (ok.tight.drewN 1) (by show wk.heap.size + 1 ≤ wr.heap.size; omega) rm (by omega) (by show wD.heap.size ≤ wr.heap.size; omega) (mixN_lt (dW D hv) _ (genN_lt D k 8) m) (dW_byt D hv m) hyl (fun i _ => by rw [hy]; rfl) (by omega)
          have HOE : Hid (OwnE wr wD.heap.size w2.heap.size (.slice (some ⟨wD.heap.size, 0, none⟩) Q Q) Q (lenN D (k + 1)) (sumM (colW D hv) (dW D hv) (genN D k 8) k m) wD.heap.size Q E1) := hE
          have HO : Hid (Own wr w2.heap.size w3.heap.size (.slice (some ⟨gv, 0, none⟩) D capv) D (genN D k 8)) := ho
          have HOK : Hid (Own wr wD.heap.size w2.heap.size (.slice (some ⟨wk.heap.size, 0, none⟩) D D) D (mixN (dW D hv) (genN D k 8) m)) := ok
          have HBL : Hid (Below wD.heap.size wD wr) := hb
          obtain ⟨x, hx⟩ : ∃ x, x = e m := ⟨_, rfl⟩
          rw [← hx] at c2 CA rm
          obtain ⟨aox, capx, hsx, _, _⟩ := rm
          subst hsx
          have HE1 : Hid (E1 k = row) := hE1k
          have HRW : Hid (row = .slice (some ⟨wk.heap.size, 0, none⟩) D D) := hrow
          clear hE ho hb ok hx hy hE1k hrow
          go_wp2
          go_region_with (go_at_call 56; refine CA.mono ?_; rintro ee w7 ⟨rfl, o7, ch7⟩)
          all_goals
            have E7 := (HOE.out.drewN 1).updN (M' := sumM (colW D hv) (dW D hv) (genN D k 8) k (m + 1)) k hlt (by rw [HE1.out, HRW.out]; exact ch7) (by
              rw [HE1.out, HRW.out, show lenN D (k + 1) k = D by simp [lenN], show sumM (colW D hv) (dW D hv) (genN D k 8) k (m + 1) k = mixN (dW D hv) (genN D k 8) (m + 1) by simp [sumM]]
              exact HOK.out.untight o7) (fun j hj hne => by simp [sumM, hne])
            have O7 : Own w7 w2.heap.size w3.heap.size (.slice (some ⟨gv, 0, none⟩) D capv) D (genN D k 8) := (HO.out.drewN 1).chg ch7 (.inr (by omega))
            have B7 : Below wD.heap.size wD w7 := (below_drewN HBL.out 1).trans (ch7.below (by omega) HBL.out.size)
            have S7 : w3.heap.size ≤ w7.heap.size := Nat.le_trans hsz ch7.size
            have q5 := HE1.out
            have q6 := HRW.out
            clear o7 ch7 HOE HO HBL HOK CA c1 c2 c3
            go_wp2
            go_roundw
            case rel => exact ⟨m + 1, by omega, by go_num, E7, O7, B7, S7⟩
            case measure => simp [intOf]; omega
        · obtain rfl : m = D := by omega
          have E8 : OwnE wr wD.heap.size wr.heap.size (.slice (some ⟨wD.heap.size, 0, none⟩) Q Q) Q (lenN m (k + 1)) (colW m hv) wD.heap.size Q E1 := by
            have h9 := hE.weaken (hi' := wr.heap.size) (by omega)
            have e9 : sumM (colW m hv) (dW m hv) (genN m k 8) k m = colW m hv := by
              funext i
              unfold sumM
              by_cases c : i = k
              · rw [if_pos c, c]; rfl
              · rw [if_neg c]
            rw [e9] at h9
            exact h9
          clear hE ho
          go_wp2
          go_roundw
          case rel => exact ⟨k + 1, by omega, by go_num, E1, E8, hb⟩
          case measure => simp [intOf]; omega
    · have hlti : ¬ ((k : Int) < (D : Int) + (C : Int)) := by have := HQ.out; omega
      obtain rfl : k = Q := by omega
      have E9 := hE.congrN (n' := fun _ => D) (fun i hi => by simp [lenN, hi])
      clear hE
      go_wp2
      go_ret
      refine ⟨_, rfl, ?_, BD.trans (hb.mono BD.size)⟩
      rw [← HQ.out]
      exact OwnM.weaken ⟨_, _, _, E9⟩ BD.size (Nat.le_refl _)
end Go.Proofs.Ytoadjpacchhleaj

namespace Go.Proofs.Ytoadjpacchhleaj
open Go.RowKit F256
set_option linter.unusedVariables false
set_option linter.unusedSimpArgs false

/-- six bytes as an array -/
def arr6 (f : Nat → Nat) : Value := .agg #[.int .u8 (f 0), .int .u8 (f 1), .int .u8 (f 2), .int .u8 (f 3), .int .u8 (f 4), .int .u8 (f 5)]
theorem arr6_cells (f : Nat → Nat) (h : ∀ j, f j < 256) : arr6 f = .agg (([UInt8.ofNat (f 0), UInt8.ofNat (f 1), UInt8.ofNat (f 2), UInt8.ofNat (f 3), UInt8.ofNat (f 4), UInt8.ofNat (f 5)] : List UInt8).map Extern.Stop.cell).toArray := by
  have e : ∀ j, Extern.Stop.cell (UInt8.ofNat (f j)) = Value.int .u8 (f j) := fun j => by
    have : (UInt8.ofNat (f j)).toNat = f j := by simp [UInt8.toNat_ofNat, Nat.mod_eq_of_lt (h j)]
    simp [Extern.Stop.cell, this]
  simp [arr6, e]
theorem eq6_run (f : Nat → Nat) (hf : ∀ j, f j < 256) (w : World) : (Op.equalIn 10000 73 (arr6 f) (arr6 f)).run Try.prog w = .ok true w := by
  rw [arr6_cells f hf, run_equalIn_bytes w 9998 73 5 6 Try.underlying73 Try.underlying5 (fun w => by kernel_rfl) _ _ rfl rfl]
  simp
theorem check6 (em : Bool) (f : Nat → Nat) (w : World) : (Instr.checkKey em 10000 73 (arr6 f)).run Try.prog w = .ok () w := by kernel_rfl
theorem find6_none (f : Nat → Nat) (w : World) : (Instr.findKey 73 (arr6 f) []).run Try.prog w = .ok none w := by kernel_rfl
theorem find6_one (f : Nat → Nat) (hf : ∀ j, f j < 256) (val : Value) (t : Nat) (w : World) : (Instr.findKey 73 (arr6 f) [⟨arr6 f, val, t⟩]).run Try.prog w = .ok (some (0, val)) w := by
  have h := eq6_run f hf w
  have hn : Instr.findNow (.array 6 5) (arr6 f) [⟨arr6 f, val, t⟩] 0 = none := rfl
  simp [Instr.findKey, run_underlying Try.underlying73, hn, Instr.findAsking, Op.equal, Op.maxDepth, h, Result.andThen]
theorem zero_lists (w : World) : (zeroValue 33).run Try.prog w = .ok nilS w := by kernel_rfl
/-- the block of a map -/
def MapAt (w : World) (b : Nat) (es : Array MapEntry) (t : Nat) : Prop := w.heap[b]? = some (.map es t)
theorem MapAt.lt {w : World} {b : Nat} {es : Array MapEntry} {t : Nat} (h : MapAt w b es t) : b < w.heap.size := (Array.getElem?_eq_some_iff.1 h).1
theorem MapAt.below {w w' : World} {b B : Nat} {es : Array MapEntry} {t : Nat} (h : MapAt w b es t) (hb : Below B w w') (hB : b < B) : MapAt w' b es t := (hb.block b hB).trans h
theorem mapAt_new (w : World) : MapAt (w.alloc (.map #[] 0)) w.heap.size #[] 0 := heap_alloc_new w _
/-- _, known := book[key], where it has none -/
theorem look6_none {w : World} {b : Nat} (h : MapAt w b #[] 0) (f : Nat → Nat) : (Instr.lookup 58 (.map (some b)) (arr6 f) true).run Try.prog w = .ok (.tuple #[nilS, .bool false]) w := by
  simp [Instr.lookup, run_underlying Try.underlying58, MapKept.run_getObj_map h, check6, find6_none, zero_lists, Result.andThen]
theorem look6_one {w : World} {b : Nat} {f : Nat → Nat} (hf : ∀ j, f j < 256) {val : Value} {t u : Nat} (h : MapAt w b #[⟨arr6 f, val, t⟩] u) (c : Bool) : (Instr.lookup 58 (.map (some b)) (arr6 f) c).run Try.prog w = .ok (if c then .tuple #[val, .bool true] else val) w := by
  simp [Instr.lookup, run_underlying Try.underlying58, MapKept.run_getObj_map h, check6, find6_one f hf, Result.andThen]
/-- book[key] = val, where it has none -/
theorem put6_none {w : World} {b : Nat} (h : MapAt w b #[] 0) (f : Nat → Nat) (val : Value) : (Instr.mapUpdate 58 (.map (some b)) (arr6 f) val).run Try.prog w = .ok () (ChangeMaps.setBlock w b (.map #[⟨arr6 f, val, 0⟩] 1)) := by
  simp [Instr.mapUpdate, run_underlying Try.underlying58, MapKept.run_getObj_map h, check6, find6_none, Result.andThen]
  exact MapKept.run_setObj_map _ h
theorem setB_same {w : World} {b : Nat} {es : Array MapEntry} {t : Nat} (h : MapAt w b es t) (o : Obj) : (ChangeMaps.setBlock w b o).heap[b]? = some o := ChangeMaps.heap_setBlock_same h o
theorem setB_other {w : World} {b : Nat} {es : Array MapEntry} {t : Nat} (h : MapAt w b es t) (o : Obj) {i : Nat} (hi : i ≠ b) : (ChangeMaps.setBlock w b o).heap[i]? = w.heap[i]? := ChangeMaps.heap_setBlock_other h o hi
theorem setB_size (w : World) (b : Nat) (o : Obj) : (ChangeMaps.setBlock w b o).heap.size = w.heap.size := by simp [ChangeMaps.setBlock]
theorem setB_chg {w : World} {b : Nat} {es : Array MapEntry} {t : Nat} (h : MapAt w b es t) (o : Obj) : Chg b (b + 1) w (ChangeMaps.setBlock w b o) :=
  ⟨rfl, rfl, rfl, Nat.le_of_eq (setB_size w b o).symm, fun k _ hk => setB_other h o (by omega)⟩
theorem below_chg {lo hi B : Nat} {w w' : World} (h : Below B w w') (hB : w.heap.size ≤ B) : Chg lo hi w w' := ⟨h.os, h.tape, h.output, h.size, fun k hk _ => h.block k (by omega)⟩
end Go.Proofs.Ytoadjpacchhleaj

namespace Go.Proofs.Ytoadjpacchhleaj
open Go.RowKit F256
set_option linter.unusedVariables false
set_option linter.unusedSimpArgs false

/-- the lineup behind k places -/
def keyN (hv : Nat → Nat) : Nat → Nat → Nat
  | 0, _ => 0
  | k + 1, i => if i = hv k then 1 else keyN hv k i
theorem keyN_lt (hv : Nat → Nat) : ∀ k i, keyN hv k i < 256
  | 0, _ => by simp [keyN]
  | k + 1, i => by
    simp only [keyN]
    split
    · omega
    · exact keyN_lt hv k i
def keyA (hv : Nat → Nat) (k : Nat) : Array Value := #[.int .u8 (keyN hv k 0), .int .u8 (keyN hv k 1), .int .u8 (keyN hv k 2), .int .u8 (keyN hv k 3), .int .u8 (keyN hv k 4), .int .u8 (keyN hv k 5)]
theorem keyA_size (hv : Nat → Nat) (k : Nat) : (keyA hv k).size = 6 := rfl
theorem keyA_set (hv : Nat → Nat) (k p : Nat) (hp : p = hv k) (h6 : p < 6) : (keyA hv k).setIfInBounds p (.int .u8 1) = keyA hv (k + 1) := by
  have : p = 0 ∨ p = 1 ∨ p = 2 ∨ p = 3 ∨ p = 4 ∨ p = 5 := by omega
  rcases this with rfl | rfl | rfl | rfl | rfl | rfl <;> simp [keyA, keyN, ← hp]

set_option maxRecDepth 20000 in
set_option maxHeartbeats 4000000 in
theorem weights_new (B D C : Nat) (vh : Value) (hv : Nat → Nat) (h1 : Nat) (w : World) (hM : MapAt w B #[] 0) (rh : RdI w h1 vh D (fun i => (hv i : Int))) (hh : h1 ≤ w.heap.size) (hD1 : 1 ≤ D) (hD : D ≤ 4) (hC : C ≤ 2) (hbd : ∀ k, k < D → hv k < D + 2) :
    Calls Try.prog 40 #[.map (some B), .int .i64 D, .int .i64 C, vh] w fun e w' => ∃ v', e = .returned v' ∧ OwnM w' w.heap.size w'.heap.size v' (D + C) (fun _ => D) (colW D hv) ∧ MapAt w' B #[⟨arr6 (keyN hv D), v', 0⟩] 1 ∧ Chg B (B + 1) w w' := by
  have HRH : Hid (RdI w h1 vh D (fun i => (hv i : Int))) := rh
  obtain ⟨aoh, caph, rfl, hmm, hch⟩ := rh
  obtain ⟨bh, oh, rfl, hbh, hcell⟩ := hch (by omega)
  have HC : Hid (∀ i, i < D → w.cell? ⟨bh, oh + i, none⟩ = some (.int .i64 (hv i : Int))) := hcell
  have HBD : Hid (∀ k, k < D → hv k < D + 2) := hbd
  have hbw : bh < w.heap.size := by omega
  have hBw := hM.lt
  have HM : Hid (MapAt w B #[] 0) := hM
  clear hch hcell hbd hmm hM
  go_enter Try.func40, Try.ntmps40
  go_wp2
  go_loopw [16] (fun i wr => ∃ k : Nat, k ≤ D ∧ i = .int .i64 k ∧ wr = w.alloc (.cells (keyA hv k) 73)) (fun i _ => D - (intOf i).toNat)
  case atStart => exact ⟨0, Nat.zero_le _, rfl, rfl⟩
  case round =>
    obtain ⟨k, hk, rfl, rfl⟩ := hrel
    by_cases hlt : k < D
    · obtain ⟨p, hp⟩ : ∃ p, p = hv k := ⟨_, rfl⟩
      have ck : (w.alloc (.cells (keyA hv k) 73)).cell? ⟨bh, oh + k, none⟩ = some (.int .i64 (p : Int)) := by
        rw [cell_alloc_old _ _ _ _ hbw, hp]
        exact HC.out k hlt
      have hp6 : p < 6 := by have := HBD.out k hlt; omega
      have hT := keyA_size hv k
      have HP : Hid (p = hv k) := hp
      clear hp
      go_wp2
      go_roundw
      case rel => exact ⟨k + 1, by omega, by go_num, by rw [keyA_set hv k p HP.out hp6]⟩
      case measure => simp [intOf]; omega
    · obtain rfl : k = D := by omega
      obtain ⟨k0, hk0⟩ : ∃ x, x = keyN hv k 0 := ⟨_, rfl⟩
      obtain ⟨k1, hk1⟩ : ∃ x, x = keyN hv k 1 := ⟨_, rfl⟩
      obtain ⟨k2, hk2⟩ : ∃ x, x = keyN hv k 2 := ⟨_, rfl⟩
      obtain ⟨k3, hk3⟩ : ∃ x, x = keyN hv k 3 := ⟨_, rfl⟩
      obtain ⟨k4, hk4⟩ : ∃ x, x = keyN hv k 4 := ⟨_, rfl⟩
      obtain ⟨k5, hk5⟩ : ∃ x, x = keyN hv k 5 := ⟨_, rfl⟩
      have HKA : Hid (arr6 (keyN hv k) = .agg #[.int .u8 k0, .int .u8 k1, .int .u8 k2, .int .u8 k3, .int .u8 k4, .int .u8 k5]) := by
        show arr6 (keyN hv k) = _
        rw [hk0, hk1, hk2, hk3, hk4, hk5]
        rfl
      have ha : keyA hv k = #[.int .u8 k0, .int .u8 k1, .int .u8 k2, .int .u8 k3, .int .u8 k4, .int .u8 k5] := by
        rw [hk0, hk1, hk2, hk3, hk4, hk5]
        rfl
      obtain ⟨wK, hwK⟩ : ∃ wK, wK = w.alloc (.cells (keyA hv k) 73) := ⟨_, rfl⟩
      have BK : Below w.heap.size w wK := by rw [hwK]; exact (Below.refl _ _).alloc (Nat.le_refl _) _
      have XK : Box wK w.heap.size #[.int .u8 k0, .int .u8 k1, .int .u8 k2, .int .u8 k3, .int .u8 k4, .int .u8 k5] 73 := by rw [hwK, ← ha]; exact box_new w _ _
      have MK : MapAt wK B #[] 0 := HM.out.below BK hBw
      have L1 := look6_none MK (keyN hv k)
      rw [HKA.out] at L1
      rw [← hwK]
      have d0 := XK.cell 0
      have d1 := XK.cell 1
      have d2 := XK.cell 2
      have d3 := XK.cell 3
      have d4 := XK.cell 4
      have d5 := XK.cell 5
      simp only [List.getElem?_toArray, List.getElem?_cons_zero, List.getElem?_cons_succ] at d0 d1 d2 d3 d4 d5
      clear ha hwK hk0 hk1 hk2 hk3 hk4 hk5
      go_wp2
      have CW := columnWeights_any k C (.slice (some ⟨bh, oh, none⟩) k caph) hv h1 (wK.drewN 1) (HRH.out.below (below_drewN BK 1) hh) (Nat.le_trans hh BK.size) hD1 hD hC HBD.out
      clear L1 HC
      go_region_with (go_at_call 58; refine CW.mono ?_; rintro ee w3 ⟨v3, rfl, o3, b3⟩; obtain ⟨gW, cW, eW, hW⟩ := o3; have hval := hW.val; subst hval; have b4 : Below wK.heap.size wK w3 := undrewN' b3; have M3 : MapAt w3 B #[] 0 := MK.below b4 (by show B < wK.heap.size; have := BK.size; omega); have PU := put6_none M3 (keyN hv k) (.slice (some ⟨gW, 0, none⟩) (k + C) cW); rw [HKA.out] at PU; have X3 : Box w3 w.heap.size #[.int .u8 k0, .int .u8 k1, .int .u8 k2, .int .u8 k3, .int .u8 k4, .int .u8 k5] 73 := XK.below b4 XK.lt; have f0 : w3.cell? ⟨w.heap.size, 0, none⟩ = some (.int .u8 k0) := X3.cell 0; have f1 : w3.cell? ⟨w.heap.size, 1, none⟩ = some (.int .u8 k1) := X3.cell 1; have f2 : w3.cell? ⟨w.heap.size, 2, none⟩ = some (.int .u8 k2) := X3.cell 2; have f3 : w3.cell? ⟨w.heap.size, 3, none⟩ = some (.int .u8 k3) := X3.cell 3; have f4 : w3.cell? ⟨w.heap.size, 4, none⟩ = some (.int .u8 k4) := X3.cell 4; have f5 : w3.cell? ⟨w.heap.size, 5, none⟩ = some (.int .u8 k5) := X3.cell 5)
      all_goals
        obtain ⟨w5, hw5⟩ : ∃ w5, w5 = ChangeMaps.setBlock w3 B (.map #[⟨.agg #[.int .u8 k0, .int .u8 k1, .int .u8 k2, .int .u8 k3, .int .u8 k4, .int .u8 k5], .slice (some ⟨gW, 0, none⟩) (k + C) cW, 0⟩] 1) := ⟨_, rfl⟩
        have sK := BK.size
        have s4 := b4.size
        have hs5 : w5.heap.size = w3.heap.size := by rw [hw5]; exact setB_size _ _ _
        have M5 : MapAt w5 B #[⟨arr6 (keyN hv k), .slice (some ⟨gW, 0, none⟩) (k + C) cW, 0⟩] 1 := by rw [hw5, HKA.out]; exact setB_same M3 _
        have C5 : Chg B (B + 1) w w5 := by
          have h5 := setB_chg M3 (.map #[⟨.agg #[.int .u8 k0, .int .u8 k1, .int .u8 k2, .int .u8 k3, .int .u8 k4, .int .u8 k5], .slice (some ⟨gW, 0, none⟩) (k + C) cW, 0⟩] 1)
          rw [← hw5] at h5
          exact ((below_chg (lo := B) (hi := B + 1) BK (Nat.le_refl _)).trans (below_chg b4 (Nat.le_refl _))).trans h5
        have oth : ∀ b, b ≠ B → w5.heap[b]? = w3.heap[b]? := fun b hb => by rw [hw5]; exact setB_other M3 _ hb
        have OM : OwnM w5 w.heap.size w5.heap.size (.slice (some ⟨gW, 0, none⟩) (k + C) cW) (k + C) (fun _ => k) (colW k hv) := by
          have h6 := hW.keep (w2 := w5) (fun b hb1 _ => oth b (by have hb2 : wK.heap.size ≤ b := hb1; omega))
          have h7 : OwnM w5 wK.heap.size w3.heap.size (.slice (some ⟨gW, 0, none⟩) (k + C) cW) (k + C) (fun _ => k) (colW k hv) := ⟨_, _, _, h6⟩
          exact h7.weaken sK (by omega)
        have L5 := look6_one (keyN_lt hv k) M5 false
        rw [HKA.out] at L5
        simp only [Bool.false_eq_true, if_false] at L5
        have X5 : Box w5 w.heap.size #[.int .u8 k0, .int .u8 k1, .int .u8 k2, .int .u8 k3, .int .u8 k4, .int .u8 k5] 73 := (oth _ (by omega)).trans X3
        have g0 : w5.cell? ⟨w.heap.size, 0, none⟩ = some (.int .u8 k0) := X5.cell 0
        have g1 : w5.cell? ⟨w.heap.size, 1, none⟩ = some (.int .u8 k1) := X5.cell 1
        have g2 : w5.cell? ⟨w.heap.size, 2, none⟩ = some (.int .u8 k2) := X5.cell 2
        have g3 : w5.cell? ⟨w.heap.size, 3, none⟩ = some (.int .u8 k3) := X5.cell 3
        have g4 : w5.cell? ⟨w.heap.size, 4, none⟩ = some (.int .u8 k4) := X5.cell 4
        have g5 : w5.cell? ⟨w.heap.size, 5, none⟩ = some (.int .u8 k5) := X5.cell 5
        have HOM : Hid (OwnM w5 w.heap.size w5.heap.size (.slice (some ⟨gW, 0, none⟩) (k + C) cW) (k + C) (fun _ => k) (colW k hv)) := OM
        have HM5 : Hid (MapAt w5 B #[⟨arr6 (keyN hv k), .slice (some ⟨gW, 0, none⟩) (k + C) cW, 0⟩] 1) := M5
        rw [← hw5]
        clear hw5 oth PU M3 X3 f0 f1 f2 f3 f4 f5 b3 b4 hW CW MK BK XK d0 d1 d2 d3 d4 d5 OM M5
        go_wp2
        go_ret
        exact ⟨_, rfl, HOM.out, HM5.out, C5⟩

set_option maxRecDepth 20000 in
set_option maxHeartbeats 4000000 in
theorem weights_old (B D C : Nat) (vh : Value) (hv : Nat → Nat) (h1 : Nat) (w : World) (t u : Nat) (ao : Option Addr) (nv cv : Nat) (hM : MapAt w B #[⟨arr6 (keyN hv D), .slice ao nv cv, t⟩] u) (rh : RdI w h1 vh D (fun i => (hv i : Int))) (hh : h1 ≤ w.heap.size) (hD1 : 1 ≤ D) (hD : D ≤ 4) (hbd : ∀ k, k < D → hv k < D + 2) :
    Calls Try.prog 40 #[.map (some B), .int .i64 D, .int .i64 C, vh] w fun e w' => e = .returned (.slice ao nv cv) ∧ Below w.heap.size w w' := by
  obtain ⟨aoh, caph, rfl, hmm, hch⟩ := rh
  obtain ⟨bh, oh, rfl, hbh, hcell⟩ := hch (by omega)
  have HC : Hid (∀ i, i < D → w.cell? ⟨bh, oh + i, none⟩ = some (.int .i64 (hv i : Int))) := hcell
  have HBD : Hid (∀ k, k < D → hv k < D + 2) := hbd
  have hbw : bh < w.heap.size := by omega
  have hBw := hM.lt
  have HM : Hid (MapAt w B #[⟨arr6 (keyN hv D), .slice ao nv cv, t⟩] u) := hM
  clear hch hcell hbd hmm hM
  go_enter Try.func40, Try.ntmps40
  go_wp2
  go_loopw [16] (fun i wr => ∃ k : Nat, k ≤ D ∧ i = .int .i64 k ∧ wr = w.alloc (.cells (keyA hv k) 73)) (fun i _ => D - (intOf i).toNat)
  case atStart => exact ⟨0, Nat.zero_le _, rfl, rfl⟩
  case round =>
    obtain ⟨k, hk, rfl, rfl⟩ := hrel
    by_cases hlt : k < D
    · obtain ⟨p, hp⟩ : ∃ p, p = hv k := ⟨_, rfl⟩
      have ck : (w.alloc (.cells (keyA hv k) 73)).cell? ⟨bh, oh + k, none⟩ = some (.int .i64 (p : Int)) := by
        rw [cell_alloc_old _ _ _ _ hbw, hp]
        exact HC.out k hlt
      have hp6 : p < 6 := by have := HBD.out k hlt; omega
      have hT := keyA_size hv k
      have HP : Hid (p = hv k) := hp
      clear hp
      go_wp2
      go_roundw
      case rel => exact ⟨k + 1, by omega, by go_num, by rw [keyA_set hv k p HP.out hp6]⟩
      case measure => simp [intOf]; omega
    · obtain rfl : k = D := by omega
      obtain ⟨k0, hk0⟩ : ∃ x, x = keyN hv k 0 := ⟨_, rfl⟩
      obtain ⟨k1, hk1⟩ : ∃ x, x = keyN hv k 1 := ⟨_, rfl⟩
      obtain ⟨k2, hk2⟩ : ∃ x, x = keyN hv k 2 := ⟨_, rfl⟩
      obtain ⟨k3, hk3⟩ : ∃ x, x = keyN hv k 3 := ⟨_, rfl⟩
      obtain ⟨k4, hk4⟩ : ∃ x, x = keyN hv k 4 := ⟨_, rfl⟩
      obtain ⟨k5, hk5⟩ : ∃ x, x = keyN hv k 5 := ⟨_, rfl⟩
      have HKA : Hid (arr6 (keyN hv k) = .agg #[.int .u8 k0, .int .u8 k1, .int .u8 k2, .int .u8 k3, .int .u8 k4, .int .u8 k5]) := by
        show arr6 (keyN hv k) = _
        rw [hk0, hk1, hk2, hk3, hk4, hk5]
        rfl
      have ha : keyA hv k = #[.int .u8 k0, .int .u8 k1, .int .u8 k2, .int .u8 k3, .int .u8 k4, .int .u8 k5] := by
        rw [hk0, hk1, hk2, hk3, hk4, hk5]
        rfl
      obtain ⟨wK, hwK⟩ : ∃ wK, wK = w.alloc (.cells (keyA hv k) 73) := ⟨_, rfl⟩
      have BK : Below w.heap.size w wK := by rw [hwK]; exact (Below.refl _ _).alloc (Nat.le_refl _) _
      have XK : Box wK w.heap.size #[.int .u8 k0, .int .u8 k1, .int .u8 k2, .int .u8 k3, .int .u8 k4, .int .u8 k5] 73 := by rw [hwK, ← ha]; exact box_new w _ _
      have MK : MapAt wK B #[⟨arr6 (keyN hv k), .slice ao nv cv, t⟩] u := HM.out.below BK hBw
      have L1 := look6_one (keyN_lt hv k) MK true
      have L2 := look6_one (keyN_lt hv k) MK false
      rw [HKA.out] at L1 L2
      simp only [Bool.false_eq_true, if_false, if_true] at L1 L2
      rw [← hwK]
      have d0 : wK.cell? ⟨w.heap.size, 0, none⟩ = some (.int .u8 k0) := XK.cell 0
      have d1 : wK.cell? ⟨w.heap.size, 1, none⟩ = some (.int .u8 k1) := XK.cell 1
      have d2 : wK.cell? ⟨w.heap.size, 2, none⟩ = some (.int .u8 k2) := XK.cell 2
      have d3 : wK.cell? ⟨w.heap.size, 3, none⟩ = some (.int .u8 k3) := XK.cell 3
      have d4 : wK.cell? ⟨w.heap.size, 4, none⟩ = some (.int .u8 k4) := XK.cell 4
      have d5 : wK.cell? ⟨w.heap.size, 5, none⟩ = some (.int .u8 k5) := XK.cell 5
      clear ha hwK hk0 hk1 hk2 hk3 hk4 hk5
      go_wp2
      go_ret
      exact ⟨rfl, BK⟩
end Go.Proofs.Ytoadjpacchhleaj

namespace Go.Proofs.Ytoadjpacchhleaj
open Go.RowKit F256
set_option linter.unusedVariables false
set_option linter.unusedSimpArgs false

/-- the length of the first of k lists that is there -/
def flN (n : Nat → Nat) : Nat → Nat
  | 0 => 0
  | k + 1 => if flN n k = 0 then n k else flN n k
theorem flN_keep {n : Nat → Nat} {k : Nat} (h : flN n k ≠ 0) : ∀ d, flN n (k + d) = flN n k
  | 0 => rfl
  | d + 1 => by
    have := flN_keep h d
    show (if flN n (k + d) = 0 then n (k + d) else flN n (k + d)) = flN n k
    rw [this, if_neg h]
theorem flN_cnt {n : Nat → Nat} {R : Nat} : ∀ k, k ≤ R → (cntN n k = 0 ∧ flN n k = 0) ∨ (0 < cntN n k ∧ flN n k = n (nthN n R 0) ∧ flN n k ≠ 0)
  | 0, _ => .inl ⟨rfl, rfl⟩
  | k + 1, hk => by
    rcases flN_cnt (n := n) (R := R) k (by omega) with ⟨h1, h2⟩ | ⟨h1, h2, h3⟩
    · by_cases c : n k = 0
      · left
        exact ⟨by rw [cntN, if_pos c, h1], by simp only [flN, h2, if_pos, c]⟩
      · right
        have e1 : cntN n (k + 1) = 1 := by rw [cntN, if_neg c, h1]
        have e2 : flN n (k + 1) = n k := by simp only [flN, h2, if_pos]
        have e3 := nthN_is (n := n) (R := R) (j := k) (by omega) c
        rw [h1] at e3
        exact ⟨by omega, by rw [e2, e3], by rw [e2]; exact c⟩
    · right
      have e2 : flN n (k + 1) = flN n k := by simp only [flN, if_neg h3]
      have := cntN_mono n (show k ≤ k + 1 by omega)
      exact ⟨by omega, by rw [e2, h2], by rw [e2]; exact h3⟩
theorem even_fl {n : Nat → Nat} {R : Nat} : (∀ i, i < R → n i = 0 ∨ n i = flN n R) ↔ EvenM R n := by
  constructor
  · intro h t ht
    rcases flN_cnt (n := n) (R := R) R (Nat.le_refl _) with ⟨h1, h2⟩ | ⟨h1, h2, h3⟩
    · omega
    · obtain ⟨a, b, c⟩ := nthN_spec (n := n) (R := R) (k := t) ht
      show n (nthN n R t) = n (nthN n R 0)
      rw [← h2]
      exact (h _ a).resolve_left b
  · intro h i hi
    by_cases c : n i = 0
    · exact .inl c
    · right
      have e1 := nthN_is (n := n) (R := R) (j := i) hi c
      have e2 := cntN_lt hi c
      rcases flN_cnt (n := n) (R := R) R (Nat.le_refl _) with ⟨h1, h2⟩ | ⟨h1, h2, h3⟩
      · omega
      · have := h (cntN n i) e2
        show n i = flN n R
        rw [h2]
        have h4 : n (nthN n R (cntN n i)) = n (nthN n R 0) := this
        rw [e1] at h4
        exact h4

set_option maxHeartbeats 1000000 in
theorem equallyLongOrEmpty_any (v : Value) (R : Nat) (n : Nat → Nat) (f : Mat) (hi : Nat) (w : World) (r : RdM w hi v R n f) :
    Calls Try.prog 46 #[v] w (BoolP (EvenM R n) w) := by
  obtain ⟨ao, cap, e, rfl, hm, hc, he⟩ := r
  unfold maxLen at hm
  have HHE : Hid (∀ i, i < R → Rd w hi (e i) (n i) (f i)) := he
  have HHC : Hid (R ≠ 0 → ∃ b off, ao = some ⟨b, off, none⟩ ∧ b < hi ∧ ∀ i, i < R → w.cell? ⟨b, off + i, none⟩ = some (e i)) := hc
  clear hc he
  go_enter Try.func46, Try.ntmps46
  go_wp2
  go_loop [3, 7] (fun l i => ∃ k L : Nat, k ≤ R ∧ i = .int .i64 k ∧ l = .int .i64 L ∧ L = flN n k ∧ ∀ i, i < k → n i = 0 ∨ n i = flN n k) (fun _ i => R - (intOf i).toNat)
  case atStart => exact ⟨0, 0, Nat.zero_le _, rfl, rfl, rfl, fun i hi => by omega⟩
  case round =>
    obtain ⟨k, L, hk, rfl, rfl, hL, hall⟩ := hrel
    have HL : Hid (L = flN n k) := hL
    have HALL : Hid (∀ i, i < k → n i = 0 ∨ n i = flN n k) := hall
    clear hL hall
    by_cases hlt : k < R
    · obtain ⟨b, off, hao, hblt, hcell⟩ := HHC.out (by omega)
      subst hao
      have hck : w.cell? ⟨b, off + k, none⟩ = some (e k) := hcell k hlt
      obtain ⟨aok, capk, hsk, hmk, hqk⟩ := HHE.out k hlt
      unfold maxLen at hmk
      rw [hsk] at hck
      obtain ⟨nk, hnk⟩ : ∃ x, x = n k := ⟨_, rfl⟩
      have HK : Hid (nk = n k) := hnk
      rw [← hnk] at hck hmk
      clear hcell hsk hqk hnk
      by_cases hL0 : L = 0
      · have HF : Hid (flN n (k + 1) = nk) := by
          show flN n (k + 1) = nk
          simp only [flN, ← HL.out, hL0, if_pos, HK.out]
        have HZ : Hid (∀ i, i < k → n i = 0) := fun i hi => by
          rcases HALL.out i hi with h | h
          · exact h
          · rw [h, ← HL.out, hL0]
        subst hL0
        have tn : ((nk : Int) != (nk : Int)) = false := by simp
        by_cases hn0 : nk = 0
        · subst hn0
          go_wp2
          go_round
          case rel => exact ⟨k + 1, 0, by omega, by go_num, rfl, HF.out.symm, fun i hi => by
                        by_cases c : i = k
                        · left; rw [c, ← HK.out]
                        · left; exact HZ.out i (by omega)⟩
          case measure => simp [intOf]; omega
        · have t0 : ((nk : Int) != 0) = true := by simp; omega
          go_wp2
          go_round
          case rel => exact ⟨k + 1, nk, by omega, by go_num, rfl, HF.out.symm, fun i hi => by
                        by_cases c : i = k
                        · right; rw [c, HF.out, HK.out]
                        · left; exact HZ.out i (by omega)⟩
          case measure => simp [intOf]; omega
      · have HF : Hid (flN n (k + 1) = L) := by
          show flN n (k + 1) = L
          simp only [flN, ← HL.out, if_neg hL0]
        have HNZ : Hid (flN n (k + 1) ≠ 0) := by
          show flN n (k + 1) ≠ 0
          rw [HF.out]; exact hL0
        have tL : ((L : Int) == 0) = false := by simp; omega
        have HA : Hid (∀ i, i < k → n i = 0 ∨ n i = flN n (k + 1)) := fun i hi => by rw [HF.out, HL.out]; exact HALL.out i hi
        by_cases hn0 : nk = 0
        · subst hn0
          clear hL0
          go_wp2
          go_round
          case rel => exact ⟨k + 1, L, by omega, by go_num, rfl, HF.out.symm, fun i hi => by
                        by_cases c : i = k
                        · left; rw [c, ← HK.out]
                        · exact HA.out i (by omega)⟩
          case measure => simp [intOf]; omega
        · have t0 : ((nk : Int) != 0) = true := by simp; omega
          by_cases hnL : nk = L
          · subst hnL
            clear hL0 hn0
            go_wp2
            go_round
            case rel => exact ⟨k + 1, nk, by omega, by go_num, rfl, HF.out.symm, fun i hi => by
                          by_cases c : i = k
                          · right; rw [c, ← HK.out, HF.out]
                          · exact HA.out i (by omega)⟩
            case measure => simp [intOf]; omega
          · have tn : ((nk : Int) != (L : Int)) = true := by simp; omega
            have HNO : Hid (¬ EvenM R n) := fun h => by
              have h1 := even_fl.mpr h k hlt
              have h2 := flN_keep HNZ.out (R - (k + 1))
              rw [show k + 1 + (R - (k + 1)) = R by omega] at h2
              rw [h2, HF.out, ← HK.out] at h1
              omega
            clear hL0 hn0 hnL
            go_wp2
            go_ret
            exact boolNo rfl HNO.out (Below.refl _ _)
    · obtain rfl : k = R := by omega
      go_wp2
      go_ret
      exact boolYes rfl (even_fl.mp HALL.out) (Below.refl _ _)

set_option maxHeartbeats 4000000 in
theorem weighed_any (vl vh vw : Value) (R D N : Nat) (n : Nat → Nat) (f : Mat) (hv : Nat → Nat) (c : Nat → Nat) (h1 h2 h3 : Nat) (w : World) (rl : RdM w h1 vl R n f) (rh : RdI w h2 vh D (fun i => (hv i : Int))) (rw' : Rd w h3 vw D c) (hh1 : h1 ≤ w.heap.size) (hh2 : h2 ≤ w.heap.size) (hh3 : h3 ≤ w.heap.size)
    (hD1 : 1 ≤ D) (hD : D ≤ 1000) (hb : ∀ k, k < D → hv k < R) (hN : ∀ k, k < D → n (hv k) = N) (hN2 : N ≤ 1000000000) (kf : Byt f) (kc : ∀ i, c i < 256) :
    Calls Try.prog 49 #[vl, vh, vw] w fun e w' => ∃ v', e = .returned v' ∧ Own w' w.heap.size w'.heap.size v' N (mixN (fun k => f (hv k)) c D) ∧ Below w.heap.size w w' := by
  have hR0 : 0 < R := by have := hb 0 (by omega); omega
  obtain ⟨ao, cap, e, rfl, hm, hc, he⟩ := rl
  obtain ⟨b, off, rfl, hblt, hcell⟩ := hc (by omega)
  obtain ⟨aoh, caph, rfl, hmh, hch⟩ := rh
  obtain ⟨bh, oh, rfl, hbh, hcellh⟩ := hch (by omega)
  obtain ⟨aow, capw, rfl, hmw, hcw⟩ := rw'
  obtain ⟨bw, ow, rfl, hbw, hcellw⟩ := hcw (by omega)
  unfold maxLen at hm
  have HE : Hid (∀ k, k < D → Rd w h1 (e (hv k)) N (f (hv k))) := fun k hk => by have := he (hv k) (hb k hk); rw [hN k hk] at this; exact this
  have HC : Hid (∀ i, i < R → w.cell? ⟨b, off + i, none⟩ = some (e i)) := hcell
  have HCH : Hid (∀ i, i < D → w.cell? ⟨bh, oh + i, none⟩ = some (.int .i64 (hv i : Int))) := hcellh
  have HCW : Hid (∀ i, i < D → w.cell? ⟨bw, ow + i, none⟩ = some (.int .u8 (c i))) := hcellw
  have HBD : Hid (∀ k, k < D → hv k < R) := hb
  have hb0 : b < w.heap.size := by omega
  have hbh0 : bh < w.heap.size := by omega
  have hbw0 : bw < w.heap.size := by omega
  obtain ⟨p, hp⟩ : ∃ p, p = hv 0 := ⟨_, rfl⟩
  have c0 : w.cell? ⟨bh, oh, none⟩ = some (.int .i64 (p : Int)) := by rw [hp]; exact hcellh 0 (by omega)
  have hpR : p < R := by rw [hp]; exact hb 0 (by omega)
  obtain ⟨ao0, cap0, hs0, hm0, hq0⟩ := HE.out 0 (by omega)
  have c1 : w.cell? ⟨b, off + p, none⟩ = some (.slice ao0 N cap0) := by rw [← hs0, hp]; exact hcell (hv 0) (hb 0 (by omega))
  clear hc hch hcw he hb hN hcell hcellh hcellw hs0 hq0 hm0 hp hmh hmw
  go_enter Try.func49, Try.ntmps49
  go_wp2_with (at_make; refine wp_makeB _ rfl _ _ rfl _ _ N rfl rfl rfl rfl (by omega) ?_; intro w1 hown1 hb1 hz1)
  clear c0 c1
  go_loopw [20] (fun i wr => ∃ k : Nat, k ≤ D ∧ i = .int .i64 k ∧ Own wr w.heap.size w1.heap.size (.slice (some ⟨w.heap.size, 0, none⟩) N N) N (mixN (fun k => f (hv k)) c k) ∧ Below w.heap.size w wr ∧ w1.heap.size ≤ wr.heap.size) (fun i _ => D - (intOf i).toNat)
  case atStart => exact ⟨0, Nat.zero_le _, rfl, hown1, hb1, Nat.le_refl _⟩
  case round =>
    clear hown1 hb1
    obtain ⟨k, hk, rfl, ho, hb, hsz⟩ := hrel
    by_cases hlt : k < D
    · obtain ⟨p, hp⟩ : ∃ p, p = hv k := ⟨_, rfl⟩
      obtain ⟨y, hy⟩ : ∃ y, y = c k := ⟨_, rfl⟩
      have c0 : wr.cell? ⟨bh, oh + k, none⟩ = some (.int .i64 (p : Int)) := by rw [hp]; exact (hb.cell (p := ⟨bh, oh + k, none⟩) hbh0).trans (HCH.out k hlt)
      have hpR2 : p < R := by rw [hp]; exact HBD.out k hlt
      have c1 : wr.cell? ⟨b, off + p, none⟩ = some (e p) := (hb.cell (p := ⟨b, off + p, none⟩) hb0).trans (HC.out p hpR2)
      have c2 : wr.cell? ⟨bw, ow + k, none⟩ = some (.int .u8 y) := by rw [hy]; exact (hb.cell (p := ⟨bw, ow + k, none⟩) hbw0).trans (HCW.out k hlt)
      have rm : Rd wr h1 (e p) N (f p) := by rw [hp]; exact (HE.out k hlt).below hb hh1
      have CA := addScaled_any (.slice (some ⟨w.heap.size, 0, none⟩) N N) (e p) N (mixN (fun k => f (hv k)) c k) (f p) (mixN (fun k => f (hv k)) c (k + 1)) y w.heap.size w1.heap.size h1 (wr.drewN 1) (ho.drewN 1) hsz rm hh1 (Nat.le_trans hh1 hb.size) (mixN_lt _ _ kc k) (kf p) (by rw [hy]; exact kc k) (fun i _ => by rw [hy, hp]; rfl) hN2
      have HO : Hid (Own wr w.heap.size w1.heap.size (.slice (some ⟨w.heap.size, 0, none⟩) N N) N (mixN (fun k => f (hv k)) c k)) := ho
      have HBL : Hid (Below w.heap.size w wr) := hb
      obtain ⟨x, hx⟩ : ∃ x, x = e p := ⟨_, rfl⟩
      rw [← hx] at c1 CA rm
      obtain ⟨aox, capx, hsx, _, _⟩ := rm
      subst hsx
      clear ho hb hx hy hp
      go_wp2
      go_region_with (go_at_call 56; refine CA.mono ?_; rintro ee w7 ⟨rfl, o7, ch7⟩)
      all_goals
        have B7 : Below w.heap.size w w7 := (below_drewN HBL.out 1).trans (ch7.below (Nat.le_refl _) HBL.out.size)
        have S7 : w1.heap.size ≤ w7.heap.size := Nat.le_trans hsz ch7.size
        clear ch7 HO HBL CA c0 c1 c2
        go_wp2
        go_roundw
        case rel => exact ⟨k + 1, by omega, by go_num, o7, B7, S7⟩
        case measure => simp [intOf]; omega
    · obtain rfl : k = D := by omega
      go_wp2
      go_ret
      exact ⟨_, rfl, ho.weaken (Nat.le_refl _) hsz, hb⟩
end Go.Proofs.Ytoadjpacchhleaj

namespace Go.Proofs.Ytoadjpacchhleaj
open Go.RowKit F256
set_option linter.unusedVariables false
set_option linter.unusedSimpArgs false

/-- make([]int64, 0, n) -/
theorem wp_makeI0 (w : World) {ops : Array Oper} {rest : List Oper} {o : Oper} {a : Act} {Q : Exit → Act → World → Prop}
    (hg : o.guard = none) (l c : Operand) (hop : o.op = Op.makeSlice 22 l c) (C : Int) (n : Nat) (hl : a.eval l = .int .i64 0) (hc : a.eval c = .int .i64 C) (hC : C = (n : Int)) (hn : n ≤ 1000000000)
    (hK : ∀ w', (∀ f, OwnI w' w.heap.size w'.heap.size (.slice (some ⟨w.heap.size, 0, none⟩) 0 n) 0 f) → Below w.heap.size w w' → w.heap.size < w'.heap.size → wpList Try.prog ops Q rest (a.put o.dst (.slice (some ⟨w.heap.size, 0, none⟩) 0 n)) w') :
    wpList Try.prog ops Q (o :: rest) a w := by
  obtain ⟨i0, hi0, hz0, hz1, hz2⟩ := info_parts info_i64
  refine wpList_make_own w hg l c 22 hop w.heap.size 2 i0 (.int .i64 0) 1 Try.underlying22 hi0 hz0 hz1 .i64 .i64 C n hl hc hC (by rw [hz2]; omega) (by unfold maxLen; omega) (Nat.le_refl _) ?_
  intro w' hown hgrow
  have hlt := (hown.lt _ rfl).2
  exact hK w' (fun f => ⟨hown, fun k hk => (hown.lt k hk).2⟩) (below_of_grown hgrow) hlt

/-- how many are picked of the first k -/
def pickN (D : Nat) (n : Nat → Nat) (k : Nat) : Nat := if cntN n k < D then cntN n k else D
theorem pickN_zero (D : Nat) (n : Nat → Nat) : pickN D n 0 = 0 := by
  have h0 : cntN n 0 = 0 := rfl
  unfold pickN
  rw [h0]
  by_cases c : 0 < D
  · rw [if_pos c]
  · rw [if_neg c]; omega
theorem pickN_none {D : Nat} {n : Nat → Nat} {k : Nat} (h : n k = 0) : pickN D n (k + 1) = pickN D n k := by
  unfold pickN
  rw [cntN, if_pos h]
theorem pickN_more {D : Nat} {n : Nat → Nat} {k : Nat} (h : n k ≠ 0) (hl : pickN D n k < D) : pickN D n (k + 1) = pickN D n k + 1 ∧ pickN D n k = cntN n k := by
  unfold pickN at hl ⊢
  rw [cntN, if_neg h]
  by_cases c : cntN n k < D
  · rw [if_pos c]
    refine ⟨?_, rfl⟩
    split <;> omega
  · rw [if_neg c] at hl
    omega
theorem pickN_full {D : Nat} {n : Nat → Nat} {k : Nat} (hl : ¬ pickN D n k < D) : pickN D n (k + 1) = pickN D n k := by
  unfold pickN at hl ⊢
  by_cases c : cntN n k < D
  · rw [if_pos c] at hl
    omega
  · have := cntN_mono n (show k ≤ k + 1 by omega)
    rw [if_neg c, if_neg (by omega)]
theorem pickN_all {D : Nat} {n : Nat → Nat} {k : Nat} (h : D ≤ cntN n k) : pickN D n k = D := by
  unfold pickN
  rw [if_neg (by omega)]
theorem pickN_few {D : Nat} {n : Nat → Nat} {k : Nat} (h : ¬ D ≤ cntN n k) : pickN D n k < D := by
  unfold pickN
  rw [if_pos (by omega)]
  omega

set_option maxHeartbeats 2000000 in
theorem firstThere_any (D : Nat) (v : Value) (R : Nat) (n : Nat → Nat) (f : Nat → Nat → Nat) (h1 : Nat) (w : World) (r : RdM w h1 v R n f) (hh : h1 ≤ w.heap.size) (hD : D ≤ 1000) :
    Calls Try.prog 48 #[.int .i64 D, v] w fun e w' => ∃ v', e = .returned v' ∧ OwnI w' w.heap.size w'.heap.size v' (pickN D n R) (fun t => (nthN n R t : Int)) ∧ Below w.heap.size w w' := by
  obtain ⟨ao, cap, e, rfl, hm, hc, he⟩ := r
  unfold maxLen at hm
  have HHE : Hid (∀ i, i < R → Rd w h1 (e i) (n i) (f i)) := he
  have HHC : Hid (R ≠ 0 → ∃ b off, ao = some ⟨b, off, none⟩ ∧ b < h1 ∧ ∀ i, i < R → w.cell? ⟨b, off + i, none⟩ = some (e i)) := hc
  clear hc he
  go_enter Try.func48, Try.ntmps48
  go_wp2_with (at_make; refine wp_makeI0 _ rfl _ _ rfl _ D rfl rfl rfl (by omega) ?_; intro w1 hown1 hb1 hz1)
  have I0 := hown1 (fun t => (nthN n R t : Int))
  clear hown1
  go_loopw [5, 11] (fun vh i wr => ∃ c k : Nat, k ≤ R ∧ i = .int .i64 k ∧ c = pickN D n k ∧ OwnI wr w.heap.size wr.heap.size vh c (fun t => (nthN n R t : Int)) ∧ Below w.heap.size w wr) (fun _ i _ => R - (intOf i).toNat)
  case atStart => exact ⟨0, 0, Nat.zero_le _, rfl, (pickN_zero D n).symm, I0, hb1⟩
  case round =>
    clear I0 hb1 hz1
    obtain ⟨c, k, hk, rfl, hck, hI, hb⟩ := hrel
    have HCK : Hid (c = pickN D n k) := hck
    have HI : Hid (OwnI wr w.heap.size wr.heap.size u5 c (fun t => (nthN n R t : Int))) := hI
    have HB : Hid (Below w.heap.size w wr) := hb
    obtain ⟨ao8, cap8, hs8⟩ := hI.slice
    subst hs8
    have szr := hb.size
    have hcD : c ≤ D := by
      rw [hck]
      unfold pickN
      split <;> omega
    clear hck
    by_cases hlt : k < R
    · obtain ⟨b, off, hao, hblt, hcell⟩ := HHC.out (by omega)
      subst hao
      have c1 : wr.cell? ⟨b, off + k, none⟩ = some (e k) := (hb.cell (p := ⟨b, off + k, none⟩) (by show b < w.heap.size; omega)).trans (hcell k hlt)
      obtain ⟨aok, capk, hsk, hmk, hqk⟩ := HHE.out k hlt
      unfold maxLen at hmk
      obtain ⟨nk, hnk⟩ : ∃ x, x = n k := ⟨_, rfl⟩
      have HNK : Hid (nk = n k) := hnk
      rw [hsk, ← hnk] at c1
      rw [← hnk] at hmk
      clear hnk hsk hqk hcell hI hb
      by_cases e1 : nk = 0
      · have HN0 : Hid (nk = 0) := e1
        have t1 : decide ((0 : Int) < (nk : Int)) = false := by simp; omega
        have t1n : decide (0 < nk) = false := by simp; omega
        clear e1
        go_wp2
        go_roundw
        case rel => exact ⟨c, k + 1, by omega, by go_num, by rw [pickN_none (by rw [← HNK.out]; exact HN0.out)]; exact HCK.out, HI.out, HB.out⟩
        case measure => simp [intOf]; omega
      · have HN0 : Hid (nk ≠ 0) := e1
        have t1 : (0 : Int) < (nk : Int) := by omega
        have t1n : decide (0 < nk) = true := by simp; omega
        have hbw : b < w.heap.size := by omega
        clear e1
        by_cases hcd : c < D
        · have t2 : (c : Int) < (D : Int) := by omega
          have HPM := pickN_more (D := D) (n := n) (k := k) (by rw [← HNK.out]; exact HN0.out) (by rw [← HCK.out]; exact hcd)
          have HNT : Hid (nthN n R c = k) := by
            show nthN n R c = k
            rw [HCK.out, HPM.2]
            exact nthN_is hlt (by rw [← HNK.out]; exact HN0.out)
          have HP1 : Hid (pickN D n (k + 1) = c + 1) := by show pickN D n (k + 1) = c + 1; rw [HPM.1, ← HCK.out]
          clear HPM
          go_wp2_with (at_builtin; refine wp_appendIt rfl (.tmp 26) (.tmp 28) rfl w.heap.size wr.heap.size (.slice ao8 c cap8) c (fun t => (nthN n R t : Int)) ?_ ?_ wr.heap.size 1 ?_ ?_ (by omega) ?_ ?_; (simp [Act.eval]); exact HI.out.alloc _; (simp [Act.eval]); (rw [HNT.out]; simp); (simp; omega); intro v2 w2 o2 g2)
          have b2 : Below w.heap.size wr w2 := ((Below.refl w.heap.size wr).alloc szr _).grown g2 (by simp; omega) (fun q hq => (HI.out.1.lt q hq).1)
          have b5 : Below w.heap.size w w2 := HB.out.trans b2
          clear g2 b2 c1 HI HB
          go_wp2
          go_roundw
          case rel => exact ⟨c + 1, k + 1, by omega, by go_num, HP1.out.symm, o2, b5⟩
          case measure => simp [intOf]; omega
        · have t2 : decide ((c : Int) < (D : Int)) = false := by simp; omega
          have t2n : decide (c < D) = false := by simp; omega
          have HP1 : Hid (c = pickN D n (k + 1)) := by
            show c = pickN D n (k + 1)
            rw [pickN_full (by rw [← HCK.out]; exact hcd)]
            exact HCK.out
          clear hcd
          go_wp2
          go_roundw
          case rel => exact ⟨c, k + 1, by omega, by go_num, HP1.out, HI.out, HB.out⟩
          case measure => simp [intOf]; omega
    · obtain rfl : k = R := by omega
      have HI2 : Hid (OwnI wr w.heap.size wr.heap.size (.slice ao8 c cap8) (pickN D n k) (fun t => (nthN n k t : Int))) := by
        show OwnI wr w.heap.size wr.heap.size (.slice ao8 c cap8) (pickN D n k) (fun t => (nthN n k t : Int))
        rw [← HCK.out]; exact hI
      clear hI
      go_wp2
      go_ret
      exact ⟨_, rfl, HI2.out, hb⟩

set_option maxHeartbeats 1000000 in
theorem index_any (v : Value) (n : Nat) (g : Nat → Int) (hi : Nat) (x : Int) (w : World) (r : RdI w hi v n g) :
    Calls Try.prog 57 #[v, .int .i64 x] w fun e w' => ∃ z : Int, e = .returned (.int .i64 z) ∧ (0 ≤ z ↔ ∃ t, t < n ∧ g t = x) ∧ w' = w := by
  obtain ⟨ao, cap, rfl, hm, hc⟩ := r
  unfold maxLen at hm
  go_enter Try.func57, Try.ntmps57
  go_wp2
  go_loop [8] (fun i => ∃ k : Nat, k ≤ n ∧ i = .int .i64 k ∧ ∀ i, i < k → g i ≠ x) (fun i => n - (intOf i).toNat)
  case atStart => exact ⟨0, Nat.zero_le _, rfl, fun i hi => by omega⟩
  case round =>
    obtain ⟨k, hk, rfl, hall⟩ := hrel
    have HALL : Hid (∀ i, i < k → g i ≠ x) := hall
    clear hall
    by_cases hlt : k < n
    · obtain ⟨b, off, rfl, hblt, hcell⟩ := hc (by omega)
      have hck : w.cell? ⟨b, off + k, none⟩ = some (.int .i64 (g k)) := hcell k hlt
      obtain ⟨y, hy⟩ : ∃ y, y = g k := ⟨_, rfl⟩
      have HY : Hid (y = g k) := hy
      rw [← hy] at hck
      clear hc hcell hy
      by_cases heq : x = y
      · have HP : Hid (0 ≤ (k : Int) ↔ ∃ t, t < n ∧ g t = x) := ⟨fun _ => ⟨k, hlt, by rw [← HY.out, heq]⟩, fun _ => by omega⟩
        have te : (x == y) = true := by simp [heq]
        clear heq
        go_wp2
        go_ret
        exact ⟨_, rfl, HP.out, rfl⟩
      · have te : (x == y) = false := by simp [heq]
        have HN : Hid (g k ≠ x) := by show g k ≠ x; rw [← HY.out]; exact fun h => heq h.symm
        clear heq
        go_wp2
        go_round
        case rel => exact ⟨k + 1, by omega, by go_num, fun i hi => by
                      by_cases c : i = k
                      · rw [c]; exact HN.out
                      · exact HALL.out i (by omega)⟩
        case measure => simp [intOf]; omega
    · obtain rfl : k = n := by omega
      have HP : Hid (0 ≤ (-1 : Int) ↔ ∃ t, t < k ∧ g t = x) := ⟨fun h => by omega, fun ⟨t, ht, he⟩ => absurd he (HALL.out t ht)⟩
      clear hc
      go_wp2
      go_ret
      exact ⟨-1, rfl, HP.out, rfl⟩

theorem contains_any (v : Value) (n : Nat) (g : Nat → Int) (hi : Nat) (x : Int) (w : World) (r : RdI w hi v n g) :
    Calls Try.prog 39 #[v, .int .i64 x] w (BoolP (∃ t, t < n ∧ g t = x) w) := by
  have C := index_any v n g hi x w r
  obtain ⟨ao, cap, rfl, hm, hc⟩ := r
  clear hc hm
  have HI : Hid (Calls Try.prog 57 #[.slice ao n cap, .int .i64 x] w fun e w' => ∃ z : Int, e = .returned (.int .i64 z) ∧ (0 ≤ z ↔ ∃ t, t < n ∧ g t = x) ∧ w' = w) := C
  clear C
  obtain ⟨P, hP⟩ : ∃ P : Prop, P = ∃ t, t < n ∧ g t = x := ⟨_, rfl⟩
  rw [← hP] at HI ⊢
  clear hP
  go_enter Try.func39, Try.ntmps39
  go_wp2_with fail
  refine HI.out.mono ?_
  rintro e w1 ⟨z, rfl, hz, hw1⟩
  obtain rfl := hw1.symm
  have HZ : Hid (0 ≤ z ↔ P) := hz
  clear hz HI
  by_cases h0 : 0 ≤ z
  · have HP : Hid P := HZ.out.mp h0
    go_wp2
    go_ret
    exact boolYes rfl HP.out (Below.refl _ _)
  · have HP : Hid (¬ P) := fun h => h0 (HZ.out.mpr h)
    have td : decide (0 ≤ z) = false := by simp; omega
    clear h0
    go_wp2
    go_ret
    exact boolNo rfl HP.out (Below.refl _ _)
end Go.Proofs.Ytoadjpacchhleaj

namespace Go.Proofs.Ytoadjpacchhleaj
open F256

theorem mixN_dotC (f : Mat) (c : Nat → Nat) (j : Nat) : ∀ k, mixN f c k j = dotN c (fun t => f t j) k
  | 0 => rfl
  | k + 1 => by rw [mixN, dotN, mixN_dotC f c j k]
theorem mixN_sameC {f g : Mat} {c : Nat → Nat} {j : Nat} : ∀ {k : Nat}, (∀ i, i < k → f i j = g i j) → mixN f c k j = mixN g c k j
  | 0, _ => rfl
  | k + 1, h => by rw [mixN, mixN, mixN_sameC (fun i hi => h i (by omega)), h k (by omega)]
/-- the lists of a column: R of data, the parity behind them -/
def allN (R : Nat) (f : Mat) : Mat := fun p => if p < R then f p else parN R f (p - R)
theorem allN_byt {R : Nat} {f : Mat} (kf : Byt f) : Byt (allN R f) := fun p t => by
  unfold allN
  split
  · exact kf p t
  · exact parN_byt R f _ _
theorem allN_dot {R : Nat} {f : Mat} (kf : Byt f) (p t : Nat) : allN R f p t = dotN (genN R p 8) (fun i => f i t) R := by
  unfold allN
  by_cases c : p < R
  · rw [if_pos c, dotN_gen (x := fun i => f i t) (fun i => kf _ _) c]
  · rw [if_neg c]
    unfold parN
    rw [mixN_dotC, show R + (p - R) = p by omega]
/-- what is picked lies one behind the other -/
theorem pickedC {D R : Nat} {n : Nat → Nat} (hc : D ≤ cntN n R) : (∀ t, t < D → nthN n R t < R ∧ n (nthN n R t) ≠ 0) ∧ ∀ t, t + 1 < D → nthN n R t < nthN n R (t + 1) := by
  refine ⟨fun t ht => ?_, fun t ht => nthN_rise (by omega)⟩
  have q := nthN_spec (n := n) (R := R) (k := t) (by omega)
  exact ⟨q.1, q.2.1⟩
theorem col_back {D R : Nat} {n : Nat → Nat} {f : Mat} (hD1 : 1 ≤ D) (hD : D ≤ 4) (hR : R ≤ D + 2) (hc : D ≤ cntN n R) (kf : Byt f) (p t : Nat) : colN D n R (allN D f) p t = allN D f p t := by
  obtain ⟨p1, p2⟩ := pickedC hc
  have hfull := col_full D hD1 hD (nthN n R) (genN D p 8) (fun t ht => by have := (p1 t ht).1; omega) p2
  have hs := weights_sum (x := fun i => f i t) (fun i => kf _ _) hfull
  unfold colN
  rw [mixN_dotC, allN_dot kf, ← hs]
  exact dotN_congr2 fun k _ => allN_dot kf _ _
theorem par_all {D : Nat} {f : Mat} (j t : Nat) : parN D (allN D f) j t = parN D f j t := by
  unfold parN
  exact mixN_sameC fun i hi => by unfold allN; rw [if_pos hi]
/-- a column with its parity fits -/
theorem fits_col {D c N : Nat} {f : Mat} (hs : Shp3 (D : Int) (c : Int)) : CfP (D + c) (fun _ => N) (allN D f) (c : Int) := by
  obtain ⟨h1, h2, h3, h4⟩ := hs
  refine ⟨⟨h3, h4⟩, ?_, fun _ _ => rfl, fun j hj t ht => ?_⟩
  · exact ⟨by omega, by omega, h3, h4⟩
  · rw [Int.toNat_natCast] at hj ⊢
    rw [show D + c - c = D by omega, par_all]
    unfold allN
    rw [if_neg (by omega), show D + j - D = j by omega]
/-- one list less -/
def lessC (n : Nat → Nat) (r : Nat) : Nat → Nat := fun i => if i = r then 0 else n i
theorem cnt_lessC (n : Nat → Nat) (r : Nat) : ∀ R, cntN n R ≤ cntN (lessC n r) R + (if r < R then 1 else 0)
  | 0 => Nat.zero_le _
  | R + 1 => by
    have ih := cnt_lessC n r R
    by_cases e : R = r
    · subst e
      rw [if_neg (Nat.lt_irrefl R)] at ih
      rw [if_pos (Nat.lt_succ_self R)]
      have h1 : cntN n (R + 1) ≤ cntN n R + 1 := by rw [cntN]; split <;> omega
      have h2 := cntN_mono (lessC n R) (show R ≤ R + 1 by omega)
      omega
    · have h1 : lessC n r R = n R := by unfold lessC; rw [if_neg e]
      have h3 : (if r < R + 1 then 1 else 0) = (if r < R then 1 else 0 : Nat) := by
        by_cases c : r < R
        · rw [if_pos c, if_pos (by omega)]
        · rw [if_neg c, if_neg (by omega)]
      rw [h3]
      by_cases c0 : n R = 0
      · have e1 : cntN n (R + 1) = cntN n R := by rw [cntN, if_pos c0]
        have e2 : cntN (lessC n r) (R + 1) = cntN (lessC n r) R := by rw [cntN, if_pos (by rw [h1]; exact c0)]
        omega
      · have e1 : cntN n (R + 1) = cntN n R + 1 := by rw [cntN, if_neg c0]
        have e2 : cntN (lessC n r) (R + 1) = cntN (lessC n r) R + 1 := by rw [cntN, if_neg (by rw [h1]; exact c0)]
        omega
theorem cntN_allC {n : Nat → Nat} : ∀ {k : Nat}, (∀ i, i < k → n i ≠ 0) → cntN n k = k
  | 0, _ => rfl
  | k + 1, h => by rw [cntN, if_neg (h k (by omega)), cntN_allC (fun i hi => h i (by omega))]
/-- lists of N bytes, some of which are struck out: what DecodeColumn answers -/
theorem dc_some {D c N : Nat} {n : Nat → Nat} (hs : Shp3 (D : Int) (c : Int)) (hN : N ≤ 4000) (hN1 : 1 ≤ N) (hn : ∀ i, i < D + c → n i = 0 ∨ n i = N) (hc : D ≤ cntN n (D + c)) : DcAns (D : Int) (c : Int) (D + c) n 0 ∧ n (nthN n (D + c) 0) = N := by
  have hD1 := hs.1
  have each : ∀ t, t < cntN n (D + c) → n (nthN n (D + c) t) = N := fun t ht => by
    have q := nthN_spec (n := n) (R := D + c) (k := t) ht
    rcases hn _ q.1 with h | h
    · exact absurd h q.2.1
    · exact h
  have h0 := each 0 (by omega)
  refine ⟨.inr (.inr (.inr (.inr (.inr ⟨rfl, hs, by omega, fun t ht => ?_, fun h => ?_, by omega⟩)))), h0⟩
  · show n (nthN n (D + c) t) = n (nthN n (D + c) 0)
    rw [each t ht, h0]
  · have := h.2
    rw [h0] at this
    omega
end Go.Proofs.Ytoadjpacchhleaj

namespace Go.Proofs.Ytoadjpacchhleaj
open Go.RowKit F256
set_option linter.unusedVariables false
set_option linter.unusedSimpArgs false

/-- the book has the weights of this lineup -/
def BookP (w : World) (B D C : Nat) (hv : Nat → Nat) : Prop := ∃ gW cW eW hW, MapAt w B #[⟨arr6 (keyN hv D), .slice (some ⟨gW, 0, none⟩) (D + C) cW, 0⟩] 1 ∧ OwnE w (B + 2) hW (.slice (some ⟨gW, 0, none⟩) (D + C) cW) (D + C) (fun _ => D) (colW D hv) gW cW eW ∧ hW ≤ w.heap.size
theorem weights_any (B D C : Nat) (vh : Value) (hv : Nat → Nat) (h1 : Nat) (w : World) (hM : MapAt w B #[] 0 ∨ BookP w B D C hv) (hB : B + 2 ≤ w.heap.size) (rh : RdI w h1 vh D (fun i => (hv i : Int))) (hh : h1 ≤ w.heap.size) (hD1 : 1 ≤ D) (hD : D ≤ 4) (hC : C ≤ 2) (hbd : ∀ k, k < D → hv k < D + 2) :
    Calls Try.prog 40 #[.map (some B), .int .i64 D, .int .i64 C, vh] w fun e w' => ∃ gW cW eW hW, e = .returned (.slice (some ⟨gW, 0, none⟩) (D + C) cW) ∧ OwnE w' (B + 2) hW (.slice (some ⟨gW, 0, none⟩) (D + C) cW) (D + C) (fun _ => D) (colW D hv) gW cW eW ∧ hW ≤ w'.heap.size ∧ MapAt w' B #[⟨arr6 (keyN hv D), .slice (some ⟨gW, 0, none⟩) (D + C) cW, 0⟩] 1 ∧ Chg B (B + 1) w w' := by
  rcases hM with hM | ⟨gW, cW, eW, hW, hM, hE, hw⟩
  · refine (weights_new B D C vh hv h1 w hM rh hh hD1 hD hC hbd).mono ?_
    rintro e w' ⟨v', rfl, ⟨g, cap, e2, ho⟩, hm, hc⟩
    have hval := ho.val
    subst hval
    have ho2 : OwnE w' (B + 2) w'.heap.size (.slice (some ⟨g, 0, none⟩) (D + C) cap) (D + C) (fun _ => D) (colW D hv) g cap e2 := by
      refine ⟨rfl, Nat.le_trans hB ho.low, ho.high, ?_, fun i hi => (ho.each i hi).weaken hB (Nat.le_refl _), ho.apart⟩
      refine ⟨ho.row.1, ?_⟩
      rcases ho.row.2 with hn | ⟨g', cap', cur, hv', hbg, rest⟩
      · exact .inl hn
      · exact .inr ⟨g', cap', cur, hv', by omega, rest⟩
    exact ⟨g, cap, e2, w'.heap.size, rfl, ho2, Nat.le_refl _, hm, hc⟩
  · have hBw := hM.lt
    refine (weights_old B D C vh hv h1 w 0 1 (some ⟨gW, 0, none⟩) (D + C) cW hM rh hh hD1 hD hbd).mono ?_
    rintro e w' ⟨rfl, hb⟩
    exact ⟨gW, cW, eW, hW, rfl, hE.below hb hw, Nat.le_trans hw hb.size, hM.below hb hBw, below_chg hb (Nat.le_refl _)⟩
theorem mixN_by {f : Mat} {c d : Nat → Nat} {j : Nat} : ∀ {k : Nat}, (∀ i, i < k → c i = d i) → mixN f c k j = mixN f d k j
  | 0, _ => rfl
  | k + 1, h => by rw [mixN, mixN, mixN_by (fun i hi => h i (by omega)), h k (by omega)]
theorem colW_is {D : Nat} {hv : Nat → Nat} (h1 : 1 ≤ D) (h2 : D ≤ 4) (hlt : ∀ j, j < D → hv j < D + 2) (hr : ∀ j, j + 1 < D → hv j < hv (j + 1)) (p k : Nat) (hk : k < D) : colW D hv p k = weightsN D 8 hv p k := by
  show mixN (dW D hv) (genN D p 8) D k = _
  rw [mixN_dotC]
  exact weights_way h1 h2 hlt hr k hk
theorem colW_byt (D : Nat) (hv : Nat → Nat) : Byt (colW D hv) := fun p k => mixN_lt _ _ (genN_lt D p 8) D k
/-- one is longer just if the first that is there is -/
theorem one_longer {R : Nat} {n : Nat → Nat} (h : EvenM R n) : (∀ i, i < R → n i ≤ 4000) ↔ ¬ (0 < cntN n R ∧ 4000 < n (nthN n R 0)) := by
  constructor
  · rintro h1 ⟨h2, h3⟩
    have := h1 _ (nthN_spec (n := n) (R := R) (k := 0) h2).1
    omega
  · intro h1 i hi
    by_cases c : n i = 0
    · omega
    · have e1 := nthN_is (n := n) (R := R) (j := i) hi c
      have e2 := cntN_lt hi c
      have h4 : n (nthN n R (cntN n i)) = n (nthN n R 0) := h (cntN n i) e2
      rw [e1] at h4
      rw [h4]
      refine Classical.byContradiction fun h5 => h1 ⟨by omega, by omega⟩

set_option maxHeartbeats 8000000 in
theorem implDecodeC_any (g c : Int) (v : Value) (R : Nat) (n : Nat → Nat) (f : Mat) (h1 : Nat) (w : World) (r : RdM w h1 v R n f) (hh : h1 ≤ w.heap.size) (kf : Byt f) :
    Calls Try.prog 18 #[.int .i64 g, .int .i64 c, v] w fun ee w' => ∃ x v', ee = .returned (bytesR x v') ∧ DcAns g c R n x ∧ OwnB w' w.heap.size w'.heap.size v' (if x = 0 then R else 0) (fun _ => n (nthN n R 0)) (colN g.toNat n R f) ∧ Below w.heap.size w w' := by
  have HR : Hid (RdM w h1 v R n f) := r
  obtain ⟨ao, cap, e, rfl, hm, hc, he⟩ := r
  unfold maxLen at hm
  clear hc he
  go_enter Try.func18, Try.ntmps18
  go_wp2_with fail
  refine (columnInBounds_any g c _).mono ?_
  rintro e0 w1 ⟨b1, rfl, hb1, b1'⟩
  have HS : Hid (b1 = true ↔ Shp3 g c) := hb1
  have B1 : Below w.heap.size w w1 := bnew b1'
  have X1 : Box w1 w.heap.size #[.int .i64 0, .slice none 0 0] 36 := (box_new w _ _).below b1' (by simp)
  have z1 : w.heap.size < w1.heap.size := X1.lt
  obtain ⟨x0, x1, y0, y1⟩ := res_cells X1
  clear hb1 b1'
  cases b1 with
  | false =>
    have HNO : Hid (¬ Shp3 g c) := fun h => by have := HS.out.mpr h; cases this
    clear HS
    go_wp2
    exact bodyPost_ret (v := bytesR 3 (.slice none 0 0)) (by simp [results, Try.results18, go_sem, bytesR, x0, x1]) rfl ⟨3, _, rfl, .inl ⟨rfl, HNO.out⟩, OwnB.none _ _ _ _ _, (B1.setCell (Nat.le_refl _) _).setCell (Nat.le_refl _) _⟩
  | true =>
    have hsh := HS.out.mp rfl
    have HSH : Hid (Shp3 g c) := hsh
    obtain ⟨q1, q2, q3, q4⟩ := hsh
    obtain ⟨D, rfl⟩ : ∃ D : Nat, g = D := ⟨g.toNat, by omega⟩
    obtain ⟨C, rfl⟩ : ∃ C : Nat, c = C := ⟨c.toNat, by omega⟩
    clear HS
    by_cases hlen : (R : Int) = (D : Int) + (C : Int)
    · have HLEN : Hid ((R : Int) = (D : Int) + (C : Int)) := hlen
      have tl : ((R : Int) != (D : Int) + (C : Int)) = false := by simp [hlen]
      have hR6 : R ≤ 6 := by omega
      have CE := equallyLongOrEmpty_any (.slice ao R cap) R n f h1 w1 (HR.out.below B1 hh)
      clear hlen x0 x1 y0 y1
      go_wp2_with fail
      refine CE.mono ?_
      rintro e0 w2 ⟨b2, rfl, hb2, b2'⟩
      have HT : Hid (b2 = true ↔ EvenM R n) := hb2
      have B2 : Below w.heap.size w w2 := B1.trans (b2'.mono B1.size)
      have X2 : Box w2 w.heap.size #[.int .i64 0, .slice none 0 0] 36 := X1.below b2' z1
      have z2 : w.heap.size < w2.heap.size := X2.lt
      obtain ⟨x0, x1, y0, y1⟩ := res_cells X2
      clear hb2 b2' X1 B1 z1 CE
      cases b2 with
      | false =>
        have HNO : Hid (¬ EvenM R n) := fun h => by have := HT.out.mpr h; cases this
        clear HT
        go_wp2
        exact bodyPost_ret (v := bytesR 1 (.slice none 0 0)) (by simp [results, Try.results18, go_sem, bytesR, x0, x1]) rfl ⟨1, _, rfl, .inr (.inr (.inl ⟨rfl, HSH.out, HLEN.out, HNO.out⟩)), OwnB.none _ _ _ _ _, (B2.setCell (Nat.le_refl _) _).setCell (Nat.le_refl _) _⟩
      | true =>
        have HEV : Hid (EvenM R n) := HT.out.mp rfl
        clear HT
        by_cases hbig : 0 < cntN n R ∧ 4000 < n (nthN n R 0)
        · have HBG : Hid (0 < cntN n R ∧ 4000 < n (nthN n R 0)) := hbig
          have CL := oneLonger_any (.slice ao R cap) R n f h1 4000 (by omega) true ⟨fun h => (by cases h), fun h => absurd HBG.out ((one_longer HEV.out).mp h)⟩ w2 (HR.out.below B2 hh)
          have e4 : ((4000 : Nat) : Int) = 4000 := rfl
          rw [e4] at CL
          clear hbig
          go_wp2_with fail
          refine CL.mono ?_
          rintro e0 w3 ⟨rfl, hw3⟩
          obtain rfl := hw3.symm
          clear CL
          go_wp2
          exact bodyPost_ret (v := bytesR 2 (.slice none 0 0)) (by simp [results, Try.results18, go_sem, bytesR, x0, x1]) rfl ⟨2, _, rfl, .inr (.inr (.inr (.inl ⟨rfl, HSH.out, HLEN.out, HEV.out, HBG.out⟩))), OwnB.none _ _ _ _ _, (B2.setCell (Nat.le_refl _) _).setCell (Nat.le_refl _) _⟩
        · have HNB : Hid (¬ (0 < cntN n R ∧ 4000 < n (nthN n R 0))) := hbig
          have CL := oneLonger_any (.slice ao R cap) R n f h1 4000 (by omega) false ⟨fun _ => (one_longer HEV.out).mpr HNB.out, fun _ => rfl⟩ w2 (HR.out.below B2 hh)
          have e4 : ((4000 : Nat) : Int) = 4000 := rfl
          rw [e4] at CL
          have CF := firstThere_any D (.slice ao R cap) R n f h1 w2 (HR.out.below B2 hh) (Nat.le_trans hh B2.size) (by omega)
          clear hbig x0 x1 y0 y1
          go_wp2_with fail
          refine CL.mono ?_
          rintro e0 w3 ⟨rfl, hw3⟩
          obtain rfl := hw3.symm
          clear CL
          go_wp2_with fail
          refine CF.mono ?_
          rintro e0 wB ⟨v3, rfl, o3, b3'⟩
          have BB : Below w.heap.size w wB := B2.trans (b3'.mono B2.size)
          have XB : Box wB w.heap.size #[.int .i64 0, .slice none 0 0] 36 := X2.below b3' z2
          have zB : w.heap.size < wB.heap.size := XB.lt
          clear b3' X2 B2 z2 CF
          by_cases hcnt : D ≤ cntN n R
          · have HCN : Hid (D ≤ cntN n R) := hcnt
            rw [pickN_all hcnt] at o3
            obtain ⟨ao3, cap3, rfl⟩ := o3.slice
            have HO3 : Hid (RdI wB wB.heap.size (.slice ao3 D cap3) D (fun t => (nthN n R t : Int))) := o3.rd
            have hmm := @run_makeMap Try.prog
            obtain ⟨Q, hQ⟩ : ∃ Q, Q = D + C := ⟨_, rfl⟩
            have HQ : Hid (Q = D + C) := hQ
            have hQ6 : Q ≤ 6 := by omega
            have HQR : Hid (Q = R) := by show Q = R; have := HLEN.out; omega
            obtain ⟨N, hN⟩ : ∃ N, N = n (nthN n R 0) := ⟨_, rfl⟩
            have HN : Hid (N = n (nthN n R 0)) := hN
            have hN4 : N ≤ 4000 := by
              have := HNB.out
              rw [hN]
              refine Classical.byContradiction fun h5 => this ⟨by omega, by omega⟩
            have HPK : Hid ((∀ t, t < D → nthN n R t < R ∧ n (nthN n R t) ≠ 0) ∧ ∀ t, t + 1 < D → nthN n R t < nthN n R (t + 1)) := pickedC hcnt
            have HBD : Hid (∀ k, k < D → nthN n R k < D + 2) := fun k hk => by have := (HPK.out.1 k hk).1; have := HLEN.out; omega
            have HNN : Hid (∀ k, k < D → n (nthN n R k) = N) := fun k hk => by rw [hN]; exact HEV.out k (by have := HCN.out; omega)
            clear o3 hcnt hQ hN
            go_wp2_with (at_make; refine wp_makeM _ rfl _ _ rfl _ _ Q rfl rfl (by have := HQ.out; omega) (by have := HQ.out; omega) (by omega) ?_; intro w5 hown5 hb5 hz5)
            have hsA : (wB.alloc (.map #[] 0)).heap.size = wB.heap.size + 1 := by simp
            have BM : Below wB.heap.size wB w5 := ((Below.refl _ _).alloc (Nat.le_refl _) _).trans (hb5.mono (by omega))
            have M5 : MapAt w5 wB.heap.size #[] 0 := (mapAt_new wB).below hb5 (by omega)
            rw [hsA] at hown5 hb5 hz5
            have E0 : OwnE w5 (wB.heap.size + 1) w5.heap.size (.slice (some ⟨wB.heap.size + 1, 0, none⟩) Q Q) Q (lenN N 0) (colN D n R f) (wB.heap.size + 1) Q (fun _ => nilS) := ownE_made hown5 (Nat.le_refl _) hz5 (fun i hi => by simp [lenN])
            clear hown5 hmm hsA
            go_loopw [47] (fun i wr => ∃ k : Nat, k ≤ Q ∧ i = .int .i64 k ∧ (∃ e', OwnE wr (wB.heap.size + 1) wr.heap.size (.slice (some ⟨wB.heap.size + 1, 0, none⟩) Q Q) Q (lenN N k) (colN D n R f) (wB.heap.size + 1) Q e') ∧ (MapAt wr wB.heap.size #[] 0 ∨ BookP wr wB.heap.size D C (nthN n R)) ∧ Below wB.heap.size wB wr) (fun i _ => Q - (intOf i).toNat)
            case atStart => exact ⟨0, Nat.zero_le _, rfl, ⟨_, E0⟩, .inl M5, BM⟩
            case round =>
              clear E0 M5 BM hb5 hz5
              obtain ⟨k, hk, rfl, ⟨e', hE⟩, hbk, hb⟩ := hrel
              have szB := hb.size
              by_cases hlt : k < Q
              · have hlti : (k : Int) < (D : Int) + (C : Int) := by have := HQ.out; omega
                have hkDC : k < D + C := by have := HQ.out; omega
                have CW := weights_any wB.heap.size D C (.slice ao3 D cap3) (nthN n R) wB.heap.size wr hbk hE.high (HO3.out.below hb (Nat.le_refl _)) szB (by omega) (by omega) (by omega) HBD.out
                have HOE : Hid (OwnE wr (wB.heap.size + 1) wr.heap.size (.slice (some ⟨wB.heap.size + 1, 0, none⟩) Q Q) Q (lenN N k) (colN D n R f) (wB.heap.size + 1) Q e') := hE
                have HBL : Hid (Below wB.heap.size wB wr) := hb
                have hhig := hE.high
                clear hE hbk hb
                go_wp2_with fail
                refine CW.mono ?_
                rintro e0 w2 ⟨gW, cW, eW, hW, rfl, oW, hWs, mW, ch2⟩
                have c1 : w2.cell? ⟨gW, k, none⟩ = some (eW k) := oW.cell k hkDC
                have rk : Rd w2 hW (eW k) D (colW D (nthN n R) k) := (oW.each k hkDC).rd
                obtain ⟨x, hx⟩ : ∃ x, x = eW k := ⟨_, rfl⟩
                rw [← hx] at c1 rk
                have HRK : Hid (Rd w2 hW x D (colW D (nthN n R) k)) := rk
                obtain ⟨aok, capk, hsx, _, _⟩ := rk
                subst hsx
                have s2 := ch2.size
                have B2 : Below wB.heap.size wB w2 := HBL.out.trans (ch2.below (Nat.le_refl _) szB)
                have E2 : OwnE w2 (wB.heap.size + 1) wr.heap.size (.slice (some ⟨wB.heap.size + 1, 0, none⟩) Q Q) Q (lenN N k) (colN D n R f) (wB.heap.size + 1) Q e' := HOE.out.keep (fun b h5 h6 => ch2.block b h6 (.inr h5))
                have CD := weighed_any (.slice ao R cap) (.slice ao3 D cap3) (.slice aok D capk) R D N n f (nthN n R) (colW D (nthN n R) k) h1 wB.heap.size hW w2 (HR.out.below (BB.trans (B2.mono (by omega))) hh) (HO3.out.below B2 (Nat.le_refl _)) HRK.out (by omega) (by omega) hWs (by omega) (by omega) (fun t ht => (HPK.out.1 t ht).1) HNN.out (by omega) kf (colW_byt D (nthN n R) k)
                have HOW : Hid (OwnE w2 (wB.heap.size + 2) hW (.slice (some ⟨gW, 0, none⟩) (D + C) cW) (D + C) (fun _ => D) (colW D (nthN n R)) gW cW eW) := oW
                have HMW : Hid (MapAt w2 wB.heap.size #[⟨arr6 (keyN (nthN n R) D), .slice (some ⟨gW, 0, none⟩) (D + C) cW, 0⟩] 1) := mW
                have HE2 : Hid (OwnE w2 (wB.heap.size + 1) wr.heap.size (.slice (some ⟨wB.heap.size + 1, 0, none⟩) Q Q) Q (lenN N k) (colN D n R f) (wB.heap.size + 1) Q e') := E2
                clear CW oW mW ch2 hx HRK HOE HBL E2
                go_wp2_with fail
                refine CD.mono ?_
                rintro e0 w3 ⟨v3, rfl, o3, b3⟩
                obtain ⟨ao4, cap4, rfl⟩ := o3.slice
                have s3 := b3.size
                have E3 := HE2.out.below b3 s2
                have q1 : w3.cell? ⟨wB.heap.size + 1, k, none⟩ = some (e' k) := E3.cell k hlt
                have q2 : w3.frozen? ⟨wB.heap.size + 1, k, none⟩ = false := E3.frozen k
                have EN := E3.lay k hlt (n' := lenN N (k + 1)) (M' := colN D n R f) (lo2 := w2.heap.size) (hi2 := w3.heap.size) (x := .slice ao4 N cap4) (by
                  rw [show lenN N (k + 1) k = N by simp [lenN]]
                  exact o3.congr (fun i _ => mixN_by (fun t ht => colW_is (by omega) (by omega) HBD.out HPK.out.2 k t ht))) s2 (by omega) (fun j hj hne => by
                  unfold lenN
                  by_cases c : j < k
                  · rw [if_pos c, if_pos (by omega)]
                  · rw [if_neg c, if_neg (by omega)]) (fun j hj hne => rfl)
                have hlow := HOW.out.low
                have BKN : BookP (w3.setCell ⟨wB.heap.size + 1, k, none⟩ (.slice ao4 N cap4)) wB.heap.size D C (nthN n R) :=
                  ⟨gW, cW, eW, hW, (heap_setCell_other w3 ⟨wB.heap.size + 1, k, none⟩ wB.heap.size _ (by show wB.heap.size ≠ wB.heap.size + 1; omega)).trans (HMW.out.below b3 (by omega)), (HOW.out.below b3 hWs).keep (fun b h5 h6 => heap_setCell_other w3 ⟨wB.heap.size + 1, k, none⟩ b _ (by show b ≠ wB.heap.size + 1; omega)), by simp; omega⟩
                have BN : Below wB.heap.size wB (w3.setCell ⟨wB.heap.size + 1, k, none⟩ (.slice ao4 N cap4)) := (B2.trans (b3.mono (by omega))).setCell (by show wB.heap.size ≤ wB.heap.size + 1; omega) _
                have ES : OwnE (w3.setCell ⟨wB.heap.size + 1, k, none⟩ (.slice ao4 N cap4)) (wB.heap.size + 1) (w3.setCell ⟨wB.heap.size + 1, k, none⟩ (.slice ao4 N cap4)).heap.size (.slice (some ⟨wB.heap.size + 1, 0, none⟩) Q Q) Q (lenN N (k + 1)) (colN D n R f) (wB.heap.size + 1) Q (fun j => if j = k then .slice ao4 N cap4 else e' j) := EN.weaken (by simp)
                clear CD o3 b3 E3 EN HOW HMW HE2 B2 c1
                go_wp2
                go_roundw
                case rel => exact ⟨k + 1, by omega, by go_num, ⟨_, ES⟩, .inr BKN, BN⟩
                case measure => simp [intOf]; omega
              · have hlti : ¬ ((k : Int) < (D : Int) + (C : Int)) := by have := HQ.out; omega
                obtain rfl : k = Q := by omega
                have E9 := hE.congrN (n' := fun _ => N) (fun i hi => by simp [lenN, hi])
                have HE9 : Hid (OwnM wr (wB.heap.size + 1) wr.heap.size (.slice (some ⟨wB.heap.size + 1, 0, none⟩) k k) k (fun _ => N) (colN D n R f)) := ⟨_, _, _, E9⟩
                have B4 : Below w.heap.size w wr := BB.trans (hb.mono (by omega))
                have X4 : Box wr w.heap.size #[.int .i64 0, .slice none 0 0] 36 := XB.below hb zB
                obtain ⟨x0, x1, y0, y1⟩ := res_cells X4
                clear hE E9 hbk X4
                go_wp2
                refine bodyPost_ret (v := bytesR 0 (.slice (some ⟨wB.heap.size + 1, 0, none⟩) k k)) (by simp [results, Try.results18, go_sem, bytesR, x0, x1]) rfl ⟨0, _, rfl, .inr (.inr (.inr (.inr (.inr ⟨rfl, HSH.out, HLEN.out, HEV.out, HNB.out, by have := HCN.out; omega⟩)))), ?_, (B4.setCell (Nat.le_refl _) _).setCell (Nat.le_refl _) _⟩
                have o1 := out_store wr w.heap.size (w.heap.size + 1) w.heap.size 0 (.int .i64 0) (Nat.le_refl _) (by omega)
                have o2 := out_store (wr.setCell ⟨w.heap.size, 0, none⟩ (.int .i64 0)) w.heap.size (w.heap.size + 1) w.heap.size 1 (.slice (some ⟨wB.heap.size + 1, 0, none⟩) k k) (Nat.le_refl _) (by omega)
                simp only [if_pos]
                rw [← HN.out]
                have h9 := HE9.out.out (o1.trans o2) (.inr (by omega))
                obtain ⟨MM, hMM⟩ : ∃ MM, MM = colN D n R f := ⟨_, rfl⟩
                rw [← hMM] at h9 ⊢
                clear hMM
                rw [← HQR.out]
                exact .inr (h9.weaken (by omega) (by rw [(o1.trans o2).size]; exact Nat.le_refl _))
          · have HLT : Hid ((cntN n R : Int) < (D : Int)) := by show (cntN n R : Int) < (D : Int); omega
            have hpf := pickN_few hcnt
            obtain ⟨cc, hcc⟩ : ∃ cc, cc = pickN D n R := ⟨_, rfl⟩
            rw [← hcc] at o3 hpf
            obtain ⟨ao3, cap3, rfl⟩ := o3.slice
            have hci : (cc : Int) < (D : Int) := by omega
            obtain ⟨x0, x1, y0, y1⟩ := res_cells XB
            clear o3 hcnt hcc
            go_wp2
            exact bodyPost_ret (v := bytesR 10 (.slice none 0 0)) (by simp [results, Try.results18, go_sem, bytesR, x0, x1]) rfl ⟨10, _, rfl, .inr (.inr (.inr (.inr (.inl ⟨rfl, HSH.out, HLEN.out, HEV.out, HNB.out, HLT.out⟩)))), OwnB.none _ _ _ _ _, (BB.setCell (Nat.le_refl _) _).setCell (Nat.le_refl _) _⟩
    · have HLEN : Hid ((R : Int) ≠ (D : Int) + (C : Int)) := hlen
      have tl : ((R : Int) != (D : Int) + (C : Int)) = true := by simp [hlen]
      clear hlen
      go_wp2
      exact bodyPost_ret (v := bytesR 1 (.slice none 0 0)) (by simp [results, Try.results18, go_sem, bytesR, x0, x1]) rfl ⟨1, _, rfl, .inr (.inl ⟨rfl, HSH.out, HLEN.out⟩), OwnB.none _ _ _ _ _, (B1.setCell (Nat.le_refl _) _).setCell (Nat.le_refl _) _⟩
end Go.Proofs.Ytoadjpacchhleaj

namespace Go.Proofs.Ytoadjpacchhleaj
open Go.ChangeShapes Go.WideShapes Go.ChangeAt Go.RowKit F256
set_option linter.unusedVariables false

theorem sumN_same (N m : Nat) (hm : m ≤ 6) (hN : N ≤ 4000) : sumN (fun _ => N) m ≤ 100000 := by
  have : ∀ k, sumN (fun _ => N) k = k * N := by
    intro k
    induction k with
    | zero => simp [sumN]
    | succ k ih => rw [sumN, ih, Nat.succ_mul]
  rw [this]
  have := Nat.mul_le_mul hm hN
  omega
theorem fnExactDecodeColumn_both (a0 : Int) (h0 : -9223372036854775808 ≤ a0 ∧ a0 ≤ 9223372036854775807) (a1 : Int) (h1 : -9223372036854775808 ≤ a1 ∧ a1 ≤ 9223372036854775807) (n2 : Nat) (m2 : Nat → Nat) (f2 : Nat → Nat → Nat) (k2 : ∀ i j, f2 i j < 256) : ∃ (c : Int) (m : Nat) (nn : Nat → Nat) (g : Mat), m ≤ 4000 ∧ sumN nn m ≤ 100000 ∧
    (∀ (v2 : Value) (l2 e2 : Nat) (w : World), OwnM w l2 e2 v2 n2 m2 f2 → e2 ≤ w.heap.size →
      Calls Try.prog 16 #[.int .i64 a0, .int .i64 a1, v2] w fun e w' => ∃ v', e = .returned (bytesR c v') ∧ OwnB w' w.heap.size w'.heap.size v' m nn g ∧ Below w.heap.size w w') ∧
    (∀ (v2 : Value) (l2 e2 : Nat) (w : World), OwnM w l2 e2 v2 n2 m2 f2 → e2 ≤ w.heap.size →
      Calls Try.prog 18 #[.int .i64 a0, .int .i64 a1, v2] w fun e w' => ∃ v', e = .returned (bytesR c v') ∧ OwnB w' w.heap.size w'.heap.size v' m nn g ∧ Below w.heap.size w w') := by
  obtain ⟨c, hc⟩ := dc_ans a0 a1 n2 m2
  have hrows : (if c = 0 then n2 else 0) ≤ 6 ∧ (c = 0 → m2 (nthN m2 n2 0) ≤ 4000) := by
    by_cases h : c = 0
    · rcases hc with ⟨h2, _⟩ | ⟨h2, _⟩ | ⟨h2, _⟩ | ⟨h2, _⟩ | ⟨h2, _⟩ | ⟨_, hs, hl, _, hn, hg⟩
      · omega
      · omega
      · omega
      · omega
      · omega
      · have h3 := hs.1
        have h5 := hs.2.1
        have h6 := hs.2.2.2
        rw [if_pos h]
        refine ⟨by omega, fun _ => Classical.byContradiction fun h7 => hn ⟨by omega, by omega⟩⟩
    · rw [if_neg h]
      exact ⟨by omega, fun h2 => absurd h2 h⟩
  refine ⟨c, if c = 0 then n2 else 0, fun _ => m2 (nthN m2 n2 0), colN a0.toNat m2 n2 f2, by omega, ?_, fun v2 l2 e2 w o2 b2 => ?_, fun v2 l2 e2 w o2 b2 => ?_⟩
  · by_cases h : c = 0
    · exact sumN_same _ _ hrows.1 (hrows.2 h)
    · rw [if_neg h]; simp [sumN]
  · refine (specDecodeC_any a0 a1 v2 n2 m2 f2 e2 w o2.rd b2 k2).mono fun e w' ⟨x, v', he, ha, ho, hb⟩ => ?_
    obtain rfl := ha.one hc
    exact ⟨v', he, ho, hb⟩
  · refine (implDecodeC_any a0 a1 v2 n2 m2 f2 e2 w o2.rd b2 k2).mono fun e w' ⟨x, v', he, ha, ho, hb⟩ => ?_
    obtain rfl := ha.one hc
    exact ⟨v', he, ho, hb⟩

set_option maxHeartbeats 4000000 in
theorem fnExactDecodeColumn_walk (a0 : Int) (h0 : -9223372036854775808 ≤ a0 ∧ a0 ≤ 9223372036854775807) (a1 : Int) (h1 : -9223372036854775808 ≤ a1 ∧ a1 ≤ 9223372036854775807) (a2 : Option Addr) (n2 c2 : Nat) (m2 : Nat → Nat) (f2 : Nat → Nat → Nat) (k2 : ∀ i j, f2 i j < 256) (w : World) (r2 : RdM w w.heap.size (.slice a2 n2 c2) n2 m2 f2) :
    Calls Try.prog 4 #[.int .i64 a0, .int .i64 a1, .slice a2 n2 c2] w fun e w' => e = .returned (.bool true) ∧ Below w.heap.size w w' := by
  have l2 : n2 ≤ 9223372036854775807 := by obtain ⟨_, _, _, _, h, _⟩ := r2; unfold maxLen at h; omega
  obtain ⟨c, m, nn, g, hm, hsm, hs, hi⟩ := fnExactDecodeColumn_both a0 h0 a1 h1 n2 m2 f2 k2
  clear k2
  have bel := Below.refl w.heap.size w
  go_enter Try.func4, Try.ntmps4
  go_wp2_with fail
  refine (szByteSS_any _ n2 m2 f2 _ _ r2 1048576 (by omega)).mono ?_
  rintro e wz ⟨x2, rfl, hx2, hwz⟩
  obtain rfl := hwz.symm
  rcases hx2 with rfl | ⟨sz2, rfl⟩
  · go_wp2
    go_ret
    exact ⟨rfl, Below.refl _ _⟩
  have le2 : ∀ i, i < n2 → m2 i ≤ 1000000000 := fun i hi => by have := le_sumN m2 hi; omega
  go_wp2_with fail
  refine (toByteSS_any _ n2 m2 f2 w.heap.size _ r2 (by omega) (by omega) le2).mono ?_
  rintro e w1 ⟨vt2, rfl, ot2, b1⟩
  have sw1 : w.heap.size ≤ w1.heap.size := b1.size
  replace r2 := r2.below b1 (by omega)
  replace bel := bthen bel b1
  go_wp2_with fail
  refine (hs vt2 _ _ _ ot2 (by omega)).mono ?_
  rintro e w2 ⟨vW, rfl, oW, b2⟩
  obtain ⟨aoW, capW, rfl⟩ := oW.slice
  unfold bytesR
  have sw2 : w1.heap.size ≤ w2.heap.size := b2.size
  replace r2 := r2.below b2 (by omega)
  replace ot2 := ot2.below b2 (by omega)
  replace bel := bthen bel b2
  clear ot2
  go_wp2_with fail
  have rx := r2.below (Below.alloc (Below.refl w2.heap.size w2) (Nat.le_refl _) (.cells #[.int .i64 c, .slice aoW m capW] 36)) (by omega)
  refine (toByteSS_any _ n2 m2 f2 w.heap.size _ rx (by simp <;> omega) (by omega) le2).mono ?_
  rintro e w3 ⟨vx2, rfl, ox2, b3⟩
  clear rx
  replace ox2 := ox2.weaken (lo' := w2.heap.size + 1) (by simp) (Nat.le_refl _)
  have sw3 : w2.heap.size ≤ w3.heap.size := (bnew b3).size
  have boxW := (box_new w2 _ _).below b3 (by simp)
  have eboxW : w2.heap.size < w3.heap.size := bsize b3
  replace r2 := r2.below (bnew b3) (by omega)
  replace oW := oW.below (bnew b3) (by omega)
  replace bel := bthen bel (bnew b3)
  go_wp2_with fail
  refine (hi vx2 _ _ _ ox2 (by omega)).mono ?_
  rintro e w4 ⟨vG, rfl, oG, b4⟩
  obtain ⟨aoG, capG, rfl⟩ := oG.slice
  unfold bytesR
  have sw4 : w3.heap.size ≤ w4.heap.size := b4.size
  replace r2 := r2.below b4 (by omega)
  replace oW := oW.below b4 (by omega)
  replace boxW := boxW.below b4 (by omega)
  replace ox2 := ox2.below b4 (by omega)
  replace bel := bthen bel b4
  obtain ⟨d0, d1, -, -⟩ := res_cells boxW
  have dz : w2.heap.size < w4.heap.size := by omega
  go_wp2_with fail
  have rx := oG.alloc (.cells #[.int .i64 c, .slice aoG m capG] 36)
  have ry := oW.alloc (.cells #[.int .i64 c, .slice aoG m capG] 36)
  refine (eqListsR_same c (.slice aoG m capG) (.slice aoW m capW) m nn g _ _ _ rx.rd ry.rd (by simp <;> omega) (by simp <;> omega)).mono ?_
  clear rx ry d0 d1 dz
  rintro e w5 ⟨rfl, b5⟩
  have sw5 : w4.heap.size ≤ w5.heap.size := (bnew b5).size
  have boxG := (box_new w4 _ _).below b5 (by simp)
  have eboxG : w4.heap.size < w5.heap.size := bsize b5
  replace r2 := r2.below (bnew b5) (by omega)
  replace oW := oW.below (bnew b5) (by omega)
  replace boxW := boxW.below (bnew b5) (by omega)
  replace ox2 := ox2.below (bnew b5) (by omega)
  replace oG := oG.below (bnew b5) (by omega)
  replace bel := bthen bel (bnew b5)
  go_wp2_with fail
  refine (toByteSS_any _ n2 m2 f2 w.heap.size _ r2 (by omega) (by omega) le2).mono ?_
  rintro e w6 ⟨vy2, rfl, oy2, b6⟩
  have sw6 : w5.heap.size ≤ w6.heap.size := b6.size
  replace r2 := r2.below b6 (by omega)
  replace oW := oW.below b6 (by omega)
  replace boxW := boxW.below b6 (by omega)
  replace ox2 := ox2.below b6 (by omega)
  replace oG := oG.below b6 (by omega)
  replace boxG := boxG.below b6 (by omega)
  replace bel := bthen bel b6
  go_wp2_with fail
  refine (eqByteSS_same vx2 vy2 n2 m2 f2 _ _ _ ox2.rd oy2.rd (by omega) (by omega)).mono ?_
  rintro e w7 ⟨rfl, b7⟩
  clear oy2
  have sw7 : w6.heap.size ≤ w7.heap.size := b7.size
  replace r2 := r2.below b7 (by omega)
  replace oW := oW.below b7 (by omega)
  replace boxW := boxW.below b7 (by omega)
  replace ox2 := ox2.below b7 (by omega)
  replace oG := oG.below b7 (by omega)
  replace boxG := boxG.below b7 (by omega)
  replace bel := bthen bel b7
  go_wp2_with fail
  refine (markByteSS_any vx2 n2 m2 f2 _ _ 1 (by omega) (by omega) (by omega) _ ox2 (by omega)).mono ?_
  rintro e w8 ⟨rfl, ch⟩
  clear ox2
  have sw8 : w7.heap.size ≤ w8.heap.size := ch.size
  replace r2 := r2.chg ch (by omega) (by omega)
  replace oW := oW.chg ch (by omega)
  replace boxW := boxW.chg ch (by omega)
  replace oG := oG.chg ch (by omega)
  replace boxG := boxG.chg ch (by omega)
  replace bel := bel.trans (ch.below (by omega) (by omega))
  clear ch
  skip
  obtain ⟨d0, d1, -, -⟩ := res_cells boxW
  obtain ⟨d2, d3, -, -⟩ := res_cells boxG
  go_wp2_with fail
  refine (eqListsR_same c (.slice aoG m capG) (.slice aoW m capW) m nn g _ _ _ oG.rd oW.rd (by omega) (by omega)).mono ?_
  clear d0 d1 d2 d3
  rintro e w9 ⟨rfl, b9⟩
  have sw9 : w8.heap.size ≤ w9.heap.size := b9.size
  replace r2 := r2.below b9 (by omega)
  replace oW := oW.below b9 (by omega)
  replace boxW := boxW.below b9 (by omega)
  replace oG := oG.below b9 (by omega)
  replace boxG := boxG.below b9 (by omega)
  replace bel := bthen bel b9
  obtain ⟨d0, d1, -, -⟩ := res_cells boxG
  go_wp2_with fail
  refine (markListsR_any c (.slice aoG m capG) m nn g _ _ 1 (by omega) (by omega) (by omega) _ oG (by omega)).mono ?_
  rintro e w10 ⟨rfl, oM, ch⟩
  clear d0 d1 oG
  have sw10 : w9.heap.size ≤ w10.heap.size := ch.size
  replace r2 := r2.chg ch (by omega) (by omega)
  replace oW := oW.chg ch (by omega)
  replace boxW := boxW.chg ch (by omega)
  replace boxG := boxG.chg ch (by omega)
  replace bel := bel.trans (ch.below (by omega) (by omega))
  clear ch
  obtain ⟨d0, d1, -, -⟩ := res_cells boxG
  go_wp2_with fail
  refine (heldListsR_any c (.slice aoG m capG) m nn _ 1 (by omega) (by omega) (by omega) _ oM.rd (by omega)).mono ?_
  rintro e w11 ⟨rfl, b11⟩
  clear d0 d1
  have sw11 : w10.heap.size ≤ w11.heap.size := b11.size
  replace r2 := r2.below b11 (by omega)
  replace oW := oW.below b11 (by omega)
  replace boxW := boxW.below b11 (by omega)
  replace boxG := boxG.below b11 (by omega)
  replace oM := oM.below b11 (by omega)
  replace bel := bthen bel b11
  go_wp2_with fail
  refine (toByteSS_any _ n2 m2 f2 w.heap.size _ r2 (by omega) (by omega) le2).mono ?_
  rintro e w12 ⟨vu2, rfl, ou2, b12⟩
  have sw12 : w11.heap.size ≤ w12.heap.size := b12.size
  replace r2 := r2.below b12 (by omega)
  replace oW := oW.below b12 (by omega)
  replace boxW := boxW.below b12 (by omega)
  replace boxG := boxG.below b12 (by omega)
  replace oM := oM.below b12 (by omega)
  replace bel := bthen bel b12
  go_wp2_with fail
  refine (hi vu2 _ _ _ ou2 (by omega)).mono ?_
  rintro e w13 ⟨vH, rfl, oH, b13⟩
  obtain ⟨aoH, capH, rfl⟩ := oH.slice
  unfold bytesR
  have sw13 : w12.heap.size ≤ w13.heap.size := b13.size
  replace r2 := r2.below b13 (by omega)
  replace oW := oW.below b13 (by omega)
  replace boxW := boxW.below b13 (by omega)
  replace boxG := boxG.below b13 (by omega)
  replace oM := oM.below b13 (by omega)
  replace ou2 := ou2.below b13 (by omega)
  replace bel := bthen bel b13
  clear ou2
  obtain ⟨d0, d1, -, -⟩ := res_cells boxW
  have dz : w2.heap.size < w13.heap.size := by omega
  go_wp2_with fail
  have rx := oH.alloc (.cells #[.int .i64 c, .slice aoH m capH] 36)
  have ry := oW.alloc (.cells #[.int .i64 c, .slice aoH m capH] 36)
  refine (eqListsR_same c (.slice aoH m capH) (.slice aoW m capW) m nn g _ _ _ rx.rd ry.rd (by simp <;> omega) (by simp <;> omega)).mono ?_
  clear rx ry d0 d1 dz
  rintro e w14 ⟨rfl, b14⟩
  have sw14 : w13.heap.size ≤ w14.heap.size := (bnew b14).size
  have boxH := (box_new w13 _ _).below b14 (by simp)
  have eboxH : w13.heap.size < w14.heap.size := bsize b14
  replace r2 := r2.below (bnew b14) (by omega)
  replace oW := oW.below (bnew b14) (by omega)
  replace boxW := boxW.below (bnew b14) (by omega)
  replace boxG := boxG.below (bnew b14) (by omega)
  replace oM := oM.below (bnew b14) (by omega)
  replace oH := oH.below (bnew b14) (by omega)
  replace bel := bthen bel (bnew b14)
  obtain ⟨d0, d1, -, -⟩ := res_cells boxG
  go_wp2_with fail
  refine (heldListsR_any c (.slice aoG m capG) m nn _ 1 (by omega) (by omega) (by omega) _ oM.rd (by omega)).mono ?_
  rintro e w15 ⟨rfl, b15⟩
  clear d0 d1
  have sw15 : w14.heap.size ≤ w15.heap.size := b15.size
  replace r2 := r2.below b15 (by omega)
  replace oW := oW.below b15 (by omega)
  replace boxW := boxW.below b15 (by omega)
  replace boxG := boxG.below b15 (by omega)
  replace oM := oM.below b15 (by omega)
  replace oH := oH.below b15 (by omega)
  replace boxH := boxH.below b15 (by omega)
  replace bel := bthen bel b15
  go_wp2
  go_ret
  exact ⟨rfl, bel⟩

set_option maxRecDepth 100000 in
theorem fnExactDecodeColumn_lifted (os : Os) (started : os.Started) (H : Type) (enc : TypeId × Value → H) :
    ReturnsInHanded {} Try.checked os 4 .any (Rows.fnExactDecodeColumnSpec.pre6 enc Try.prog Try.f4 Rows.fnExactDecodeColumnRow.domain false) (Rows.fnExactDecodeColumnSpec.post enc Try.prog Try.f4 false true false false) := by
  refine returnsInHanded_of_change (C := Try.checked) frame_own started (by kernel_rfl) Try.func4
    (ChangeSpec.witness6 (enc := enc) (C := Try.checked) false ⟨#[], #[.int .i64 0, .int .i64 0, .slice none 0 0], []⟩ 8 (by kernel_rfl) (by kernel_rfl) (by kernel_rfl) (by kernel_rfl)) ?_
  intro W base args ds gs before hval0 hW hcnd _
  have hval : ∀ (j : Nat) t v, Try.f4.params[j]? = some t → args[j]? = some v → Value.okWide Try.prog W .any base t v := hval0
  have hW' := hW
  obtain ⟨p, q, hA0, hV, rfl, hfz, hnd⟩ := hW
  have hA : DataW.TrodAll enc Try.prog W 0 (fun _ => true) true Try.f4.params.toList args.toList ds p := hA0
  rw [Try.params4] at hA hval
  obtain ⟨v0, vs0, d0, ds0, p0, q0, hargs, rfl, rfl, h0, r0⟩ := trodAll_cons hA
  obtain ⟨v1, vs1, d1, ds1, p1, q1, rfl, rfl, rfl, h1, r1⟩ := trodAll_cons r0
  obtain ⟨v2, vs2, d2, ds2, p2, q2, rfl, rfl, rfl, h2, r2⟩ := trodAll_cons r1
  obtain ⟨rfl, rfl, rfl⟩ := trodAll_nil r2
  obtain rfl : args = #[v0, v1, v2] := by cases args; simp_all
  obtain ⟨rfl, rfl⟩ := trodVars_none hV
  obtain ⟨a0, rfl, rfl, rfl, w0⟩ := open_int Try.underlying2 (hval 0 2 v0 rfl rfl) h0
  obtain ⟨a1, rfl, rfl, rfl, w1⟩ := open_int Try.underlying2 (hval 1 2 v1 rfl rfl) h1
  obtain ⟨a2, len2, cap2, rfl⟩ := okWide_slice Try.underlying33 (hval 2 33 v2 rfl rfl)
  have k2 := h2
  have lt2 : ∀ x ∈ p2, x.block < W.heap.size := by obtain ⟨m, hm⟩ := k2; exact DataW.trod_lt m _ _ _ hm
  obtain ⟨nn2, ff2, kk2, w2⟩ := rowsM_of_trod Try.underlying33 Try.underlying23 Try.underlying5 (by kernel_rfl) (by kernel_rfl) h2
  clear hA0 hval0
  refine (fnExactDecodeColumn_walk a0 (bounds_i64 w0) a1 (bounds_i64 w1) a2 len2 cap2 nn2 ff2 kk2 W w2).mono fun e W' ⟨he, bel⟩ => ?_
  subst he
  exact ⟨_, rfl, _, _, _, [], _, [], hW', trodAll_mk1 (shut_bool Try.underlying4 _), (trodAll_cons_mk (shut_int Try.underlying2 w0) (trodAll_cons_mk (shut_int Try.underlying2 w1) (trodAll_cons_mk (Below.trod frame_laid (by kernel_rfl) (of_decide_eq_true (by kernel_rfl)) k2 bel lt2) trodAll_mk0))), rfl, bel.frame _, fun h => by cases h⟩

theorem fnExactDecodeColumn_proved : Rows.FnExactDecodeColumnSaid :=
  OpenClaim.holds_of_wide 4 Try.f4 rfl rfl rfl rfl rfl rfl rfl ⟨rfl, rfl, rfl, rfl, rfl⟩ rfl rfl rfl rfl rfl (by kernel_rfl) Try.func4 (by kernel_rfl)
    (of_decide_eq_true (by kernel_rfl)) (by unfold Func.isWrapper; first | (rw [if_pos (by decide +kernel)]; kernel_rfl) | (rw [if_neg (by decide +kernel)]; exact ⟨rfl, rfl⟩))
    (fun os started H enc _ => fnExactDecodeColumn_lifted os started H enc)
#print axioms fnExactDecodeColumn_proved
end Go.Proofs.Ytoadjpacchhleaj
