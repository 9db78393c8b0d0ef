/- Walk of the program's dataWeights. -/
import Derived.Test.YtoadjpacchhleajWImplL
import Derived.Test.YtoadjpacchhleajColInv
import Derived.Test.YtoadjpacchhleajWJoin
import Derived.Test.YtoadjpacchhleajWInts
namespace Go.Proofs.Ytoadjpacchhleaj
open Go.RowKit F256
set_option linter.unusedVariables false
set_option linter.unusedSimpArgs false

/-- list[d:] -/
theorem run_slice_tail (gr N cap d : Nat) (h1 : d < N) (h2 : N ≤ cap) (w : World) :
    (Instr.slice 23 (.slice (some ⟨gr, 0, none⟩) N cap) (some (.int .i64 (d : Int))) none none).run Try.prog w = .ok (.slice (some ⟨gr, d, none⟩) (N - d) (cap - d)) w := by
  have e1 : (0 : Int) ≤ (d : Int) ∧ (d : Int) ≤ (N : Int) := by omega
  have e4 : ¬ cap = d := by omega
  have e5 : d ≤ N := by omega
  simp [Instr.slice, run_underlying Try.underlying23, Instr.sliceBounds, Instr.sliceBound, asIntOf, go_sem, e1, e4, e5]

set_option maxHeartbeats 4000000 in
theorem dataWeights_any (D : Nat) (vh : Value) (hv : Nat → Nat) (h1 : Nat) (w : World) (rh : RdI w h1 vh D (fun i => (hv i : Int))) (hh : h1 ≤ w.heap.size) (hD1 : 1 ≤ D) (hD : D ≤ 4) (hb : ∀ k, k < D → hv k < D + 2) :
    Calls Try.prog 66 #[.int .i64 D, vh] w fun e w' => ∃ v', e = .returned v' ∧ RdM w' w'.heap.size v' D (fun _ => D) (dW D hv) ∧ Below w.heap.size w w' := by
  obtain ⟨aoh, caph, rfl, hmm, hch⟩ := rh
  obtain ⟨bh, oh, rfl, hbh, hcell⟩ := hch (by omega)
  have HC : Hid (∀ i, i < D → w.cell? ⟨bh, oh + i, none⟩ = some (.int .i64 (hv i : Int))) := hcell
  have HBD : Hid (∀ k, k < D → hv k < D + 2) := hb
  have hbw : bh < w.heap.size := by omega
  have e136 : ((136 : Nat) : Int) = 136 := rfl
  clear hch hcell hb hmm
  go_enter Try.func66, Try.ntmps66
  go_wp2_with (at_make; refine wp_makeM _ rfl _ _ rfl _ _ D rfl rfl rfl rfl (by omega) ?_; intro w1 hown1 hb1 hz1)
  go_loopw [12] (fun i wr => ∃ k : Nat, k ≤ D ∧ i = .int .i64 k ∧ ∃ e', Cpy w wr D k (fun _ => D + D) (eyeM D hv) e') (fun i _ => D - (intOf i).toNat)
  case atStart => exact ⟨0, Nat.zero_le _, rfl, fun _ => nilS, ⟨by rw [valsOf_eq (g := fun _ => nilS) (fun i hi => by simp)]; exact hown1, fun i hi => by omega, ⟨fun i hi => by omega, fun i j hi => by omega⟩, hb1, hz1⟩⟩
  case round =>
    clear hown1 hb1 hz1
    obtain ⟨k, hk, rfl, e', hcp⟩ := hrel
    by_cases hlt : k < D
    · have HCP : Hid (Cpy w wr D k (fun _ => D + D) (eyeM D hv) e') := hcp
      have hl := hcp.lt
      have ck : wr.cell? ⟨bh, oh + k, none⟩ = some (.int .i64 (hv k : Int)) := (hcp.bel.cell (p := ⟨bh, oh + k, none⟩) hbw).trans (HC.out k hlt)
      obtain ⟨p, hp⟩ : ∃ p, p = hv k := ⟨_, rfl⟩
      have HP : Hid (p = hv k) := hp
      have hp2 : p < D + 2 := by rw [hp]; exact HBD.out k hlt
      rw [← hp] at ck
      have szr := hcp.bel.size
      clear hcp hp
      go_wp2_with (at_make; refine wp_makeB _ rfl _ _ rfl _ _ D rfl rfl rfl rfl (by omega) ?_; intro w2 ho2 hb2 hz2; have hco : w2.cell? ⟨wr.heap.size, k, none⟩ = some (.int .u8 (0 : Nat)) := (by have := ho2.1.cellAt k (by omega); rw [this, cellsOf_get _ _ _ hlt]); have hfo : w2.frozen? ⟨wr.heap.size, k, none⟩ = false := ho2.1.frozenAt k; have ck2 : (w2.setCell ⟨wr.heap.size, k, none⟩ (.int .u8 1)).cell? ⟨bh, oh + k, none⟩ = some (.int .i64 (p : Int)) := ((hb2.setCell (Nat.le_refl _) _).cell (p := ⟨bh, oh + k, none⟩) (by show bh < wr.heap.size; omega)).trans ck)
      have oU : Own (w2.setCell ⟨wr.heap.size, k, none⟩ (.int .u8 (1 : Nat))) wr.heap.size w2.heap.size (.slice (some ⟨wr.heap.size, 0, none⟩) D D) D (fun i => if i = k then 1 else 0) := ho2.store k 1 hlt (fun i hi => rfl)
      have BU : Below wr.heap.size wr (w2.setCell ⟨wr.heap.size, k, none⟩ (.int .u8 (1 : Nat))) := hb2.setCell (Nat.le_refl _) _
      obtain ⟨wU, hwU⟩ : ∃ wU, wU = w2.setCell ⟨wr.heap.size, k, none⟩ (.int .u8 (1 : Nat)) := ⟨_, rfl⟩
      have hsU : wU.heap.size = w2.heap.size := by rw [hwU]; simp
      have CF := factorsFrom_any 8 D p 136 rfl (by omega) (by omega) (by omega) wU
      rw [e136] at CF
      have e1 : ((1 : Nat) : Int) = 1 := rfl
      rw [e1] at hwU oU BU
      rw [← hwU] at oU BU ⊢
      clear ho2 hb2 hco hfo ck2 ck hwU
      refine CF.mono ?_
      rintro ee w3 ⟨v3, rfl, o3, b3⟩
      obtain ⟨ao3, cap3, rfl⟩ := o3.slice
      have s3 := b3.size
      have oU3 := (oU.below b3 (by omega)).rd
      have B3 : Below wr.heap.size wr w3 := BU.trans (b3.mono (by omega))
      have CJ := joined_some (.slice ao3 D cap3) (.slice (some ⟨wr.heap.size, 0, none⟩) D D) D D (genN D p 8) (fun i => if i = k then 1 else 0) (eyeM D hv k) w3.heap.size w2.heap.size w3 o3.rd oU3 (Nat.le_refl _) (by omega) (by omega) (by omega) (by omega) (fun i hi => by
        simp only [eyeM, HP.out]
        by_cases c : i < D
        · rw [if_pos c, if_pos c]
        · rw [if_neg c, if_neg c]
          by_cases c2 : i = D + k
          · rw [if_pos c2, if_pos (by omega)]
          · rw [if_neg c2, if_neg (by omega)])
      clear CF o3 oU oU3 b3 BU
      go_wp2_with fail
      refine CJ.mono ?_
      rintro ee w4 ⟨v4, rfl, o4, b4⟩
      obtain ⟨ao4, cap4, rfl⟩ := o4.slice
      have B4 : Below wr.heap.size wr w4 := B3.trans (b4.mono (by omega))
      have q1 : w4.cell? ⟨w.heap.size, k, none⟩ = some nilS := by
        rw [B4.cell (p := ⟨w.heap.size, k, none⟩) hl, HCP.out.row.cellAt k (by omega), valsOf_get _ _ _ hlt, if_neg (Nat.lt_irrefl k)]
      have q2 : w4.frozen? ⟨w.heap.size, k, none⟩ = false := (B4.frozen (p := ⟨w.heap.size, k, none⟩) hl).trans (HCP.out.row.frozenAt k)
      have N1 := HCP.out.next hlt B4 (o4.weaken (by omega) (Nat.le_refl _))
      clear HCP CJ o4 b4 B4 B3
      go_wp2
      go_roundw
      case rel => exact ⟨k + 1, by omega, by go_num, _, N1⟩
      case measure => simp [intOf]; omega
    · obtain rfl : k = D := by omega
      obtain ⟨gg, cc, e2, hE⟩ := hcp.done
      have hval := hE.val
      simp only [Value.slice.injEq, Option.some.injEq, Addr.mk.injEq, and_true, true_and] at hval
      obtain ⟨rfl, rfl⟩ := hval
      have hbel := hcp.bel
      have RD := reduceRows_any _ k (k + k) k (eyeM k hv) w.heap.size w.heap.size k e2 (by omega) (by omega) (by omega) (eyeM_byt k hv) wr hE
      clear hE hcp
      go_wp2_with fail
      refine RD.mono ?_
      rintro ee w4 ⟨rfl, ⟨e4, hE4⟩, hb4⟩
      have HE4 : Hid (OwnE w4 w.heap.size w4.heap.size (.slice (some ⟨w.heap.size, 0, none⟩) k k) k (fun _ => k + k) (gaussM k (eyeM k hv) k).1 w.heap.size k e4) := hE4
      have B4 : Below w.heap.size w w4 := hbel.trans hb4
      have hf4 : ∀ i, i < k → ∃ gi ci, e4 i = .slice (some ⟨gi, 0, none⟩) (k + k) ci ∧ gi ≠ w.heap.size ∧ gi < w4.heap.size ∧ k + k ≤ ci := fun i hi => by
        obtain ⟨gi, ci, h5, h6, h7, h8, h9⟩ := (hE4.each i hi).form (by omega)
        exact ⟨gi, ci, h5, fun hg => hE4.apart.1 i hi (by rw [h5, hg]; rfl), h8, h9⟩
      have HF4 : Hid (∀ i, i < k → ∃ gi ci, e4 i = .slice (some ⟨gi, 0, none⟩) (k + k) ci ∧ gi ≠ w.heap.size ∧ gi < w4.heap.size ∧ k + k ≤ ci) := hf4
      have hr4 := hE4.row
      have hz4 := hE4.high
      clear RD hb4 hbel hE4 hf4
      go_wp2
      go_loopw [36] (fun i wr => ∃ q : Nat, q ≤ k ∧ i = .int .i64 q ∧ ∃ e5 : Nat → Value, wr.ownsRow w.heap.size 23 1 (.slice (some ⟨w.heap.size, 0, none⟩) k k) k (valsOf k e5) ∧ (∀ i, i < k → q ≤ i → e5 i = e4 i) ∧ (∀ i, i < q → ∃ gi ci cj, e4 i = .slice (some ⟨gi, 0, none⟩) (k + k) ci ∧ e5 i = .slice (some ⟨gi, k, none⟩) k cj) ∧ (∀ b, b ≠ w.heap.size → wr.heap[b]? = w4.heap[b]?) ∧ Below w.heap.size w wr ∧ wr.heap.size = w4.heap.size) (fun i _ => k - (intOf i).toNat)
      case atStart => exact ⟨0, Nat.zero_le _, rfl, e4, hr4, fun _ _ _ => rfl, fun i hi => by omega, fun _ _ => rfl, B4, rfl⟩
      case round =>
        clear hr4 B4
        obtain ⟨q, hq, rfl, e5, hr5, h51, h52, h53, h54, h55⟩ := hrel
        by_cases hqk : q < k
        · obtain ⟨gi, ci, h61, h62, h63, h64⟩ := HF4.out q hqk
          have c1 : wr.cell? ⟨w.heap.size, q, none⟩ = some (.slice (some ⟨gi, 0, none⟩) (k + k) ci) := by
            rw [hr5.cellAt q (by omega), valsOf_get k e5 q hqk, h51 q hqk (Nat.le_refl _), h61]
          have c2 : wr.frozen? ⟨w.heap.size, q, none⟩ = false := hr5.frozenAt q
          obtain ⟨T, hT⟩ : ∃ T, T = k + k := ⟨_, rfl⟩
          have HT : Hid (T = k + k) := hT
          have hsl := fun w => run_slice_tail gi T ci k (by omega) (by omega) w
          have hTk : T - k = k := by omega
          rw [hTk] at hsl
          rw [← hT] at c1
          have NR : (wr.setCell ⟨w.heap.size, q, none⟩ (.slice (some ⟨gi, k, none⟩) k (ci - k))).ownsRow w.heap.size 23 1 (.slice (some ⟨w.heap.size, 0, none⟩) k k) k (valsOf k fun i => if i = q then .slice (some ⟨gi, k, none⟩) k (ci - k) else e5 i) := by
            have := (hr5.stored q (.slice (some ⟨gi, k, none⟩) k (ci - k))).1
            rw [valsOf_set k e5 (fun i => if i = q then .slice (some ⟨gi, k, none⟩) k (ci - k) else e5 i) q _ hqk (fun i _ => rfl)] at this
            exact this
          have HX : Hid ((∀ i, i < k → q + 1 ≤ i → (if i = q then Value.slice (some ⟨gi, k, none⟩) k (ci - k) else e5 i) = e4 i) ∧ (∀ i, i < q + 1 → ∃ gi' ci' cj, e4 i = .slice (some ⟨gi', 0, none⟩) (k + k) ci' ∧ (if i = q then Value.slice (some ⟨gi, k, none⟩) k (ci - k) else e5 i) = .slice (some ⟨gi', k, none⟩) k cj)) :=
            ⟨fun i hi hqi => by rw [if_neg (by omega)]; exact h51 i hi (by omega), fun i hi => by
              by_cases c : i = q
              · exact ⟨gi, ci, ci - k, by rw [c]; exact h61, by rw [if_pos c]⟩
              · rw [if_neg c]; exact h52 i (by omega)⟩
          have N3 : ∀ b, b ≠ w.heap.size → (wr.setCell ⟨w.heap.size, q, none⟩ (.slice (some ⟨gi, k, none⟩) k (ci - k))).heap[b]? = w4.heap[b]? := fun b hb => (heap_setCell_other wr ⟨w.heap.size, q, none⟩ b _ hb).trans (h53 b hb)
          have N4 : Below w.heap.size w (wr.setCell ⟨w.heap.size, q, none⟩ (.slice (some ⟨gi, k, none⟩) k (ci - k))) := h54.setCell (Nat.le_refl _) _
          have N5 : (wr.setCell ⟨w.heap.size, q, none⟩ (.slice (some ⟨gi, k, none⟩) k (ci - k))).heap.size = w4.heap.size := by simp [h55]
          clear hr5 h51 h52 h53 h54 h61 hT
          go_wp2
          go_roundw
          case rel => exact ⟨q + 1, by omega, by go_num, _, NR, HX.out.1, HX.out.2, N3, N4, N5⟩
          case measure => simp [intOf]; omega
        · obtain rfl : q = k := by omega
          have HM : Hid (RdM wr wr.heap.size (.slice (some ⟨w.heap.size, 0, none⟩) q q) q (fun _ => q) (dW q hv)) := by
            refine ⟨_, _, e5, rfl, by unfold maxLen; omega, fun _ => ⟨w.heap.size, 0, rfl, by omega, fun i hi => ?_⟩, fun i hi => ?_⟩
            · rw [Nat.zero_add, hr5.cellAt i (by omega), valsOf_get q e5 i hi]
            · show Rd wr wr.heap.size (e5 i) q (dW q hv i)
              obtain ⟨gi, ci, cj, h61, h62⟩ := h52 i hi
              obtain ⟨gi', ci', h63, h64, h65, h66⟩ := HF4.out i hi
              rw [h61] at h63
              cases h63
              rw [h62]
              refine ⟨_, _, rfl, by unfold maxLen; omega, fun _ => ⟨gi, q, rfl, by omega, fun j hj => ?_⟩⟩
              have o6 := HE4.out.each i hi
              rw [h61] at o6
              have c6 := o6.1.cellAt (q + j) (by omega)
              rw [cellsOf_get _ _ _ (by omega)] at c6
              exact (World.cell?_of_block (h53 gi h64)).trans c6
          clear hr5 h51 h52 h53
          go_wp2
          go_ret
          exact ⟨_, rfl, HM.out, h54⟩
end Go.Proofs.Ytoadjpacchhleaj
