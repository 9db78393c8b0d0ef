/- Walks: blocks and drives compared. -/
import Derived.Test.YtlppdepihchnkaaCells
import Derived.Test.YtlppdepihchnkaaWShape
import Derived.Deep.RegionLaw
namespace Go.Proofs.Ytlppdepihchnkaa
open Go.RowKit F256
set_option linter.unusedVariables false
set_option linter.unusedSimpArgs false
set_option maxHeartbeats 8000000 in
set_option maxRecDepth 20000 in
theorem eqBlock_is : EqV layBlock 122 := fun c1 c2 d h1 h2 w r1 r2 u1 u2 => by
  obtain ⟨ao1, cap1, rfl, g1, -⟩ := Block_rd r1
  obtain ⟨bao1, bcap1, rfl, q1, -⟩ := Block_rd r2
  clear r1 r2
  have G1 : Hid (layBytes.rd w h1 d.bytes [.slice ao1 d.bytes.1 cap1]) := g1
  have E1 : Hid (layBytes.rd w h2 d.bytes [.slice bao1 d.bytes.1 bcap1]) := q1
  clear g1 q1
  go_enter Try.func122, Try.ntmps122
  go_wp2_with fail
  have T0 := two_newb w #[.int .i64 d.stamp, .slice ao1 d.bytes.1 cap1] #[.int .i64 d.stamp, .slice bao1 d.bytes.1 bcap1] 91 91
  refine (eqBytes_is _ _ d.bytes h1 h2 _ (layBytes.rd_below G1.out T0.bel u1) (layBytes.rd_below E1.out T0.bel u2) (Nat.le_trans u1 T0.bel.size) (Nat.le_trans u2 T0.bel.size)).mono ?_
  rintro e w1 ⟨rfl, b1⟩
  have T1 : Two w w1 #[.int .i64 d.stamp, .slice ao1 d.bytes.1 cap1] #[.int .i64 d.stamp, .slice bao1 d.bytes.1 bcap1] 91 91 := T0.call b1
  clear T0 b1
  have B : Hid (Below w.heap.size w w1) := T1.bel
  clear T1
  go_wp2
  go_ret
  exact ⟨rfl, B.out⟩
set_option maxHeartbeats 4000000 in
theorem eqBlockS_is : EqS (layBlock.slice 91) 119 := fun v1 v2 d h1 h2 w r1 r2 u1 u2 => by
  obtain ⟨n, x⟩ := d
  obtain ⟨ao, cap, hv, hm, hc⟩ := r1
  cases hv
  obtain ⟨ao', cap', hv', hm', hc'⟩ := r2
  cases hv'
  simp only at hm hc hc'
  unfold maxLen at hm
  clear hm'
  go_enter Try.func119, Try.ntmps119
  go_wp2
  go_loopw [5] (fun i wr => ∃ k : Nat, k ≤ n ∧ i = .int .i64 k ∧ Below w.heap.size w wr) (fun i _ => n - (intOf i).toNat)
  case atStart => exact ⟨0, Nat.zero_le _, rfl, Below.refl _ _⟩
  case round =>
    obtain ⟨k, hk, rfl, hb⟩ := hrel
    by_cases hlt : k < n
    · obtain ⟨b, off, rfl, hblt, hel⟩ := hc (by omega)
      obtain ⟨b', off', rfl, hblt', hel'⟩ := hc' (by omega)
      obtain ⟨ck, hrk, hcell⟩ := elem_rd (t := 0) hel (below_drewN hb 1) u1 hblt hlt
      obtain ⟨ck', hrk', hcell'⟩ := elem_rd (t := 0) hel' (below_drewN hb 1) u2 hblt' hlt
      obtain ⟨ao1, cap1, rfl, -⟩ := Block_rd hrk
      obtain ⟨bao1, bcap1, rfl, -⟩ := Block_rd hrk'
      have c0 : wr.cell? ⟨b, off + k * 2, none⟩ = some (.int .i64 (x k).stamp) := hcell 0 (by decide)
      have c1 : wr.cell? ⟨b, off + k * 2 + 1, none⟩ = some (.slice ao1 (x k).bytes.1 cap1) := hcell 1 (by decide)
      have e0 : wr.cell? ⟨b', off' + k * 2, none⟩ = some (.int .i64 (x k).stamp) := hcell' 0 (by decide)
      have e1 : wr.cell? ⟨b', off' + k * 2 + 1, none⟩ = some (.slice bao1 (x k).bytes.1 bcap1) := hcell' 1 (by decide)
      have C1 := eqBlock_is _ _ (x k) h1 h2 (wr.drewN 1) hrk hrk' (Nat.le_trans u1 hb.size) (Nat.le_trans u2 hb.size)
      clear hc hc' hel hel' hcell hcell' hrk hrk'
      go_wp2
      go_region_with (go_at_call 122; refine C1.mono ?_; rintro ee w2 ⟨rfl, hb2⟩)
      all_goals
        have R' : Below w.heap.size w w2 := hb.trans ((below_drewN (Below.refl wr.heap.size wr) 1).trans hb2 |>.mono hb.size)
        clear hb2
        go_wp2
        go_roundw
        case rel => exact ⟨k + 1, by omega, by go_num, R'⟩
        case measure => simp [intOf]; omega
    · obtain rfl : k = n := by omega
      go_wp2
      go_ret
      exact ⟨rfl, hb⟩
set_option maxHeartbeats 8000000 in
set_option maxRecDepth 20000 in
theorem eqDrive_is : EqV layDrive 109 := fun c1 c2 d h1 h2 w r1 r2 u1 u2 => by
  obtain ⟨ao1, cap1, rfl, g1⟩ := Drive_rd r1
  obtain ⟨bao1, bcap1, rfl, q1⟩ := Drive_rd r2
  clear r1 r2
  have G1 : Hid ((layBlock.slice 91).rd w h1 d.blocks [.slice ao1 d.blocks.1 cap1]) := g1
  have E1 : Hid ((layBlock.slice 91).rd w h2 d.blocks [.slice bao1 d.blocks.1 bcap1]) := q1
  clear g1 q1
  go_enter Try.func109, Try.ntmps109
  go_wp2_with fail
  have T0 := two_newb w #[.bool d.wiped, .slice ao1 d.blocks.1 cap1] #[.bool d.wiped, .slice bao1 d.blocks.1 bcap1] 59 59
  refine (eqBlockS_is _ _ d.blocks h1 h2 _ ((layBlock.slice 91).rd_below G1.out T0.bel u1) ((layBlock.slice 91).rd_below E1.out T0.bel u2) (Nat.le_trans u1 T0.bel.size) (Nat.le_trans u2 T0.bel.size)).mono ?_
  rintro e w1 ⟨rfl, b1⟩
  have T1 : Two w w1 #[.bool d.wiped, .slice ao1 d.blocks.1 cap1] #[.bool d.wiped, .slice bao1 d.blocks.1 bcap1] 59 59 := T0.call b1
  clear T0 b1
  have B : Hid (Below w.heap.size w w1) := T1.bel
  clear T1
  go_wp2
  go_ret
  exact ⟨rfl, B.out⟩
set_option maxHeartbeats 4000000 in
theorem eqDriveS_is : EqS (layDrive.slice 59) 94 := fun v1 v2 d h1 h2 w r1 r2 u1 u2 => by
  obtain ⟨n, x⟩ := d
  obtain ⟨ao, cap, hv, hm, hc⟩ := r1
  cases hv
  obtain ⟨ao', cap', hv', hm', hc'⟩ := r2
  cases hv'
  simp only at hm hc hc'
  unfold maxLen at hm
  clear hm'
  go_enter Try.func94, Try.ntmps94
  go_wp2
  go_loopw [5] (fun i wr => ∃ k : Nat, k ≤ n ∧ i = .int .i64 k ∧ Below w.heap.size w wr) (fun i _ => n - (intOf i).toNat)
  case atStart => exact ⟨0, Nat.zero_le _, rfl, Below.refl _ _⟩
  case round =>
    obtain ⟨k, hk, rfl, hb⟩ := hrel
    by_cases hlt : k < n
    · obtain ⟨b, off, rfl, hblt, hel⟩ := hc (by omega)
      obtain ⟨b', off', rfl, hblt', hel'⟩ := hc' (by omega)
      obtain ⟨ck, hrk, hcell⟩ := elem_rd (t := 0) hel (below_drewN hb 1) u1 hblt hlt
      obtain ⟨ck', hrk', hcell'⟩ := elem_rd (t := 0) hel' (below_drewN hb 1) u2 hblt' hlt
      obtain ⟨ao1, cap1, rfl, -⟩ := Drive_rd hrk
      obtain ⟨bao1, bcap1, rfl, -⟩ := Drive_rd hrk'
      have c0 : wr.cell? ⟨b, off + k * 2, none⟩ = some (.bool (x k).wiped) := hcell 0 (by decide)
      have c1 : wr.cell? ⟨b, off + k * 2 + 1, none⟩ = some (.slice ao1 (x k).blocks.1 cap1) := hcell 1 (by decide)
      have e0 : wr.cell? ⟨b', off' + k * 2, none⟩ = some (.bool (x k).wiped) := hcell' 0 (by decide)
      have e1 : wr.cell? ⟨b', off' + k * 2 + 1, none⟩ = some (.slice bao1 (x k).blocks.1 bcap1) := hcell' 1 (by decide)
      have C1 := eqDrive_is _ _ (x k) h1 h2 (wr.drewN 1) hrk hrk' (Nat.le_trans u1 hb.size) (Nat.le_trans u2 hb.size)
      clear hc hc' hel hel' hcell hcell' hrk hrk'
      go_wp2
      go_region_with (go_at_call 109; refine C1.mono ?_; rintro ee w2 ⟨rfl, hb2⟩)
      all_goals
        have R' : Below w.heap.size w w2 := hb.trans ((below_drewN (Below.refl wr.heap.size wr) 1).trans hb2 |>.mono hb.size)
        clear hb2
        go_wp2
        go_roundw
        case rel => exact ⟨k + 1, by omega, by go_num, R'⟩
        case measure => simp [intOf]; omega
    · obtain rfl : k = n := by omega
      go_wp2
      go_ret
      exact ⟨rfl, hb⟩
set_option maxHeartbeats 4000000 in
theorem eqDriveSS_is : EqS ((layDrive.slice 59).slice 56) 63 := fun v1 v2 d h1 h2 w r1 r2 u1 u2 => by
  obtain ⟨n, x⟩ := d
  obtain ⟨ao, cap, hv, hm, hc⟩ := r1
  cases hv
  obtain ⟨ao', cap', hv', hm', hc'⟩ := r2
  cases hv'
  simp only at hm hc hc'
  unfold maxLen at hm
  clear hm'
  go_enter Try.func63, Try.ntmps63
  go_wp2
  go_loopw [5] (fun i wr => ∃ k : Nat, k ≤ n ∧ i = .int .i64 k ∧ Below w.heap.size w wr) (fun i _ => n - (intOf i).toNat)
  case atStart => exact ⟨0, Nat.zero_le _, rfl, Below.refl _ _⟩
  case round =>
    obtain ⟨k, hk, rfl, hb⟩ := hrel
    by_cases hlt : k < n
    · obtain ⟨b, off, rfl, hblt, hel⟩ := hc (by omega)
      obtain ⟨b', off', rfl, hblt', hel'⟩ := hc' (by omega)
      obtain ⟨ck, hrk, hcell⟩ := elem_rd (t := 0) hel (below_drewN hb 1) u1 hblt hlt
      obtain ⟨ck', hrk', hcell'⟩ := elem_rd (t := 0) hel' (below_drewN hb 1) u2 hblt' hlt
      obtain ⟨ao9, cap9, rfl⟩ := sl_form hrk
      obtain ⟨bao9, bcap9, rfl⟩ := sl_form hrk'
      have c0 : wr.cell? ⟨b, off + k, none⟩ = some (.slice ao9 (x k).1 cap9) := by
        have h := hcell 0 (show 0 < 1 by decide)
        rw [show (layDrive.slice 59).sz = 1 from rfl, Nat.mul_one, Nat.add_zero] at h
        exact h
      have e0 : wr.cell? ⟨b', off' + k, none⟩ = some (.slice bao9 (x k).1 bcap9) := by
        have h := hcell' 0 (show 0 < 1 by decide)
        rw [show (layDrive.slice 59).sz = 1 from rfl, Nat.mul_one, Nat.add_zero] at h
        exact h
      have C1 := eqDriveS_is _ _ (x k) h1 h2 (wr.drewN 1) hrk hrk' (Nat.le_trans u1 hb.size) (Nat.le_trans u2 hb.size)
      clear hc hc' hel hel' hcell hcell' hrk hrk'
      go_wp2
      go_region_with (go_at_call 94; refine C1.mono ?_; rintro ee w2 ⟨rfl, hb2⟩)
      all_goals
        have R' : Below w.heap.size w w2 := hb.trans ((below_drewN (Below.refl wr.heap.size wr) 1).trans hb2 |>.mono hb.size)
        clear hb2
        go_wp2
        go_roundw
        case rel => exact ⟨k + 1, by omega, by go_num, R'⟩
        case measure => simp [intOf]; omega
    · obtain rfl : k = n := by omega
      go_wp2
      go_ret
      exact ⟨rfl, hb⟩
end Go.Proofs.Ytlppdepihchnkaa
