/- Walks: copies of blocks and drives. -/
import Derived.Test.YtbmfndjglndnlaaGreatCells
import Derived.Test.YtbmfndjglndnlaaGreatZwA
import Derived.Deep.RegionLaw
namespace Go.Proofs.YtbmfndjglndnlaaGreat
open Go.RowKit F256
set_option linter.unusedVariables false
set_option linter.unusedSimpArgs false
set_option maxHeartbeats 8000000 in
set_option maxRecDepth 20000 in
theorem toBlock_is : ToV layBlock szBlockD 156 := fun cs d hi w r hhi hn => by
  obtain ⟨ao1, cap1, rfl, h1, k0⟩ := Block_rd r
  clear r
  unfold szBlockD at hn
  have R1 : Hid (layBytes.rd w hi d.bytes [.slice ao1 d.bytes.1 cap1]) := h1
  clear h1
  have Q0 : Hid ((-9223372036854775808 ≤ d.stamp ∧ d.stamp ≤ 9223372036854775807)) := k0
  clear k0
  go_enter Tryz.func156, Tryz.ntmps156
  go_wp2_with fail
  have T0 := three_newb w #[.int .i64 d.stamp, .slice ao1 d.bytes.1 cap1] #[.int .i64 0, .slice none 0 0] #[.int .i64 d.stamp, .slice none 0 0] 158 46 46
  refine (toBytes_is _ d.bytes hi _ (layBytes.rd_below R1.out T0.bel hhi) (Nat.le_trans hhi T0.bel.size) (by omega)).mono ?_
  rintro e w1 ⟨v1, rfl, o1, b1⟩
  have L1 := T0.lt
  obtain ⟨bo1, bcap1, hv⟩ := bytes_formT o1
  obtain rfl := one_eq hv
  clear hv
  have T1 : Three w w1 #[.int .i64 d.stamp, .slice ao1 d.bytes.1 cap1] #[.int .i64 0, .slice none 0 0] #[.int .i64 d.stamp, .slice none 0 0] 158 46 46 := T0.call b1
  have O1 : Hid (OwnT layBytes w1 (w.heap.size + 1 + 1 + 1) (w1.heap.size) d.bytes [.slice bo1 d.bytes.1 bcap1]) := o1.weaken (by simp <;> omega) (Nat.le_refl _)
  clear o1
  have LT1 : w.heap.size + 1 + 1 + 1 ≤ w1.heap.size := T1.lt
  have y1_0 : w1.cell? ⟨w.heap.size + 1 + 1, 0, none⟩ = some (.int .i64 d.stamp) := T1.b3.cell 0
  have y1_1 : w1.cell? ⟨w.heap.size + 1 + 1, 1, none⟩ = some (.slice none 0 0) := T1.b3.cell 1
  have yf1_1 : w1.frozen? ⟨w.heap.size + 1 + 1, 1, none⟩ = false := T1.b3.frozen 1
  have z1_0 : w1.cell? ⟨w.heap.size + 1, 0, none⟩ = some (.int .i64 0) := T1.b2.cell 0
  have zf1_0 : w1.frozen? ⟨w.heap.size + 1, 0, none⟩ = false := T1.b2.frozen 0
  have z1_1 : w1.cell? ⟨w.heap.size + 1, 1, none⟩ = some (.slice none 0 0) := T1.b2.cell 1
  have zf1_1 : w1.frozen? ⟨w.heap.size + 1, 1, none⟩ = false := T1.b2.frozen 1
  have Bq : Hid (Below w.heap.size w w1) := T1.bel
  clear T1 b1
  go_wp2
  refine bodyPost_ret (v := .agg #[.int .i64 d.stamp, .slice bo1 d.bytes.1 bcap1]) (by simp [results, Tryz.results156, go_sem, y1_0, z1_0, y1_1, z1_1]) rfl ?_
  have F : OwnT layBlock w1 (w.heap.size + 1 + 1 + 1) w1.heap.size d ([.int .i64 d.stamp] ++ [.slice bo1 d.bytes.1 bcap1]) := OwnT.conv (OwnT.pre (A := layI) (a := d.stamp) (c := [.int .i64 d.stamp]) ⟨rfl, Q0.out, rfl⟩ (O1.out))
  exact ⟨[.int .i64 d.stamp, .slice bo1 d.bytes.1 bcap1], rfl, OwnT.fin F 1 0 [.slice bo1 d.bytes.1 bcap1] [.int .i64 d.stamp, .slice bo1 d.bytes.1 bcap1] _ rfl, below_fin Bq.out 1 0 [.slice bo1 d.bytes.1 bcap1] [.int .i64 d.stamp, .slice bo1 d.bytes.1 bcap1] _ rfl⟩
theorem info_BlockS : (Tryz.prog.info? 46).map (fun i => (i.zero.map (·.cells), i.size, i.bytes)) = some (some #[.int .i64 0, .slice none 0 0], 2, 32) := by kernel_rfl
set_option maxHeartbeats 4000000 in
theorem toBlockS_is : ToS (layBlock.slice 46) (szSl szBlockD) 140 := fun v d hi w h hhi hn => by
  obtain ⟨n, x⟩ := d
  obtain ⟨ao, cap, hv, hm, hc⟩ := h
  cases hv
  have hn1 := szSl_n hn
  have hn2 : ∀ i, i < n → szBlockD (x i) ≤ 1048576 := fun i hi => szSl_at hn hi
  simp only at hn1 hm hc
  clear hn
  go_enter Tryz.func140, Tryz.ntmps140
  go_wp2_with (at_make; refine wp_makeT layBlock [.int .i64 0, .slice none 0 0] _ 46 32 (by decide) rfl Tryz.underlying82 info_BlockS x (fun _ => []) _ rfl _ _ rfl _ _ n rfl rfl rfl rfl (by omega) (by omega) ?_; intro w1 sp1 hb1)
  go_loopw [4] (fun i wr => ∃ k : Nat, k ≤ n ∧ i = .int .i64 k ∧ ∃ ce Ls, SlP layBlock 46 wr w.heap.size w.heap.size n n k x ce Ls ∧ Below w.heap.size w wr) (fun i _ => n - (intOf i).toNat)
  case atStart => exact ⟨0, Nat.zero_le _, rfl, _, _, sp1, hb1⟩
  case round =>
    clear sp1 hb1
    obtain ⟨k, hk, rfl, ce, Ls, sp, hb⟩ := hrel
    by_cases hlt : k < n
    · obtain ⟨b, off, rfl, hblt, hel⟩ := hc (by omega)
      obtain ⟨ck, hrk, hcell⟩ := elem_rd (t := 0) hel hb hhi hblt hlt
      obtain ⟨ao1, cap1, rfl, -⟩ := Block_rd hrk
      have c0 : wr.cell? ⟨b, off + k * 2, none⟩ = some (.int .i64 (x k).stamp) := hcell 0 (by decide)
      have c1 : wr.cell? ⟨b, off + k * 2 + 1, none⟩ = some (.slice ao1 (x k).bytes.1 cap1) := hcell 1 (by decide)
      clear hc hel hcell
      go_wp2_with fail
      refine (toBlock_is _ (x k) hi wr hrk (Nat.le_trans hhi hb.size) (hn2 k hlt)).mono ?_
      rintro e w2 ⟨cs', rfl, o2, hb2⟩
      obtain ⟨bao1, bcap1, rfl⟩ := Block_cells o2
      obtain ⟨z0, s0⟩ := sp.some hb2 hlt (show 0 < layBlock.sz by decide)
      have s0 : w2.cell? ⟨w.heap.size, k * 2, none⟩ = some z0 := s0
      have sf0 := (sp.below hb2).frozen (k * 2)
      obtain ⟨z1, s1⟩ := sp.some hb2 hlt (show 1 < layBlock.sz by decide)
      have s1 : w2.cell? ⟨w.heap.size, k * 2 + 1, none⟩ = some z1 := s1
      have sf1 := (sp.below hb2).frozen (k * 2 + 1)
      have N := sp.next hb2 hlt o2 hb.size
      have N2 : Below w.heap.size w (stN w2 w.heap.size (k * layBlock.sz) [.int .i64 (x k).stamp, .slice bao1 (x k).bytes.1 bcap1]) := (hb.trans (hb2.mono hb.size)).trans (stN_below (Nat.le_refl _) _ _)
      clear o2 hb2 sp hb
      go_wp2_with fail
      go_roundw
      case rel =>
        obtain ⟨ce', Ls', N⟩ := N
        exact ⟨k + 1, by omega, by go_num, ce', Ls', N, N2⟩
      case measure => simp [intOf]; omega
    · obtain rfl : k = n := by omega
      go_wp2
      go_ret
      exact ⟨_, rfl, sp.done (Nat.le_refl _), hb⟩
set_option maxHeartbeats 8000000 in
set_option maxRecDepth 20000 in
theorem toDrive_is : ToV layDrive szDriveD 113 := fun cs d hi w r hhi hn => by
  obtain ⟨ao1, cap1, rfl, h1⟩ := Drive_rd r
  clear r
  unfold szDriveD at hn
  have R1 : Hid ((layBlock.slice 46).rd w hi d.blocks [.slice ao1 d.blocks.1 cap1]) := h1
  clear h1
  go_enter Tryz.func113, Tryz.ntmps113
  go_wp2_with fail
  have T0 := three_newb w #[.bool d.wiped, .slice ao1 d.blocks.1 cap1] #[.bool false, .slice none 0 0] #[.bool d.wiped, .slice none 0 0] 127 84 84
  refine (toBlockS_is _ d.blocks hi _ ((layBlock.slice 46).rd_below R1.out T0.bel hhi) (Nat.le_trans hhi T0.bel.size) (by omega)).mono ?_
  rintro e w1 ⟨v1, rfl, o1, b1⟩
  have L1 := T0.lt
  obtain ⟨bo1, bcap1, hv⟩ := sl_formT o1
  obtain rfl := one_eq hv
  clear hv
  have T1 : Three w w1 #[.bool d.wiped, .slice ao1 d.blocks.1 cap1] #[.bool false, .slice none 0 0] #[.bool d.wiped, .slice none 0 0] 127 84 84 := T0.call b1
  have O1 : Hid (OwnT (layBlock.slice 46) w1 (w.heap.size + 1 + 1 + 1) (w1.heap.size) d.blocks [.slice bo1 d.blocks.1 bcap1]) := o1.weaken (by simp <;> omega) (Nat.le_refl _)
  clear o1
  have LT1 : w.heap.size + 1 + 1 + 1 ≤ w1.heap.size := T1.lt
  have y1_0 : w1.cell? ⟨w.heap.size + 1 + 1, 0, none⟩ = some (.bool d.wiped) := T1.b3.cell 0
  have y1_1 : w1.cell? ⟨w.heap.size + 1 + 1, 1, none⟩ = some (.slice none 0 0) := T1.b3.cell 1
  have yf1_1 : w1.frozen? ⟨w.heap.size + 1 + 1, 1, none⟩ = false := T1.b3.frozen 1
  have z1_0 : w1.cell? ⟨w.heap.size + 1, 0, none⟩ = some (.bool false) := T1.b2.cell 0
  have zf1_0 : w1.frozen? ⟨w.heap.size + 1, 0, none⟩ = false := T1.b2.frozen 0
  have z1_1 : w1.cell? ⟨w.heap.size + 1, 1, none⟩ = some (.slice none 0 0) := T1.b2.cell 1
  have zf1_1 : w1.frozen? ⟨w.heap.size + 1, 1, none⟩ = false := T1.b2.frozen 1
  have Bq : Hid (Below w.heap.size w w1) := T1.bel
  clear T1 b1
  go_wp2
  refine bodyPost_ret (v := .agg #[.bool d.wiped, .slice bo1 d.blocks.1 bcap1]) (by simp [results, Tryz.results113, go_sem, y1_0, z1_0, y1_1, z1_1]) rfl ?_
  have F : OwnT layDrive w1 (w.heap.size + 1 + 1 + 1) w1.heap.size d ([.bool d.wiped] ++ [.slice bo1 d.blocks.1 bcap1]) := OwnT.conv (OwnT.pre (A := layB) (a := d.wiped) (c := [.bool d.wiped]) ⟨rfl, trivial, rfl⟩ (O1.out))
  exact ⟨[.bool d.wiped, .slice bo1 d.blocks.1 bcap1], rfl, OwnT.fin F 1 0 [.slice bo1 d.blocks.1 bcap1] [.bool d.wiped, .slice bo1 d.blocks.1 bcap1] _ rfl, below_fin Bq.out 1 0 [.slice bo1 d.blocks.1 bcap1] [.bool d.wiped, .slice bo1 d.blocks.1 bcap1] _ rfl⟩
theorem info_DriveS : (Tryz.prog.info? 84).map (fun i => (i.zero.map (·.cells), i.size, i.bytes)) = some (some #[.bool false, .slice none 0 0], 2, 32) := by kernel_rfl
set_option maxHeartbeats 4000000 in
theorem toDriveS_is : ToS (layDrive.slice 84) (szSl szDriveD) 75 := fun v d hi w h hhi hn => by
  obtain ⟨n, x⟩ := d
  obtain ⟨ao, cap, hv, hm, hc⟩ := h
  cases hv
  have hn1 := szSl_n hn
  have hn2 : ∀ i, i < n → szDriveD (x i) ≤ 1048576 := fun i hi => szSl_at hn hi
  simp only at hn1 hm hc
  clear hn
  go_enter Tryz.func75, Tryz.ntmps75
  go_wp2_with (at_make; refine wp_makeT layDrive [.bool false, .slice none 0 0] _ 84 32 (by decide) rfl Tryz.underlying85 info_DriveS x (fun _ => []) _ rfl _ _ rfl _ _ n rfl rfl rfl rfl (by omega) (by omega) ?_; intro w1 sp1 hb1)
  go_loopw [4] (fun i wr => ∃ k : Nat, k ≤ n ∧ i = .int .i64 k ∧ ∃ ce Ls, SlP layDrive 84 wr w.heap.size w.heap.size n n k x ce Ls ∧ Below w.heap.size w wr) (fun i _ => n - (intOf i).toNat)
  case atStart => exact ⟨0, Nat.zero_le _, rfl, _, _, sp1, hb1⟩
  case round =>
    clear sp1 hb1
    obtain ⟨k, hk, rfl, ce, Ls, sp, hb⟩ := hrel
    by_cases hlt : k < n
    · obtain ⟨b, off, rfl, hblt, hel⟩ := hc (by omega)
      obtain ⟨ck, hrk, hcell⟩ := elem_rd (t := 0) hel hb hhi hblt hlt
      obtain ⟨ao1, cap1, rfl, -⟩ := Drive_rd hrk
      have c0 : wr.cell? ⟨b, off + k * 2, none⟩ = some (.bool (x k).wiped) := hcell 0 (by decide)
      have c1 : wr.cell? ⟨b, off + k * 2 + 1, none⟩ = some (.slice ao1 (x k).blocks.1 cap1) := hcell 1 (by decide)
      clear hc hel hcell
      go_wp2_with fail
      refine (toDrive_is _ (x k) hi wr hrk (Nat.le_trans hhi hb.size) (hn2 k hlt)).mono ?_
      rintro e w2 ⟨cs', rfl, o2, hb2⟩
      obtain ⟨bao1, bcap1, rfl⟩ := Drive_cells o2
      obtain ⟨z0, s0⟩ := sp.some hb2 hlt (show 0 < layDrive.sz by decide)
      have s0 : w2.cell? ⟨w.heap.size, k * 2, none⟩ = some z0 := s0
      have sf0 := (sp.below hb2).frozen (k * 2)
      obtain ⟨z1, s1⟩ := sp.some hb2 hlt (show 1 < layDrive.sz by decide)
      have s1 : w2.cell? ⟨w.heap.size, k * 2 + 1, none⟩ = some z1 := s1
      have sf1 := (sp.below hb2).frozen (k * 2 + 1)
      have N := sp.next hb2 hlt o2 hb.size
      have N2 : Below w.heap.size w (stN w2 w.heap.size (k * layDrive.sz) [.bool (x k).wiped, .slice bao1 (x k).blocks.1 bcap1]) := (hb.trans (hb2.mono hb.size)).trans (stN_below (Nat.le_refl _) _ _)
      clear o2 hb2 sp hb
      go_wp2_with fail
      go_roundw
      case rel =>
        obtain ⟨ce', Ls', N⟩ := N
        exact ⟨k + 1, by omega, by go_num, ce', Ls', N, N2⟩
      case measure => simp [intOf]; omega
    · obtain rfl : k = n := by omega
      go_wp2
      go_ret
      exact ⟨_, rfl, sp.done (Nat.le_refl _), hb⟩
theorem info_DriveSS : (Tryz.prog.info? 85).map (fun i => (i.zero.map (·.cells), i.size, i.bytes)) = some (some #[.slice none 0 0], 1, 24) := by kernel_rfl
set_option maxHeartbeats 4000000 in
theorem toDriveSS_is : ToS ((layDrive.slice 84).slice 85) (szSl (szSl szDriveD)) 40 := fun v d hi w h hhi hn => by
  obtain ⟨n, x⟩ := d
  obtain ⟨ao, cap, hv, hm, hc⟩ := h
  cases hv
  have hn1 := szSl_n hn
  have hn2 : ∀ i, i < n → (szSl szDriveD) (x i) ≤ 1048576 := fun i hi => szSl_at hn hi
  simp only at hn1 hm hc
  clear hn
  go_enter Tryz.func40, Tryz.ntmps40
  go_wp2_with (at_make; refine wp_makeT (layDrive.slice 84) [.slice none 0 0] _ 85 24 (by decide) rfl Tryz.underlying31 info_DriveSS x (fun _ => []) _ rfl _ _ rfl _ _ n rfl rfl rfl rfl (by omega) (by omega) ?_; intro w1 sp1 hb1)
  go_loopw [4] (fun i wr => ∃ k : Nat, k ≤ n ∧ i = .int .i64 k ∧ ∃ ce Ls, SlP (layDrive.slice 84) 85 wr w.heap.size w.heap.size n n k x ce Ls ∧ Below w.heap.size w wr) (fun i _ => n - (intOf i).toNat)
  case atStart => exact ⟨0, Nat.zero_le _, rfl, _, _, sp1, hb1⟩
  case round =>
    clear sp1 hb1
    obtain ⟨k, hk, rfl, ce, Ls, sp, hb⟩ := hrel
    by_cases hlt : k < n
    · obtain ⟨b, off, rfl, hblt, hel⟩ := hc (by omega)
      obtain ⟨ck, hrk, hcell⟩ := elem_rd (t := 0) hel hb hhi hblt hlt
      obtain ⟨ao9, cap9, rfl⟩ := sl_form hrk
      have c0 : wr.cell? ⟨b, off + k, none⟩ = some (.slice ao9 (x k).1 cap9) := by
        have h := hcell 0 (show 0 < 1 by decide)
        rw [show (layDrive.slice 84).sz = 1 from rfl, Nat.mul_one, Nat.add_zero] at h
        exact h
      clear hc hel hcell
      go_wp2_with fail
      refine (toDriveS_is _ (x k) hi wr hrk (Nat.le_trans hhi hb.size) (hn2 k hlt)).mono ?_
      rintro e w2 ⟨v', rfl, o2, hb2⟩
      obtain ⟨bao9, bcap9, hv'⟩ := sl_formT o2
      obtain rfl := one_eq hv'
      clear hv'
      obtain ⟨z0, s0⟩ := sp.some hb2 hlt (show 0 < (layDrive.slice 84).sz by decide)
      rw [show (layDrive.slice 84).sz = 1 from rfl, Nat.mul_one, Nat.add_zero] at s0
      have sf0 := (sp.below hb2).frozen k
      have N := sp.next hb2 hlt o2 hb.size
      have N2 : Below w.heap.size w (stN w2 w.heap.size (k * (layDrive.slice 84).sz) [.slice bao9 (x k).1 bcap9]) := (hb.trans (hb2.mono hb.size)).trans (stN_below (Nat.le_refl _) _ _)
      rw [show (layDrive.slice 84).sz = 1 from rfl, Nat.mul_one] at N N2
      clear o2 hb2 sp hb
      go_wp2_with fail
      go_roundw
      case rel =>
        obtain ⟨ce', Ls', N⟩ := N
        exact ⟨k + 1, by omega, by go_num, ce', Ls', N, N2⟩
      case measure => simp [intOf]; omega
    · obtain rfl : k = n := by omega
      go_wp2
      go_ret
      exact ⟨_, rfl, sp.done (Nat.le_refl _), hb⟩
end Go.Proofs.YtbmfndjglndnlaaGreat

namespace Go.Proofs.YtbmfndjglndnlaaGreat
open Go.RowKit F256
set_option linter.unusedVariables false
set_option linter.unusedSimpArgs false
set_option maxHeartbeats 8000000 in
set_option maxRecDepth 20000 in
theorem toRec_is : ToV layRec szRecD 141 := fun cs d hi w r hhi hn => by
  obtain ⟨ao6, cap6, ao7, cap7, ao8, cap8, rfl, h6, h7, h8, k0, k1, k2, k3, k4, k5⟩ := Rec_rd r
  clear r
  unfold szRecD at hn
  have R6 : Hid (layInts.rd w hi d.rows [.slice ao6 d.rows.1 cap6]) := h6
  have R7 : Hid (layBytes.rd w hi d.data [.slice ao7 d.data.1 cap7]) := h7
  have R8 : Hid (layBytes.rd w hi d.delta [.slice ao8 d.delta.1 cap8]) := h8
  clear h6 h7 h8
  have Q0 : Hid ((-9223372036854775808 ≤ d.kind ∧ d.kind ≤ 9223372036854775807)) := k0
  have Q1 : Hid ((-9223372036854775808 ≤ d.seq ∧ d.seq ≤ 9223372036854775807)) := k1
  have Q2 : Hid (d.name.size ≤ maxLen) := k2
  have Q3 : Hid ((-9223372036854775808 ≤ d.length ∧ d.length ≤ 9223372036854775807)) := k3
  have Q4 : Hid ((-9223372036854775808 ≤ d.group ∧ d.group ≤ 9223372036854775807)) := k4
  have Q5 : Hid ((-9223372036854775808 ≤ d.row ∧ d.row ≤ 9223372036854775807)) := k5
  clear k0 k1 k2 k3 k4 k5
  go_enter Tryz.func141, Tryz.ntmps141
  go_wp2_with fail
  have T0 := three_newb w #[.int .i64 d.kind, .int .i64 d.seq, .string d.name, .int .i64 d.length, .int .i64 d.group, .int .i64 d.row, .slice ao6 d.rows.1 cap6, .slice ao7 d.data.1 cap7, .slice ao8 d.delta.1 cap8] #[.int .i64 0, .int .i64 0, .string ByteArray.empty, .int .i64 0, .int .i64 0, .int .i64 0, .slice none 0 0, .slice none 0 0, .slice none 0 0] #[.int .i64 d.kind, .int .i64 d.seq, .string d.name, .int .i64 d.length, .int .i64 d.group, .int .i64 d.row, .slice none 0 0, .slice none 0 0, .slice none 0 0] 148 119 119
  refine (toInts_is _ d.rows hi _ (layInts.rd_below R6.out T0.bel hhi) (Nat.le_trans hhi T0.bel.size) (by omega)).mono ?_
  rintro e w1 ⟨v1, rfl, o1, b1⟩
  have L1 := T0.lt
  obtain ⟨bo6, bcap6, hv⟩ := ints_formT o1
  obtain rfl := one_eq hv
  clear hv
  have T1 : Three w w1 #[.int .i64 d.kind, .int .i64 d.seq, .string d.name, .int .i64 d.length, .int .i64 d.group, .int .i64 d.row, .slice ao6 d.rows.1 cap6, .slice ao7 d.data.1 cap7, .slice ao8 d.delta.1 cap8] #[.int .i64 0, .int .i64 0, .string ByteArray.empty, .int .i64 0, .int .i64 0, .int .i64 0, .slice none 0 0, .slice none 0 0, .slice none 0 0] #[.int .i64 d.kind, .int .i64 d.seq, .string d.name, .int .i64 d.length, .int .i64 d.group, .int .i64 d.row, .slice none 0 0, .slice none 0 0, .slice none 0 0] 148 119 119 := T0.call b1
  have O6 : Hid (OwnT layInts w1 (w.heap.size + 1 + 1 + 1) (w1.heap.size) d.rows [.slice bo6 d.rows.1 bcap6]) := o1.weaken (by simp <;> omega) (Nat.le_refl _)
  clear o1
  have LT1 : w.heap.size + 1 + 1 + 1 ≤ w1.heap.size := T1.lt
  have x1_7 : w1.cell? ⟨w.heap.size, 7, none⟩ = some (.slice ao7 d.data.1 cap7) := T1.b1.cell 7
  have y1_6 : w1.cell? ⟨w.heap.size + 1 + 1, 6, none⟩ = some (.slice none 0 0) := T1.b3.cell 6
  have yf1_6 : w1.frozen? ⟨w.heap.size + 1 + 1, 6, none⟩ = false := T1.b3.frozen 6
  have V1 : Three w (w1.setCell ⟨w.heap.size + 1 + 1, 6, none⟩ (.slice bo6 d.rows.1 bcap6)) #[.int .i64 d.kind, .int .i64 d.seq, .string d.name, .int .i64 d.length, .int .i64 d.group, .int .i64 d.row, .slice ao6 d.rows.1 cap6, .slice ao7 d.data.1 cap7, .slice ao8 d.delta.1 cap8] #[.int .i64 0, .int .i64 0, .string ByteArray.empty, .int .i64 0, .int .i64 0, .int .i64 0, .slice none 0 0, .slice none 0 0, .slice none 0 0] #[.int .i64 d.kind, .int .i64 d.seq, .string d.name, .int .i64 d.length, .int .i64 d.group, .int .i64 d.row, .slice bo6 d.rows.1 bcap6, .slice none 0 0, .slice none 0 0] 148 119 119 := T1.st3 6 [.slice bo6 d.rows.1 bcap6] (c3' := [.int .i64 d.kind, .int .i64 d.seq, .string d.name, .int .i64 d.length, .int .i64 d.group, .int .i64 d.row, .slice bo6 d.rows.1 bcap6, .slice none 0 0, .slice none 0 0]) rfl
  clear T1 b1
  go_wp2_with fail
  refine (toBytes_is _ d.data hi _ (layBytes.rd_below R7.out V1.bel hhi) (Nat.le_trans hhi V1.bel.size) (by omega)).mono ?_
  rintro e w2 ⟨v2, rfl, o2, b2⟩
  have L2 := V1.lt
  obtain ⟨bo7, bcap7, hv⟩ := bytes_formT o2
  obtain rfl := one_eq hv
  clear hv
  have T2 : Three w w2 #[.int .i64 d.kind, .int .i64 d.seq, .string d.name, .int .i64 d.length, .int .i64 d.group, .int .i64 d.row, .slice ao6 d.rows.1 cap6, .slice ao7 d.data.1 cap7, .slice ao8 d.delta.1 cap8] #[.int .i64 0, .int .i64 0, .string ByteArray.empty, .int .i64 0, .int .i64 0, .int .i64 0, .slice none 0 0, .slice none 0 0, .slice none 0 0] #[.int .i64 d.kind, .int .i64 d.seq, .string d.name, .int .i64 d.length, .int .i64 d.group, .int .i64 d.row, .slice bo6 d.rows.1 bcap6, .slice none 0 0, .slice none 0 0] 148 119 119 := V1.call b2
  have O6x : OwnT layInts w2 (w.heap.size + 1 + 1 + 1) (w1.heap.size) d.rows [.slice bo6 d.rows.1 bcap6] := ((O6.out).set (show w.heap.size + 1 + 1 < _ by omega)).call b2
  clear O6
  have O6 : Hid (OwnT layInts w2 (w.heap.size + 1 + 1 + 1) (w1.heap.size) d.rows [.slice bo6 d.rows.1 bcap6]) := O6x
  clear O6x
  have O7 : Hid (OwnT layBytes w2 (w1.heap.size) (w2.heap.size) d.data [.slice bo7 d.data.1 bcap7]) := o2.weaken (by simp <;> omega) (Nat.le_refl _)
  clear o2
  have LT2 : w.heap.size + 1 + 1 + 1 ≤ w2.heap.size := T2.lt
  have S2 : w1.heap.size ≤ w2.heap.size := by
    have := b2.size
    simpa using this
  have x2_8 : w2.cell? ⟨w.heap.size, 8, none⟩ = some (.slice ao8 d.delta.1 cap8) := T2.b1.cell 8
  have y2_7 : w2.cell? ⟨w.heap.size + 1 + 1, 7, none⟩ = some (.slice none 0 0) := T2.b3.cell 7
  have yf2_7 : w2.frozen? ⟨w.heap.size + 1 + 1, 7, none⟩ = false := T2.b3.frozen 7
  have V2 : Three w (w2.setCell ⟨w.heap.size + 1 + 1, 7, none⟩ (.slice bo7 d.data.1 bcap7)) #[.int .i64 d.kind, .int .i64 d.seq, .string d.name, .int .i64 d.length, .int .i64 d.group, .int .i64 d.row, .slice ao6 d.rows.1 cap6, .slice ao7 d.data.1 cap7, .slice ao8 d.delta.1 cap8] #[.int .i64 0, .int .i64 0, .string ByteArray.empty, .int .i64 0, .int .i64 0, .int .i64 0, .slice none 0 0, .slice none 0 0, .slice none 0 0] #[.int .i64 d.kind, .int .i64 d.seq, .string d.name, .int .i64 d.length, .int .i64 d.group, .int .i64 d.row, .slice bo6 d.rows.1 bcap6, .slice bo7 d.data.1 bcap7, .slice none 0 0] 148 119 119 := T2.st3 7 [.slice bo7 d.data.1 bcap7] (c3' := [.int .i64 d.kind, .int .i64 d.seq, .string d.name, .int .i64 d.length, .int .i64 d.group, .int .i64 d.row, .slice bo6 d.rows.1 bcap6, .slice bo7 d.data.1 bcap7, .slice none 0 0]) rfl
  clear T2 b2
  go_wp2_with fail
  refine (toBytes_is _ d.delta hi _ (layBytes.rd_below R8.out V2.bel hhi) (Nat.le_trans hhi V2.bel.size) (by omega)).mono ?_
  rintro e w3 ⟨v3, rfl, o3, b3⟩
  have L3 := V2.lt
  obtain ⟨bo8, bcap8, hv⟩ := bytes_formT o3
  obtain rfl := one_eq hv
  clear hv
  have T3 : Three w w3 #[.int .i64 d.kind, .int .i64 d.seq, .string d.name, .int .i64 d.length, .int .i64 d.group, .int .i64 d.row, .slice ao6 d.rows.1 cap6, .slice ao7 d.data.1 cap7, .slice ao8 d.delta.1 cap8] #[.int .i64 0, .int .i64 0, .string ByteArray.empty, .int .i64 0, .int .i64 0, .int .i64 0, .slice none 0 0, .slice none 0 0, .slice none 0 0] #[.int .i64 d.kind, .int .i64 d.seq, .string d.name, .int .i64 d.length, .int .i64 d.group, .int .i64 d.row, .slice bo6 d.rows.1 bcap6, .slice bo7 d.data.1 bcap7, .slice none 0 0] 148 119 119 := V2.call b3
  have O6x : OwnT layInts w3 (w.heap.size + 1 + 1 + 1) (w1.heap.size) d.rows [.slice bo6 d.rows.1 bcap6] := ((O6.out).set (show w.heap.size + 1 + 1 < _ by omega)).call b3
  clear O6
  have O6 : Hid (OwnT layInts w3 (w.heap.size + 1 + 1 + 1) (w1.heap.size) d.rows [.slice bo6 d.rows.1 bcap6]) := O6x
  clear O6x
  have O7x : OwnT layBytes w3 (w1.heap.size) (w2.heap.size) d.data [.slice bo7 d.data.1 bcap7] := ((O7.out).set (show w.heap.size + 1 + 1 < _ by omega)).call b3
  clear O7
  have O7 : Hid (OwnT layBytes w3 (w1.heap.size) (w2.heap.size) d.data [.slice bo7 d.data.1 bcap7]) := O7x
  clear O7x
  have O8 : Hid (OwnT layBytes w3 (w2.heap.size) (w3.heap.size) d.delta [.slice bo8 d.delta.1 bcap8]) := o3.weaken (by simp <;> omega) (Nat.le_refl _)
  clear o3
  have LT3 : w.heap.size + 1 + 1 + 1 ≤ w3.heap.size := T3.lt
  have S3 : w2.heap.size ≤ w3.heap.size := by
    have := b3.size
    simpa using this
  have y3_0 : w3.cell? ⟨w.heap.size + 1 + 1, 0, none⟩ = some (.int .i64 d.kind) := T3.b3.cell 0
  have y3_1 : w3.cell? ⟨w.heap.size + 1 + 1, 1, none⟩ = some (.int .i64 d.seq) := T3.b3.cell 1
  have y3_2 : w3.cell? ⟨w.heap.size + 1 + 1, 2, none⟩ = some (.string d.name) := T3.b3.cell 2
  have y3_3 : w3.cell? ⟨w.heap.size + 1 + 1, 3, none⟩ = some (.int .i64 d.length) := T3.b3.cell 3
  have y3_4 : w3.cell? ⟨w.heap.size + 1 + 1, 4, none⟩ = some (.int .i64 d.group) := T3.b3.cell 4
  have y3_5 : w3.cell? ⟨w.heap.size + 1 + 1, 5, none⟩ = some (.int .i64 d.row) := T3.b3.cell 5
  have y3_6 : w3.cell? ⟨w.heap.size + 1 + 1, 6, none⟩ = some (.slice bo6 d.rows.1 bcap6) := T3.b3.cell 6
  have y3_7 : w3.cell? ⟨w.heap.size + 1 + 1, 7, none⟩ = some (.slice bo7 d.data.1 bcap7) := T3.b3.cell 7
  have y3_8 : w3.cell? ⟨w.heap.size + 1 + 1, 8, none⟩ = some (.slice none 0 0) := T3.b3.cell 8
  have yf3_8 : w3.frozen? ⟨w.heap.size + 1 + 1, 8, none⟩ = false := T3.b3.frozen 8
  have z3_0 : w3.cell? ⟨w.heap.size + 1, 0, none⟩ = some (.int .i64 0) := T3.b2.cell 0
  have zf3_0 : w3.frozen? ⟨w.heap.size + 1, 0, none⟩ = false := T3.b2.frozen 0
  have z3_1 : w3.cell? ⟨w.heap.size + 1, 1, none⟩ = some (.int .i64 0) := T3.b2.cell 1
  have zf3_1 : w3.frozen? ⟨w.heap.size + 1, 1, none⟩ = false := T3.b2.frozen 1
  have z3_2 : w3.cell? ⟨w.heap.size + 1, 2, none⟩ = some (.string ByteArray.empty) := T3.b2.cell 2
  have zf3_2 : w3.frozen? ⟨w.heap.size + 1, 2, none⟩ = false := T3.b2.frozen 2
  have z3_3 : w3.cell? ⟨w.heap.size + 1, 3, none⟩ = some (.int .i64 0) := T3.b2.cell 3
  have zf3_3 : w3.frozen? ⟨w.heap.size + 1, 3, none⟩ = false := T3.b2.frozen 3
  have z3_4 : w3.cell? ⟨w.heap.size + 1, 4, none⟩ = some (.int .i64 0) := T3.b2.cell 4
  have zf3_4 : w3.frozen? ⟨w.heap.size + 1, 4, none⟩ = false := T3.b2.frozen 4
  have z3_5 : w3.cell? ⟨w.heap.size + 1, 5, none⟩ = some (.int .i64 0) := T3.b2.cell 5
  have zf3_5 : w3.frozen? ⟨w.heap.size + 1, 5, none⟩ = false := T3.b2.frozen 5
  have z3_6 : w3.cell? ⟨w.heap.size + 1, 6, none⟩ = some (.slice none 0 0) := T3.b2.cell 6
  have zf3_6 : w3.frozen? ⟨w.heap.size + 1, 6, none⟩ = false := T3.b2.frozen 6
  have z3_7 : w3.cell? ⟨w.heap.size + 1, 7, none⟩ = some (.slice none 0 0) := T3.b2.cell 7
  have zf3_7 : w3.frozen? ⟨w.heap.size + 1, 7, none⟩ = false := T3.b2.frozen 7
  have z3_8 : w3.cell? ⟨w.heap.size + 1, 8, none⟩ = some (.slice none 0 0) := T3.b2.cell 8
  have zf3_8 : w3.frozen? ⟨w.heap.size + 1, 8, none⟩ = false := T3.b2.frozen 8
  have Bq : Hid (Below w.heap.size w w3) := T3.bel
  clear T3 b3
  go_wp2
  refine bodyPost_ret (v := .agg #[.int .i64 d.kind, .int .i64 d.seq, .string d.name, .int .i64 d.length, .int .i64 d.group, .int .i64 d.row, .slice bo6 d.rows.1 bcap6, .slice bo7 d.data.1 bcap7, .slice bo8 d.delta.1 bcap8]) (by simp [results, Tryz.results141, go_sem, y3_0, z3_0, y3_1, z3_1, y3_2, z3_2, y3_3, z3_3, y3_4, z3_4, y3_5, z3_5, y3_6, z3_6, y3_7, z3_7, y3_8, z3_8]) rfl ?_
  have F : OwnT layRec w3 (w.heap.size + 1 + 1 + 1) w3.heap.size d ([.int .i64 d.kind] ++ ([.int .i64 d.seq] ++ ([.string d.name] ++ ([.int .i64 d.length] ++ ([.int .i64 d.group] ++ ([.int .i64 d.row] ++ ([.slice bo6 d.rows.1 bcap6] ++ ([.slice bo7 d.data.1 bcap7] ++ [.slice bo8 d.delta.1 bcap8])))))))) := OwnT.conv (OwnT.pre (A := layI) (a := d.kind) (c := [.int .i64 d.kind]) ⟨rfl, Q0.out, rfl⟩ (OwnT.pre (A := layI) (a := d.seq) (c := [.int .i64 d.seq]) ⟨rfl, Q1.out, rfl⟩ (OwnT.pre (A := layS) (a := d.name) (c := [.string d.name]) ⟨rfl, Q2.out, rfl⟩ (OwnT.pre (A := layI) (a := d.length) (c := [.int .i64 d.length]) ⟨rfl, Q3.out, rfl⟩ (OwnT.pre (A := layI) (a := d.group) (c := [.int .i64 d.group]) ⟨rfl, Q4.out, rfl⟩ (OwnT.pre (A := layI) (a := d.row) (c := [.int .i64 d.row]) ⟨rfl, Q5.out, rfl⟩ (OwnT.two O6.out (OwnT.two O7.out (O8.out) (by omega) (by omega) (by omega)) (by omega) (by omega) (by omega))))))))
  exact ⟨[.int .i64 d.kind, .int .i64 d.seq, .string d.name, .int .i64 d.length, .int .i64 d.group, .int .i64 d.row, .slice bo6 d.rows.1 bcap6, .slice bo7 d.data.1 bcap7, .slice bo8 d.delta.1 bcap8], rfl, OwnT.fin F 8 0 [.slice bo8 d.delta.1 bcap8] [.int .i64 d.kind, .int .i64 d.seq, .string d.name, .int .i64 d.length, .int .i64 d.group, .int .i64 d.row, .slice bo6 d.rows.1 bcap6, .slice bo7 d.data.1 bcap7, .slice bo8 d.delta.1 bcap8] _ rfl, below_fin Bq.out 8 0 [.slice bo8 d.delta.1 bcap8] [.int .i64 d.kind, .int .i64 d.seq, .string d.name, .int .i64 d.length, .int .i64 d.group, .int .i64 d.row, .slice bo6 d.rows.1 bcap6, .slice bo7 d.data.1 bcap7, .slice bo8 d.delta.1 bcap8] _ rfl⟩
theorem info_RecS : (Tryz.prog.info? 119).map (fun i => (i.zero.map (·.cells), i.size, i.bytes)) = some (some #[.int .i64 0, .int .i64 0, .string ByteArray.empty, .int .i64 0, .int .i64 0, .int .i64 0, .slice none 0 0, .slice none 0 0, .slice none 0 0], 9, 128) := by kernel_rfl
set_option maxHeartbeats 4000000 in
theorem toRecS_is : ToS (layRec.slice 119) (szSl szRecD) 114 := fun v d hi w h hhi hn => by
  obtain ⟨n, x⟩ := d
  obtain ⟨ao, cap, hv, hm, hc⟩ := h
  cases hv
  have hn1 := szSl_n hn
  have hn2 : ∀ i, i < n → szRecD (x i) ≤ 1048576 := fun i hi => szSl_at hn hi
  simp only at hn1 hm hc
  clear hn
  go_enter Tryz.func114, Tryz.ntmps114
  go_wp2_with (at_make; refine wp_makeT layRec [.int .i64 0, .int .i64 0, .string ByteArray.empty, .int .i64 0, .int .i64 0, .int .i64 0, .slice none 0 0, .slice none 0 0, .slice none 0 0] _ 119 128 (by decide) rfl Tryz.underlying92 info_RecS x (fun _ => []) _ rfl _ _ rfl _ _ n rfl rfl rfl rfl (by omega) (by omega) ?_; intro w1 sp1 hb1)
  go_loopw [4] (fun i wr => ∃ k : Nat, k ≤ n ∧ i = .int .i64 k ∧ ∃ ce Ls, SlP layRec 119 wr w.heap.size w.heap.size n n k x ce Ls ∧ Below w.heap.size w wr) (fun i _ => n - (intOf i).toNat)
  case atStart => exact ⟨0, Nat.zero_le _, rfl, _, _, sp1, hb1⟩
  case round =>
    clear sp1 hb1
    obtain ⟨k, hk, rfl, ce, Ls, sp, hb⟩ := hrel
    by_cases hlt : k < n
    · obtain ⟨b, off, rfl, hblt, hel⟩ := hc (by omega)
      obtain ⟨ck, hrk, hcell⟩ := elem_rd (t := 0) hel hb hhi hblt hlt
      obtain ⟨ao6, cap6, ao7, cap7, ao8, cap8, rfl, -⟩ := Rec_rd hrk
      have c0 : wr.cell? ⟨b, off + k * 9, none⟩ = some (.int .i64 (x k).kind) := hcell 0 (by decide)
      have c1 : wr.cell? ⟨b, off + k * 9 + 1, none⟩ = some (.int .i64 (x k).seq) := hcell 1 (by decide)
      have c2 : wr.cell? ⟨b, off + k * 9 + 2, none⟩ = some (.string (x k).name) := hcell 2 (by decide)
      have c3 : wr.cell? ⟨b, off + k * 9 + 3, none⟩ = some (.int .i64 (x k).length) := hcell 3 (by decide)
      have c4 : wr.cell? ⟨b, off + k * 9 + 4, none⟩ = some (.int .i64 (x k).group) := hcell 4 (by decide)
      have c5 : wr.cell? ⟨b, off + k * 9 + 5, none⟩ = some (.int .i64 (x k).row) := hcell 5 (by decide)
      have c6 : wr.cell? ⟨b, off + k * 9 + 6, none⟩ = some (.slice ao6 (x k).rows.1 cap6) := hcell 6 (by decide)
      have c7 : wr.cell? ⟨b, off + k * 9 + 7, none⟩ = some (.slice ao7 (x k).data.1 cap7) := hcell 7 (by decide)
      have c8 : wr.cell? ⟨b, off + k * 9 + 8, none⟩ = some (.slice ao8 (x k).delta.1 cap8) := hcell 8 (by decide)
      clear hc hel hcell
      go_wp2_with fail
      refine (toRec_is _ (x k) hi wr hrk (Nat.le_trans hhi hb.size) (hn2 k hlt)).mono ?_
      rintro e w2 ⟨cs', rfl, o2, hb2⟩
      obtain ⟨bao6, bcap6, bao7, bcap7, bao8, bcap8, rfl⟩ := Rec_cells o2
      obtain ⟨z0, s0⟩ := sp.some hb2 hlt (show 0 < layRec.sz by decide)
      have s0 : w2.cell? ⟨w.heap.size, k * 9, none⟩ = some z0 := s0
      have sf0 := (sp.below hb2).frozen (k * 9)
      obtain ⟨z1, s1⟩ := sp.some hb2 hlt (show 1 < layRec.sz by decide)
      have s1 : w2.cell? ⟨w.heap.size, k * 9 + 1, none⟩ = some z1 := s1
      have sf1 := (sp.below hb2).frozen (k * 9 + 1)
      obtain ⟨z2, s2⟩ := sp.some hb2 hlt (show 2 < layRec.sz by decide)
      have s2 : w2.cell? ⟨w.heap.size, k * 9 + 2, none⟩ = some z2 := s2
      have sf2 := (sp.below hb2).frozen (k * 9 + 2)
      obtain ⟨z3, s3⟩ := sp.some hb2 hlt (show 3 < layRec.sz by decide)
      have s3 : w2.cell? ⟨w.heap.size, k * 9 + 3, none⟩ = some z3 := s3
      have sf3 := (sp.below hb2).frozen (k * 9 + 3)
      obtain ⟨z4, s4⟩ := sp.some hb2 hlt (show 4 < layRec.sz by decide)
      have s4 : w2.cell? ⟨w.heap.size, k * 9 + 4, none⟩ = some z4 := s4
      have sf4 := (sp.below hb2).frozen (k * 9 + 4)
      obtain ⟨z5, s5⟩ := sp.some hb2 hlt (show 5 < layRec.sz by decide)
      have s5 : w2.cell? ⟨w.heap.size, k * 9 + 5, none⟩ = some z5 := s5
      have sf5 := (sp.below hb2).frozen (k * 9 + 5)
      obtain ⟨z6, s6⟩ := sp.some hb2 hlt (show 6 < layRec.sz by decide)
      have s6 : w2.cell? ⟨w.heap.size, k * 9 + 6, none⟩ = some z6 := s6
      have sf6 := (sp.below hb2).frozen (k * 9 + 6)
      obtain ⟨z7, s7⟩ := sp.some hb2 hlt (show 7 < layRec.sz by decide)
      have s7 : w2.cell? ⟨w.heap.size, k * 9 + 7, none⟩ = some z7 := s7
      have sf7 := (sp.below hb2).frozen (k * 9 + 7)
      obtain ⟨z8, s8⟩ := sp.some hb2 hlt (show 8 < layRec.sz by decide)
      have s8 : w2.cell? ⟨w.heap.size, k * 9 + 8, none⟩ = some z8 := s8
      have sf8 := (sp.below hb2).frozen (k * 9 + 8)
      have N := sp.next hb2 hlt o2 hb.size
      have N2 : Below w.heap.size w (stN w2 w.heap.size (k * layRec.sz) [.int .i64 (x k).kind, .int .i64 (x k).seq, .string (x k).name, .int .i64 (x k).length, .int .i64 (x k).group, .int .i64 (x k).row, .slice bao6 (x k).rows.1 bcap6, .slice bao7 (x k).data.1 bcap7, .slice bao8 (x k).delta.1 bcap8]) := (hb.trans (hb2.mono hb.size)).trans (stN_below (Nat.le_refl _) _ _)
      clear o2 hb2 sp hb
      go_wp2_with fail
      go_roundw
      case rel =>
        obtain ⟨ce', Ls', N⟩ := N
        exact ⟨k + 1, by omega, by go_num, ce', Ls', N, N2⟩
      case measure => simp [intOf]; omega
    · obtain rfl : k = n := by omega
      go_wp2
      go_ret
      exact ⟨_, rfl, sp.done (Nat.le_refl _), hb⟩
set_option maxHeartbeats 8000000 in
set_option maxRecDepth 20000 in
theorem toTape_is : ToV layTape szTapeD 76 := fun cs d hi w r hhi hn => by
  obtain ⟨ao1, cap1, rfl, h1⟩ := Tape_rd r
  clear r
  unfold szTapeD at hn
  have R1 : Hid ((layRec.slice 119).rd w hi d.recs [.slice ao1 d.recs.1 cap1]) := h1
  clear h1
  go_enter Tryz.func76, Tryz.ntmps76
  go_wp2_with fail
  have T0 := three_newb w #[.bool d.wiped, .slice ao1 d.recs.1 cap1] #[.bool false, .slice none 0 0] #[.bool d.wiped, .slice none 0 0] 101 94 94
  refine (toRecS_is _ d.recs hi _ ((layRec.slice 119).rd_below R1.out T0.bel hhi) (Nat.le_trans hhi T0.bel.size) (by omega)).mono ?_
  rintro e w1 ⟨v1, rfl, o1, b1⟩
  have L1 := T0.lt
  obtain ⟨bo1, bcap1, hv⟩ := sl_formT o1
  obtain rfl := one_eq hv
  clear hv
  have T1 : Three w w1 #[.bool d.wiped, .slice ao1 d.recs.1 cap1] #[.bool false, .slice none 0 0] #[.bool d.wiped, .slice none 0 0] 101 94 94 := T0.call b1
  have O1 : Hid (OwnT (layRec.slice 119) w1 (w.heap.size + 1 + 1 + 1) (w1.heap.size) d.recs [.slice bo1 d.recs.1 bcap1]) := o1.weaken (by simp <;> omega) (Nat.le_refl _)
  clear o1
  have LT1 : w.heap.size + 1 + 1 + 1 ≤ w1.heap.size := T1.lt
  have y1_0 : w1.cell? ⟨w.heap.size + 1 + 1, 0, none⟩ = some (.bool d.wiped) := T1.b3.cell 0
  have y1_1 : w1.cell? ⟨w.heap.size + 1 + 1, 1, none⟩ = some (.slice none 0 0) := T1.b3.cell 1
  have yf1_1 : w1.frozen? ⟨w.heap.size + 1 + 1, 1, none⟩ = false := T1.b3.frozen 1
  have z1_0 : w1.cell? ⟨w.heap.size + 1, 0, none⟩ = some (.bool false) := T1.b2.cell 0
  have zf1_0 : w1.frozen? ⟨w.heap.size + 1, 0, none⟩ = false := T1.b2.frozen 0
  have z1_1 : w1.cell? ⟨w.heap.size + 1, 1, none⟩ = some (.slice none 0 0) := T1.b2.cell 1
  have zf1_1 : w1.frozen? ⟨w.heap.size + 1, 1, none⟩ = false := T1.b2.frozen 1
  have Bq : Hid (Below w.heap.size w w1) := T1.bel
  clear T1 b1
  go_wp2
  refine bodyPost_ret (v := .agg #[.bool d.wiped, .slice bo1 d.recs.1 bcap1]) (by simp [results, Tryz.results76, go_sem, y1_0, z1_0, y1_1, z1_1]) rfl ?_
  have F : OwnT layTape w1 (w.heap.size + 1 + 1 + 1) w1.heap.size d ([.bool d.wiped] ++ [.slice bo1 d.recs.1 bcap1]) := OwnT.conv (OwnT.pre (A := layB) (a := d.wiped) (c := [.bool d.wiped]) ⟨rfl, trivial, rfl⟩ (O1.out))
  exact ⟨[.bool d.wiped, .slice bo1 d.recs.1 bcap1], rfl, OwnT.fin F 1 0 [.slice bo1 d.recs.1 bcap1] [.bool d.wiped, .slice bo1 d.recs.1 bcap1] _ rfl, below_fin Bq.out 1 0 [.slice bo1 d.recs.1 bcap1] [.bool d.wiped, .slice bo1 d.recs.1 bcap1] _ rfl⟩
theorem info_TapeS : (Tryz.prog.info? 94).map (fun i => (i.zero.map (·.cells), i.size, i.bytes)) = some (some #[.bool false, .slice none 0 0], 2, 32) := by kernel_rfl
set_option maxHeartbeats 4000000 in
theorem toTapeS_is : ToS (layTape.slice 94) (szSl szTapeD) 42 := fun v d hi w h hhi hn => by
  obtain ⟨n, x⟩ := d
  obtain ⟨ao, cap, hv, hm, hc⟩ := h
  cases hv
  have hn1 := szSl_n hn
  have hn2 : ∀ i, i < n → szTapeD (x i) ≤ 1048576 := fun i hi => szSl_at hn hi
  simp only at hn1 hm hc
  clear hn
  go_enter Tryz.func42, Tryz.ntmps42
  go_wp2_with (at_make; refine wp_makeT layTape [.bool false, .slice none 0 0] _ 94 32 (by decide) rfl Tryz.underlying32 info_TapeS x (fun _ => []) _ rfl _ _ rfl _ _ n rfl rfl rfl rfl (by omega) (by omega) ?_; intro w1 sp1 hb1)
  go_loopw [4] (fun i wr => ∃ k : Nat, k ≤ n ∧ i = .int .i64 k ∧ ∃ ce Ls, SlP layTape 94 wr w.heap.size w.heap.size n n k x ce Ls ∧ Below w.heap.size w wr) (fun i _ => n - (intOf i).toNat)
  case atStart => exact ⟨0, Nat.zero_le _, rfl, _, _, sp1, hb1⟩
  case round =>
    clear sp1 hb1
    obtain ⟨k, hk, rfl, ce, Ls, sp, hb⟩ := hrel
    by_cases hlt : k < n
    · obtain ⟨b, off, rfl, hblt, hel⟩ := hc (by omega)
      obtain ⟨ck, hrk, hcell⟩ := elem_rd (t := 0) hel hb hhi hblt hlt
      obtain ⟨ao1, cap1, rfl, -⟩ := Tape_rd hrk
      have c0 : wr.cell? ⟨b, off + k * 2, none⟩ = some (.bool (x k).wiped) := hcell 0 (by decide)
      have c1 : wr.cell? ⟨b, off + k * 2 + 1, none⟩ = some (.slice ao1 (x k).recs.1 cap1) := hcell 1 (by decide)
      clear hc hel hcell
      go_wp2_with fail
      refine (toTape_is _ (x k) hi wr hrk (Nat.le_trans hhi hb.size) (hn2 k hlt)).mono ?_
      rintro e w2 ⟨cs', rfl, o2, hb2⟩
      obtain ⟨bao1, bcap1, rfl⟩ := Tape_cells o2
      obtain ⟨z0, s0⟩ := sp.some hb2 hlt (show 0 < layTape.sz by decide)
      have s0 : w2.cell? ⟨w.heap.size, k * 2, none⟩ = some z0 := s0
      have sf0 := (sp.below hb2).frozen (k * 2)
      obtain ⟨z1, s1⟩ := sp.some hb2 hlt (show 1 < layTape.sz by decide)
      have s1 : w2.cell? ⟨w.heap.size, k * 2 + 1, none⟩ = some z1 := s1
      have sf1 := (sp.below hb2).frozen (k * 2 + 1)
      have N := sp.next hb2 hlt o2 hb.size
      have N2 : Below w.heap.size w (stN w2 w.heap.size (k * layTape.sz) [.bool (x k).wiped, .slice bao1 (x k).recs.1 bcap1]) := (hb.trans (hb2.mono hb.size)).trans (stN_below (Nat.le_refl _) _ _)
      clear o2 hb2 sp hb
      go_wp2_with fail
      go_roundw
      case rel =>
        obtain ⟨ce', Ls', N⟩ := N
        exact ⟨k + 1, by omega, by go_num, ce', Ls', N, N2⟩
      case measure => simp [intOf]; omega
    · obtain rfl : k = n := by omega
      go_wp2
      go_ret
      exact ⟨_, rfl, sp.done (Nat.le_refl _), hb⟩
end Go.Proofs.YtbmfndjglndnlaaGreat

namespace Go.Proofs.YtbmfndjglndnlaaGreat
open Go.RowKit F256
set_option linter.unusedVariables false
set_option linter.unusedSimpArgs false
set_option maxHeartbeats 8000000 in
set_option maxRecDepth 20000 in
theorem toWorld_is : ToV layWorld szWorldD 11 := fun cs d hi w r hhi hn => by
  obtain ⟨ao1, cap1, ao2, cap2, ao3, cap3, rfl, h1, h2, h3, k0, k4, k5⟩ := World_rd r
  clear r
  unfold szWorldD at hn
  have R1 : Hid (((layDrive.slice 84).slice 85).rd w hi d.groups [.slice ao1 d.groups.1 cap1]) := h1
  have R2 : Hid (layInts.rd w hi d.on [.slice ao2 d.on.1 cap2]) := h2
  have R3 : Hid ((layTape.slice 94).rd w hi d.tapes [.slice ao3 d.tapes.1 cap3]) := h3
  clear h1 h2 h3
  have Q0 : Hid ((∀ i, -9223372036854775808 ≤ d.shape i ∧ d.shape i ≤ 9223372036854775807)) := k0
  have Q4 : Hid ((-9223372036854775808 ≤ d.writes ∧ d.writes ≤ 9223372036854775807)) := k4
  have Q5 : Hid ((-9223372036854775808 ≤ d.stop ∧ d.stop ≤ 9223372036854775807)) := k5
  clear k0 k4 k5
  go_enter Tryz.func11, Tryz.ntmps11
  go_wp2_with fail
  have T0 := three_newb w #[.int .i64 (d.shape 0), .int .i64 (d.shape 1), .int .i64 (d.shape 2), .int .i64 (d.shape 3), .int .i64 (d.shape 4), .int .i64 (d.shape 5), .int .i64 (d.shape 6), .int .i64 (d.shape 7), .int .i64 (d.shape 8), .slice ao1 d.groups.1 cap1, .slice ao2 d.on.1 cap2, .slice ao3 d.tapes.1 cap3, .int .i64 d.writes, .int .i64 d.stop, .bool d.down] #[.int .i64 0, .int .i64 0, .int .i64 0, .int .i64 0, .int .i64 0, .int .i64 0, .int .i64 0, .int .i64 0, .int .i64 0, .slice none 0 0, .slice none 0 0, .slice none 0 0, .int .i64 0, .int .i64 0, .bool false] #[.int .i64 0, .int .i64 0, .int .i64 0, .int .i64 0, .int .i64 0, .int .i64 0, .int .i64 0, .int .i64 0, .int .i64 0, .slice none 0 0, .slice none 0 0, .slice none 0 0, .int .i64 0, .int .i64 0, .bool false] 28 34 34
  refine (toShape_any d.shape _).mono ?_
  rintro e w1 ⟨rfl, b1⟩
  unfold shapeV
  have L1 := T0.lt
  have T1 : Three w w1 #[.int .i64 (d.shape 0), .int .i64 (d.shape 1), .int .i64 (d.shape 2), .int .i64 (d.shape 3), .int .i64 (d.shape 4), .int .i64 (d.shape 5), .int .i64 (d.shape 6), .int .i64 (d.shape 7), .int .i64 (d.shape 8), .slice ao1 d.groups.1 cap1, .slice ao2 d.on.1 cap2, .slice ao3 d.tapes.1 cap3, .int .i64 d.writes, .int .i64 d.stop, .bool d.down] #[.int .i64 0, .int .i64 0, .int .i64 0, .int .i64 0, .int .i64 0, .int .i64 0, .int .i64 0, .int .i64 0, .int .i64 0, .slice none 0 0, .slice none 0 0, .slice none 0 0, .int .i64 0, .int .i64 0, .bool false] #[.int .i64 0, .int .i64 0, .int .i64 0, .int .i64 0, .int .i64 0, .int .i64 0, .int .i64 0, .int .i64 0, .int .i64 0, .slice none 0 0, .slice none 0 0, .slice none 0 0, .int .i64 0, .int .i64 0, .bool false] 28 34 34 := T0.call b1
  have LT1 : w.heap.size + 1 + 1 + 1 ≤ w1.heap.size := T1.lt
  have x1_9 : w1.cell? ⟨w.heap.size, 9, none⟩ = some (.slice ao1 d.groups.1 cap1) := T1.b1.cell 9
  have y1_0 : w1.cell? ⟨w.heap.size + 1 + 1, 0, none⟩ = some (.int .i64 0) := T1.b3.cell 0
  have y1_1 : w1.cell? ⟨w.heap.size + 1 + 1, 1, none⟩ = some (.int .i64 0) := T1.b3.cell 1
  have y1_2 : w1.cell? ⟨w.heap.size + 1 + 1, 2, none⟩ = some (.int .i64 0) := T1.b3.cell 2
  have y1_3 : w1.cell? ⟨w.heap.size + 1 + 1, 3, none⟩ = some (.int .i64 0) := T1.b3.cell 3
  have y1_4 : w1.cell? ⟨w.heap.size + 1 + 1, 4, none⟩ = some (.int .i64 0) := T1.b3.cell 4
  have y1_5 : w1.cell? ⟨w.heap.size + 1 + 1, 5, none⟩ = some (.int .i64 0) := T1.b3.cell 5
  have y1_6 : w1.cell? ⟨w.heap.size + 1 + 1, 6, none⟩ = some (.int .i64 0) := T1.b3.cell 6
  have y1_7 : w1.cell? ⟨w.heap.size + 1 + 1, 7, none⟩ = some (.int .i64 0) := T1.b3.cell 7
  have y1_8 : w1.cell? ⟨w.heap.size + 1 + 1, 8, none⟩ = some (.int .i64 0) := T1.b3.cell 8
  have yf1_0 : w1.frozen? ⟨w.heap.size + 1 + 1, 0, none⟩ = false := T1.b3.frozen 0
  have yf1_1 : w1.frozen? ⟨w.heap.size + 1 + 1, 1, none⟩ = false := T1.b3.frozen 1
  have yf1_2 : w1.frozen? ⟨w.heap.size + 1 + 1, 2, none⟩ = false := T1.b3.frozen 2
  have yf1_3 : w1.frozen? ⟨w.heap.size + 1 + 1, 3, none⟩ = false := T1.b3.frozen 3
  have yf1_4 : w1.frozen? ⟨w.heap.size + 1 + 1, 4, none⟩ = false := T1.b3.frozen 4
  have yf1_5 : w1.frozen? ⟨w.heap.size + 1 + 1, 5, none⟩ = false := T1.b3.frozen 5
  have yf1_6 : w1.frozen? ⟨w.heap.size + 1 + 1, 6, none⟩ = false := T1.b3.frozen 6
  have yf1_7 : w1.frozen? ⟨w.heap.size + 1 + 1, 7, none⟩ = false := T1.b3.frozen 7
  have yf1_8 : w1.frozen? ⟨w.heap.size + 1 + 1, 8, none⟩ = false := T1.b3.frozen 8
  have V1 : Three w (((((((((w1.setCell ⟨w.heap.size + 1 + 1, 0, none⟩ (.int .i64 (d.shape 0))).setCell ⟨w.heap.size + 1 + 1, 1, none⟩ (.int .i64 (d.shape 1))).setCell ⟨w.heap.size + 1 + 1, 2, none⟩ (.int .i64 (d.shape 2))).setCell ⟨w.heap.size + 1 + 1, 3, none⟩ (.int .i64 (d.shape 3))).setCell ⟨w.heap.size + 1 + 1, 4, none⟩ (.int .i64 (d.shape 4))).setCell ⟨w.heap.size + 1 + 1, 5, none⟩ (.int .i64 (d.shape 5))).setCell ⟨w.heap.size + 1 + 1, 6, none⟩ (.int .i64 (d.shape 6))).setCell ⟨w.heap.size + 1 + 1, 7, none⟩ (.int .i64 (d.shape 7))).setCell ⟨w.heap.size + 1 + 1, 8, none⟩ (.int .i64 (d.shape 8))) #[.int .i64 (d.shape 0), .int .i64 (d.shape 1), .int .i64 (d.shape 2), .int .i64 (d.shape 3), .int .i64 (d.shape 4), .int .i64 (d.shape 5), .int .i64 (d.shape 6), .int .i64 (d.shape 7), .int .i64 (d.shape 8), .slice ao1 d.groups.1 cap1, .slice ao2 d.on.1 cap2, .slice ao3 d.tapes.1 cap3, .int .i64 d.writes, .int .i64 d.stop, .bool d.down] #[.int .i64 0, .int .i64 0, .int .i64 0, .int .i64 0, .int .i64 0, .int .i64 0, .int .i64 0, .int .i64 0, .int .i64 0, .slice none 0 0, .slice none 0 0, .slice none 0 0, .int .i64 0, .int .i64 0, .bool false] #[.int .i64 (d.shape 0), .int .i64 (d.shape 1), .int .i64 (d.shape 2), .int .i64 (d.shape 3), .int .i64 (d.shape 4), .int .i64 (d.shape 5), .int .i64 (d.shape 6), .int .i64 (d.shape 7), .int .i64 (d.shape 8), .slice none 0 0, .slice none 0 0, .slice none 0 0, .int .i64 0, .int .i64 0, .bool false] 28 34 34 := T1.st3 0 [.int .i64 (d.shape 0), .int .i64 (d.shape 1), .int .i64 (d.shape 2), .int .i64 (d.shape 3), .int .i64 (d.shape 4), .int .i64 (d.shape 5), .int .i64 (d.shape 6), .int .i64 (d.shape 7), .int .i64 (d.shape 8)] (c3' := [.int .i64 (d.shape 0), .int .i64 (d.shape 1), .int .i64 (d.shape 2), .int .i64 (d.shape 3), .int .i64 (d.shape 4), .int .i64 (d.shape 5), .int .i64 (d.shape 6), .int .i64 (d.shape 7), .int .i64 (d.shape 8), .slice none 0 0, .slice none 0 0, .slice none 0 0, .int .i64 0, .int .i64 0, .bool false]) rfl
  clear T1 b1
  go_wp2_with fail
  refine (toDriveSS_is _ d.groups hi _ (((layDrive.slice 84).slice 85).rd_below R1.out V1.bel hhi) (Nat.le_trans hhi V1.bel.size) (by omega)).mono ?_
  rintro e w2 ⟨v2, rfl, o2, b2⟩
  have L2 := V1.lt
  obtain ⟨bo1, bcap1, hv⟩ := sl_formT o2
  obtain rfl := one_eq hv
  clear hv
  have T2 : Three w w2 #[.int .i64 (d.shape 0), .int .i64 (d.shape 1), .int .i64 (d.shape 2), .int .i64 (d.shape 3), .int .i64 (d.shape 4), .int .i64 (d.shape 5), .int .i64 (d.shape 6), .int .i64 (d.shape 7), .int .i64 (d.shape 8), .slice ao1 d.groups.1 cap1, .slice ao2 d.on.1 cap2, .slice ao3 d.tapes.1 cap3, .int .i64 d.writes, .int .i64 d.stop, .bool d.down] #[.int .i64 0, .int .i64 0, .int .i64 0, .int .i64 0, .int .i64 0, .int .i64 0, .int .i64 0, .int .i64 0, .int .i64 0, .slice none 0 0, .slice none 0 0, .slice none 0 0, .int .i64 0, .int .i64 0, .bool false] #[.int .i64 (d.shape 0), .int .i64 (d.shape 1), .int .i64 (d.shape 2), .int .i64 (d.shape 3), .int .i64 (d.shape 4), .int .i64 (d.shape 5), .int .i64 (d.shape 6), .int .i64 (d.shape 7), .int .i64 (d.shape 8), .slice none 0 0, .slice none 0 0, .slice none 0 0, .int .i64 0, .int .i64 0, .bool false] 28 34 34 := V1.call b2
  have O1 : Hid (OwnT ((layDrive.slice 84).slice 85) w2 (w.heap.size + 1 + 1 + 1) (w2.heap.size) d.groups [.slice bo1 d.groups.1 bcap1]) := o2.weaken (by simp <;> omega) (Nat.le_refl _)
  clear o2
  have LT2 : w.heap.size + 1 + 1 + 1 ≤ w2.heap.size := T2.lt
  have S2 : w1.heap.size ≤ w2.heap.size := by
    have := b2.size
    simpa using this
  have x2_10 : w2.cell? ⟨w.heap.size, 10, none⟩ = some (.slice ao2 d.on.1 cap2) := T2.b1.cell 10
  have y2_9 : w2.cell? ⟨w.heap.size + 1 + 1, 9, none⟩ = some (.slice none 0 0) := T2.b3.cell 9
  have yf2_9 : w2.frozen? ⟨w.heap.size + 1 + 1, 9, none⟩ = false := T2.b3.frozen 9
  have V2 : Three w (w2.setCell ⟨w.heap.size + 1 + 1, 9, none⟩ (.slice bo1 d.groups.1 bcap1)) #[.int .i64 (d.shape 0), .int .i64 (d.shape 1), .int .i64 (d.shape 2), .int .i64 (d.shape 3), .int .i64 (d.shape 4), .int .i64 (d.shape 5), .int .i64 (d.shape 6), .int .i64 (d.shape 7), .int .i64 (d.shape 8), .slice ao1 d.groups.1 cap1, .slice ao2 d.on.1 cap2, .slice ao3 d.tapes.1 cap3, .int .i64 d.writes, .int .i64 d.stop, .bool d.down] #[.int .i64 0, .int .i64 0, .int .i64 0, .int .i64 0, .int .i64 0, .int .i64 0, .int .i64 0, .int .i64 0, .int .i64 0, .slice none 0 0, .slice none 0 0, .slice none 0 0, .int .i64 0, .int .i64 0, .bool false] #[.int .i64 (d.shape 0), .int .i64 (d.shape 1), .int .i64 (d.shape 2), .int .i64 (d.shape 3), .int .i64 (d.shape 4), .int .i64 (d.shape 5), .int .i64 (d.shape 6), .int .i64 (d.shape 7), .int .i64 (d.shape 8), .slice bo1 d.groups.1 bcap1, .slice none 0 0, .slice none 0 0, .int .i64 0, .int .i64 0, .bool false] 28 34 34 := T2.st3 9 [.slice bo1 d.groups.1 bcap1] (c3' := [.int .i64 (d.shape 0), .int .i64 (d.shape 1), .int .i64 (d.shape 2), .int .i64 (d.shape 3), .int .i64 (d.shape 4), .int .i64 (d.shape 5), .int .i64 (d.shape 6), .int .i64 (d.shape 7), .int .i64 (d.shape 8), .slice bo1 d.groups.1 bcap1, .slice none 0 0, .slice none 0 0, .int .i64 0, .int .i64 0, .bool false]) rfl
  clear T2 b2
  go_wp2_with fail
  refine (toInts_is _ d.on hi _ (layInts.rd_below R2.out V2.bel hhi) (Nat.le_trans hhi V2.bel.size) (by omega)).mono ?_
  rintro e w3 ⟨v3, rfl, o3, b3⟩
  have L3 := V2.lt
  obtain ⟨bo2, bcap2, hv⟩ := ints_formT o3
  obtain rfl := one_eq hv
  clear hv
  have T3 : Three w w3 #[.int .i64 (d.shape 0), .int .i64 (d.shape 1), .int .i64 (d.shape 2), .int .i64 (d.shape 3), .int .i64 (d.shape 4), .int .i64 (d.shape 5), .int .i64 (d.shape 6), .int .i64 (d.shape 7), .int .i64 (d.shape 8), .slice ao1 d.groups.1 cap1, .slice ao2 d.on.1 cap2, .slice ao3 d.tapes.1 cap3, .int .i64 d.writes, .int .i64 d.stop, .bool d.down] #[.int .i64 0, .int .i64 0, .int .i64 0, .int .i64 0, .int .i64 0, .int .i64 0, .int .i64 0, .int .i64 0, .int .i64 0, .slice none 0 0, .slice none 0 0, .slice none 0 0, .int .i64 0, .int .i64 0, .bool false] #[.int .i64 (d.shape 0), .int .i64 (d.shape 1), .int .i64 (d.shape 2), .int .i64 (d.shape 3), .int .i64 (d.shape 4), .int .i64 (d.shape 5), .int .i64 (d.shape 6), .int .i64 (d.shape 7), .int .i64 (d.shape 8), .slice bo1 d.groups.1 bcap1, .slice none 0 0, .slice none 0 0, .int .i64 0, .int .i64 0, .bool false] 28 34 34 := V2.call b3
  have O1x : OwnT ((layDrive.slice 84).slice 85) w3 (w.heap.size + 1 + 1 + 1) (w2.heap.size) d.groups [.slice bo1 d.groups.1 bcap1] := ((O1.out).set (show w.heap.size + 1 + 1 < _ by omega)).call b3
  clear O1
  have O1 : Hid (OwnT ((layDrive.slice 84).slice 85) w3 (w.heap.size + 1 + 1 + 1) (w2.heap.size) d.groups [.slice bo1 d.groups.1 bcap1]) := O1x
  clear O1x
  have O2 : Hid (OwnT layInts w3 (w2.heap.size) (w3.heap.size) d.on [.slice bo2 d.on.1 bcap2]) := o3.weaken (by simp <;> omega) (Nat.le_refl _)
  clear o3
  have LT3 : w.heap.size + 1 + 1 + 1 ≤ w3.heap.size := T3.lt
  have S3 : w2.heap.size ≤ w3.heap.size := by
    have := b3.size
    simpa using this
  have x3_11 : w3.cell? ⟨w.heap.size, 11, none⟩ = some (.slice ao3 d.tapes.1 cap3) := T3.b1.cell 11
  have y3_10 : w3.cell? ⟨w.heap.size + 1 + 1, 10, none⟩ = some (.slice none 0 0) := T3.b3.cell 10
  have yf3_10 : w3.frozen? ⟨w.heap.size + 1 + 1, 10, none⟩ = false := T3.b3.frozen 10
  have V3 : Three w (w3.setCell ⟨w.heap.size + 1 + 1, 10, none⟩ (.slice bo2 d.on.1 bcap2)) #[.int .i64 (d.shape 0), .int .i64 (d.shape 1), .int .i64 (d.shape 2), .int .i64 (d.shape 3), .int .i64 (d.shape 4), .int .i64 (d.shape 5), .int .i64 (d.shape 6), .int .i64 (d.shape 7), .int .i64 (d.shape 8), .slice ao1 d.groups.1 cap1, .slice ao2 d.on.1 cap2, .slice ao3 d.tapes.1 cap3, .int .i64 d.writes, .int .i64 d.stop, .bool d.down] #[.int .i64 0, .int .i64 0, .int .i64 0, .int .i64 0, .int .i64 0, .int .i64 0, .int .i64 0, .int .i64 0, .int .i64 0, .slice none 0 0, .slice none 0 0, .slice none 0 0, .int .i64 0, .int .i64 0, .bool false] #[.int .i64 (d.shape 0), .int .i64 (d.shape 1), .int .i64 (d.shape 2), .int .i64 (d.shape 3), .int .i64 (d.shape 4), .int .i64 (d.shape 5), .int .i64 (d.shape 6), .int .i64 (d.shape 7), .int .i64 (d.shape 8), .slice bo1 d.groups.1 bcap1, .slice bo2 d.on.1 bcap2, .slice none 0 0, .int .i64 0, .int .i64 0, .bool false] 28 34 34 := T3.st3 10 [.slice bo2 d.on.1 bcap2] (c3' := [.int .i64 (d.shape 0), .int .i64 (d.shape 1), .int .i64 (d.shape 2), .int .i64 (d.shape 3), .int .i64 (d.shape 4), .int .i64 (d.shape 5), .int .i64 (d.shape 6), .int .i64 (d.shape 7), .int .i64 (d.shape 8), .slice bo1 d.groups.1 bcap1, .slice bo2 d.on.1 bcap2, .slice none 0 0, .int .i64 0, .int .i64 0, .bool false]) rfl
  clear T3 b3
  go_wp2_with fail
  refine (toTapeS_is _ d.tapes hi _ ((layTape.slice 94).rd_below R3.out V3.bel hhi) (Nat.le_trans hhi V3.bel.size) (by omega)).mono ?_
  rintro e w4 ⟨v4, rfl, o4, b4⟩
  have L4 := V3.lt
  obtain ⟨bo3, bcap3, hv⟩ := sl_formT o4
  obtain rfl := one_eq hv
  clear hv
  have T4 : Three w w4 #[.int .i64 (d.shape 0), .int .i64 (d.shape 1), .int .i64 (d.shape 2), .int .i64 (d.shape 3), .int .i64 (d.shape 4), .int .i64 (d.shape 5), .int .i64 (d.shape 6), .int .i64 (d.shape 7), .int .i64 (d.shape 8), .slice ao1 d.groups.1 cap1, .slice ao2 d.on.1 cap2, .slice ao3 d.tapes.1 cap3, .int .i64 d.writes, .int .i64 d.stop, .bool d.down] #[.int .i64 0, .int .i64 0, .int .i64 0, .int .i64 0, .int .i64 0, .int .i64 0, .int .i64 0, .int .i64 0, .int .i64 0, .slice none 0 0, .slice none 0 0, .slice none 0 0, .int .i64 0, .int .i64 0, .bool false] #[.int .i64 (d.shape 0), .int .i64 (d.shape 1), .int .i64 (d.shape 2), .int .i64 (d.shape 3), .int .i64 (d.shape 4), .int .i64 (d.shape 5), .int .i64 (d.shape 6), .int .i64 (d.shape 7), .int .i64 (d.shape 8), .slice bo1 d.groups.1 bcap1, .slice bo2 d.on.1 bcap2, .slice none 0 0, .int .i64 0, .int .i64 0, .bool false] 28 34 34 := V3.call b4
  have O1x : OwnT ((layDrive.slice 84).slice 85) w4 (w.heap.size + 1 + 1 + 1) (w2.heap.size) d.groups [.slice bo1 d.groups.1 bcap1] := ((O1.out).set (show w.heap.size + 1 + 1 < _ by omega)).call b4
  clear O1
  have O1 : Hid (OwnT ((layDrive.slice 84).slice 85) w4 (w.heap.size + 1 + 1 + 1) (w2.heap.size) d.groups [.slice bo1 d.groups.1 bcap1]) := O1x
  clear O1x
  have O2x : OwnT layInts w4 (w2.heap.size) (w3.heap.size) d.on [.slice bo2 d.on.1 bcap2] := ((O2.out).set (show w.heap.size + 1 + 1 < _ by omega)).call b4
  clear O2
  have O2 : Hid (OwnT layInts w4 (w2.heap.size) (w3.heap.size) d.on [.slice bo2 d.on.1 bcap2]) := O2x
  clear O2x
  have O3 : Hid (OwnT (layTape.slice 94) w4 (w3.heap.size) (w4.heap.size) d.tapes [.slice bo3 d.tapes.1 bcap3]) := o4.weaken (by simp <;> omega) (Nat.le_refl _)
  clear o4
  have LT4 : w.heap.size + 1 + 1 + 1 ≤ w4.heap.size := T4.lt
  have S4 : w3.heap.size ≤ w4.heap.size := by
    have := b4.size
    simpa using this
  have x4_12 : w4.cell? ⟨w.heap.size, 12, none⟩ = some (.int .i64 d.writes) := T4.b1.cell 12
  have x4_13 : w4.cell? ⟨w.heap.size, 13, none⟩ = some (.int .i64 d.stop) := T4.b1.cell 13
  have x4_14 : w4.cell? ⟨w.heap.size, 14, none⟩ = some (.bool d.down) := T4.b1.cell 14
  have y4_0 : w4.cell? ⟨w.heap.size + 1 + 1, 0, none⟩ = some (.int .i64 (d.shape 0)) := T4.b3.cell 0
  have y4_1 : w4.cell? ⟨w.heap.size + 1 + 1, 1, none⟩ = some (.int .i64 (d.shape 1)) := T4.b3.cell 1
  have y4_2 : w4.cell? ⟨w.heap.size + 1 + 1, 2, none⟩ = some (.int .i64 (d.shape 2)) := T4.b3.cell 2
  have y4_3 : w4.cell? ⟨w.heap.size + 1 + 1, 3, none⟩ = some (.int .i64 (d.shape 3)) := T4.b3.cell 3
  have y4_4 : w4.cell? ⟨w.heap.size + 1 + 1, 4, none⟩ = some (.int .i64 (d.shape 4)) := T4.b3.cell 4
  have y4_5 : w4.cell? ⟨w.heap.size + 1 + 1, 5, none⟩ = some (.int .i64 (d.shape 5)) := T4.b3.cell 5
  have y4_6 : w4.cell? ⟨w.heap.size + 1 + 1, 6, none⟩ = some (.int .i64 (d.shape 6)) := T4.b3.cell 6
  have y4_7 : w4.cell? ⟨w.heap.size + 1 + 1, 7, none⟩ = some (.int .i64 (d.shape 7)) := T4.b3.cell 7
  have y4_8 : w4.cell? ⟨w.heap.size + 1 + 1, 8, none⟩ = some (.int .i64 (d.shape 8)) := T4.b3.cell 8
  have y4_9 : w4.cell? ⟨w.heap.size + 1 + 1, 9, none⟩ = some (.slice bo1 d.groups.1 bcap1) := T4.b3.cell 9
  have y4_10 : w4.cell? ⟨w.heap.size + 1 + 1, 10, none⟩ = some (.slice bo2 d.on.1 bcap2) := T4.b3.cell 10
  have y4_11 : w4.cell? ⟨w.heap.size + 1 + 1, 11, none⟩ = some (.slice none 0 0) := T4.b3.cell 11
  have y4_12 : w4.cell? ⟨w.heap.size + 1 + 1, 12, none⟩ = some (.int .i64 0) := T4.b3.cell 12
  have y4_13 : w4.cell? ⟨w.heap.size + 1 + 1, 13, none⟩ = some (.int .i64 0) := T4.b3.cell 13
  have y4_14 : w4.cell? ⟨w.heap.size + 1 + 1, 14, none⟩ = some (.bool false) := T4.b3.cell 14
  have yf4_11 : w4.frozen? ⟨w.heap.size + 1 + 1, 11, none⟩ = false := T4.b3.frozen 11
  have yf4_12 : w4.frozen? ⟨w.heap.size + 1 + 1, 12, none⟩ = false := T4.b3.frozen 12
  have yf4_13 : w4.frozen? ⟨w.heap.size + 1 + 1, 13, none⟩ = false := T4.b3.frozen 13
  have yf4_14 : w4.frozen? ⟨w.heap.size + 1 + 1, 14, none⟩ = false := T4.b3.frozen 14
  have z4_0 : w4.cell? ⟨w.heap.size + 1, 0, none⟩ = some (.int .i64 0) := T4.b2.cell 0
  have zf4_0 : w4.frozen? ⟨w.heap.size + 1, 0, none⟩ = false := T4.b2.frozen 0
  have z4_1 : w4.cell? ⟨w.heap.size + 1, 1, none⟩ = some (.int .i64 0) := T4.b2.cell 1
  have zf4_1 : w4.frozen? ⟨w.heap.size + 1, 1, none⟩ = false := T4.b2.frozen 1
  have z4_2 : w4.cell? ⟨w.heap.size + 1, 2, none⟩ = some (.int .i64 0) := T4.b2.cell 2
  have zf4_2 : w4.frozen? ⟨w.heap.size + 1, 2, none⟩ = false := T4.b2.frozen 2
  have z4_3 : w4.cell? ⟨w.heap.size + 1, 3, none⟩ = some (.int .i64 0) := T4.b2.cell 3
  have zf4_3 : w4.frozen? ⟨w.heap.size + 1, 3, none⟩ = false := T4.b2.frozen 3
  have z4_4 : w4.cell? ⟨w.heap.size + 1, 4, none⟩ = some (.int .i64 0) := T4.b2.cell 4
  have zf4_4 : w4.frozen? ⟨w.heap.size + 1, 4, none⟩ = false := T4.b2.frozen 4
  have z4_5 : w4.cell? ⟨w.heap.size + 1, 5, none⟩ = some (.int .i64 0) := T4.b2.cell 5
  have zf4_5 : w4.frozen? ⟨w.heap.size + 1, 5, none⟩ = false := T4.b2.frozen 5
  have z4_6 : w4.cell? ⟨w.heap.size + 1, 6, none⟩ = some (.int .i64 0) := T4.b2.cell 6
  have zf4_6 : w4.frozen? ⟨w.heap.size + 1, 6, none⟩ = false := T4.b2.frozen 6
  have z4_7 : w4.cell? ⟨w.heap.size + 1, 7, none⟩ = some (.int .i64 0) := T4.b2.cell 7
  have zf4_7 : w4.frozen? ⟨w.heap.size + 1, 7, none⟩ = false := T4.b2.frozen 7
  have z4_8 : w4.cell? ⟨w.heap.size + 1, 8, none⟩ = some (.int .i64 0) := T4.b2.cell 8
  have zf4_8 : w4.frozen? ⟨w.heap.size + 1, 8, none⟩ = false := T4.b2.frozen 8
  have z4_9 : w4.cell? ⟨w.heap.size + 1, 9, none⟩ = some (.slice none 0 0) := T4.b2.cell 9
  have zf4_9 : w4.frozen? ⟨w.heap.size + 1, 9, none⟩ = false := T4.b2.frozen 9
  have z4_10 : w4.cell? ⟨w.heap.size + 1, 10, none⟩ = some (.slice none 0 0) := T4.b2.cell 10
  have zf4_10 : w4.frozen? ⟨w.heap.size + 1, 10, none⟩ = false := T4.b2.frozen 10
  have z4_11 : w4.cell? ⟨w.heap.size + 1, 11, none⟩ = some (.slice none 0 0) := T4.b2.cell 11
  have zf4_11 : w4.frozen? ⟨w.heap.size + 1, 11, none⟩ = false := T4.b2.frozen 11
  have z4_12 : w4.cell? ⟨w.heap.size + 1, 12, none⟩ = some (.int .i64 0) := T4.b2.cell 12
  have zf4_12 : w4.frozen? ⟨w.heap.size + 1, 12, none⟩ = false := T4.b2.frozen 12
  have z4_13 : w4.cell? ⟨w.heap.size + 1, 13, none⟩ = some (.int .i64 0) := T4.b2.cell 13
  have zf4_13 : w4.frozen? ⟨w.heap.size + 1, 13, none⟩ = false := T4.b2.frozen 13
  have z4_14 : w4.cell? ⟨w.heap.size + 1, 14, none⟩ = some (.bool false) := T4.b2.cell 14
  have zf4_14 : w4.frozen? ⟨w.heap.size + 1, 14, none⟩ = false := T4.b2.frozen 14
  have Bq : Hid (Below w.heap.size w w4) := T4.bel
  clear T4 b4
  go_wp2
  refine bodyPost_ret (v := .agg #[.int .i64 (d.shape 0), .int .i64 (d.shape 1), .int .i64 (d.shape 2), .int .i64 (d.shape 3), .int .i64 (d.shape 4), .int .i64 (d.shape 5), .int .i64 (d.shape 6), .int .i64 (d.shape 7), .int .i64 (d.shape 8), .slice bo1 d.groups.1 bcap1, .slice bo2 d.on.1 bcap2, .slice bo3 d.tapes.1 bcap3, .int .i64 d.writes, .int .i64 d.stop, .bool d.down]) (by simp [results, Tryz.results11, go_sem, y4_0, z4_0, y4_1, z4_1, y4_2, z4_2, y4_3, z4_3, y4_4, z4_4, y4_5, z4_5, y4_6, z4_6, y4_7, z4_7, y4_8, z4_8, y4_9, z4_9, y4_10, z4_10, y4_11, z4_11, y4_12, z4_12, y4_13, z4_13, y4_14, z4_14]) rfl ?_
  have F : OwnT layWorld w4 (w.heap.size + 1 + 1 + 1) w4.heap.size d ([.int .i64 (d.shape 0), .int .i64 (d.shape 1), .int .i64 (d.shape 2), .int .i64 (d.shape 3), .int .i64 (d.shape 4), .int .i64 (d.shape 5), .int .i64 (d.shape 6), .int .i64 (d.shape 7), .int .i64 (d.shape 8)] ++ ([.slice bo1 d.groups.1 bcap1] ++ ([.slice bo2 d.on.1 bcap2] ++ ([.slice bo3 d.tapes.1 bcap3] ++ ([.int .i64 d.writes] ++ ([.int .i64 d.stop] ++ [.bool d.down])))))) := OwnT.conv (OwnT.pre (A := (layNums 9)) (a := d.shape) (c := [.int .i64 (d.shape 0), .int .i64 (d.shape 1), .int .i64 (d.shape 2), .int .i64 (d.shape 3), .int .i64 (d.shape 4), .int .i64 (d.shape 5), .int .i64 (d.shape 6), .int .i64 (d.shape 7), .int .i64 (d.shape 8)]) ⟨rfl, Q0.out, rfl⟩ (OwnT.two O1.out (OwnT.two O2.out (OwnT.two O3.out (OwnT.pre (A := layI) (a := d.writes) (c := [.int .i64 d.writes]) ⟨rfl, Q4.out, rfl⟩ (OwnT.pre (A := layI) (a := d.stop) (c := [.int .i64 d.stop]) ⟨rfl, Q5.out, rfl⟩ (OwnT.nil (A := layB) (a := d.down) (c := [.bool d.down]) ⟨rfl, trivial, rfl⟩ w4.heap.size w4.heap.size))) (by omega) (by omega) (by omega)) (by omega) (by omega) (by omega)) (by omega) (by omega) (by omega)))
  exact ⟨[.int .i64 (d.shape 0), .int .i64 (d.shape 1), .int .i64 (d.shape 2), .int .i64 (d.shape 3), .int .i64 (d.shape 4), .int .i64 (d.shape 5), .int .i64 (d.shape 6), .int .i64 (d.shape 7), .int .i64 (d.shape 8), .slice bo1 d.groups.1 bcap1, .slice bo2 d.on.1 bcap2, .slice bo3 d.tapes.1 bcap3, .int .i64 d.writes, .int .i64 d.stop, .bool d.down], rfl, OwnT.fin F 11 0 [.slice bo3 d.tapes.1 bcap3, .int .i64 d.writes, .int .i64 d.stop, .bool d.down] [.int .i64 (d.shape 0), .int .i64 (d.shape 1), .int .i64 (d.shape 2), .int .i64 (d.shape 3), .int .i64 (d.shape 4), .int .i64 (d.shape 5), .int .i64 (d.shape 6), .int .i64 (d.shape 7), .int .i64 (d.shape 8), .slice bo1 d.groups.1 bcap1, .slice bo2 d.on.1 bcap2, .slice bo3 d.tapes.1 bcap3, .int .i64 d.writes, .int .i64 d.stop, .bool d.down] _ rfl, below_fin Bq.out 11 0 [.slice bo3 d.tapes.1 bcap3, .int .i64 d.writes, .int .i64 d.stop, .bool d.down] [.int .i64 (d.shape 0), .int .i64 (d.shape 1), .int .i64 (d.shape 2), .int .i64 (d.shape 3), .int .i64 (d.shape 4), .int .i64 (d.shape 5), .int .i64 (d.shape 6), .int .i64 (d.shape 7), .int .i64 (d.shape 8), .slice bo1 d.groups.1 bcap1, .slice bo2 d.on.1 bcap2, .slice bo3 d.tapes.1 bcap3, .int .i64 d.writes, .int .i64 d.stop, .bool d.down] _ rfl⟩
end Go.Proofs.YtbmfndjglndnlaaGreat

namespace Go.Proofs.YtbmfndjglndnlaaGreat
open Go.RowKit F256
set_option linter.unusedVariables false
set_option linter.unusedSimpArgs false
set_option maxHeartbeats 8000000 in
set_option maxRecDepth 20000 in
theorem eqBlock_is : EqV layBlock 63 := fun c1 c2 d h1 h2 w r1 r2 u1 u2 => by
  obtain ⟨ao1, cap1, rfl, g1, -⟩ := Block_rd r1
  obtain ⟨bao1, bcap1, rfl, q1, -⟩ := Block_rd r2
  clear r1 r2
  have G1 : Hid (layBytes.rd w h1 d.bytes [.slice ao1 d.bytes.1 cap1]) := g1
  have E1 : Hid (layBytes.rd w h2 d.bytes [.slice bao1 d.bytes.1 bcap1]) := q1
  clear g1 q1
  go_enter Tryz.func63, Tryz.ntmps63
  go_wp2_with fail
  have T0 := two_newb w #[.int .i64 d.stamp, .slice ao1 d.bytes.1 cap1] #[.int .i64 d.stamp, .slice bao1 d.bytes.1 bcap1] 46 46
  refine (eqBytes_is _ _ d.bytes h1 h2 _ (layBytes.rd_below G1.out T0.bel u1) (layBytes.rd_below E1.out T0.bel u2) (Nat.le_trans u1 T0.bel.size) (Nat.le_trans u2 T0.bel.size)).mono ?_
  rintro e w1 ⟨rfl, b1⟩
  have T1 : Two w w1 #[.int .i64 d.stamp, .slice ao1 d.bytes.1 cap1] #[.int .i64 d.stamp, .slice bao1 d.bytes.1 bcap1] 46 46 := T0.call b1
  clear T0 b1
  have B : Hid (Below w.heap.size w w1) := T1.bel
  clear T1
  go_wp2
  go_ret
  exact ⟨rfl, B.out⟩
set_option maxHeartbeats 4000000 in
theorem eqBlockS_is : EqS (layBlock.slice 46) 143 := fun v1 v2 d h1 h2 w r1 r2 u1 u2 => by
  obtain ⟨n, x⟩ := d
  obtain ⟨ao, cap, hv, hm, hc⟩ := r1
  cases hv
  obtain ⟨ao', cap', hv', hm', hc'⟩ := r2
  cases hv'
  simp only at hm hc hc'
  unfold maxLen at hm
  clear hm'
  go_enter Tryz.func143, Tryz.ntmps143
  go_wp2
  go_loopw [5] (fun i wr => ∃ k : Nat, k ≤ n ∧ i = .int .i64 k ∧ Below w.heap.size w wr) (fun i _ => n - (intOf i).toNat)
  case atStart => exact ⟨0, Nat.zero_le _, rfl, Below.refl _ _⟩
  case round =>
    obtain ⟨k, hk, rfl, hb⟩ := hrel
    by_cases hlt : k < n
    · obtain ⟨b, off, rfl, hblt, hel⟩ := hc (by omega)
      obtain ⟨b', off', rfl, hblt', hel'⟩ := hc' (by omega)
      obtain ⟨ck, hrk, hcell⟩ := elem_rd (t := 0) hel (below_drewN hb 1) u1 hblt hlt
      obtain ⟨ck', hrk', hcell'⟩ := elem_rd (t := 0) hel' (below_drewN hb 1) u2 hblt' hlt
      obtain ⟨ao1, cap1, rfl, -⟩ := Block_rd hrk
      obtain ⟨bao1, bcap1, rfl, -⟩ := Block_rd hrk'
      have c0 : wr.cell? ⟨b, off + k * 2, none⟩ = some (.int .i64 (x k).stamp) := hcell 0 (by decide)
      have c1 : wr.cell? ⟨b, off + k * 2 + 1, none⟩ = some (.slice ao1 (x k).bytes.1 cap1) := hcell 1 (by decide)
      have e0 : wr.cell? ⟨b', off' + k * 2, none⟩ = some (.int .i64 (x k).stamp) := hcell' 0 (by decide)
      have e1 : wr.cell? ⟨b', off' + k * 2 + 1, none⟩ = some (.slice bao1 (x k).bytes.1 bcap1) := hcell' 1 (by decide)
      have C1 := eqBlock_is _ _ (x k) h1 h2 (wr.drewN 1) hrk hrk' (Nat.le_trans u1 hb.size) (Nat.le_trans u2 hb.size)
      clear hc hc' hel hel' hcell hcell' hrk hrk'
      go_wp2
      go_region_with (go_at_call 63; refine C1.mono ?_; rintro ee w2 ⟨rfl, hb2⟩)
      all_goals
        have R' : Below w.heap.size w w2 := hb.trans ((below_drewN (Below.refl wr.heap.size wr) 1).trans hb2 |>.mono hb.size)
        clear hb2
        go_wp2
        go_roundw
        case rel => exact ⟨k + 1, by omega, by go_num, R'⟩
        case measure => simp [intOf]; omega
    · obtain rfl : k = n := by omega
      go_wp2
      go_ret
      exact ⟨rfl, hb⟩
set_option maxHeartbeats 8000000 in
set_option maxRecDepth 20000 in
theorem eqDrive_is : EqV layDrive 119 := fun c1 c2 d h1 h2 w r1 r2 u1 u2 => by
  obtain ⟨ao1, cap1, rfl, g1⟩ := Drive_rd r1
  obtain ⟨bao1, bcap1, rfl, q1⟩ := Drive_rd r2
  clear r1 r2
  have G1 : Hid ((layBlock.slice 46).rd w h1 d.blocks [.slice ao1 d.blocks.1 cap1]) := g1
  have E1 : Hid ((layBlock.slice 46).rd w h2 d.blocks [.slice bao1 d.blocks.1 bcap1]) := q1
  clear g1 q1
  go_enter Tryz.func119, Tryz.ntmps119
  go_wp2_with fail
  have T0 := two_newb w #[.bool d.wiped, .slice ao1 d.blocks.1 cap1] #[.bool d.wiped, .slice bao1 d.blocks.1 bcap1] 84 84
  refine (eqBlockS_is _ _ d.blocks h1 h2 _ ((layBlock.slice 46).rd_below G1.out T0.bel u1) ((layBlock.slice 46).rd_below E1.out T0.bel u2) (Nat.le_trans u1 T0.bel.size) (Nat.le_trans u2 T0.bel.size)).mono ?_
  rintro e w1 ⟨rfl, b1⟩
  have T1 : Two w w1 #[.bool d.wiped, .slice ao1 d.blocks.1 cap1] #[.bool d.wiped, .slice bao1 d.blocks.1 bcap1] 84 84 := T0.call b1
  clear T0 b1
  have B : Hid (Below w.heap.size w w1) := T1.bel
  clear T1
  go_wp2
  go_ret
  exact ⟨rfl, B.out⟩
set_option maxHeartbeats 4000000 in
theorem eqDriveS_is : EqS (layDrive.slice 84) 85 := fun v1 v2 d h1 h2 w r1 r2 u1 u2 => by
  obtain ⟨n, x⟩ := d
  obtain ⟨ao, cap, hv, hm, hc⟩ := r1
  cases hv
  obtain ⟨ao', cap', hv', hm', hc'⟩ := r2
  cases hv'
  simp only at hm hc hc'
  unfold maxLen at hm
  clear hm'
  go_enter Tryz.func85, Tryz.ntmps85
  go_wp2
  go_loopw [5] (fun i wr => ∃ k : Nat, k ≤ n ∧ i = .int .i64 k ∧ Below w.heap.size w wr) (fun i _ => n - (intOf i).toNat)
  case atStart => exact ⟨0, Nat.zero_le _, rfl, Below.refl _ _⟩
  case round =>
    obtain ⟨k, hk, rfl, hb⟩ := hrel
    by_cases hlt : k < n
    · obtain ⟨b, off, rfl, hblt, hel⟩ := hc (by omega)
      obtain ⟨b', off', rfl, hblt', hel'⟩ := hc' (by omega)
      obtain ⟨ck, hrk, hcell⟩ := elem_rd (t := 0) hel (below_drewN hb 1) u1 hblt hlt
      obtain ⟨ck', hrk', hcell'⟩ := elem_rd (t := 0) hel' (below_drewN hb 1) u2 hblt' hlt
      obtain ⟨ao1, cap1, rfl, -⟩ := Drive_rd hrk
      obtain ⟨bao1, bcap1, rfl, -⟩ := Drive_rd hrk'
      have c0 : wr.cell? ⟨b, off + k * 2, none⟩ = some (.bool (x k).wiped) := hcell 0 (by decide)
      have c1 : wr.cell? ⟨b, off + k * 2 + 1, none⟩ = some (.slice ao1 (x k).blocks.1 cap1) := hcell 1 (by decide)
      have e0 : wr.cell? ⟨b', off' + k * 2, none⟩ = some (.bool (x k).wiped) := hcell' 0 (by decide)
      have e1 : wr.cell? ⟨b', off' + k * 2 + 1, none⟩ = some (.slice bao1 (x k).blocks.1 bcap1) := hcell' 1 (by decide)
      have C1 := eqDrive_is _ _ (x k) h1 h2 (wr.drewN 1) hrk hrk' (Nat.le_trans u1 hb.size) (Nat.le_trans u2 hb.size)
      clear hc hc' hel hel' hcell hcell' hrk hrk'
      go_wp2
      go_region_with (go_at_call 119; refine C1.mono ?_; rintro ee w2 ⟨rfl, hb2⟩)
      all_goals
        have R' : Below w.heap.size w w2 := hb.trans ((below_drewN (Below.refl wr.heap.size wr) 1).trans hb2 |>.mono hb.size)
        clear hb2
        go_wp2
        go_roundw
        case rel => exact ⟨k + 1, by omega, by go_num, R'⟩
        case measure => simp [intOf]; omega
    · obtain rfl : k = n := by omega
      go_wp2
      go_ret
      exact ⟨rfl, hb⟩
set_option maxHeartbeats 4000000 in
theorem eqDriveSS_is : EqS ((layDrive.slice 84).slice 85) 48 := fun v1 v2 d h1 h2 w r1 r2 u1 u2 => by
  obtain ⟨n, x⟩ := d
  obtain ⟨ao, cap, hv, hm, hc⟩ := r1
  cases hv
  obtain ⟨ao', cap', hv', hm', hc'⟩ := r2
  cases hv'
  simp only at hm hc hc'
  unfold maxLen at hm
  clear hm'
  go_enter Tryz.func48, Tryz.ntmps48
  go_wp2
  go_loopw [5] (fun i wr => ∃ k : Nat, k ≤ n ∧ i = .int .i64 k ∧ Below w.heap.size w wr) (fun i _ => n - (intOf i).toNat)
  case atStart => exact ⟨0, Nat.zero_le _, rfl, Below.refl _ _⟩
  case round =>
    obtain ⟨k, hk, rfl, hb⟩ := hrel
    by_cases hlt : k < n
    · obtain ⟨b, off, rfl, hblt, hel⟩ := hc (by omega)
      obtain ⟨b', off', rfl, hblt', hel'⟩ := hc' (by omega)
      obtain ⟨ck, hrk, hcell⟩ := elem_rd (t := 0) hel (below_drewN hb 1) u1 hblt hlt
      obtain ⟨ck', hrk', hcell'⟩ := elem_rd (t := 0) hel' (below_drewN hb 1) u2 hblt' hlt
      obtain ⟨ao9, cap9, rfl⟩ := sl_form hrk
      obtain ⟨bao9, bcap9, rfl⟩ := sl_form hrk'
      have c0 : wr.cell? ⟨b, off + k, none⟩ = some (.slice ao9 (x k).1 cap9) := by
        have h := hcell 0 (show 0 < 1 by decide)
        rw [show (layDrive.slice 84).sz = 1 from rfl, Nat.mul_one, Nat.add_zero] at h
        exact h
      have e0 : wr.cell? ⟨b', off' + k, none⟩ = some (.slice bao9 (x k).1 bcap9) := by
        have h := hcell' 0 (show 0 < 1 by decide)
        rw [show (layDrive.slice 84).sz = 1 from rfl, Nat.mul_one, Nat.add_zero] at h
        exact h
      have C1 := eqDriveS_is _ _ (x k) h1 h2 (wr.drewN 1) hrk hrk' (Nat.le_trans u1 hb.size) (Nat.le_trans u2 hb.size)
      clear hc hc' hel hel' hcell hcell' hrk hrk'
      go_wp2
      go_region_with (go_at_call 85; refine C1.mono ?_; rintro ee w2 ⟨rfl, hb2⟩)
      all_goals
        have R' : Below w.heap.size w w2 := hb.trans ((below_drewN (Below.refl wr.heap.size wr) 1).trans hb2 |>.mono hb.size)
        clear hb2
        go_wp2
        go_roundw
        case rel => exact ⟨k + 1, by omega, by go_num, R'⟩
        case measure => simp [intOf]; omega
    · obtain rfl : k = n := by omega
      go_wp2
      go_ret
      exact ⟨rfl, hb⟩
end Go.Proofs.YtbmfndjglndnlaaGreat

namespace Go.Proofs.YtbmfndjglndnlaaGreat
open Go.RowKit F256
set_option linter.unusedVariables false
set_option linter.unusedSimpArgs false
set_option maxHeartbeats 8000000 in
set_option maxRecDepth 20000 in
theorem eqRec_is : EqV layRec 144 := fun c1 c2 d h1 h2 w r1 r2 u1 u2 => by
  obtain ⟨ao6, cap6, ao7, cap7, ao8, cap8, rfl, g6, g7, g8, -⟩ := Rec_rd r1
  obtain ⟨bao6, bcap6, bao7, bcap7, bao8, bcap8, rfl, q6, q7, q8, -⟩ := Rec_rd r2
  clear r1 r2
  have G6 : Hid (layInts.rd w h1 d.rows [.slice ao6 d.rows.1 cap6]) := g6
  have E6 : Hid (layInts.rd w h2 d.rows [.slice bao6 d.rows.1 bcap6]) := q6
  have G7 : Hid (layBytes.rd w h1 d.data [.slice ao7 d.data.1 cap7]) := g7
  have E7 : Hid (layBytes.rd w h2 d.data [.slice bao7 d.data.1 bcap7]) := q7
  have G8 : Hid (layBytes.rd w h1 d.delta [.slice ao8 d.delta.1 cap8]) := g8
  have E8 : Hid (layBytes.rd w h2 d.delta [.slice bao8 d.delta.1 bcap8]) := q8
  clear g6 q6 g7 q7 g8 q8
  go_enter Tryz.func144, Tryz.ntmps144
  go_wp2_with fail
  have T0 := two_newb w #[.int .i64 d.kind, .int .i64 d.seq, .string d.name, .int .i64 d.length, .int .i64 d.group, .int .i64 d.row, .slice ao6 d.rows.1 cap6, .slice ao7 d.data.1 cap7, .slice ao8 d.delta.1 cap8] #[.int .i64 d.kind, .int .i64 d.seq, .string d.name, .int .i64 d.length, .int .i64 d.group, .int .i64 d.row, .slice bao6 d.rows.1 bcap6, .slice bao7 d.data.1 bcap7, .slice bao8 d.delta.1 bcap8] 119 119
  refine (eqInts_is _ _ d.rows h1 h2 _ (layInts.rd_below G6.out T0.bel u1) (layInts.rd_below E6.out T0.bel u2) (Nat.le_trans u1 T0.bel.size) (Nat.le_trans u2 T0.bel.size)).mono ?_
  rintro e w1 ⟨rfl, b1⟩
  have T1 : Two w w1 #[.int .i64 d.kind, .int .i64 d.seq, .string d.name, .int .i64 d.length, .int .i64 d.group, .int .i64 d.row, .slice ao6 d.rows.1 cap6, .slice ao7 d.data.1 cap7, .slice ao8 d.delta.1 cap8] #[.int .i64 d.kind, .int .i64 d.seq, .string d.name, .int .i64 d.length, .int .i64 d.group, .int .i64 d.row, .slice bao6 d.rows.1 bcap6, .slice bao7 d.data.1 bcap7, .slice bao8 d.delta.1 bcap8] 119 119 := T0.call b1
  clear T0 b1
  have x1_7 : w1.cell? ⟨w.heap.size, 7, none⟩ = some (.slice ao7 d.data.1 cap7) := T1.b1.cell 7
  have y1_7 : w1.cell? ⟨w.heap.size + 1, 7, none⟩ = some (.slice bao7 d.data.1 bcap7) := T1.b2.cell 7
  go_wp2_with fail
  refine (eqBytes_is _ _ d.data h1 h2 _ (layBytes.rd_below G7.out T1.bel u1) (layBytes.rd_below E7.out T1.bel u2) (Nat.le_trans u1 T1.bel.size) (Nat.le_trans u2 T1.bel.size)).mono ?_
  rintro e w2 ⟨rfl, b2⟩
  have T2 : Two w w2 #[.int .i64 d.kind, .int .i64 d.seq, .string d.name, .int .i64 d.length, .int .i64 d.group, .int .i64 d.row, .slice ao6 d.rows.1 cap6, .slice ao7 d.data.1 cap7, .slice ao8 d.delta.1 cap8] #[.int .i64 d.kind, .int .i64 d.seq, .string d.name, .int .i64 d.length, .int .i64 d.group, .int .i64 d.row, .slice bao6 d.rows.1 bcap6, .slice bao7 d.data.1 bcap7, .slice bao8 d.delta.1 bcap8] 119 119 := T1.call b2
  clear T1 b2
  have x2_8 : w2.cell? ⟨w.heap.size, 8, none⟩ = some (.slice ao8 d.delta.1 cap8) := T2.b1.cell 8
  have y2_8 : w2.cell? ⟨w.heap.size + 1, 8, none⟩ = some (.slice bao8 d.delta.1 bcap8) := T2.b2.cell 8
  go_wp2_with fail
  refine (eqBytes_is _ _ d.delta h1 h2 _ (layBytes.rd_below G8.out T2.bel u1) (layBytes.rd_below E8.out T2.bel u2) (Nat.le_trans u1 T2.bel.size) (Nat.le_trans u2 T2.bel.size)).mono ?_
  rintro e w3 ⟨rfl, b3⟩
  have T3 : Two w w3 #[.int .i64 d.kind, .int .i64 d.seq, .string d.name, .int .i64 d.length, .int .i64 d.group, .int .i64 d.row, .slice ao6 d.rows.1 cap6, .slice ao7 d.data.1 cap7, .slice ao8 d.delta.1 cap8] #[.int .i64 d.kind, .int .i64 d.seq, .string d.name, .int .i64 d.length, .int .i64 d.group, .int .i64 d.row, .slice bao6 d.rows.1 bcap6, .slice bao7 d.data.1 bcap7, .slice bao8 d.delta.1 bcap8] 119 119 := T2.call b3
  clear T2 b3
  have B : Hid (Below w.heap.size w w3) := T3.bel
  clear T3
  go_wp2
  go_ret
  exact ⟨rfl, B.out⟩
set_option maxHeartbeats 4000000 in
theorem eqRecS_is : EqS (layRec.slice 119) 120 := fun v1 v2 d h1 h2 w r1 r2 u1 u2 => by
  obtain ⟨n, x⟩ := d
  obtain ⟨ao, cap, hv, hm, hc⟩ := r1
  cases hv
  obtain ⟨ao', cap', hv', hm', hc'⟩ := r2
  cases hv'
  simp only at hm hc hc'
  unfold maxLen at hm
  clear hm'
  go_enter Tryz.func120, Tryz.ntmps120
  go_wp2
  go_loopw [5] (fun i wr => ∃ k : Nat, k ≤ n ∧ i = .int .i64 k ∧ Below w.heap.size w wr) (fun i _ => n - (intOf i).toNat)
  case atStart => exact ⟨0, Nat.zero_le _, rfl, Below.refl _ _⟩
  case round =>
    obtain ⟨k, hk, rfl, hb⟩ := hrel
    by_cases hlt : k < n
    · obtain ⟨b, off, rfl, hblt, hel⟩ := hc (by omega)
      obtain ⟨b', off', rfl, hblt', hel'⟩ := hc' (by omega)
      obtain ⟨ck, hrk, hcell⟩ := elem_rd (t := 0) hel (below_drewN hb 1) u1 hblt hlt
      obtain ⟨ck', hrk', hcell'⟩ := elem_rd (t := 0) hel' (below_drewN hb 1) u2 hblt' hlt
      obtain ⟨ao6, cap6, ao7, cap7, ao8, cap8, rfl, -⟩ := Rec_rd hrk
      obtain ⟨bao6, bcap6, bao7, bcap7, bao8, bcap8, rfl, -⟩ := Rec_rd hrk'
      have c0 : wr.cell? ⟨b, off + k * 9, none⟩ = some (.int .i64 (x k).kind) := hcell 0 (by decide)
      have c1 : wr.cell? ⟨b, off + k * 9 + 1, none⟩ = some (.int .i64 (x k).seq) := hcell 1 (by decide)
      have c2 : wr.cell? ⟨b, off + k * 9 + 2, none⟩ = some (.string (x k).name) := hcell 2 (by decide)
      have c3 : wr.cell? ⟨b, off + k * 9 + 3, none⟩ = some (.int .i64 (x k).length) := hcell 3 (by decide)
      have c4 : wr.cell? ⟨b, off + k * 9 + 4, none⟩ = some (.int .i64 (x k).group) := hcell 4 (by decide)
      have c5 : wr.cell? ⟨b, off + k * 9 + 5, none⟩ = some (.int .i64 (x k).row) := hcell 5 (by decide)
      have c6 : wr.cell? ⟨b, off + k * 9 + 6, none⟩ = some (.slice ao6 (x k).rows.1 cap6) := hcell 6 (by decide)
      have c7 : wr.cell? ⟨b, off + k * 9 + 7, none⟩ = some (.slice ao7 (x k).data.1 cap7) := hcell 7 (by decide)
      have c8 : wr.cell? ⟨b, off + k * 9 + 8, none⟩ = some (.slice ao8 (x k).delta.1 cap8) := hcell 8 (by decide)
      have e0 : wr.cell? ⟨b', off' + k * 9, none⟩ = some (.int .i64 (x k).kind) := hcell' 0 (by decide)
      have e1 : wr.cell? ⟨b', off' + k * 9 + 1, none⟩ = some (.int .i64 (x k).seq) := hcell' 1 (by decide)
      have e2 : wr.cell? ⟨b', off' + k * 9 + 2, none⟩ = some (.string (x k).name) := hcell' 2 (by decide)
      have e3 : wr.cell? ⟨b', off' + k * 9 + 3, none⟩ = some (.int .i64 (x k).length) := hcell' 3 (by decide)
      have e4 : wr.cell? ⟨b', off' + k * 9 + 4, none⟩ = some (.int .i64 (x k).group) := hcell' 4 (by decide)
      have e5 : wr.cell? ⟨b', off' + k * 9 + 5, none⟩ = some (.int .i64 (x k).row) := hcell' 5 (by decide)
      have e6 : wr.cell? ⟨b', off' + k * 9 + 6, none⟩ = some (.slice bao6 (x k).rows.1 bcap6) := hcell' 6 (by decide)
      have e7 : wr.cell? ⟨b', off' + k * 9 + 7, none⟩ = some (.slice bao7 (x k).data.1 bcap7) := hcell' 7 (by decide)
      have e8 : wr.cell? ⟨b', off' + k * 9 + 8, none⟩ = some (.slice bao8 (x k).delta.1 bcap8) := hcell' 8 (by decide)
      have C1 := eqRec_is _ _ (x k) h1 h2 (wr.drewN 1) hrk hrk' (Nat.le_trans u1 hb.size) (Nat.le_trans u2 hb.size)
      clear hc hc' hel hel' hcell hcell' hrk hrk'
      go_wp2
      go_region_with (go_at_call 144; refine C1.mono ?_; rintro ee w2 ⟨rfl, hb2⟩)
      all_goals
        have R' : Below w.heap.size w w2 := hb.trans ((below_drewN (Below.refl wr.heap.size wr) 1).trans hb2 |>.mono hb.size)
        clear hb2
        go_wp2
        go_roundw
        case rel => exact ⟨k + 1, by omega, by go_num, R'⟩
        case measure => simp [intOf]; omega
    · obtain rfl : k = n := by omega
      go_wp2
      go_ret
      exact ⟨rfl, hb⟩
set_option maxHeartbeats 8000000 in
set_option maxRecDepth 20000 in
theorem eqTape_is : EqV layTape 86 := fun c1 c2 d h1 h2 w r1 r2 u1 u2 => by
  obtain ⟨ao1, cap1, rfl, g1⟩ := Tape_rd r1
  obtain ⟨bao1, bcap1, rfl, q1⟩ := Tape_rd r2
  clear r1 r2
  have G1 : Hid ((layRec.slice 119).rd w h1 d.recs [.slice ao1 d.recs.1 cap1]) := g1
  have E1 : Hid ((layRec.slice 119).rd w h2 d.recs [.slice bao1 d.recs.1 bcap1]) := q1
  clear g1 q1
  go_enter Tryz.func86, Tryz.ntmps86
  go_wp2_with fail
  have T0 := two_newb w #[.bool d.wiped, .slice ao1 d.recs.1 cap1] #[.bool d.wiped, .slice bao1 d.recs.1 bcap1] 94 94
  refine (eqRecS_is _ _ d.recs h1 h2 _ ((layRec.slice 119).rd_below G1.out T0.bel u1) ((layRec.slice 119).rd_below E1.out T0.bel u2) (Nat.le_trans u1 T0.bel.size) (Nat.le_trans u2 T0.bel.size)).mono ?_
  rintro e w1 ⟨rfl, b1⟩
  have T1 : Two w w1 #[.bool d.wiped, .slice ao1 d.recs.1 cap1] #[.bool d.wiped, .slice bao1 d.recs.1 bcap1] 94 94 := T0.call b1
  clear T0 b1
  have B : Hid (Below w.heap.size w w1) := T1.bel
  clear T1
  go_wp2
  go_ret
  exact ⟨rfl, B.out⟩
set_option maxHeartbeats 4000000 in
theorem eqTapeS_is : EqS (layTape.slice 94) 50 := fun v1 v2 d h1 h2 w r1 r2 u1 u2 => by
  obtain ⟨n, x⟩ := d
  obtain ⟨ao, cap, hv, hm, hc⟩ := r1
  cases hv
  obtain ⟨ao', cap', hv', hm', hc'⟩ := r2
  cases hv'
  simp only at hm hc hc'
  unfold maxLen at hm
  clear hm'
  go_enter Tryz.func50, Tryz.ntmps50
  go_wp2
  go_loopw [5] (fun i wr => ∃ k : Nat, k ≤ n ∧ i = .int .i64 k ∧ Below w.heap.size w wr) (fun i _ => n - (intOf i).toNat)
  case atStart => exact ⟨0, Nat.zero_le _, rfl, Below.refl _ _⟩
  case round =>
    obtain ⟨k, hk, rfl, hb⟩ := hrel
    by_cases hlt : k < n
    · obtain ⟨b, off, rfl, hblt, hel⟩ := hc (by omega)
      obtain ⟨b', off', rfl, hblt', hel'⟩ := hc' (by omega)
      obtain ⟨ck, hrk, hcell⟩ := elem_rd (t := 0) hel (below_drewN hb 1) u1 hblt hlt
      obtain ⟨ck', hrk', hcell'⟩ := elem_rd (t := 0) hel' (below_drewN hb 1) u2 hblt' hlt
      obtain ⟨ao1, cap1, rfl, -⟩ := Tape_rd hrk
      obtain ⟨bao1, bcap1, rfl, -⟩ := Tape_rd hrk'
      have c0 : wr.cell? ⟨b, off + k * 2, none⟩ = some (.bool (x k).wiped) := hcell 0 (by decide)
      have c1 : wr.cell? ⟨b, off + k * 2 + 1, none⟩ = some (.slice ao1 (x k).recs.1 cap1) := hcell 1 (by decide)
      have e0 : wr.cell? ⟨b', off' + k * 2, none⟩ = some (.bool (x k).wiped) := hcell' 0 (by decide)
      have e1 : wr.cell? ⟨b', off' + k * 2 + 1, none⟩ = some (.slice bao1 (x k).recs.1 bcap1) := hcell' 1 (by decide)
      have C1 := eqTape_is _ _ (x k) h1 h2 (wr.drewN 1) hrk hrk' (Nat.le_trans u1 hb.size) (Nat.le_trans u2 hb.size)
      clear hc hc' hel hel' hcell hcell' hrk hrk'
      go_wp2
      go_region_with (go_at_call 86; refine C1.mono ?_; rintro ee w2 ⟨rfl, hb2⟩)
      all_goals
        have R' : Below w.heap.size w w2 := hb.trans ((below_drewN (Below.refl wr.heap.size wr) 1).trans hb2 |>.mono hb.size)
        clear hb2
        go_wp2
        go_roundw
        case rel => exact ⟨k + 1, by omega, by go_num, R'⟩
        case measure => simp [intOf]; omega
    · obtain rfl : k = n := by omega
      go_wp2
      go_ret
      exact ⟨rfl, hb⟩
end Go.Proofs.YtbmfndjglndnlaaGreat

namespace Go.Proofs.YtbmfndjglndnlaaGreat
open Go.RowKit F256
set_option linter.unusedVariables false
set_option maxHeartbeats 2000000 in
theorem eqShape_any (s : Nat → Int) (w : World) :
    Calls Tryz.prog 47 #[shapeV s, shapeV s] w fun e w' => e = .returned (.bool true) ∧ Below w.heap.size w w' := by
  unfold shapeV
  go_enter Tryz.func47, Tryz.ntmps47
  go_wp2
  go_ret
  exact ⟨rfl, ((Below.refl _ _).alloc (Nat.le_refl _) _).alloc (by simp) _⟩
end Go.Proofs.YtbmfndjglndnlaaGreat

namespace Go.Proofs.YtbmfndjglndnlaaGreat
open Go.RowKit F256
set_option linter.unusedVariables false
set_option linter.unusedSimpArgs false
set_option maxHeartbeats 8000000 in
set_option maxRecDepth 20000 in
theorem eqWorld_is : EqV layWorld 14 := fun c1 c2 d h1 h2 w r1 r2 u1 u2 => by
  obtain ⟨ao1, cap1, ao2, cap2, ao3, cap3, rfl, g1, g2, g3, -⟩ := World_rd r1
  obtain ⟨bao1, bcap1, bao2, bcap2, bao3, bcap3, rfl, q1, q2, q3, -⟩ := World_rd r2
  clear r1 r2
  have G1 : Hid (((layDrive.slice 84).slice 85).rd w h1 d.groups [.slice ao1 d.groups.1 cap1]) := g1
  have E1 : Hid (((layDrive.slice 84).slice 85).rd w h2 d.groups [.slice bao1 d.groups.1 bcap1]) := q1
  have G2 : Hid (layInts.rd w h1 d.on [.slice ao2 d.on.1 cap2]) := g2
  have E2 : Hid (layInts.rd w h2 d.on [.slice bao2 d.on.1 bcap2]) := q2
  have G3 : Hid ((layTape.slice 94).rd w h1 d.tapes [.slice ao3 d.tapes.1 cap3]) := g3
  have E3 : Hid ((layTape.slice 94).rd w h2 d.tapes [.slice bao3 d.tapes.1 bcap3]) := q3
  clear g1 q1 g2 q2 g3 q3
  go_enter Tryz.func14, Tryz.ntmps14
  go_wp2_with fail
  have T0 := two_newb w #[.int .i64 (d.shape 0), .int .i64 (d.shape 1), .int .i64 (d.shape 2), .int .i64 (d.shape 3), .int .i64 (d.shape 4), .int .i64 (d.shape 5), .int .i64 (d.shape 6), .int .i64 (d.shape 7), .int .i64 (d.shape 8), .slice ao1 d.groups.1 cap1, .slice ao2 d.on.1 cap2, .slice ao3 d.tapes.1 cap3, .int .i64 d.writes, .int .i64 d.stop, .bool d.down] #[.int .i64 (d.shape 0), .int .i64 (d.shape 1), .int .i64 (d.shape 2), .int .i64 (d.shape 3), .int .i64 (d.shape 4), .int .i64 (d.shape 5), .int .i64 (d.shape 6), .int .i64 (d.shape 7), .int .i64 (d.shape 8), .slice bao1 d.groups.1 bcap1, .slice bao2 d.on.1 bcap2, .slice bao3 d.tapes.1 bcap3, .int .i64 d.writes, .int .i64 d.stop, .bool d.down] 34 34
  refine (eqShape_any d.shape _).mono ?_
  rintro e w1 ⟨rfl, b1⟩
  have T1 : Two w w1 #[.int .i64 (d.shape 0), .int .i64 (d.shape 1), .int .i64 (d.shape 2), .int .i64 (d.shape 3), .int .i64 (d.shape 4), .int .i64 (d.shape 5), .int .i64 (d.shape 6), .int .i64 (d.shape 7), .int .i64 (d.shape 8), .slice ao1 d.groups.1 cap1, .slice ao2 d.on.1 cap2, .slice ao3 d.tapes.1 cap3, .int .i64 d.writes, .int .i64 d.stop, .bool d.down] #[.int .i64 (d.shape 0), .int .i64 (d.shape 1), .int .i64 (d.shape 2), .int .i64 (d.shape 3), .int .i64 (d.shape 4), .int .i64 (d.shape 5), .int .i64 (d.shape 6), .int .i64 (d.shape 7), .int .i64 (d.shape 8), .slice bao1 d.groups.1 bcap1, .slice bao2 d.on.1 bcap2, .slice bao3 d.tapes.1 bcap3, .int .i64 d.writes, .int .i64 d.stop, .bool d.down] 34 34 := T0.call b1
  clear T0 b1
  have x1_9 : w1.cell? ⟨w.heap.size, 9, none⟩ = some (.slice ao1 d.groups.1 cap1) := T1.b1.cell 9
  have y1_9 : w1.cell? ⟨w.heap.size + 1, 9, none⟩ = some (.slice bao1 d.groups.1 bcap1) := T1.b2.cell 9
  go_wp2_with fail
  refine (eqDriveSS_is _ _ d.groups h1 h2 _ (((layDrive.slice 84).slice 85).rd_below G1.out T1.bel u1) (((layDrive.slice 84).slice 85).rd_below E1.out T1.bel u2) (Nat.le_trans u1 T1.bel.size) (Nat.le_trans u2 T1.bel.size)).mono ?_
  rintro e w2 ⟨rfl, b2⟩
  have T2 : Two w w2 #[.int .i64 (d.shape 0), .int .i64 (d.shape 1), .int .i64 (d.shape 2), .int .i64 (d.shape 3), .int .i64 (d.shape 4), .int .i64 (d.shape 5), .int .i64 (d.shape 6), .int .i64 (d.shape 7), .int .i64 (d.shape 8), .slice ao1 d.groups.1 cap1, .slice ao2 d.on.1 cap2, .slice ao3 d.tapes.1 cap3, .int .i64 d.writes, .int .i64 d.stop, .bool d.down] #[.int .i64 (d.shape 0), .int .i64 (d.shape 1), .int .i64 (d.shape 2), .int .i64 (d.shape 3), .int .i64 (d.shape 4), .int .i64 (d.shape 5), .int .i64 (d.shape 6), .int .i64 (d.shape 7), .int .i64 (d.shape 8), .slice bao1 d.groups.1 bcap1, .slice bao2 d.on.1 bcap2, .slice bao3 d.tapes.1 bcap3, .int .i64 d.writes, .int .i64 d.stop, .bool d.down] 34 34 := T1.call b2
  clear T1 b2
  have x2_10 : w2.cell? ⟨w.heap.size, 10, none⟩ = some (.slice ao2 d.on.1 cap2) := T2.b1.cell 10
  have y2_10 : w2.cell? ⟨w.heap.size + 1, 10, none⟩ = some (.slice bao2 d.on.1 bcap2) := T2.b2.cell 10
  go_wp2_with fail
  refine (eqInts_is _ _ d.on h1 h2 _ (layInts.rd_below G2.out T2.bel u1) (layInts.rd_below E2.out T2.bel u2) (Nat.le_trans u1 T2.bel.size) (Nat.le_trans u2 T2.bel.size)).mono ?_
  rintro e w3 ⟨rfl, b3⟩
  have T3 : Two w w3 #[.int .i64 (d.shape 0), .int .i64 (d.shape 1), .int .i64 (d.shape 2), .int .i64 (d.shape 3), .int .i64 (d.shape 4), .int .i64 (d.shape 5), .int .i64 (d.shape 6), .int .i64 (d.shape 7), .int .i64 (d.shape 8), .slice ao1 d.groups.1 cap1, .slice ao2 d.on.1 cap2, .slice ao3 d.tapes.1 cap3, .int .i64 d.writes, .int .i64 d.stop, .bool d.down] #[.int .i64 (d.shape 0), .int .i64 (d.shape 1), .int .i64 (d.shape 2), .int .i64 (d.shape 3), .int .i64 (d.shape 4), .int .i64 (d.shape 5), .int .i64 (d.shape 6), .int .i64 (d.shape 7), .int .i64 (d.shape 8), .slice bao1 d.groups.1 bcap1, .slice bao2 d.on.1 bcap2, .slice bao3 d.tapes.1 bcap3, .int .i64 d.writes, .int .i64 d.stop, .bool d.down] 34 34 := T2.call b3
  clear T2 b3
  have x3_11 : w3.cell? ⟨w.heap.size, 11, none⟩ = some (.slice ao3 d.tapes.1 cap3) := T3.b1.cell 11
  have y3_11 : w3.cell? ⟨w.heap.size + 1, 11, none⟩ = some (.slice bao3 d.tapes.1 bcap3) := T3.b2.cell 11
  go_wp2_with fail
  refine (eqTapeS_is _ _ d.tapes h1 h2 _ ((layTape.slice 94).rd_below G3.out T3.bel u1) ((layTape.slice 94).rd_below E3.out T3.bel u2) (Nat.le_trans u1 T3.bel.size) (Nat.le_trans u2 T3.bel.size)).mono ?_
  rintro e w4 ⟨rfl, b4⟩
  have T4 : Two w w4 #[.int .i64 (d.shape 0), .int .i64 (d.shape 1), .int .i64 (d.shape 2), .int .i64 (d.shape 3), .int .i64 (d.shape 4), .int .i64 (d.shape 5), .int .i64 (d.shape 6), .int .i64 (d.shape 7), .int .i64 (d.shape 8), .slice ao1 d.groups.1 cap1, .slice ao2 d.on.1 cap2, .slice ao3 d.tapes.1 cap3, .int .i64 d.writes, .int .i64 d.stop, .bool d.down] #[.int .i64 (d.shape 0), .int .i64 (d.shape 1), .int .i64 (d.shape 2), .int .i64 (d.shape 3), .int .i64 (d.shape 4), .int .i64 (d.shape 5), .int .i64 (d.shape 6), .int .i64 (d.shape 7), .int .i64 (d.shape 8), .slice bao1 d.groups.1 bcap1, .slice bao2 d.on.1 bcap2, .slice bao3 d.tapes.1 bcap3, .int .i64 d.writes, .int .i64 d.stop, .bool d.down] 34 34 := T3.call b4
  clear T3 b4
  have x4_12 : w4.cell? ⟨w.heap.size, 12, none⟩ = some (.int .i64 d.writes) := T4.b1.cell 12
  have y4_12 : w4.cell? ⟨w.heap.size + 1, 12, none⟩ = some (.int .i64 d.writes) := T4.b2.cell 12
  have x4_13 : w4.cell? ⟨w.heap.size, 13, none⟩ = some (.int .i64 d.stop) := T4.b1.cell 13
  have y4_13 : w4.cell? ⟨w.heap.size + 1, 13, none⟩ = some (.int .i64 d.stop) := T4.b2.cell 13
  have x4_14 : w4.cell? ⟨w.heap.size, 14, none⟩ = some (.bool d.down) := T4.b1.cell 14
  have y4_14 : w4.cell? ⟨w.heap.size + 1, 14, none⟩ = some (.bool d.down) := T4.b2.cell 14
  have B : Hid (Below w.heap.size w w4) := T4.bel
  clear T4
  go_wp2
  go_ret
  exact ⟨rfl, B.out⟩
set_option maxHeartbeats 8000000 in
set_option maxRecDepth 20000 in
theorem eqWorldResult_is : EqV layWorldResult 13 := fun c1 c2 d h1 h2 w r1 r2 u1 u2 => by
  obtain ⟨ao1_1, cap1_1, ao1_2, cap1_2, ao1_3, cap1_3, rfl, g1, -⟩ := WorldResult_rd r1
  obtain ⟨bao1_1, bcap1_1, bao1_2, bcap1_2, bao1_3, bcap1_3, rfl, q1, -⟩ := WorldResult_rd r2
  clear r1 r2
  have G1 : Hid (layWorld.rd w h1 d.world [.int .i64 (d.world.shape 0), .int .i64 (d.world.shape 1), .int .i64 (d.world.shape 2), .int .i64 (d.world.shape 3), .int .i64 (d.world.shape 4), .int .i64 (d.world.shape 5), .int .i64 (d.world.shape 6), .int .i64 (d.world.shape 7), .int .i64 (d.world.shape 8), .slice ao1_1 d.world.groups.1 cap1_1, .slice ao1_2 d.world.on.1 cap1_2, .slice ao1_3 d.world.tapes.1 cap1_3, .int .i64 d.world.writes, .int .i64 d.world.stop, .bool d.world.down]) := g1
  have E1 : Hid (layWorld.rd w h2 d.world [.int .i64 (d.world.shape 0), .int .i64 (d.world.shape 1), .int .i64 (d.world.shape 2), .int .i64 (d.world.shape 3), .int .i64 (d.world.shape 4), .int .i64 (d.world.shape 5), .int .i64 (d.world.shape 6), .int .i64 (d.world.shape 7), .int .i64 (d.world.shape 8), .slice bao1_1 d.world.groups.1 bcap1_1, .slice bao1_2 d.world.on.1 bcap1_2, .slice bao1_3 d.world.tapes.1 bcap1_3, .int .i64 d.world.writes, .int .i64 d.world.stop, .bool d.world.down]) := q1
  clear g1 q1
  go_enter Tryz.func13, Tryz.ntmps13
  go_wp2_with fail
  have T0 := two_newb w #[.int .i64 d.code, .int .i64 (d.world.shape 0), .int .i64 (d.world.shape 1), .int .i64 (d.world.shape 2), .int .i64 (d.world.shape 3), .int .i64 (d.world.shape 4), .int .i64 (d.world.shape 5), .int .i64 (d.world.shape 6), .int .i64 (d.world.shape 7), .int .i64 (d.world.shape 8), .slice ao1_1 d.world.groups.1 cap1_1, .slice ao1_2 d.world.on.1 cap1_2, .slice ao1_3 d.world.tapes.1 cap1_3, .int .i64 d.world.writes, .int .i64 d.world.stop, .bool d.world.down] #[.int .i64 d.code, .int .i64 (d.world.shape 0), .int .i64 (d.world.shape 1), .int .i64 (d.world.shape 2), .int .i64 (d.world.shape 3), .int .i64 (d.world.shape 4), .int .i64 (d.world.shape 5), .int .i64 (d.world.shape 6), .int .i64 (d.world.shape 7), .int .i64 (d.world.shape 8), .slice bao1_1 d.world.groups.1 bcap1_1, .slice bao1_2 d.world.on.1 bcap1_2, .slice bao1_3 d.world.tapes.1 bcap1_3, .int .i64 d.world.writes, .int .i64 d.world.stop, .bool d.world.down] 36 36
  refine (eqWorld_is _ _ d.world h1 h2 _ (layWorld.rd_below G1.out T0.bel u1) (layWorld.rd_below E1.out T0.bel u2) (Nat.le_trans u1 T0.bel.size) (Nat.le_trans u2 T0.bel.size)).mono ?_
  rintro e w1 ⟨rfl, b1⟩
  have T1 : Two w w1 #[.int .i64 d.code, .int .i64 (d.world.shape 0), .int .i64 (d.world.shape 1), .int .i64 (d.world.shape 2), .int .i64 (d.world.shape 3), .int .i64 (d.world.shape 4), .int .i64 (d.world.shape 5), .int .i64 (d.world.shape 6), .int .i64 (d.world.shape 7), .int .i64 (d.world.shape 8), .slice ao1_1 d.world.groups.1 cap1_1, .slice ao1_2 d.world.on.1 cap1_2, .slice ao1_3 d.world.tapes.1 cap1_3, .int .i64 d.world.writes, .int .i64 d.world.stop, .bool d.world.down] #[.int .i64 d.code, .int .i64 (d.world.shape 0), .int .i64 (d.world.shape 1), .int .i64 (d.world.shape 2), .int .i64 (d.world.shape 3), .int .i64 (d.world.shape 4), .int .i64 (d.world.shape 5), .int .i64 (d.world.shape 6), .int .i64 (d.world.shape 7), .int .i64 (d.world.shape 8), .slice bao1_1 d.world.groups.1 bcap1_1, .slice bao1_2 d.world.on.1 bcap1_2, .slice bao1_3 d.world.tapes.1 bcap1_3, .int .i64 d.world.writes, .int .i64 d.world.stop, .bool d.world.down] 36 36 := T0.call b1
  clear T0 b1
  have B : Hid (Below w.heap.size w w1) := T1.bel
  clear T1
  go_wp2
  go_ret
  exact ⟨rfl, B.out⟩
set_option maxHeartbeats 8000000 in
set_option maxRecDepth 20000 in
theorem eqBlockResult_is : EqV layBlockResult 22 := fun c1 c2 d h1 h2 w r1 r2 u1 u2 => by
  obtain ⟨ao1_1, cap1_1, rfl, g1, -⟩ := BlockResult_rd r1
  obtain ⟨bao1_1, bcap1_1, rfl, q1, -⟩ := BlockResult_rd r2
  clear r1 r2
  have G1 : Hid (layBlock.rd w h1 d.block [.int .i64 d.block.stamp, .slice ao1_1 d.block.bytes.1 cap1_1]) := g1
  have E1 : Hid (layBlock.rd w h2 d.block [.int .i64 d.block.stamp, .slice bao1_1 d.block.bytes.1 bcap1_1]) := q1
  clear g1 q1
  go_enter Tryz.func22, Tryz.ntmps22
  go_wp2_with fail
  have T0 := two_newb w #[.int .i64 d.code, .int .i64 d.block.stamp, .slice ao1_1 d.block.bytes.1 cap1_1] #[.int .i64 d.code, .int .i64 d.block.stamp, .slice bao1_1 d.block.bytes.1 bcap1_1] 48 48
  refine (eqBlock_is _ _ d.block h1 h2 _ (layBlock.rd_below G1.out T0.bel u1) (layBlock.rd_below E1.out T0.bel u2) (Nat.le_trans u1 T0.bel.size) (Nat.le_trans u2 T0.bel.size)).mono ?_
  rintro e w1 ⟨rfl, b1⟩
  have T1 : Two w w1 #[.int .i64 d.code, .int .i64 d.block.stamp, .slice ao1_1 d.block.bytes.1 cap1_1] #[.int .i64 d.code, .int .i64 d.block.stamp, .slice bao1_1 d.block.bytes.1 bcap1_1] 48 48 := T0.call b1
  clear T0 b1
  have B : Hid (Below w.heap.size w w1) := T1.bel
  clear T1
  go_wp2
  go_ret
  exact ⟨rfl, B.out⟩
end Go.Proofs.YtbmfndjglndnlaaGreat
