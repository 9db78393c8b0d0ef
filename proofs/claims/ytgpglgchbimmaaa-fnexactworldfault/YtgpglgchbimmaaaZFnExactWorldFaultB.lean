/- Walk of the specification's look at the record of an object. -/
import Derived.Test.YtgpglgchbimmaaaCells
import Derived.Test.YtgpglgchbimmaaaZFnExactWorldFaultA
import Derived.Test.YtgpglgchbimmaaaWRowF
import Derived.Test.YtgpglgchbimmaaaProg
import Derived.Test.YtgpglgchbimmaaaBits
import Derived.WalkLawsBesides
import Derived.Test.YtgpglgchbimmaaaColDefs
import Derived.Test.YtgpglgchbimmaaaWColA
import Derived.Test.YtgpglgchbimmaaaWInts
import Derived.Lib.QuietBelow
import Derived.Deep.Cut
namespace Go.Proofs.Ytgpglgchbimmaaa
open Go.RowKit F256
set_option linter.unusedVariables false
set_option linter.unusedSimpArgs false
set_option maxHeartbeats 4000000 in
theorem szRec_is : SzV layRec szRecD 10 := fun cs d hi L w r hhi hL => by
  obtain ⟨ao6, cap6, ao7, cap7, ao8, cap8, rfl, r6, r7, r8, k0, k1, k2, k3, k4, k5⟩ := Rec_rd r
  clear r
  unfold szRecD
  have R6 : Hid (layInts.rd w hi d.rows [.slice ao6 d.rows.1 cap6]) := r6
  have R7 : Hid (layBytes.rd w hi d.data [.slice ao7 d.data.1 cap7]) := r7
  have R8 : Hid (layBytes.rd w hi d.delta [.slice ao8 d.delta.1 cap8]) := r8
  clear r6 r7 r8
  unfold maxLen at k2
  by_cases hnm : L < d.name.size
  · have hz : (L : Int) - (d.name.size : Int) < 0 := by omega
    go_enter Try.func10, Try.ntmps10
    go_wp2
    go_ret
    exact ⟨-1, rfl, .inl rfl, (one_new w _ _).bel⟩
  · have hz : ¬ (L : Int) - (d.name.size : Int) < 0 := by omega
    obtain ⟨M0, hM0⟩ : ∃ M0 : Nat, M0 + d.name.size = L := ⟨L - d.name.size, by omega⟩
    have eM0 : (L : Int) - (d.name.size : Int) = (M0 : Int) := by omega
    go_enter Try.func10, Try.ntmps10
    go_wp2_with fail
    have T0 := one_new w #[.int .i64 d.kind, .int .i64 d.seq, .string d.name, .int .i64 d.length, .int .i64 d.group, .int .i64 d.row, .slice ao6 d.rows.1 cap6, .slice ao7 d.data.1 cap7, .slice ao8 d.delta.1 cap8] 41
    have HM0 : Hid (M0 + d.name.size = L) := hM0
    have hML0 : M0 ≤ L := by omega
    first | rw [eM0] | skip
    clear hM0
    refine (szInts_is _ d.rows hi M0 _ (layInts.rd_below R6.out T0.bel hhi) (Nat.le_trans hhi T0.bel.size) (by omega)).mono ?_
    rintro e w1 ⟨y1, rfl, s1, b1⟩
    have T1 : One w w1 #[.int .i64 d.kind, .int .i64 d.seq, .string d.name, .int .i64 d.length, .int .i64 d.group, .int .i64 d.row, .slice ao6 d.rows.1 cap6, .slice ao7 d.data.1 cap7, .slice ao8 d.delta.1 cap8] 41 := T0.call b1
    have x1_7 : w1.cell? ⟨w.heap.size, 7, none⟩ = some (.slice ao7 d.data.1 cap7) := T1.b1.cell 7
    have HB1 : Hid (Below w.heap.size w w1) := T1.bel
    rcases s1 with rfl | ⟨l1, hy1⟩
    · clear T1 T0 b1
      go_wp2
      go_ret
      exact ⟨-1, rfl, .inl rfl, HB1.out⟩
    obtain ⟨M1, hM1⟩ : ∃ M : Nat, M + lenD d.rows = M0 := ⟨M0 - lenD d.rows, by omega⟩
    obtain rfl : y1 = ((M1 : Nat) : Int) := by omega
    have HM1 : Hid (M1 + lenD d.rows = M0) := hM1
    have hML1 : M1 ≤ M0 := by omega
    have hz1 : ¬ ((M1 : Int) < 0) := by omega
    clear hM1 hy1 l1 T0 b1
    go_wp2_with fail
    refine (szBytes_is _ d.data hi M1 _ (layBytes.rd_below R7.out T1.bel hhi) (Nat.le_trans hhi T1.bel.size) (by omega)).mono ?_
    rintro e w2 ⟨y2, rfl, s2, b2⟩
    have T2 : One w w2 #[.int .i64 d.kind, .int .i64 d.seq, .string d.name, .int .i64 d.length, .int .i64 d.group, .int .i64 d.row, .slice ao6 d.rows.1 cap6, .slice ao7 d.data.1 cap7, .slice ao8 d.delta.1 cap8] 41 := T1.call b2
    have x2_8 : w2.cell? ⟨w.heap.size, 8, none⟩ = some (.slice ao8 d.delta.1 cap8) := T2.b1.cell 8
    have HB2 : Hid (Below w.heap.size w w2) := T2.bel
    rcases s2 with rfl | ⟨l2, hy2⟩
    · clear T2 T1 b2
      go_wp2
      go_ret
      exact ⟨-1, rfl, .inl rfl, HB2.out⟩
    obtain ⟨M2, hM2⟩ : ∃ M : Nat, M + lenD d.data = M1 := ⟨M1 - lenD d.data, by omega⟩
    obtain rfl : y2 = ((M2 : Nat) : Int) := by omega
    have HM2 : Hid (M2 + lenD d.data = M1) := hM2
    have hML2 : M2 ≤ M1 := by omega
    have hz2 : ¬ ((M2 : Int) < 0) := by omega
    clear hM2 hy2 l2 T1 b2
    go_wp2_with fail
    refine (szBytes_is _ d.delta hi M2 _ (layBytes.rd_below R8.out T2.bel hhi) (Nat.le_trans hhi T2.bel.size) (by omega)).mono ?_
    rintro e w3 ⟨y3, rfl, s3, b3⟩
    have T3 : One w w3 #[.int .i64 d.kind, .int .i64 d.seq, .string d.name, .int .i64 d.length, .int .i64 d.group, .int .i64 d.row, .slice ao6 d.rows.1 cap6, .slice ao7 d.data.1 cap7, .slice ao8 d.delta.1 cap8] 41 := T2.call b3
    have HB3 : Hid (Below w.heap.size w w3) := T3.bel
    rcases s3 with rfl | ⟨l3, hy3⟩
    · clear T3 T2 b3
      go_wp2
      go_ret
      exact ⟨-1, rfl, .inl rfl, HB3.out⟩
    obtain ⟨M3, hM3⟩ : ∃ M : Nat, M + lenD d.delta = M2 := ⟨M2 - lenD d.delta, by omega⟩
    obtain rfl : y3 = ((M3 : Nat) : Int) := by omega
    have HM3 : Hid (M3 + lenD d.delta = M2) := hM3
    have hML3 : M3 ≤ M2 := by omega
    have hz3 : ¬ ((M3 : Int) < 0) := by omega
    clear hM3 hy3 l3 T2 b3
    clear T3
    go_wp2
    go_ret
    exact ⟨M3, rfl, .inr ⟨by have e0 := HM0.out; have e1 := HM1.out; have e2 := HM2.out; have e3 := HM3.out; omega, by have e0 := HM0.out; have e1 := HM1.out; have e2 := HM2.out; have e3 := HM3.out; omega⟩, HB3.out⟩
set_option maxHeartbeats 4000000 in
theorem szRecS_is : SzS (layRec.slice 45) (szSl szRecD) 79 := fun v d hi L w h hhi hL => by
  obtain ⟨n, x⟩ := d
  obtain ⟨ao, cap, hv, hm, hc⟩ := h
  cases hv
  simp only at hm hc
  unfold maxLen at hm
  by_cases hnL : L < n
  · clear hc
    have hz : (L : Int) - (n : Int) < 0 := by omega
    go_enter Try.func79, Try.ntmps79
    go_wp2
    go_ret
    exact ⟨-1, rfl, .inl rfl, Below.refl _ _⟩
  · have hz : ¬ (L : Int) - (n : Int) < 0 := by omega
    go_enter Try.func79, Try.ntmps79
    go_wp2
    go_loopw [1, 5] (fun y i wr => ∃ k M : Nat, k ≤ n ∧ i = .int .i64 k ∧ y = .int .i64 M ∧ M + n + sumN (fun i => szRecD (x i)) k = L ∧ Below w.heap.size w wr) (fun _ i _ => n - (intOf i).toNat)
    case atStart => exact ⟨0, L - n, Nat.zero_le _, rfl, val_eq (by omega), by simp [sumN]; omega, Below.refl _ _⟩
    case round =>
      obtain ⟨k, M, hk, rfl, rfl, hM, hb⟩ := hrel
      have HM : Hid (M + n + sumN (fun i => szRecD (x i)) k = L) := hM
      have hML : M ≤ L := by omega
      clear hM
      by_cases hlt : k < n
      · obtain ⟨b, off, rfl, hblt, hel⟩ := hc (by omega)
        obtain ⟨ck, hrk, hcell⟩ := elem_rd (t := 0) hel hb hhi hblt hlt
        obtain ⟨ao6, cap6, ao7, cap7, ao8, cap8, rfl, -⟩ := Rec_rd hrk
        have c0 : wr.cell? ⟨b, off + k * 9, none⟩ = some (.int .i64 (x k).kind) := hcell 0 (by decide)
        have c1 : wr.cell? ⟨b, off + k * 9 + 1, none⟩ = some (.int .i64 (x k).seq) := hcell 1 (by decide)
        have c2 : wr.cell? ⟨b, off + k * 9 + 2, none⟩ = some (.string (x k).name) := hcell 2 (by decide)
        have c3 : wr.cell? ⟨b, off + k * 9 + 3, none⟩ = some (.int .i64 (x k).length) := hcell 3 (by decide)
        have c4 : wr.cell? ⟨b, off + k * 9 + 4, none⟩ = some (.int .i64 (x k).group) := hcell 4 (by decide)
        have c5 : wr.cell? ⟨b, off + k * 9 + 5, none⟩ = some (.int .i64 (x k).row) := hcell 5 (by decide)
        have c6 : wr.cell? ⟨b, off + k * 9 + 6, none⟩ = some (.slice ao6 (x k).rows.1 cap6) := hcell 6 (by decide)
        have c7 : wr.cell? ⟨b, off + k * 9 + 7, none⟩ = some (.slice ao7 (x k).data.1 cap7) := hcell 7 (by decide)
        have c8 : wr.cell? ⟨b, off + k * 9 + 8, none⟩ = some (.slice ao8 (x k).delta.1 cap8) := hcell 8 (by decide)
        clear hc hel hcell
        go_wp2_with fail
        refine (szRec_is _ (x k) hi M _ hrk (Nat.le_trans hhi hb.size) (by omega)).mono ?_
        rintro e w2 ⟨y, rfl, s, b2⟩
        have HB : Hid (Below w.heap.size w w2) := hb.trans (b2.mono hb.size)
        clear b2 hb hrk
        rcases s with rfl | ⟨l1, hy⟩
        · go_wp2
          go_ret
          exact ⟨-1, rfl, .inl rfl, HB.out⟩
        · obtain ⟨M', hM'⟩ : ∃ M' : Nat, M' + szRecD (x k) = M := ⟨M - szRecD (x k), by omega⟩
          obtain rfl : y = (M' : Int) := by omega
          have HM' : Hid (M' + szRecD (x k) = M) := hM'
          have hz2 : ¬ ((M' : Int) < 0) := by omega
          clear hM' hy l1
          go_wp2_with fail
          go_roundw
          case rel => exact ⟨k + 1, M', by omega, by go_num, rfl, by
                have e1 := HM.out
                have e2 := HM'.out
                have e3 : sumN (fun i => szRecD (x i)) (k + 1) = sumN (fun i => szRecD (x i)) k + szRecD (x k) := rfl
                omega, HB.out⟩
          case measure => simp [intOf]; omega
      · obtain rfl : k = n := by omega
        go_wp2
        go_ret
        exact ⟨M, rfl, .inr ⟨by
          have e1 := HM.out
          show k + sumN (fun i => szRecD (x i)) k ≤ L
          omega, by
          have e1 := HM.out
          show (M : Int) = (L : Int) - ((k + sumN (fun i => szRecD (x i)) k : Nat) : Int)
          omega⟩, hb⟩
set_option maxHeartbeats 4000000 in
theorem szTape_is : SzV layTape szTapeD 53 := fun cs d hi L w r hhi hL => by
  obtain ⟨ao1, cap1, rfl, r1⟩ := Tape_rd r
  clear r
  unfold szTapeD
  have R1 : Hid ((layRec.slice 45).rd w hi d.recs [.slice ao1 d.recs.1 cap1]) := r1
  clear r1
  go_enter Try.func53, Try.ntmps53
  go_wp2_with fail
  have T0 := one_new w #[.bool d.wiped, .slice ao1 d.recs.1 cap1] 81
  refine (szRecS_is _ d.recs hi L _ ((layRec.slice 45).rd_below R1.out T0.bel hhi) (Nat.le_trans hhi T0.bel.size) (by omega)).mono ?_
  rintro e w1 ⟨y1, rfl, s1, b1⟩
  have T1 : One w w1 #[.bool d.wiped, .slice ao1 d.recs.1 cap1] 81 := T0.call b1
  have HB1 : Hid (Below w.heap.size w w1) := T1.bel
  rcases s1 with rfl | ⟨l1, hy1⟩
  · clear T1 T0 b1
    go_wp2
    go_ret
    exact ⟨-1, rfl, .inl rfl, HB1.out⟩
  obtain ⟨M1, hM1⟩ : ∃ M : Nat, M + (szSl szRecD) d.recs = L := ⟨L - (szSl szRecD) d.recs, by omega⟩
  obtain rfl : y1 = ((M1 : Nat) : Int) := by omega
  have HM1 : Hid (M1 + (szSl szRecD) d.recs = L) := hM1
  have hML1 : M1 ≤ L := by omega
  have hz1 : ¬ ((M1 : Int) < 0) := by omega
  clear hM1 hy1 l1 T0 b1
  clear T1
  go_wp2
  go_ret
  exact ⟨M1, rfl, .inr ⟨by have e0 := HM1.out; omega, by have e0 := HM1.out; omega⟩, HB1.out⟩
set_option maxHeartbeats 4000000 in
theorem szTapeS_is : SzS (layTape.slice 57) (szSl szTapeD) 18 := fun v d hi L w h hhi hL => by
  obtain ⟨n, x⟩ := d
  obtain ⟨ao, cap, hv, hm, hc⟩ := h
  cases hv
  simp only at hm hc
  unfold maxLen at hm
  by_cases hnL : L < n
  · clear hc
    have hz : (L : Int) - (n : Int) < 0 := by omega
    go_enter Try.func18, Try.ntmps18
    go_wp2
    go_ret
    exact ⟨-1, rfl, .inl rfl, Below.refl _ _⟩
  · have hz : ¬ (L : Int) - (n : Int) < 0 := by omega
    go_enter Try.func18, Try.ntmps18
    go_wp2
    go_loopw [1, 5] (fun y i wr => ∃ k M : Nat, k ≤ n ∧ i = .int .i64 k ∧ y = .int .i64 M ∧ M + n + sumN (fun i => szTapeD (x i)) k = L ∧ Below w.heap.size w wr) (fun _ i _ => n - (intOf i).toNat)
    case atStart => exact ⟨0, L - n, Nat.zero_le _, rfl, val_eq (by omega), by simp [sumN]; omega, Below.refl _ _⟩
    case round =>
      obtain ⟨k, M, hk, rfl, rfl, hM, hb⟩ := hrel
      have HM : Hid (M + n + sumN (fun i => szTapeD (x i)) k = L) := hM
      have hML : M ≤ L := by omega
      clear hM
      by_cases hlt : k < n
      · obtain ⟨b, off, rfl, hblt, hel⟩ := hc (by omega)
        obtain ⟨ck, hrk, hcell⟩ := elem_rd (t := 0) hel hb hhi hblt hlt
        obtain ⟨ao1, cap1, rfl, -⟩ := Tape_rd hrk
        have c0 : wr.cell? ⟨b, off + k * 2, none⟩ = some (.bool (x k).wiped) := hcell 0 (by decide)
        have c1 : wr.cell? ⟨b, off + k * 2 + 1, none⟩ = some (.slice ao1 (x k).recs.1 cap1) := hcell 1 (by decide)
        clear hc hel hcell
        go_wp2_with fail
        refine (szTape_is _ (x k) hi M _ hrk (Nat.le_trans hhi hb.size) (by omega)).mono ?_
        rintro e w2 ⟨y, rfl, s, b2⟩
        have HB : Hid (Below w.heap.size w w2) := hb.trans (b2.mono hb.size)
        clear b2 hb hrk
        rcases s with rfl | ⟨l1, hy⟩
        · go_wp2
          go_ret
          exact ⟨-1, rfl, .inl rfl, HB.out⟩
        · obtain ⟨M', hM'⟩ : ∃ M' : Nat, M' + szTapeD (x k) = M := ⟨M - szTapeD (x k), by omega⟩
          obtain rfl : y = (M' : Int) := by omega
          have HM' : Hid (M' + szTapeD (x k) = M) := hM'
          have hz2 : ¬ ((M' : Int) < 0) := by omega
          clear hM' hy l1
          go_wp2_with fail
          go_roundw
          case rel => exact ⟨k + 1, M', by omega, by go_num, rfl, by
                have e1 := HM.out
                have e2 := HM'.out
                have e3 : sumN (fun i => szTapeD (x i)) (k + 1) = sumN (fun i => szTapeD (x i)) k + szTapeD (x k) := rfl
                omega, HB.out⟩
          case measure => simp [intOf]; omega
      · obtain rfl : k = n := by omega
        go_wp2
        go_ret
        exact ⟨M, rfl, .inr ⟨by
          have e1 := HM.out
          show k + sumN (fun i => szTapeD (x i)) k ≤ L
          omega, by
          have e1 := HM.out
          show (M : Int) = (L : Int) - ((k + sumN (fun i => szTapeD (x i)) k : Nat) : Int)
          omega⟩, hb⟩
end Go.Proofs.Ytgpglgchbimmaaa

namespace Go.Proofs.Ytgpglgchbimmaaa
open Go.RowKit F256
set_option linter.unusedVariables false
set_option linter.unusedSimpArgs false
set_option maxHeartbeats 4000000 in
theorem szWorld_is : SzV layWorld szWorldD 5 := fun cs d hi L w r hhi hL => by
  obtain ⟨ao1, cap1, ao2, cap2, ao3, cap3, rfl, r1, r2, r3, k0, k4, k5⟩ := World_rd r
  clear r
  unfold szWorldD
  have R1 : Hid (((layDrive.slice 86).slice 83).rd w hi d.groups [.slice ao1 d.groups.1 cap1]) := r1
  have R2 : Hid (layInts.rd w hi d.on [.slice ao2 d.on.1 cap2]) := r2
  have R3 : Hid ((layTape.slice 57).rd w hi d.tapes [.slice ao3 d.tapes.1 cap3]) := r3
  clear r1 r2 r3
  go_enter Try.func5, Try.ntmps5
  go_wp2_with fail
  have T0 := one_new w #[.int .i64 (d.shape 0), .int .i64 (d.shape 1), .int .i64 (d.shape 2), .int .i64 (d.shape 3), .int .i64 (d.shape 4), .int .i64 (d.shape 5), .int .i64 (d.shape 6), .int .i64 (d.shape 7), .int .i64 (d.shape 8), .slice ao1 d.groups.1 cap1, .slice ao2 d.on.1 cap2, .slice ao3 d.tapes.1 cap3, .int .i64 d.writes, .int .i64 d.stop, .bool d.down] 28
  refine (szDriveSS_is _ d.groups hi L _ (((layDrive.slice 86).slice 83).rd_below R1.out T0.bel hhi) (Nat.le_trans hhi T0.bel.size) (by omega)).mono ?_
  rintro e w1 ⟨y1, rfl, s1, b1⟩
  have T1 : One w w1 #[.int .i64 (d.shape 0), .int .i64 (d.shape 1), .int .i64 (d.shape 2), .int .i64 (d.shape 3), .int .i64 (d.shape 4), .int .i64 (d.shape 5), .int .i64 (d.shape 6), .int .i64 (d.shape 7), .int .i64 (d.shape 8), .slice ao1 d.groups.1 cap1, .slice ao2 d.on.1 cap2, .slice ao3 d.tapes.1 cap3, .int .i64 d.writes, .int .i64 d.stop, .bool d.down] 28 := T0.call b1
  have x1_10 : w1.cell? ⟨w.heap.size, 10, none⟩ = some (.slice ao2 d.on.1 cap2) := T1.b1.cell 10
  have HB1 : Hid (Below w.heap.size w w1) := T1.bel
  rcases s1 with rfl | ⟨l1, hy1⟩
  · clear T1 T0 b1
    go_wp2
    go_ret
    exact ⟨-1, rfl, .inl rfl, HB1.out⟩
  obtain ⟨M1, hM1⟩ : ∃ M : Nat, M + (szSl (szSl szDriveD)) d.groups = L := ⟨L - (szSl (szSl szDriveD)) d.groups, by omega⟩
  obtain rfl : y1 = ((M1 : Nat) : Int) := by omega
  have HM1 : Hid (M1 + (szSl (szSl szDriveD)) d.groups = L) := hM1
  have hML1 : M1 ≤ L := by omega
  have hz1 : ¬ ((M1 : Int) < 0) := by omega
  clear hM1 hy1 l1 T0 b1
  go_wp2_with fail
  refine (szInts_is _ d.on hi M1 _ (layInts.rd_below R2.out T1.bel hhi) (Nat.le_trans hhi T1.bel.size) (by omega)).mono ?_
  rintro e w2 ⟨y2, rfl, s2, b2⟩
  have T2 : One w w2 #[.int .i64 (d.shape 0), .int .i64 (d.shape 1), .int .i64 (d.shape 2), .int .i64 (d.shape 3), .int .i64 (d.shape 4), .int .i64 (d.shape 5), .int .i64 (d.shape 6), .int .i64 (d.shape 7), .int .i64 (d.shape 8), .slice ao1 d.groups.1 cap1, .slice ao2 d.on.1 cap2, .slice ao3 d.tapes.1 cap3, .int .i64 d.writes, .int .i64 d.stop, .bool d.down] 28 := T1.call b2
  have x2_11 : w2.cell? ⟨w.heap.size, 11, none⟩ = some (.slice ao3 d.tapes.1 cap3) := T2.b1.cell 11
  have HB2 : Hid (Below w.heap.size w w2) := T2.bel
  rcases s2 with rfl | ⟨l2, hy2⟩
  · clear T2 T1 b2
    go_wp2
    go_ret
    exact ⟨-1, rfl, .inl rfl, HB2.out⟩
  obtain ⟨M2, hM2⟩ : ∃ M : Nat, M + lenD d.on = M1 := ⟨M1 - lenD d.on, by omega⟩
  obtain rfl : y2 = ((M2 : Nat) : Int) := by omega
  have HM2 : Hid (M2 + lenD d.on = M1) := hM2
  have hML2 : M2 ≤ M1 := by omega
  have hz2 : ¬ ((M2 : Int) < 0) := by omega
  clear hM2 hy2 l2 T1 b2
  go_wp2_with fail
  refine (szTapeS_is _ d.tapes hi M2 _ ((layTape.slice 57).rd_below R3.out T2.bel hhi) (Nat.le_trans hhi T2.bel.size) (by omega)).mono ?_
  rintro e w3 ⟨y3, rfl, s3, b3⟩
  have T3 : One w w3 #[.int .i64 (d.shape 0), .int .i64 (d.shape 1), .int .i64 (d.shape 2), .int .i64 (d.shape 3), .int .i64 (d.shape 4), .int .i64 (d.shape 5), .int .i64 (d.shape 6), .int .i64 (d.shape 7), .int .i64 (d.shape 8), .slice ao1 d.groups.1 cap1, .slice ao2 d.on.1 cap2, .slice ao3 d.tapes.1 cap3, .int .i64 d.writes, .int .i64 d.stop, .bool d.down] 28 := T2.call b3
  have HB3 : Hid (Below w.heap.size w w3) := T3.bel
  rcases s3 with rfl | ⟨l3, hy3⟩
  · clear T3 T2 b3
    go_wp2
    go_ret
    exact ⟨-1, rfl, .inl rfl, HB3.out⟩
  obtain ⟨M3, hM3⟩ : ∃ M : Nat, M + (szSl szTapeD) d.tapes = M2 := ⟨M2 - (szSl szTapeD) d.tapes, by omega⟩
  obtain rfl : y3 = ((M3 : Nat) : Int) := by omega
  have HM3 : Hid (M3 + (szSl szTapeD) d.tapes = M2) := hM3
  have hML3 : M3 ≤ M2 := by omega
  have hz3 : ¬ ((M3 : Int) < 0) := by omega
  clear hM3 hy3 l3 T2 b3
  clear T3
  go_wp2
  go_ret
  exact ⟨M3, rfl, .inr ⟨by have e0 := HM1.out; have e1 := HM2.out; have e2 := HM3.out; omega, by have e0 := HM1.out; have e1 := HM2.out; have e2 := HM3.out; omega⟩, HB3.out⟩
end Go.Proofs.Ytgpglgchbimmaaa

namespace Go.Proofs.Ytgpglgchbimmaaa
open Go.RowKit F256
set_option linter.unusedVariables false
set_option linter.unusedSimpArgs false

/-- the bytes of a string -/
def nameByte (b : ByteArray) (i : Nat) : Nat := if h : i < b.size then (b[i]'h).toNat else 0
theorem nameByte_lt (b : ByteArray) (i : Nat) : nameByte b i < 256 := by
  unfold nameByte
  split
  · exact UInt8.toNat_lt _
  · omega
theorem index_name (b : ByteArray) (i : Nat) (h : i < b.size) (w : World) : (Instr.index 9 (.string b) (.int .i64 (i : Int))).run Try.prog w = .ok (.int .u8 (nameByte b i)) w := by
  rw [run_index_string w 9 b .i64 (i : Int) Try.underlying9, dif_pos ⟨by omega, by omega⟩]
  simp [nameByte, h]
def LetP (y : Nat) : Prop := 97 ≤ y ∧ y ≤ 122
def DigP (y : Nat) : Prop := 48 ≤ y ∧ y ≤ 57
/-- a name that has no fault -/
def OkName (b : ByteArray) : Prop := 1 ≤ b.size ∧ b.size ≤ 8 ∧ LetP (nameByte b 0) ∧ ∀ i, i < b.size → LetP (nameByte b i) ∨ DigP (nameByte b i)
def NmAns (b : ByteArray) (x : Int) : Prop := (x = 5 ∧ ¬ OkName b) ∨ (x = 0 ∧ OkName b)
theorem NmAns.one {b : ByteArray} {x y : Int} (h : NmAns b x) (k : NmAns b y) : x = y := by
  rcases h with ⟨rfl, h⟩ | ⟨rfl, h⟩ <;> rcases k with ⟨rfl, k⟩ | ⟨rfl, k⟩ <;> first | rfl | exact absurd h k | exact absurd k h

set_option maxHeartbeats 4000000 in
theorem specName_any (b : ByteArray) (hb : b.size ≤ 1048576) (w : World) :
    Calls Try.prog 40 #[.string b] w fun e w' => ∃ x, e = .returned (.int .i64 x) ∧ NmAns b x ∧ w' = w := by
  by_cases h1 : 1 ≤ b.size
  · have t1 : decide ((b.size : Int) < 1) = false := by simp; omega
    have t1n : decide (b.size < 1) = false := decide_eq_false (by omega)
    have t1z : decide (b.size = 0) = false := decide_eq_false (by omega)
    by_cases h2 : b.size ≤ 8
    · have t2 : decide ((8 : Int) < (b.size : Int)) = false := by simp; omega
      have t2n : decide (8 < b.size) = false := by simp; omega
      have hix := index_name b 0 h1
      have e0 : ((0 : Nat) : Int) = 0 := rfl
      rw [e0] at hix
      obtain ⟨y, hy⟩ : ∃ y, y = nameByte b 0 := ⟨_, rfl⟩
      rw [← hy] at hix
      have HY : Hid (y = nameByte b 0) := hy
      clear e0 hy
      by_cases h3 : y < 97
      · have HN : Hid (¬ OkName b) := fun h => by have := h.2.2.1.1; rw [← HY.out] at this; omega
        have t3 : decide ((y : Int) < 97) = true := by simp; omega
        go_enter Try.func40, Try.ntmps40
        go_wp2
        go_ret
        exact ⟨5, rfl, .inl ⟨rfl, HN.out⟩, rfl⟩
      · have t3 : decide ((y : Int) < 97) = false := by simp; omega
        have t3n : decide (y < 97) = false := by simp; omega
        by_cases h4 : 122 < y
        · have HN : Hid (¬ OkName b) := fun h => by have := h.2.2.1.2; rw [← HY.out] at this; omega
          have t4 : decide ((122 : Int) < (y : Int)) = true := by simp; omega
          clear h3
          go_enter Try.func40, Try.ntmps40
          go_wp2
          go_ret
          exact ⟨5, rfl, .inl ⟨rfl, HN.out⟩, rfl⟩
        · have t4 : decide ((122 : Int) < (y : Int)) = false := by simp; omega
          have t4n : decide (122 < y) = false := by simp; omega
          have HL : Hid (LetP (nameByte b 0)) := by show LetP (nameByte b 0); rw [← HY.out]; exact ⟨by omega, by omega⟩
          clear h3 h4
          go_enter Try.func40, Try.ntmps40
          go_wp2
          go_loop [3] (fun i => ∃ k : Nat, k ≤ b.size ∧ i = .int .i64 k ∧ ∀ i, i < k → LetP (nameByte b i) ∨ DigP (nameByte b i)) (fun i => b.size - (intOf i).toNat)
          case atStart => exact ⟨0, Nat.zero_le _, rfl, fun i hi => by omega⟩
          case round =>
            obtain ⟨k, hk, rfl, hall⟩ := hrel
            have HALL : Hid (∀ i, i < k → LetP (nameByte b i) ∨ DigP (nameByte b i)) := hall
            clear hall
            by_cases hlt : k < b.size
            · have hik := index_name b k hlt
              obtain ⟨z, hz⟩ : ∃ z, z = nameByte b k := ⟨_, rfl⟩
              rw [← hz] at hik
              have HZ : Hid (z = nameByte b k) := hz
              clear hz
              by_cases c1 : z < 97
              · have s1 : decide ((z : Int) < 97) = true := by simp; omega
                by_cases c3 : z < 48
                · have s3 : decide ((z : Int) < 48) = true := by simp; omega
                  have HN : Hid (¬ OkName b) := fun h => by
                    have := h.2.2.2 k hlt
                    rw [← HZ.out] at this
                    unfold LetP DigP at this
                    omega
                  go_wp2
                  go_ret
                  exact ⟨5, rfl, .inl ⟨rfl, HN.out⟩, rfl⟩
                · have s3 : decide ((z : Int) < 48) = false := by simp; omega
                  have s3n : decide (z < 48) = false := by simp; omega
                  by_cases c4 : 57 < z
                  · have s4 : decide ((57 : Int) < (z : Int)) = true := by simp; omega
                    have HN : Hid (¬ OkName b) := fun h => by
                      have := h.2.2.2 k hlt
                      rw [← HZ.out] at this
                      unfold LetP DigP at this
                      omega
                    clear c3
                    go_wp2
                    go_ret
                    exact ⟨5, rfl, .inl ⟨rfl, HN.out⟩, rfl⟩
                  · have s4 : decide ((57 : Int) < (z : Int)) = false := by simp; omega
                    have s4n : decide (57 < z) = false := by simp; omega
                    have HD : Hid (DigP (nameByte b k)) := by show DigP (nameByte b k); rw [← HZ.out]; exact ⟨by omega, by omega⟩
                    clear c3 c4
                    go_wp2
                    go_round
                    case rel => exact ⟨k + 1, by omega, by go_num, fun i hi => by
                                  by_cases c : i = k
                                  · right; rw [c]; exact HD.out
                                  · exact HALL.out i (by omega)⟩
                    case measure => simp [intOf]; omega
              · have s1 : decide ((z : Int) < 97) = false := by simp; omega
                have s1n : decide (z < 97) = false := by simp; omega
                by_cases c2 : 122 < z
                · have s2 : decide ((122 : Int) < (z : Int)) = true := by simp; omega
                  have s3 : decide ((z : Int) < 48) = false := by simp; omega
                  have s3n : decide (z < 48) = false := by simp; omega
                  have s4 : decide ((57 : Int) < (z : Int)) = true := by simp; omega
                  have HN : Hid (¬ OkName b) := fun h => by
                    have := h.2.2.2 k hlt
                    rw [← HZ.out] at this
                    unfold LetP DigP at this
                    omega
                  clear c1
                  go_wp2
                  go_ret
                  exact ⟨5, rfl, .inl ⟨rfl, HN.out⟩, rfl⟩
                · have s2 : decide ((122 : Int) < (z : Int)) = false := by simp; omega
                  have s2n : decide (122 < z) = false := by simp; omega
                  have HD : Hid (LetP (nameByte b k)) := by show LetP (nameByte b k); rw [← HZ.out]; exact ⟨by omega, by omega⟩
                  clear c1 c2
                  go_wp2
                  go_round
                  case rel => exact ⟨k + 1, by omega, by go_num, fun i hi => by
                                by_cases c : i = k
                                · left; rw [c]; exact HD.out
                                · exact HALL.out i (by omega)⟩
                  case measure => simp [intOf]; omega
            · obtain rfl : k = b.size := by omega
              have HY2 : Hid (OkName b) := ⟨h1, h2, HL.out, HALL.out⟩
              go_wp2
              go_ret
              exact ⟨0, rfl, .inr ⟨rfl, HY2.out⟩, rfl⟩
    · have HN : Hid (¬ OkName b) := fun h => h2 h.2.1
      have t2 : decide ((8 : Int) < (b.size : Int)) = true := by simp; omega
      have t2i : (8 : Int) < (b.size : Int) := by omega
      clear h2
      go_enter Try.func40, Try.ntmps40
      go_wp2
      go_ret
      exact ⟨5, rfl, .inl ⟨rfl, HN.out⟩, rfl⟩
  · have HN : Hid (¬ OkName b) := fun h => h1 h.1
    have t1 : decide ((b.size : Int) < 1) = true := by simp; omega
    have t1i : (b.size : Int) < 1 := by omega
    clear h1
    go_enter Try.func40, Try.ntmps40
    go_wp2
    go_ret
    exact ⟨5, rfl, .inl ⟨rfl, HN.out⟩, rfl⟩
end Go.Proofs.Ytgpglgchbimmaaa

namespace Go.Proofs.Ytgpglgchbimmaaa
open Go.RowKit F256
set_option linter.unusedVariables false

def InP (x a b : Int) : Prop := a ≤ x ∧ x ≤ b
/-- numbers from 0 to most, no two alike -/
def ApartP (n : Nat) (g : Nat → Int) (most : Int) : Prop := ∀ i, i < n → InP (g i) 0 most ∧ ∀ t, t < i → g t ≠ g i
def ItemP (s : Nat → Int) (r : RecD) : Prop :=
  (r.length = -1 ∧ r.data.1 = 0 ∧ r.rows.1 = 0) ∨
  (r.length ≠ -1 ∧ 1 ≤ r.length ∧ r.length ≤ 3 * (s 2 * 4) ∧
    ((0 < r.data.1 ∧ (r.data.1 : Int) = r.length ∧ r.rows.1 = 0) ∨
     (r.data.1 = 0 ∧ (r.rows.1 : Int) = (r.length + s 2 * 4 - 1) / (s 2 * 4) ∧ ApartP r.rows.1 r.rows.2 (s 4 - 1))))
def MoveP (s : Nat → Int) (r : RecD) : Prop := InP r.group 0 (s 0 - 1) ∧ InP r.row 0 (s 4 - 1) ∧ (r.data.1 : Int) = s 2 * 4 ∧ (r.delta.1 : Int) = s 2 * 4
def DoneP (s : Nat → Int) (r : RecD) : Prop := InP r.group 0 (s 0 + s 1 - 1)
def WeightsP (s : Nat → Int) (r : RecD) : Prop := (r.delta.1 : Int) = s 0 + s 1 ∧ r.delta.2 r.group.toNat = 0 ∧ ∀ i, i < r.rows.1 → r.delta.2 (r.rows.2 i).toNat ≠ 0
def ShareP (s : Nat → Int) (r : RecD) : Prop := InP r.group 0 (s 0 + s 1 - 1) ∧ InP r.row 0 (s 4 - 1) ∧ RiseP r.rows.1 r.rows.2 (s 0 + s 1 - 1) ∧ (r.data.1 : Int) = s 2 * 4 ∧ WeightsP s r
def KindP (s : Nat → Int) (r : RecD) : Prop := (r.kind = 1 ∧ ItemP s r) ∨ (r.kind = 2 ∧ MoveP s r) ∨ (r.kind = 3 ∧ DoneP s r) ∨ (r.kind = 4 ∧ ShareP s r)
def noName (r : RecD) : Prop := r.name = ByteArray.empty ∧ r.length = 0
def BlankP (r : RecD) : Prop :=
  (r.kind = 1 ∧ r.group = 0 ∧ r.row = 0 ∧ r.delta.1 = 0) ∨ (r.kind = 2 ∧ noName r ∧ r.rows.1 = 0) ∨
  (r.kind = 3 ∧ noName r ∧ r.row = 0 ∧ r.rows.1 = 0 ∧ r.data.1 = 0 ∧ r.delta.1 = 0) ∨ (r.kind = 4 ∧ noName r)
def NamedP (r : RecD) : Prop := r.kind = 1 → OkName r.name
/-- codes asked one behind the other: the first that falls is told; behind them all K -/
def Stair : List (Prop × Int) → (Int → Prop) → Int → Prop
  | [], K, x => K x
  | (p, c) :: l, K, x => (¬ p ∧ x = c) ∨ (p ∧ Stair l K x)
theorem Stair.fall {p : Prop} {c : Int} {l : List (Prop × Int)} {K : Int → Prop} (h : ¬ p) : Stair ((p, c) :: l) K c := .inl ⟨h, rfl⟩
theorem Stair.pass {p : Prop} {c : Int} {l : List (Prop × Int)} {K : Int → Prop} {x : Int} (h : p) (k : Stair l K x) : Stair ((p, c) :: l) K x := .inr ⟨h, k⟩
theorem Stair.last {K : Int → Prop} {x : Int} (h : K x) : Stair [] K x := h
theorem Stair.one {K : Int → Prop} (hK : ∀ x y, K x → K y → x = y) : ∀ (l : List (Prop × Int)) {x y : Int}, Stair l K x → Stair l K y → x = y
  | [], x, y, h, k => hK x y h k
  | (p, c) :: l, x, y, h, k => by
    rcases h with ⟨h1, h2⟩ | ⟨h1, h2⟩ <;> rcases k with ⟨k1, k2⟩ | ⟨k1, k2⟩
    · rw [h2, k2]
    · exact absurd k1 h1
    · exact absurd h1 k1
    · exact Stair.one hK l h2 k2
def isZ (x : Int) : Prop := x = 0
theorem isZ_one (x y : Int) (h : isZ x) (k : isZ y) : x = y := by rw [show x = 0 from h, show y = 0 from k]
/-- what RecFault tells -/
def RecAns (s : Nat → Int) (r : RecD) (x : Int) : Prop :=
  Stair [(OkShape s, 3), (InP r.kind 1 4, 5), (InP r.seq 1 1000000000, 3), (NamedP r, 5), (KindP s r, 3), (BlankP r, 1)] isZ x
theorem RecAns.one {s : Nat → Int} {r : RecD} {x y : Int} (h : RecAns s r x) (k : RecAns s r y) : x = y := Stair.one isZ_one _ h k

/-- groups, drives and blocks as the shape has them -/
def BlockP (b : BlockD) : Prop := InP b.stamp 0 1000000000 ∧ b.bytes.1 = 4
def BlocksP (s : Nat → Int) (p : Nat × (Nat → BlockD)) : Prop := (p.1 : Int) = s 4 ∧ ∀ i, i < p.1 → BlockP (p.2 i)
def DrivesP (s : Nat → Int) (p : Nat × (Nat → DriveD)) : Prop := (p.1 : Int) = s 2 + s 3 ∧ ∀ i, i < p.1 → BlocksP s (p.2 i).blocks
def BuiltP (d : WorldD) : Prop := (d.groups.1 : Int) = d.shape 0 + d.shape 1 ∧ ∀ i, i < d.groups.1 → DrivesP d.shape (d.groups.2 i)
def OnP (d : WorldD) : Prop := ApartP d.on.1 d.on.2 (d.shape 0 + d.shape 1 - 1) ∧ (d.on.1 : Int) ≤ d.shape 5 ∧ (d.down = true → d.on.1 = 0)
def FormP (d : WorldD) : Prop := BuiltP d ∧ OnP d ∧ d.tapes.1 = 2
def FewP (d : WorldD) : Prop := ∀ t, t < d.tapes.1 → (d.tapes.2 t).recs.1 ≤ 200
/-- the first record that has a fault -/
def RecsAns (s : Nat → Int) (n : Nat) (x : Nat → TapeD) (c : Int) : Prop :=
  (c = 0 ∧ ∀ t, t < n → ∀ i, i < (x t).recs.1 → RecAns s ((x t).recs.2 i) 0) ∨
  (c ≠ 0 ∧ ∃ t i, t < n ∧ i < (x t).recs.1 ∧ RecAns s ((x t).recs.2 i) c ∧ (∀ k, k < i → RecAns s ((x t).recs.2 k) 0) ∧ ∀ u, u < t → ∀ k, k < (x u).recs.1 → RecAns s ((x u).recs.2 k) 0)
theorem RecsAns.one {s : Nat → Int} {n : Nat} {x : Nat → TapeD} {c e : Int} (h : RecsAns s n x c) (k : RecsAns s n x e) : c = e := by
  rcases h with ⟨rfl, h⟩ | ⟨hc, t, i, ht, hi, hr, hb, hu⟩ <;> rcases k with ⟨rfl, k⟩ | ⟨kc, t', i', kt, ki, kr, kb, ku⟩
  · rfl
  · exact absurd (kr.one (h t' kt i' ki)) kc
  · exact absurd (hr.one (k t ht i hi)) hc
  · rcases Nat.lt_trichotomy t t' with c1 | c1 | c1
    · exact absurd (hr.one (ku t c1 i hi)) hc
    · subst c1
      rcases Nat.lt_trichotomy i i' with c2 | c2 | c2
      · exact absurd (hr.one (kb i c2)) hc
      · subst c2; exact hr.one kr
      · exact absurd (kr.one (hb i' c2)) kc
    · exact absurd (kr.one (hu t' c1 i' ki)) kc
def CleanP (d : WorldD) : Prop := ∀ t, t < d.tapes.1 → (d.tapes.2 t).wiped = true → (d.tapes.2 t).recs.1 = 0
def CountP (d : WorldD) : Prop := InP d.writes 0 1000000000 ∧ InP d.stop (-1) 1000000000
/-- what WorldFault tells -/
def WldAns (d : WorldD) (x : Int) : Prop :=
  Stair [(OkShape d.shape, 3), (FormP d, 1), (FewP d, 2)] (fun x => (x ≠ 0 ∧ RecsAns d.shape d.tapes.1 d.tapes.2 x) ∨ (RecsAns d.shape d.tapes.1 d.tapes.2 0 ∧ Stair [(CleanP d, 1), (CountP d, 3)] isZ x)) x
theorem WldAns.one {d : WorldD} {x y : Int} (h : WldAns d x) (k : WldAns d y) : x = y := by
  refine Stair.one (fun x y h k => ?_) _ h k
  rcases h with ⟨h1, h2⟩ | ⟨h1, h2⟩ <;> rcases k with ⟨k1, k2⟩ | ⟨k1, k2⟩
  · exact h2.one k2
  · exact absurd (h2.one k1) h1
  · exact absurd (k2.one h1) k1
  · exact Stair.one isZ_one _ h2 k2
/-- a world without a fault -/
structure OkWorld (d : WorldD) : Prop where
  shape : OkShape d.shape
  form : FormP d
  few : FewP d
  recs : ∀ t, t < d.tapes.1 → ∀ i, i < (d.tapes.2 t).recs.1 → RecAns d.shape ((d.tapes.2 t).recs.2 i) 0
  clean : CleanP d
  count : CountP d
theorem WldAns.ok {d : WorldD} (h : WldAns d 0) : OkWorld d := by
  rcases h with ⟨_, h⟩ | ⟨h1, h⟩
  · omega
  rcases h with ⟨_, h⟩ | ⟨h2, h⟩
  · omega
  rcases h with ⟨_, h⟩ | ⟨h3, h⟩
  · omega
  rcases h with ⟨h, _⟩ | ⟨h4, h⟩
  · exact absurd rfl h
  rcases h with ⟨_, h⟩ | ⟨h5, h⟩
  · omega
  rcases h with ⟨_, h⟩ | ⟨h6, h⟩
  · omega
  rcases h4 with ⟨_, h4⟩ | ⟨h4, _⟩
  · exact ⟨h1, h2, h3, h4, h5, h6⟩
  · exact absurd rfl h4
theorem exB (P : Prop) : ∃ b : Bool, b = true ↔ P := by
  by_cases h : P
  · exact ⟨true, by simp [h]⟩
  · exact ⟨false, by simp [h]⟩
end Go.Proofs.Ytgpglgchbimmaaa

namespace Go.Proofs.Ytgpglgchbimmaaa
open Go.RowKit F256

/-- a result with a number in it -/
def intR (code value : Int) : Value := .agg #[.int .i64 code, .int .i64 value]

end Go.Proofs.Ytgpglgchbimmaaa

namespace Go.Proofs.Ytgpglgchbimmaaa
open Go.RowKit F256
set_option linter.unusedVariables false
set_option linter.unusedSimpArgs false

set_option maxHeartbeats 1000000 in
theorem l1Has_any (v : Value) (n : Nat) (g : Nat → Int) (hi : Nat) (x : Int) (w : World) (r : RdI w hi v n g) :
    Calls Try.prog 57 #[v, .int .i64 x] w (BoolP (HasP n g x) w) := by
  obtain ⟨ao, cap, rfl, hm, hc⟩ := r
  unfold maxLen at hm
  go_enter Try.func57, Try.ntmps57
  go_wp2
  go_loop [5] (fun i => ∃ k : Nat, k ≤ n ∧ i = .int .i64 k ∧ ∀ i, i < k → g i ≠ x) (fun i => n - (intOf i).toNat)
  case atStart => exact ⟨0, Nat.zero_le _, rfl, fun i hi => by omega⟩
  case round =>
    obtain ⟨k, hk, rfl, hall⟩ := hrel
    have HALL : Hid (∀ i, i < k → g i ≠ x) := hall
    clear hall
    by_cases hlt : k < n
    · obtain ⟨b, off, rfl, hblt, hcell⟩ := hc (by omega)
      have hck : w.cell? ⟨b, off + k, none⟩ = some (.int .i64 (g k)) := hcell k hlt
      obtain ⟨y, hy⟩ : ∃ y, y = g k := ⟨_, rfl⟩
      have HY : Hid (y = g k) := hy
      rw [← hy] at hck
      clear hc hcell hy
      by_cases heq : y = x
      · have tn : (y == x) = true := by simp [heq]
        have HE : Hid (y = x) := heq
        clear heq
        go_wp2
        go_ret
        exact boolYes rfl ⟨k, hlt, by rw [← HY.out]; exact HE.out⟩ (Below.refl _ _)
      · have tn : (y == x) = false := by simp [heq]
        have HE : Hid (y ≠ x) := heq
        clear heq
        go_wp2
        go_round
        case rel => exact ⟨k + 1, by omega, by go_num, fun i hi => by
                      by_cases c : i = k
                      · rw [c, ← HY.out]; exact HE.out
                      · exact HALL.out i (by omega)⟩
        case measure => simp [intOf]; omega
    · obtain rfl : k = n := by omega
      go_wp2
      go_ret
      exact boolNo rfl (fun ⟨i, hi, h⟩ => HALL.out i hi h) (Below.refl _ _)
end Go.Proofs.Ytgpglgchbimmaaa

namespace Go.Proofs.Ytgpglgchbimmaaa
open Go.RowKit F256
set_option linter.unusedVariables false

theorem q_below {f : Nat} {args : Array Value} {W : World} {v : Value} (h : ∀ w', Below W.heap.size W w' → Calls Try.prog f args w' fun e w'' => e = .returned v ∧ Below w'.heap.size w' w'') :
    ∀ d os, Calls Try.prog f args (Go.Sort.grow (redrawn W d) os) fun e w'' => e = .returned v ∧ ∃ p : Regrown, w'' = Go.Sort.grow (redrawn W p.d) p.os := fun d os => Calls.regrown_of (h _ (below_regrown W d os))
theorem q_same {f : Nat} {args : Array Value} {W : World} {v : Value} (h : ∀ w', Calls Try.prog f args w' fun e w'' => e = .returned v ∧ w'' = w') :
    ∀ d os, Calls Try.prog f args (Go.Sort.grow (redrawn W d) os) fun e w'' => e = .returned v ∧ ∃ p : Regrown, w'' = Go.Sort.grow (redrawn W p.d) p.os :=
  q_below fun w' _ => (h w').mono fun e w'' ⟨h1, h2⟩ => ⟨h1, by rw [h2]; exact Below.refl _ _⟩
theorem det_b {f : Nat} {args : Array Value} {w : World} {P : Prop} {b : Bool} (h : Calls Try.prog f args w (BoolP P w)) (hb : b = true ↔ P) : Calls Try.prog f args w fun e w' => e = .returned (.bool b) ∧ Below w.heap.size w w' :=
  h.mono fun e w' ⟨b', h1, h2, h3⟩ => ⟨by rw [h1]; congr 2; cases b <;> cases b' <;> simp_all, h3⟩
/-- l1In, told by a bool -/
theorem l1In_b {v a b : Int} {t : Bool} (ht : t = true ↔ InP v a b) (w : World) :
    Calls Try.prog 23 #[.int .i64 v, .int .i64 a, .int .i64 b] w fun e w' => e = .returned (.bool t) ∧ w' = w := by
  cases t with
  | true => exact l1In_yes v a b (ht.1 rfl).1 (ht.1 rfl).2 w
  | false =>
    have : ¬ InP v a b := fun h => by have := ht.2 h; cases this
    exact l1In_no v a b (by unfold InP at this; omega) w
theorem below_rg {W w' : World} (h : ∃ p : Regrown, w' = Go.Sort.grow (redrawn W p.d) p.os) : Below W.heap.size W w' := by
  obtain ⟨p, rfl⟩ := h
  exact below_regrown W p.d p.os
/-- the walk in the text's order, behind a wall (what is behind it is not looked into) -/
structure WQ (P : Program) (ops : Array Oper) (C : World → Prop) (Q : Act → Prop) (l : List Oper) (a : Act) : Prop where
  out : wpQuiet P ops C Q l a
theorem WQ.skip {P : Program} {ops : Array Oper} {C : World → Prop} {Q : Act → Prop} {a : Act} {o : Oper} {rest : List Oper} (hw : Region.wanted o (yielded ops a.tmps) = false)
    (h : ∀ K : Act → Prop, (∀ a, WQ P ops C Q rest a → K a) → K (a.put o.dst undef)) : WQ P ops C Q (o :: rest) a := by
  refine ⟨?_⟩
  unfold wpQuiet
  rw [if_neg (by rw [hw]; decide)]
  exact (h _ (fun _ h => h)).out
theorem WQ.want {P : Program} {ops : Array Oper} {C : World → Prop} {Q : Act → Prop} {a : Act} {o : Oper} {rest : List Oper} (hw : Region.wanted o (yielded ops a.tmps) = true)
    (h : ∀ K : Act → Prop, (∀ a, WQ P ops C Q rest a → K a) → o.quiet P a C K) : WQ P ops C Q (o :: rest) a := by
  refine ⟨?_⟩
  unfold wpQuiet
  rw [if_pos hw]
  exact Oper.quiet_mono (fun a h => h.out) (h _ (fun _ h => h))
theorem WQ.nil {P : Program} {ops : Array Oper} {C : World → Prop} {Q : Act → Prop} {a : Act} (h : Q a) : WQ P ops C Q [] a := ⟨wpQuiet_nil h⟩
theorem WQ.region {P : Program} {id : Nat} {Q : Exit → Act → World → Prop} {a : Act} {w : World} {l : List Oper} (hm : P.follows .mixedOrders = true) (hB : Region.lexB .any l.toArray = true)
    (h : WQ P l.toArray (fun w' => ∃ p : Regrown, w' = Go.Sort.grow (redrawn w p.d) p.os) (fun a' => ∀ w', (∃ p : Regrown, w' = Go.Sort.grow (redrawn w p.d) p.os) → Q .normal a' w') l a) : (Code.region id l.toArray true).wp P Q a w := wp_region_quiet_below hm hB h.out
end Go.Proofs.Ytgpglgchbimmaaa

namespace Go.Proofs.Ytgpglgchbimmaaa
open Go.RowKit F256
set_option linter.unusedVariables false
set_option linter.unusedSimpArgs false

/-- the sum of a name's first bytes -/
def nameSum (b : ByteArray) : Nat → Nat
  | 0 => 0
  | k + 1 => nameSum b k + nameByte b k
theorem nameSum_lt (b : ByteArray) (k : Nat) : nameSum b k ≤ 255 * k := by
  induction k with
  | zero => exact Nat.le_refl _
  | succ k ih => have := nameByte_lt b k; simp only [nameSum]; omega

/-- what HomeOf answers -/
def HoAns (s : Nat → Int) (b : ByteArray) (x c : Int) : Prop :=
  (¬ OkShape s ∧ c = 3 ∧ x = 0) ∨ (OkShape s ∧ ¬ OkName b ∧ c = 5 ∧ x = 0) ∨ (OkShape s ∧ OkName b ∧ c = 0 ∧ x = (nameSum b b.size : Int) % s 0)
theorem HoAns.one {s : Nat → Int} {b : ByteArray} {x c y d : Int} (h : HoAns s b x c) (k : HoAns s b y d) : x = y ∧ c = d := by
  rcases h with ⟨h1, rfl, rfl⟩ | ⟨h1, h2, rfl, rfl⟩ | ⟨h1, h2, rfl, rfl⟩ <;> rcases k with ⟨k1, rfl, rfl⟩ | ⟨k1, k2, rfl, rfl⟩ | ⟨k1, k2, rfl, rfl⟩ <;>
    first | exact ⟨rfl, rfl⟩ | exact absurd h1 k1 | exact absurd k1 h1 | exact absurd h2 k2 | exact absurd k2 h2

theorem two_new {w w1 : World} {cs ds : Array Value} {t u : TypeId} (h : Below ((w.alloc (.cells cs t)).alloc (.cells ds u)).heap.size ((w.alloc (.cells cs t)).alloc (.cells ds u)) w1) :
    Box w1 w.heap.size cs t ∧ Box w1 (w.heap.size + 1) ds u ∧ Below w.heap.size w w1 ∧ w.heap.size + 1 < w1.heap.size := by
  have h2 := bnew h
  have e : (w.alloc (.cells cs t)).heap.size = w.heap.size + 1 := by simp
  have k2 := box_new (w.alloc (.cells cs t)) ds u
  rw [e] at k2
  have z := bsize h
  rw [e] at z
  exact ⟨(box_new w cs t).below h2 (by simp), k2.below h (by simp), bnew h2, z⟩

end Go.Proofs.Ytgpglgchbimmaaa

namespace Go.Proofs.Ytgpglgchbimmaaa
open Go.RowKit F256
set_option linter.unusedVariables false
set_option linter.unusedSimpArgs false

set_option maxHeartbeats 4000000 in
theorem l4Wide_any (s : Nat → Int) (h1 : 1 ≤ s 2) (h2 : s 2 ≤ 1000) (w : World) :
    Calls Try.prog 42 #[shapeV s] w fun e w' => e = .returned (.int .i64 (s 2 * 4)) ∧ Below w.heap.size w w' := by
  unfold shapeV
  obtain ⟨a2, h0⟩ : ∃ a, a = s 2 := ⟨_, rfl⟩
  rw [← h0] at h1 h2 ⊢
  clear h0
  have B0 : Below w.heap.size w (w.alloc (.cells #[.int .i64 (s 0), .int .i64 (s 1), .int .i64 a2, .int .i64 (s 3), .int .i64 (s 4), .int .i64 (s 5), .int .i64 (s 6), .int .i64 (s 7), .int .i64 (s 8)] 31)) := bnew (Below.refl _ _)
  go_enter Try.func42, Try.ntmps42
  go_wp2
  go_ret
  exact ⟨rfl, B0⟩

theorem box_new9 {w w1 : World} {cs : Array Value} {t : TypeId} (h : Below (w.alloc (.cells cs t)).heap.size (w.alloc (.cells cs t)) w1) :
    Box w1 w.heap.size cs t ∧ Below w.heap.size w w1 ∧ w.heap.size < w1.heap.size :=
  ⟨(box_new w cs t).below h (by simp), bnew h, bsize h⟩

theorem keep9 {B : Nat} {w W w2 : World} {cs : Array Value} {t : TypeId} (hX : Box W B cs t) (hB : Below B w W) (hb : Below W.heap.size W w2) : Box w2 B cs t ∧ Below B w w2 :=
  ⟨hX.below hb hX.lt, hB.trans (hb.mono (Nat.le_of_lt hX.lt))⟩

set_option maxHeartbeats 4000000 in
theorem l4Parts_any (s : Nat → Int) (h1 : 1 ≤ s 2) (h2 : s 2 ≤ 1000) (l : Int) (h3 : 0 ≤ l) (h4 : l ≤ 1000000000) (w : World) :
    Calls Try.prog 69 #[shapeV s, .int .i64 l] w fun e w' => e = .returned (.int .i64 ((l + s 2 * 4 - 1) / (s 2 * 4))) ∧ Below w.heap.size w w' := by
  have CL := l4Wide_any s h1 h2
  unfold shapeV
  have K0 : Hid (Box (w.alloc (.cells #[.int .i64 (s 0), .int .i64 (s 1), .int .i64 (s 2), .int .i64 (s 3), .int .i64 (s 4), .int .i64 (s 5), .int .i64 (s 6), .int .i64 (s 7), .int .i64 (s 8)] 31)) w.heap.size #[.int .i64 (s 0), .int .i64 (s 1), .int .i64 (s 2), .int .i64 (s 3), .int .i64 (s 4), .int .i64 (s 5), .int .i64 (s 6), .int .i64 (s 7), .int .i64 (s 8)] 31) := box_new w _ _
  have KB : Hid (Below w.heap.size w (w.alloc (.cells #[.int .i64 (s 0), .int .i64 (s 1), .int .i64 (s 2), .int .i64 (s 3), .int .i64 (s 4), .int .i64 (s 5), .int .i64 (s 6), .int .i64 (s 7), .int .i64 (s 8)] 31))) := bnew (Below.refl _ _)
  obtain ⟨S, hS⟩ : ∃ S, S = s 2 * 4 := ⟨_, rfl⟩
  rw [← hS]
  rw [← hS] at CL
  have q1 : 4 ≤ S := by omega
  have q2 : S ≤ 4000 := by omega
  have q3 : 0 ≤ l + S - 1 := by omega
  clear hS
  go_enter Try.func69, Try.ntmps69
  go_wp2_with fail
  go_region_with (go_at_call 42; refine (CL _).mono ?_; rintro ee w2 ⟨rfl, hb2⟩; (first | (obtain ⟨hX2, hB2⟩ := keep9 hX hB ⟨hb2.os, hb2.tape, hb2.output, hb2.size, hb2.block⟩; clear hb2; obtain ⟨x0, x1, x2, x3, x4, x5, x6, x7, x8⟩ := box9 hX2) | (obtain ⟨hX, hB⟩ := keep9 K0.out KB.out ⟨hb2.os, hb2.tape, hb2.output, hb2.size, hb2.block⟩; clear hb2; obtain ⟨x0, x1, x2, x3, x4, x5, x6, x7, x8⟩ := box9 hX)))
  all_goals
    clear hX hX2
    go_wp2
    go_ret
    exact ⟨rfl, hB2⟩

set_option maxHeartbeats 4000000 in
theorem l4Long_any (s : Nat → Int) (h1 : 1 ≤ s 2) (h2 : s 2 ≤ 1000) (l : Int) (w : World) :
    Calls Try.prog 68 #[shapeV s, .int .i64 l] w fun e w' => ∃ c, e = .returned (.int .i64 c) ∧ ((l < 1 ∧ c = 6) ∨ (1 ≤ l ∧ 3 * (s 2 * 4) < l ∧ c = 2) ∨ (1 ≤ l ∧ l ≤ 3 * (s 2 * 4) ∧ c = 0)) ∧ Below w.heap.size w w' := by
  have CL := l4Wide_any s h1 h2
  have KB : Hid (Below w.heap.size w (w.alloc (.cells #[.int .i64 (s 0), .int .i64 (s 1), .int .i64 (s 2), .int .i64 (s 3), .int .i64 (s 4), .int .i64 (s 5), .int .i64 (s 6), .int .i64 (s 7), .int .i64 (s 8)] 31))) := bnew (Below.refl _ _)
  obtain ⟨S, hS⟩ : ∃ S, S = s 2 * 4 := ⟨_, rfl⟩
  rw [← hS]
  rw [← hS] at CL
  have q1 : 4 ≤ S := by omega
  have q2 : S ≤ 4000 := by omega
  clear hS
  unfold shapeV
  by_cases c1 : l < 1
  · go_enter Try.func68, Try.ntmps68
    go_wp2
    go_ret
    exact ⟨6, rfl, .inl ⟨c1, rfl⟩, KB.out⟩
  · by_cases c2 : 3 * S < l
    · go_enter Try.func68, Try.ntmps68
      go_wp2_with fail
      refine (CL _).mono ?_
      rintro e w2 ⟨rfl, hb2⟩
      have B := bnew hb2
      clear hb2
      go_wp2
      go_ret
      exact ⟨2, rfl, .inr (.inl ⟨by omega, c2, rfl⟩), B⟩
    · go_enter Try.func68, Try.ntmps68
      go_wp2_with fail
      refine (CL _).mono ?_
      rintro e w2 ⟨rfl, hb2⟩
      have B := bnew hb2
      clear hb2
      go_wp2
      go_ret
      exact ⟨0, rfl, .inr (.inr ⟨by omega, by omega, rfl⟩), B⟩

/-- what PartsFor answers -/
def PfAns (s : Nat → Int) (l x c : Int) : Prop :=
  (¬ OkShape s ∧ c = 3 ∧ x = 0) ∨ (OkShape s ∧ l < 1 ∧ c = 6 ∧ x = 0) ∨ (OkShape s ∧ 1 ≤ l ∧ 3 * (s 2 * 4) < l ∧ c = 2 ∧ x = 0) ∨ (OkShape s ∧ 1 ≤ l ∧ l ≤ 3 * (s 2 * 4) ∧ c = 0 ∧ x = (l + s 2 * 4 - 1) / (s 2 * 4))
theorem PfAns.one {s : Nat → Int} {l x c y d : Int} (h : PfAns s l x c) (k : PfAns s l y d) : x = y ∧ c = d := by
  rcases h with ⟨h1, rfl, rfl⟩ | ⟨h1, h2, rfl, rfl⟩ | ⟨h1, h2, h3, rfl, rfl⟩ | ⟨h1, h2, h3, rfl, rfl⟩ <;> rcases k with ⟨k1, rfl, rfl⟩ | ⟨k1, k2, rfl, rfl⟩ | ⟨k1, k2, k3, rfl, rfl⟩ | ⟨k1, k2, k3, rfl, rfl⟩ <;>
    first | exact ⟨rfl, rfl⟩ | exact absurd h1 k1 | exact absurd k1 h1 | (exfalso; omega)

end Go.Proofs.Ytgpglgchbimmaaa

namespace Go.Proofs.Ytgpglgchbimmaaa
open Go.RowKit F256
set_option linter.unusedVariables false
set_option linter.unusedSimpArgs false

theorem RdI.part {w : World} {hi : Nat} {b off n cap k : Nat} {g : Nat → Int} (r : RdI w hi (.slice (some ⟨b, off, none⟩) n cap) n g) (h : k ≤ n) (h0 : n ≠ 0) : RdI w hi (.slice (some ⟨b, off, none⟩) k cap) k g := by
  obtain ⟨ao, cap', e, hm, hc⟩ := r
  cases e
  obtain ⟨b', off', e, h1, h2⟩ := hc h0
  cases e
  exact ⟨_, _, rfl, by omega, fun _ => ⟨b, off, rfl, h1, fun i hi => h2 i (by omega)⟩⟩
theorem RdI.mx {w : World} {hi : Nat} {v : Value} {n : Nat} {g : Nat → Int} (r : RdI w hi v n g) : n ≤ maxLen := by
  obtain ⟨ao, cap', e, hm, hc⟩ := r
  exact hm

set_option maxHeartbeats 4000000 in
theorem l5Apart_any (v : Value) (n : Nat) (g : Nat → Int) (hi : Nat) (most : Int) (w : World) (r : RdI w hi v n g) (hcp : CapP v n) (hhi : hi ≤ w.heap.size) :
    Calls Try.prog 21 #[v, .int .i64 most] w (BoolP (ApartP n g most) w) := by
  have HR : Hid (RdI w hi v n g) := r
  obtain ⟨ao, cap, rfl, hm, hc⟩ := r
  obtain ⟨_, _, e, hcp⟩ := hcp
  cases e
  unfold maxLen at hm
  go_enter Try.func21, Try.ntmps21
  go_wp2
  go_loopw [5] (fun i wr => ∃ k : Nat, k ≤ n ∧ i = .int .i64 k ∧ ApartP k g most ∧ Below w.heap.size w wr) (fun i _ => n - (intOf i).toNat)
  case atStart => exact ⟨0, Nat.zero_le _, rfl, fun i hi => by omega, Below.refl _ _⟩
  case round =>
    obtain ⟨k, hk, rfl, hall, hb⟩ := hrel
    have HALL : Hid (ApartP k g most) := hall
    clear hall
    by_cases hlt : k < n
    · obtain ⟨b, off, rfl, hblt, hcell⟩ := hc (by omega)
      have hck : wr.cell? ⟨b, off + k, none⟩ = some (.int .i64 (g k)) := (hb.cell (p := ⟨b, off + k, none⟩) (by show b < w.heap.size; omega)).trans (hcell k hlt)
      have k0 := cell_regrown hck
      obtain ⟨t1, h1⟩ := exB (InP (g k) 0 most)
      obtain ⟨t2, h2⟩ := exB (HasP k g (g k))
      have zr := hb.size
      have cA := q_same (W := wr) (fun w' => l1In_b h1 w')
      have cB := q_below (W := wr) (fun w' hw' => det_b (l1Has_any (.slice (some ⟨b, off, none⟩) k cap) k g hi (g k) w' (((HR.out.part hk (by omega)).below hb hhi).below hw' (by omega))) h2)
      have kcp : k ≤ cap := by omega
      have H1 : Hid (t1 = true ↔ InP (g k) 0 most) := h1
      have H2 : Hid (t2 = true ↔ HasP k g (g k)) := h2
      obtain ⟨y, hy⟩ : ∃ y, y = g k := ⟨_, rfl⟩
      have HY : Hid (y = g k) := hy
      rw [← hy] at hck k0 cA cB
      clear hc hcell h1 h2 hy
      have HB : Hid (Below w.heap.size w wr) := hb
      clear hb
      go_wp2
      have hs : t1 = false ∨ (t1 = true ∧ t2 = false) ∨ (t1 = true ∧ t2 = true) := by cases t1 <;> cases t2 <;> simp
      rcases hs with rfl | ⟨rfl, rfl⟩ | ⟨rfl, rfl⟩
      all_goals
        refine WQ.region (by kernel_rfl) (by kernel_rfl) ?_
        repeat (first | (apply WQ.skip; (case hw => rfl); intro K hK; go_simp; apply hK; clear hK K) | (apply WQ.want; (case hw => rfl); intro K hK; go_simp; first | (apply hK; clear hK K) | (apply Exists.intro; apply And.intro; (case left => intro p; (first | (go_at_call 23; exact cA _ _) | (go_at_call 57; exact cB _ _))); apply hK; clear hK K)))
        refine WQ.nil ?_
        intro w2 hw2
        have HB2 : Hid (Below w.heap.size w w2) := HB.out.trans ((below_rg hw2).mono HB.out.size)
        clear hw2
        go_wp2
      · go_ret
        exact boolNo rfl (fun h => by
          have := H1.out.2 (h k hlt).1
          cases this) HB2.out
      · go_roundw
        case rel => exact ⟨k + 1, by omega, by go_num, fun i hi => by
                      by_cases c : i = k
                      · subst c
                        exact ⟨H1.out.1 (by simp), fun t ht e => by
                          have := H2.out.2 ⟨t, ht, e⟩
                          cases this⟩
                      · exact HALL.out i (by omega), HB2.out⟩
        case measure => simp [intOf]; omega
      · go_ret
        exact boolNo rfl (fun h => by
          obtain ⟨t, ht, e⟩ := H2.out.1 (by simp)
          exact (h k hlt).2 t ht e) HB2.out
    · obtain rfl : k = n := by omega
      go_wp2
      go_ret
      exact boolYes rfl HALL.out hb

/-- a record's value -/
def recC (r : RecD) (v6 v7 v8 : Value) : Array Value := #[.int .i64 r.kind, .int .i64 r.seq, .string r.name, .int .i64 r.length, .int .i64 r.group, .int .i64 r.row, v6, v7, v8]
theorem rec_val {w : World} {hi : Nat} {r : RecD} {cs : List Value} (h : layRec.rd w hi r cs) : ∃ ao6 cap6 ao7 cap7 ao8 cap8, cs.toArray = recC r (.slice ao6 r.rows.1 cap6) (.slice ao7 r.data.1 cap7) (.slice ao8 r.delta.1 cap8) := by
  obtain ⟨ao6, cap6, ao7, cap7, ao8, cap8, rfl, _⟩ := Rec_rd h
  exact ⟨ao6, cap6, ao7, cap7, ao8, cap8, rfl⟩
theorem nm_iff (b : ByteArray) : b.toList.isEmpty = true ↔ b = ByteArray.empty := by
  have e : b.toList = b.data.toList := ByteArray.toList_eq b
  rw [e]
  cases b with | mk x =>
  constructor
  · intro h
    have : x = #[] := by simpa using h
    subst this
    rfl
  · intro h
    have : x = #[] := congrArg ByteArray.data h
    subst this
    rfl
/-- nothing is in these fields -/
def EmptyQ (nm : ByteArray) (ln gr rw_ : Int) (n6 n7 n8 : Nat) : Prop := nm = ByteArray.empty ∧ ln = 0 ∧ gr = 0 ∧ rw_ = 0 ∧ n6 = 0 ∧ n7 = 0 ∧ n8 = 0
set_option maxHeartbeats 4000000 in
theorem l5Empty_any (kd sq ln gr rw_ : Int) (nm : ByteArray) (ao6 ao7 ao8 : Option Addr) (n6 n7 n8 cap6 cap7 cap8 : Nat) (w : World) :
    Calls Try.prog 45 #[.agg #[.int .i64 kd, .int .i64 sq, .string nm, .int .i64 ln, .int .i64 gr, .int .i64 rw_, .slice ao6 n6 cap6, .slice ao7 n7 cap7, .slice ao8 n8 cap8]] w (BoolP (EmptyQ nm ln gr rw_ n6 n7 n8) w) := by
  have B0 : Hid (Below w.heap.size w (w.alloc (.cells #[.int .i64 kd, .int .i64 sq, .string nm, .int .i64 ln, .int .i64 gr, .int .i64 rw_, .slice ao6 n6 cap6, .slice ao7 n7 cap7, .slice ao8 n8 cap8] 45))) := (Below.refl _ _).alloc (Nat.le_refl _) _
  obtain ⟨b0, h0⟩ : ∃ b, nm.toList.isEmpty = b := ⟨_, rfl⟩
  obtain ⟨b1, h1⟩ : ∃ b, (ln == 0) = b := ⟨_, rfl⟩
  obtain ⟨b2, h2⟩ : ∃ b, (gr == 0) = b := ⟨_, rfl⟩
  obtain ⟨b3, h3⟩ : ∃ b, (rw_ == 0) = b := ⟨_, rfl⟩
  obtain ⟨b4, h4⟩ : ∃ b, ((n6 : Int) == 0) = b := ⟨_, rfl⟩
  obtain ⟨b5, h5⟩ : ∃ b, ((n7 : Int) == 0) = b := ⟨_, rfl⟩
  obtain ⟨b6, h6⟩ : ∃ b, ((n8 : Int) == 0) = b := ⟨_, rfl⟩
  have HE : Hid (EmptyQ nm ln gr rw_ n6 n7 n8 ↔ (b0 = true ∧ b1 = true ∧ b2 = true ∧ b3 = true ∧ b4 = true ∧ b5 = true ∧ b6 = true)) := by
    show EmptyQ nm ln gr rw_ n6 n7 n8 ↔ _
    rw [← h0, ← h1, ← h2, ← h3, ← h4, ← h5, ← h6, nm_iff]
    unfold EmptyQ
    simp
  have hs : b0 = false ∨ (b0 = true ∧ b1 = false) ∨ (b0 = true ∧ b1 = true ∧ b2 = false) ∨ (b0 = true ∧ b1 = true ∧ b2 = true ∧ b3 = false) ∨ (b0 = true ∧ b1 = true ∧ b2 = true ∧ b3 = true ∧ b4 = false) ∨ (b0 = true ∧ b1 = true ∧ b2 = true ∧ b3 = true ∧ b4 = true ∧ b5 = false) ∨ (b0 = true ∧ b1 = true ∧ b2 = true ∧ b3 = true ∧ b4 = true ∧ b5 = true ∧ b6 = false) ∨ (b0 = true ∧ b1 = true ∧ b2 = true ∧ b3 = true ∧ b4 = true ∧ b5 = true ∧ b6 = true) := by
    clear HE h0 h1 h2 h3 h4 h5 h6
    cases b0 <;> simp
    cases b1 <;> simp
    cases b2 <;> simp
    cases b3 <;> simp
    cases b4 <;> simp
    cases b5 <;> simp
  go_enter Try.func45, Try.ntmps45
  rcases hs with rfl | ⟨rfl, rfl⟩ | ⟨rfl, rfl, rfl⟩ | ⟨rfl, rfl, rfl, rfl⟩ | ⟨rfl, rfl, rfl, rfl, rfl⟩ | ⟨rfl, rfl, rfl, rfl, rfl, rfl⟩ | ⟨rfl, rfl, rfl, rfl, rfl, rfl, rfl⟩ | ⟨rfl, rfl, rfl, rfl, rfl, rfl, rfl⟩
  all_goals
    go_wp2
    go_ret
    first
      | exact boolNo rfl (fun h => by have := HE.out.1 h; simp at this) B0.out
      | exact boolYes rfl (HE.out.2 (by simp)) B0.out
end Go.Proofs.Ytgpglgchbimmaaa

namespace Go.Proofs.Ytgpglgchbimmaaa
open Go.RowKit F256
set_option linter.unusedVariables false
set_option linter.unusedSimpArgs false

theorem l5All_any (s : Nat → Int) (h : OkShape s) (w : World) :
    Calls Try.prog 22 #[shapeV s] w fun e w' => e = .returned (.int .i64 (s 0 + s 1)) ∧ Below w.heap.size w w' := by
  obtain ⟨h1, h2, _⟩ := h
  unfold Shp3 at h1
  have B0 := (one_new w #[.int .i64 (s 0), .int .i64 (s 1), .int .i64 (s 2), .int .i64 (s 3), .int .i64 (s 4), .int .i64 (s 5), .int .i64 (s 6), .int .i64 (s 7), .int .i64 (s 8)] 31).bel
  unfold shapeV
  have hw : -9223372036854775808 ≤ s 0 + s 1 ∧ s 0 + s 1 ≤ 9223372036854775807 := by omega
  go_enter Try.func22, Try.ntmps22
  go_wp2
  go_ret
  exact ⟨rfl, B0⟩
theorem l5Drives_any (s : Nat → Int) (h : OkShape s) (w : World) :
    Calls Try.prog 56 #[shapeV s] w fun e w' => e = .returned (.int .i64 (s 2 + s 3)) ∧ Below w.heap.size w w' := by
  obtain ⟨h1, h2, _⟩ := h
  unfold Shp at h2
  have B0 := (one_new w #[.int .i64 (s 0), .int .i64 (s 1), .int .i64 (s 2), .int .i64 (s 3), .int .i64 (s 4), .int .i64 (s 5), .int .i64 (s 6), .int .i64 (s 7), .int .i64 (s 8)] 31).bel
  unfold shapeV
  have hw : -9223372036854775808 ≤ s 2 + s 3 ∧ s 2 + s 3 ≤ 9223372036854775807 := by omega
  go_enter Try.func56, Try.ntmps56
  go_wp2
  go_ret
  exact ⟨rfl, B0⟩

set_option maxHeartbeats 8000000 in
theorem l5Weights_any (s : Nat → Int) (hs : OkShape s) (r : RecD) (cs : List Value) (hi : Nat) (w : World) (h : layRec.rd w hi r cs) (hhi : hi ≤ w.heap.size) (hg : InP r.group 0 (s 0 + s 1 - 1)) (hr : RiseP r.rows.1 r.rows.2 (s 0 + s 1 - 1)) :
    Calls Try.prog 44 #[shapeV s, .agg cs.toArray] w (BoolP (WeightsP s r) w) := by
  obtain ⟨ao6, cap6, ao7, cap7, ao8, cap8, rfl, g6, g7, g8, -⟩ := Rec_rd h
  clear h
  have HS : Hid (OkShape s) := hs
  have hall : 0 ≤ s 0 + s 1 ∧ s 0 + s 1 ≤ 100 := by
    obtain ⟨h1, _⟩ := hs
    unfold Shp3 at h1
    omega
  clear hs
  obtain ⟨v6, e6, ⟨⟨_, _, e6', hm6, hc6⟩, _⟩, _⟩ := g6
  cases e6
  cases e6'
  obtain ⟨v8, e8, ⟨_, _, e8', hm8, hc8⟩, hk8⟩ := g8
  cases e8
  cases e8'
  have HC6 : Hid (r.rows.1 ≠ 0 → ∃ b off, ao6 = some ⟨b, off, none⟩ ∧ b < hi ∧ ∀ i, i < r.rows.1 → w.cell? ⟨b, off + i, none⟩ = some (.int .i64 (r.rows.2 i))) := hc6
  have HC8 : Hid (r.delta.1 ≠ 0 → ∃ b off, ao8 = some ⟨b, off, none⟩ ∧ b < hi ∧ ∀ i, i < r.delta.1 → w.cell? ⟨b, off + i, none⟩ = some (.int .u8 (r.delta.2 i))) := hc8
  unfold maxLen at hm6 hm8
  unfold InP at hg
  have HR : Hid (RiseP r.rows.1 r.rows.2 (s 0 + s 1 - 1)) := hr
  clear g7 hc6 hc8 hr hk8
  unfold shapeV
  go_enter Try.func44, Try.ntmps44
  go_wp2_with fail
  have T0 := two_newb w #[.int .i64 (s 0), .int .i64 (s 1), .int .i64 (s 2), .int .i64 (s 3), .int .i64 (s 4), .int .i64 (s 5), .int .i64 (s 6), .int .i64 (s 7), .int .i64 (s 8)] #[.int .i64 r.kind, .int .i64 r.seq, .string r.name, .int .i64 r.length, .int .i64 r.group, .int .i64 r.row, .slice ao6 r.rows.1 cap6, .slice ao7 r.data.1 cap7, .slice ao8 r.delta.1 cap8] 31 45
  obtain ⟨W, hW⟩ : ∃ W, W = (w.alloc (.cells #[.int .i64 (s 0), .int .i64 (s 1), .int .i64 (s 2), .int .i64 (s 3), .int .i64 (s 4), .int .i64 (s 5), .int .i64 (s 6), .int .i64 (s 7), .int .i64 (s 8)] 31)).alloc (.cells #[.int .i64 r.kind, .int .i64 r.seq, .string r.name, .int .i64 r.length, .int .i64 r.group, .int .i64 r.row, .slice ao6 r.rows.1 cap6, .slice ao7 r.data.1 cap7, .slice ao8 r.delta.1 cap8] 45) := ⟨_, rfl⟩
  rw [← hW] at T0 ⊢
  clear hW
  have cA := q_below (W := W) (fun w' _ => l5All_any s HS.out w')
  unfold shapeV at cA
  have zW := T0.b2.lt
  have x0_0 : W.cell? ⟨w.heap.size, 0, none⟩ = some (.int .i64 (s 0)) := T0.b1.cell 0
  have kx0_0 := cell_regrown x0_0
  have x0_1 : W.cell? ⟨w.heap.size, 1, none⟩ = some (.int .i64 (s 1)) := T0.b1.cell 1
  have kx0_1 := cell_regrown x0_1
  have x0_2 : W.cell? ⟨w.heap.size, 2, none⟩ = some (.int .i64 (s 2)) := T0.b1.cell 2
  have kx0_2 := cell_regrown x0_2
  have x0_3 : W.cell? ⟨w.heap.size, 3, none⟩ = some (.int .i64 (s 3)) := T0.b1.cell 3
  have kx0_3 := cell_regrown x0_3
  have x0_4 : W.cell? ⟨w.heap.size, 4, none⟩ = some (.int .i64 (s 4)) := T0.b1.cell 4
  have kx0_4 := cell_regrown x0_4
  have x0_5 : W.cell? ⟨w.heap.size, 5, none⟩ = some (.int .i64 (s 5)) := T0.b1.cell 5
  have kx0_5 := cell_regrown x0_5
  have x0_6 : W.cell? ⟨w.heap.size, 6, none⟩ = some (.int .i64 (s 6)) := T0.b1.cell 6
  have kx0_6 := cell_regrown x0_6
  have x0_7 : W.cell? ⟨w.heap.size, 7, none⟩ = some (.int .i64 (s 7)) := T0.b1.cell 7
  have kx0_7 := cell_regrown x0_7
  have x0_8 : W.cell? ⟨w.heap.size, 8, none⟩ = some (.int .i64 (s 8)) := T0.b1.cell 8
  have kx0_8 := cell_regrown x0_8
  have y0_0 : W.cell? ⟨w.heap.size + 1, 0, none⟩ = some (.int .i64 r.kind) := T0.b2.cell 0
  have ky0_0 := cell_regrown y0_0
  have y0_1 : W.cell? ⟨w.heap.size + 1, 1, none⟩ = some (.int .i64 r.seq) := T0.b2.cell 1
  have ky0_1 := cell_regrown y0_1
  have y0_2 : W.cell? ⟨w.heap.size + 1, 2, none⟩ = some (.string r.name) := T0.b2.cell 2
  have ky0_2 := cell_regrown y0_2
  have y0_3 : W.cell? ⟨w.heap.size + 1, 3, none⟩ = some (.int .i64 r.length) := T0.b2.cell 3
  have ky0_3 := cell_regrown y0_3
  have y0_4 : W.cell? ⟨w.heap.size + 1, 4, none⟩ = some (.int .i64 r.group) := T0.b2.cell 4
  have ky0_4 := cell_regrown y0_4
  have y0_5 : W.cell? ⟨w.heap.size + 1, 5, none⟩ = some (.int .i64 r.row) := T0.b2.cell 5
  have ky0_5 := cell_regrown y0_5
  have y0_6 : W.cell? ⟨w.heap.size + 1, 6, none⟩ = some (.slice ao6 r.rows.1 cap6) := T0.b2.cell 6
  have ky0_6 := cell_regrown y0_6
  have y0_7 : W.cell? ⟨w.heap.size + 1, 7, none⟩ = some (.slice ao7 r.data.1 cap7) := T0.b2.cell 7
  have ky0_7 := cell_regrown y0_7
  have y0_8 : W.cell? ⟨w.heap.size + 1, 8, none⟩ = some (.slice ao8 r.delta.1 cap8) := T0.b2.cell 8
  have ky0_8 := cell_regrown y0_8
  have HT : Hid (Two w W #[.int .i64 (s 0), .int .i64 (s 1), .int .i64 (s 2), .int .i64 (s 3), .int .i64 (s 4), .int .i64 (s 5), .int .i64 (s 6), .int .i64 (s 7), .int .i64 (s 8)] #[.int .i64 r.kind, .int .i64 r.seq, .string r.name, .int .i64 r.length, .int .i64 r.group, .int .i64 r.row, .slice ao6 r.rows.1 cap6, .slice ao7 r.data.1 cap7, .slice ao8 r.delta.1 cap8] 31 45) := T0
  clear T0
  by_cases hlen : (r.delta.1 : Int) = s 0 + s 1
  · obtain ⟨b8, off8, he8, hb8, hcell8⟩ := HC8.out (by omega)
    subst he8
    obtain ⟨G, hG⟩ : ∃ G : Nat, r.group = (G : Int) := ⟨r.group.toNat, by omega⟩
    have hGl : G < r.delta.1 := by omega
    have d0 : W.cell? ⟨b8, off8 + G, none⟩ = some (.int .u8 (r.delta.2 G)) := (HT.out.bel.cell (p := ⟨b8, off8 + G, none⟩) (by show b8 < w.heap.size; omega)).trans (hcell8 G hGl)
    have kd0 := cell_regrown d0
    have hne : ((r.delta.1 : Int) != s 0 + s 1) = false := by simpa using hlen
    rw [hG] at y0_4 ky0_4
    have HCE : Hid (∀ i, i < r.delta.1 → w.cell? ⟨b8, off8 + i, none⟩ = some (.int .u8 (r.delta.2 i))) := hcell8
    have HLEN : Hid ((r.delta.1 : Int) = s 0 + s 1) := hlen
    have HG : Hid (r.group = (G : Int)) := hG
    clear hcell8 hlen hG
    obtain ⟨x0, hx0⟩ : ∃ x, x = r.delta.2 G := ⟨_, rfl⟩
    have HX0 : Hid (x0 = r.delta.2 G) := hx0
    rw [← hx0] at d0 kd0
    clear hx0
    by_cases hz : x0 = 0
    · subst hz
      refine WQ.region (by kernel_rfl) (by kernel_rfl) ?_
      repeat (first | (apply WQ.skip; (case hw => rfl); intro K hK; go_simp; apply hK; clear hK K) | (apply WQ.want; (case hw => rfl); intro K hK; go_simp; first | (apply hK; clear hK K) | (apply Exists.intro; apply And.intro; (case left => intro p; (first | (go_at_call 22; exact cA _ _))); apply hK; clear hK K)))
      refine WQ.nil ?_
      intro w1 hw1
      have T1 := HT.out.call (below_rg hw1)
      have H1 : Hid (Two w w1 #[.int .i64 (s 0), .int .i64 (s 1), .int .i64 (s 2), .int .i64 (s 3), .int .i64 (s 4), .int .i64 (s 5), .int .i64 (s 6), .int .i64 (s 7), .int .i64 (s 8)] #[.int .i64 r.kind, .int .i64 r.seq, .string r.name, .int .i64 r.length, .int .i64 r.group, .int .i64 r.row, .slice ao6 r.rows.1 cap6, .slice ao7 r.data.1 cap7, .slice (some ⟨b8, off8, none⟩) r.delta.1 cap8] 31 45) := T1
      clear hw1 T1 d0 kd0
      go_wp2
      go_loopw [5] (fun i wr => ∃ k : Nat, k ≤ r.rows.1 ∧ i = .int .i64 k ∧ (∀ i, i < k → r.delta.2 (r.rows.2 i).toNat ≠ 0) ∧ Two w wr #[.int .i64 (s 0), .int .i64 (s 1), .int .i64 (s 2), .int .i64 (s 3), .int .i64 (s 4), .int .i64 (s 5), .int .i64 (s 6), .int .i64 (s 7), .int .i64 (s 8)] #[.int .i64 r.kind, .int .i64 r.seq, .string r.name, .int .i64 r.length, .int .i64 r.group, .int .i64 r.row, .slice ao6 r.rows.1 cap6, .slice ao7 r.data.1 cap7, .slice (some ⟨b8, off8, none⟩) r.delta.1 cap8] 31 45) (fun i _ => r.rows.1 - (intOf i).toNat)
      case atStart => exact ⟨0, Nat.zero_le _, rfl, fun i hi => by omega, H1.out⟩
      case round =>
        obtain ⟨k, hk, rfl, hal, T2⟩ := hrel
        have HAL : Hid (∀ i, i < k → r.delta.2 (r.rows.2 i).toNat ≠ 0) := hal
        have H2 : Hid (Two w wr #[.int .i64 (s 0), .int .i64 (s 1), .int .i64 (s 2), .int .i64 (s 3), .int .i64 (s 4), .int .i64 (s 5), .int .i64 (s 6), .int .i64 (s 7), .int .i64 (s 8)] #[.int .i64 r.kind, .int .i64 r.seq, .string r.name, .int .i64 r.length, .int .i64 r.group, .int .i64 r.row, .slice ao6 r.rows.1 cap6, .slice ao7 r.data.1 cap7, .slice (some ⟨b8, off8, none⟩) r.delta.1 cap8] 31 45) := T2
        clear hal
        have y2_6 : wr.cell? ⟨w.heap.size + 1, 6, none⟩ = some (.slice ao6 r.rows.1 cap6) := T2.b2.cell 6
        have y2_8 : wr.cell? ⟨w.heap.size + 1, 8, none⟩ = some (.slice (some ⟨b8, off8, none⟩) r.delta.1 cap8) := T2.b2.cell 8
        by_cases hlt : k < r.rows.1
        · obtain ⟨b6, off6, he6, hb6, hcell6⟩ := HC6.out (by omega)
          subst he6
          have hrk := HR.out k hlt
          obtain ⟨Y, hY⟩ : ∃ Y : Nat, r.rows.2 k = (Y : Int) := ⟨(r.rows.2 k).toNat, by omega⟩
          have hYl : Y < r.delta.1 := by have := HLEN.out; omega
          have c6 : wr.cell? ⟨b6, off6 + k, none⟩ = some (.int .i64 (Y : Int)) := by
            rw [← hY]
            exact (T2.bel.cell (p := ⟨b6, off6 + k, none⟩) (by show b6 < w.heap.size; omega)).trans (hcell6 k hlt)
          have c8 : wr.cell? ⟨b8, off8 + Y, none⟩ = some (.int .u8 (r.delta.2 Y)) := (T2.bel.cell (p := ⟨b8, off8 + Y, none⟩) (by show b8 < w.heap.size; omega)).trans (HCE.out Y hYl)
          have q6 := cell_regrown c6
          have q8 := cell_regrown c8
          have p6 := cell_regrown y2_6
          have p8 := cell_regrown y2_8
          have HY : Hid (r.rows.2 k = (Y : Int)) := hY
          clear hcell6 hrk hY T2
          obtain ⟨z0, hz0⟩ : ∃ x, x = r.delta.2 Y := ⟨_, rfl⟩
          have HZ0 : Hid (z0 = r.delta.2 Y) := hz0
          rw [← hz0] at c8 q8
          clear hz0
          by_cases hz : z0 = 0
          · subst hz
            go_wp2
            refine WQ.region (by kernel_rfl) (by kernel_rfl) ?_
            repeat (first | (apply WQ.skip; (case hw => rfl); intro K hK; go_simp; apply hK; clear hK K) | (apply WQ.want; (case hw => rfl); intro K hK; go_simp; first | (apply hK; clear hK K) | (apply Exists.intro; apply And.intro; (case left => intro p; (first | fail)); apply hK; clear hK K)))
            refine WQ.nil ?_
            intro w3 hw3
            have HB3 : Hid (Below w.heap.size w w3) := (H2.out.call (below_rg hw3)).bel
            clear hw3
            go_wp2
            go_ret
            exact boolNo rfl (fun h => h.2.2 k hlt (by rw [HY.out]; exact HZ0.out.symm)) HB3.out
          · have hz' : ((z0 : Int) == 0) = false := by simp; omega
            go_wp2
            refine WQ.region (by kernel_rfl) (by kernel_rfl) ?_
            repeat (first | (apply WQ.skip; (case hw => rfl); intro K hK; go_simp; apply hK; clear hK K) | (apply WQ.want; (case hw => rfl); intro K hK; go_simp; first | (apply hK; clear hK K) | (apply Exists.intro; apply And.intro; (case left => intro p; (first | fail)); apply hK; clear hK K)))
            refine WQ.nil ?_
            intro w3 hw3
            have HT3 : Hid (Two w w3 #[.int .i64 (s 0), .int .i64 (s 1), .int .i64 (s 2), .int .i64 (s 3), .int .i64 (s 4), .int .i64 (s 5), .int .i64 (s 6), .int .i64 (s 7), .int .i64 (s 8)] #[.int .i64 r.kind, .int .i64 r.seq, .string r.name, .int .i64 r.length, .int .i64 r.group, .int .i64 r.row, .slice (some ⟨b6, off6, none⟩) r.rows.1 cap6, .slice ao7 r.data.1 cap7, .slice (some ⟨b8, off8, none⟩) r.delta.1 cap8] 31 45) := H2.out.call (below_rg hw3)
            clear hw3
            go_wp2
            go_roundw
            case rel => exact ⟨k + 1, by omega, by go_num, fun i hi => by
                          by_cases c : i = k
                          · subst c
                            rw [HY.out, Int.toNat_natCast, ← HZ0.out]
                            exact hz
                          · exact HAL.out i (by omega), HT3.out⟩
            case measure => simp [intOf]; omega
        · obtain rfl : k = r.rows.1 := by omega
          go_wp2
          go_ret
          exact boolYes rfl ⟨HLEN.out, by rw [HG.out, Int.toNat_natCast]; exact HX0.out.symm, HAL.out⟩ H2.out.bel
    · have hz' : ((x0 : Int) != 0) = true := by simp; omega
      refine WQ.region (by kernel_rfl) (by kernel_rfl) ?_
      repeat (first | (apply WQ.skip; (case hw => rfl); intro K hK; go_simp; apply hK; clear hK K) | (apply WQ.want; (case hw => rfl); intro K hK; go_simp; first | (apply hK; clear hK K) | (apply Exists.intro; apply And.intro; (case left => intro p; (first | (go_at_call 22; exact cA _ _))); apply hK; clear hK K)))
      refine WQ.nil ?_
      intro w1 hw1
      have HB1 : Hid (Below w.heap.size w w1) := (HT.out.call (below_rg hw1)).bel
      clear hw1 d0 kd0
      go_wp2
      go_ret
      exact boolNo rfl (fun h => hz (by rw [HX0.out, ← h.2.1, HG.out, Int.toNat_natCast])) HB1.out
  · have hne : ((r.delta.1 : Int) != s 0 + s 1) = true := by simpa using hlen
    have HN : Hid (¬ (r.delta.1 : Int) = s 0 + s 1) := hlen
    clear hlen
    refine WQ.region (by kernel_rfl) (by kernel_rfl) ?_
    repeat (first | (apply WQ.skip; (case hw => rfl); intro K hK; go_simp; apply hK; clear hK K) | (apply WQ.want; (case hw => rfl); intro K hK; go_simp; first | (apply hK; clear hK K) | (apply Exists.intro; apply And.intro; (case left => intro p; (first | (go_at_call 22; exact cA _ _))); apply hK; clear hK K)))
    refine WQ.nil ?_
    intro w1 hw1
    have HB1 : Hid (Below w.heap.size w w1) := (HT.out.call (below_rg hw1)).bel
    clear hw1
    go_wp2
    go_ret
    exact boolNo rfl (fun h => HN.out h.1) HB1.out
end Go.Proofs.Ytgpglgchbimmaaa

namespace Go.Proofs.Ytgpglgchbimmaaa
open Go.RowKit F256
set_option linter.unusedVariables false
set_option linter.unusedSimpArgs false

set_option maxHeartbeats 16000000 in
set_option maxRecDepth 20000 in
theorem l5Built_any (d : WorldD) (hs : OkShape d.shape) (cs : List Value) (hi : Nat) (w : World) (h : layWorld.rd w hi d cs) (hhi : hi ≤ w.heap.size) :
    Calls Try.prog 20 #[.agg cs.toArray] w (BoolP (BuiltP d) w) := by
  obtain ⟨ao1, cap1, ao2, cap2, ao3, cap3, rfl, g1, -⟩ := World_rd h
  clear h
  obtain ⟨_, _, e1, hm1, hc1⟩ := g1
  cases e1
  unfold maxLen at hm1
  have HC1 : Hid (d.groups.1 ≠ 0 → ∃ b off, ao1 = some ⟨b, off, none⟩ ∧ b < hi ∧ ∀ i, i < d.groups.1 → ∃ ce, (layDrive.slice 86).rd w hi (d.groups.2 i) ce ∧ ∀ j, j < (layDrive.slice 86).sz → w.cell? ⟨b, off + (i * (layDrive.slice 86).sz + j), none⟩ = ce[j]?) := hc1
  have HS : Hid (OkShape d.shape) := hs
  clear hc1 hs
  go_enter Try.func20, Try.ntmps20
  go_upto_region 2 with fail
  have T0 := two_newb w #[.int .i64 (d.shape 0), .int .i64 (d.shape 1), .int .i64 (d.shape 2), .int .i64 (d.shape 3), .int .i64 (d.shape 4), .int .i64 (d.shape 5), .int .i64 (d.shape 6), .int .i64 (d.shape 7), .int .i64 (d.shape 8), .slice ao1 d.groups.1 cap1, .slice ao2 d.on.1 cap2, .slice ao3 d.tapes.1 cap3, .int .i64 d.writes, .int .i64 d.stop, .bool d.down] #[.int .i64 (d.shape 0), .int .i64 (d.shape 1), .int .i64 (d.shape 2), .int .i64 (d.shape 3), .int .i64 (d.shape 4), .int .i64 (d.shape 5), .int .i64 (d.shape 6), .int .i64 (d.shape 7), .int .i64 (d.shape 8)] 35 31
  obtain ⟨W, hW⟩ : ∃ W, W = (w.alloc (.cells #[.int .i64 (d.shape 0), .int .i64 (d.shape 1), .int .i64 (d.shape 2), .int .i64 (d.shape 3), .int .i64 (d.shape 4), .int .i64 (d.shape 5), .int .i64 (d.shape 6), .int .i64 (d.shape 7), .int .i64 (d.shape 8), .slice ao1 d.groups.1 cap1, .slice ao2 d.on.1 cap2, .slice ao3 d.tapes.1 cap3, .int .i64 d.writes, .int .i64 d.stop, .bool d.down] 35)).alloc (.cells #[.int .i64 (d.shape 0), .int .i64 (d.shape 1), .int .i64 (d.shape 2), .int .i64 (d.shape 3), .int .i64 (d.shape 4), .int .i64 (d.shape 5), .int .i64 (d.shape 6), .int .i64 (d.shape 7), .int .i64 (d.shape 8)] 31) := ⟨_, rfl⟩
  rw [← hW] at T0 ⊢
  have HT : Hid (Two w W #[.int .i64 (d.shape 0), .int .i64 (d.shape 1), .int .i64 (d.shape 2), .int .i64 (d.shape 3), .int .i64 (d.shape 4), .int .i64 (d.shape 5), .int .i64 (d.shape 6), .int .i64 (d.shape 7), .int .i64 (d.shape 8), .slice ao1 d.groups.1 cap1, .slice ao2 d.on.1 cap2, .slice ao3 d.tapes.1 cap3, .int .i64 d.writes, .int .i64 d.stop, .bool d.down] #[.int .i64 (d.shape 0), .int .i64 (d.shape 1), .int .i64 (d.shape 2), .int .i64 (d.shape 3), .int .i64 (d.shape 4), .int .i64 (d.shape 5), .int .i64 (d.shape 6), .int .i64 (d.shape 7), .int .i64 (d.shape 8)] 35 31) := T0
  clear hW
  have x0_9 : W.cell? ⟨w.heap.size, 9, none⟩ = some (.slice ao1 d.groups.1 cap1) := T0.b1.cell 9
  have kx0_9 := cell_regrown x0_9
  have y0_0 : W.cell? ⟨w.heap.size + 1, 0, none⟩ = some (.int .i64 (d.shape 0)) := T0.b2.cell 0
  have ky0_0 := cell_regrown y0_0
  have y0_1 : W.cell? ⟨w.heap.size + 1, 1, none⟩ = some (.int .i64 (d.shape 1)) := T0.b2.cell 1
  have ky0_1 := cell_regrown y0_1
  have y0_2 : W.cell? ⟨w.heap.size + 1, 2, none⟩ = some (.int .i64 (d.shape 2)) := T0.b2.cell 2
  have ky0_2 := cell_regrown y0_2
  have y0_3 : W.cell? ⟨w.heap.size + 1, 3, none⟩ = some (.int .i64 (d.shape 3)) := T0.b2.cell 3
  have ky0_3 := cell_regrown y0_3
  have y0_4 : W.cell? ⟨w.heap.size + 1, 4, none⟩ = some (.int .i64 (d.shape 4)) := T0.b2.cell 4
  have ky0_4 := cell_regrown y0_4
  have y0_5 : W.cell? ⟨w.heap.size + 1, 5, none⟩ = some (.int .i64 (d.shape 5)) := T0.b2.cell 5
  have ky0_5 := cell_regrown y0_5
  have y0_6 : W.cell? ⟨w.heap.size + 1, 6, none⟩ = some (.int .i64 (d.shape 6)) := T0.b2.cell 6
  have ky0_6 := cell_regrown y0_6
  have y0_7 : W.cell? ⟨w.heap.size + 1, 7, none⟩ = some (.int .i64 (d.shape 7)) := T0.b2.cell 7
  have ky0_7 := cell_regrown y0_7
  have y0_8 : W.cell? ⟨w.heap.size + 1, 8, none⟩ = some (.int .i64 (d.shape 8)) := T0.b2.cell 8
  have ky0_8 := cell_regrown y0_8
  clear T0
  have cA := q_below (W := W) (fun w' _ => l5All_any d.shape HS.out w')
  unfold shapeV at cA
  by_cases hlen : (d.groups.1 : Int) = d.shape 0 + d.shape 1
  · have hne : ((d.groups.1 : Int) != d.shape 0 + d.shape 1) = false := by simpa using hlen
    have HLEN : Hid ((d.groups.1 : Int) = d.shape 0 + d.shape 1) := hlen
    clear hlen
    refine WQ.region (by kernel_rfl) (by kernel_rfl) ?_
    repeat (first | (apply WQ.skip; (case hw => rfl); intro K hK; go_simp; apply hK; clear hK K) | (apply WQ.want; (case hw => rfl); intro K hK; go_simp; first | (apply hK; clear hK K) | (apply Exists.intro; apply And.intro; (case left => intro p; (first | (go_at_call 22; exact cA _ _))); apply hK; clear hK K)))
    refine WQ.nil ?_
    intro w1 hw1
    have HT1 : Hid (Two w w1 #[.int .i64 (d.shape 0), .int .i64 (d.shape 1), .int .i64 (d.shape 2), .int .i64 (d.shape 3), .int .i64 (d.shape 4), .int .i64 (d.shape 5), .int .i64 (d.shape 6), .int .i64 (d.shape 7), .int .i64 (d.shape 8), .slice ao1 d.groups.1 cap1, .slice ao2 d.on.1 cap2, .slice ao3 d.tapes.1 cap3, .int .i64 d.writes, .int .i64 d.stop, .bool d.down] #[.int .i64 (d.shape 0), .int .i64 (d.shape 1), .int .i64 (d.shape 2), .int .i64 (d.shape 3), .int .i64 (d.shape 4), .int .i64 (d.shape 5), .int .i64 (d.shape 6), .int .i64 (d.shape 7), .int .i64 (d.shape 8)] 35 31) := HT.out.call (below_rg hw1)
    clear hw1 cA x0_9 kx0_9 y0_0 ky0_0 y0_1 ky0_1 y0_2 ky0_2 y0_3 ky0_3 y0_4 ky0_4 y0_5 ky0_5 y0_6 ky0_6 y0_7 ky0_7 y0_8 ky0_8
    go_wp2
    go_loopw [4] (fun i wr => ∃ k : Nat, k ≤ d.groups.1 ∧ i = .int .i64 k ∧ (∀ i, i < k → DrivesP d.shape (d.groups.2 i)) ∧ Two w wr #[.int .i64 (d.shape 0), .int .i64 (d.shape 1), .int .i64 (d.shape 2), .int .i64 (d.shape 3), .int .i64 (d.shape 4), .int .i64 (d.shape 5), .int .i64 (d.shape 6), .int .i64 (d.shape 7), .int .i64 (d.shape 8), .slice ao1 d.groups.1 cap1, .slice ao2 d.on.1 cap2, .slice ao3 d.tapes.1 cap3, .int .i64 d.writes, .int .i64 d.stop, .bool d.down] #[.int .i64 (d.shape 0), .int .i64 (d.shape 1), .int .i64 (d.shape 2), .int .i64 (d.shape 3), .int .i64 (d.shape 4), .int .i64 (d.shape 5), .int .i64 (d.shape 6), .int .i64 (d.shape 7), .int .i64 (d.shape 8)] 35 31) (fun i _ => d.groups.1 - (intOf i).toNat)
    case atStart => exact ⟨0, Nat.zero_le _, rfl, fun i hi => by omega, HT1.out⟩
    case round =>
      clear HT1
      obtain ⟨k, hk, rfl, hal, T2⟩ := hrel
      obtain ⟨wo, rfl⟩ : ∃ x, x = wr := ⟨_, rfl⟩
      have HAL : Hid (∀ i, i < k → DrivesP d.shape (d.groups.2 i)) := hal
      have HT2 : Hid (Two w wo #[.int .i64 (d.shape 0), .int .i64 (d.shape 1), .int .i64 (d.shape 2), .int .i64 (d.shape 3), .int .i64 (d.shape 4), .int .i64 (d.shape 5), .int .i64 (d.shape 6), .int .i64 (d.shape 7), .int .i64 (d.shape 8), .slice ao1 d.groups.1 cap1, .slice ao2 d.on.1 cap2, .slice ao3 d.tapes.1 cap3, .int .i64 d.writes, .int .i64 d.stop, .bool d.down] #[.int .i64 (d.shape 0), .int .i64 (d.shape 1), .int .i64 (d.shape 2), .int .i64 (d.shape 3), .int .i64 (d.shape 4), .int .i64 (d.shape 5), .int .i64 (d.shape 6), .int .i64 (d.shape 7), .int .i64 (d.shape 8)] 35 31) := T2
      clear hal
      have x2_9 : wo.cell? ⟨w.heap.size, 9, none⟩ = some (.slice ao1 d.groups.1 cap1) := T2.b1.cell 9
      have kx2_9 := cell_regrown x2_9
      have y2_0 : wo.cell? ⟨w.heap.size + 1, 0, none⟩ = some (.int .i64 (d.shape 0)) := T2.b2.cell 0
      have ky2_0 := cell_regrown y2_0
      have y2_1 : wo.cell? ⟨w.heap.size + 1, 1, none⟩ = some (.int .i64 (d.shape 1)) := T2.b2.cell 1
      have ky2_1 := cell_regrown y2_1
      have y2_2 : wo.cell? ⟨w.heap.size + 1, 2, none⟩ = some (.int .i64 (d.shape 2)) := T2.b2.cell 2
      have ky2_2 := cell_regrown y2_2
      have y2_3 : wo.cell? ⟨w.heap.size + 1, 3, none⟩ = some (.int .i64 (d.shape 3)) := T2.b2.cell 3
      have ky2_3 := cell_regrown y2_3
      have y2_4 : wo.cell? ⟨w.heap.size + 1, 4, none⟩ = some (.int .i64 (d.shape 4)) := T2.b2.cell 4
      have ky2_4 := cell_regrown y2_4
      have y2_5 : wo.cell? ⟨w.heap.size + 1, 5, none⟩ = some (.int .i64 (d.shape 5)) := T2.b2.cell 5
      have ky2_5 := cell_regrown y2_5
      have y2_6 : wo.cell? ⟨w.heap.size + 1, 6, none⟩ = some (.int .i64 (d.shape 6)) := T2.b2.cell 6
      have ky2_6 := cell_regrown y2_6
      have y2_7 : wo.cell? ⟨w.heap.size + 1, 7, none⟩ = some (.int .i64 (d.shape 7)) := T2.b2.cell 7
      have ky2_7 := cell_regrown y2_7
      have y2_8 : wo.cell? ⟨w.heap.size + 1, 8, none⟩ = some (.int .i64 (d.shape 8)) := T2.b2.cell 8
      have ky2_8 := cell_regrown y2_8
      by_cases hlt : k < d.groups.1
      · obtain ⟨b1, off1, he1, hb1, hel1⟩ := HC1.out (by omega)
        subst he1
        have HEL : Hid (∀ i, i < d.groups.1 → ∃ ce, (layDrive.slice 86).rd w hi (d.groups.2 i) ce ∧ ∀ j, j < (layDrive.slice 86).sz → w.cell? ⟨b1, off1 + (i * (layDrive.slice 86).sz + j), none⟩ = ce[j]?) := hel1
        obtain ⟨ck, hrk, hcell⟩ := elem_rd (t := 0) hel1 T2.bel hhi hb1 hlt
        obtain ⟨ao9, cap9, rfl⟩ := sl_form hrk
        have c0 : wo.cell? ⟨b1, off1 + k, none⟩ = some (.slice ao9 (d.groups.2 k).1 cap9) := by
          have h := hcell 0 (show 0 < 1 by decide)
          rw [show (layDrive.slice 86).sz = 1 from rfl, Nat.mul_one, Nat.add_zero] at h
          exact h
        have kc0 := cell_regrown c0
        obtain ⟨_, _, e9, hm9, hc9⟩ := hrk
        cases e9
        have HC9 : Hid ((d.groups.2 k).1 ≠ 0 → ∃ b off, ao9 = some ⟨b, off, none⟩ ∧ b < hi ∧ ∀ i, i < (d.groups.2 k).1 → ∃ ce, layDrive.rd wo hi ((d.groups.2 k).2 i) ce ∧ ∀ j, j < layDrive.sz → wo.cell? ⟨b, off + (i * layDrive.sz + j), none⟩ = ce[j]?) := hc9
        unfold maxLen at hm9
        have cD := q_below (W := wo) (fun w' _ => l5Drives_any d.shape HS.out w')
        unfold shapeV at cD
        have zw : w.heap.size + 1 < wo.heap.size := T2.b2.lt
        clear hcell hc9 hel1 T2
        by_cases hlen2 : ((d.groups.2 k).1 : Int) = d.shape 2 + d.shape 3
        · have hne2 : (((d.groups.2 k).1 : Int) != d.shape 2 + d.shape 3) = false := by simpa using hlen2
          have HL2 : Hid (((d.groups.2 k).1 : Int) = d.shape 2 + d.shape 3) := hlen2
          clear hlen2
          go_wp2
          refine WQ.region (by kernel_rfl) (by kernel_rfl) ?_
          repeat (first | (apply WQ.skip; (case hw => rfl); intro K hK; go_simp; apply hK; clear hK K) | (apply WQ.want; (case hw => rfl); intro K hK; go_simp; first | (apply hK; clear hK K) | (apply Exists.intro; apply And.intro; (case left => intro p; (first | (go_at_call 56; exact cD _ _))); apply hK; clear hK K)))
          refine WQ.nil ?_
          intro w3 hw3
          have HT3 : Hid (Two w w3 #[.int .i64 (d.shape 0), .int .i64 (d.shape 1), .int .i64 (d.shape 2), .int .i64 (d.shape 3), .int .i64 (d.shape 4), .int .i64 (d.shape 5), .int .i64 (d.shape 6), .int .i64 (d.shape 7), .int .i64 (d.shape 8), .slice (some ⟨b1, off1, none⟩) d.groups.1 cap1, .slice ao2 d.on.1 cap2, .slice ao3 d.tapes.1 cap3, .int .i64 d.writes, .int .i64 d.stop, .bool d.down] #[.int .i64 (d.shape 0), .int .i64 (d.shape 1), .int .i64 (d.shape 2), .int .i64 (d.shape 3), .int .i64 (d.shape 4), .int .i64 (d.shape 5), .int .i64 (d.shape 6), .int .i64 (d.shape 7), .int .i64 (d.shape 8)] 35 31) := HT2.out.call (below_rg hw3)
          have HB3 : Hid (Below wo.heap.size wo w3) := below_rg hw3
          have HC0 : Hid (wo.cell? ⟨b1, off1 + k, none⟩ = some (.slice ao9 (d.groups.2 k).1 cap9)) := c0
          clear hw3 cD c0 kc0 x2_9 kx2_9 y2_0 ky2_0 y2_1 ky2_1 y2_2 ky2_2 y2_3 ky2_3 y2_4 ky2_4 y2_5 ky2_5 y2_6 ky2_6 y2_7 ky2_7 y2_8 ky2_8
          go_wp2
          go_loopw [5] (fun i wx => ∃ q : Nat, q ≤ (d.groups.2 k).1 ∧ i = .int .i64 q ∧ (∀ i, i < q → BlocksP d.shape ((d.groups.2 k).2 i).blocks) ∧ Two w wx #[.int .i64 (d.shape 0), .int .i64 (d.shape 1), .int .i64 (d.shape 2), .int .i64 (d.shape 3), .int .i64 (d.shape 4), .int .i64 (d.shape 5), .int .i64 (d.shape 6), .int .i64 (d.shape 7), .int .i64 (d.shape 8), .slice (some ⟨b1, off1, none⟩) d.groups.1 cap1, .slice ao2 d.on.1 cap2, .slice ao3 d.tapes.1 cap3, .int .i64 d.writes, .int .i64 d.stop, .bool d.down] #[.int .i64 (d.shape 0), .int .i64 (d.shape 1), .int .i64 (d.shape 2), .int .i64 (d.shape 3), .int .i64 (d.shape 4), .int .i64 (d.shape 5), .int .i64 (d.shape 6), .int .i64 (d.shape 7), .int .i64 (d.shape 8)] 35 31 ∧ Below wo.heap.size wo wx) (fun i _ => (d.groups.2 k).1 - (intOf i).toNat)
          case atStart => exact ⟨0, Nat.zero_le _, rfl, fun i hi => by omega, HT3.out, HB3.out⟩
          case round =>
            clear HT3 HB3
            obtain ⟨q, hq, rfl, hal2, T4, hb4⟩ := hrel
            obtain ⟨wx, rfl⟩ : ∃ x, x = wr := ⟨_, rfl⟩
            have HAL2 : Hid (∀ i, i < q → BlocksP d.shape ((d.groups.2 k).2 i).blocks) := hal2
            have HT4 : Hid (Two w wx #[.int .i64 (d.shape 0), .int .i64 (d.shape 1), .int .i64 (d.shape 2), .int .i64 (d.shape 3), .int .i64 (d.shape 4), .int .i64 (d.shape 5), .int .i64 (d.shape 6), .int .i64 (d.shape 7), .int .i64 (d.shape 8), .slice (some ⟨b1, off1, none⟩) d.groups.1 cap1, .slice ao2 d.on.1 cap2, .slice ao3 d.tapes.1 cap3, .int .i64 d.writes, .int .i64 d.stop, .bool d.down] #[.int .i64 (d.shape 0), .int .i64 (d.shape 1), .int .i64 (d.shape 2), .int .i64 (d.shape 3), .int .i64 (d.shape 4), .int .i64 (d.shape 5), .int .i64 (d.shape 6), .int .i64 (d.shape 7), .int .i64 (d.shape 8)] 35 31) := T4
            have HB4 : Hid (Below wo.heap.size wo wx) := hb4
            clear hal2
            have x4_9 : wx.cell? ⟨w.heap.size, 9, none⟩ = some (.slice (some ⟨b1, off1, none⟩) d.groups.1 cap1) := T4.b1.cell 9
            have y4_4 : wx.cell? ⟨w.heap.size + 1, 4, none⟩ = some (.int .i64 (d.shape 4)) := T4.b2.cell 4
            have c4 : wx.cell? ⟨b1, off1 + k, none⟩ = some (.slice ao9 (d.groups.2 k).1 cap9) := (hb4.cell (p := ⟨b1, off1 + k, none⟩) (by show b1 < wo.heap.size; omega)).trans HC0.out
            by_cases hlq : q < (d.groups.2 k).1
            · obtain ⟨b9, off9, he9, hb9, hel9⟩ := HC9.out (by omega)
              subst he9
              obtain ⟨cq, hrq, hcq⟩ := elem_rd (t := 0) hel9 hb4 (by omega) hb9 hlq
              obtain ⟨ao5, cap5, rfl, g5⟩ := Drive_rd hrq
              have c5 : wx.cell? ⟨b9, off9 + q * 2 + 1, none⟩ = some (.slice ao5 ((d.groups.2 k).2 q).blocks.1 cap5) := hcq 1 (by decide)
              obtain ⟨_, _, e5, hm5, hc5⟩ := g5
              cases e5
              have HC5 : Hid (((d.groups.2 k).2 q).blocks.1 ≠ 0 → ∃ b off, ao5 = some ⟨b, off, none⟩ ∧ b < hi ∧ ∀ i, i < ((d.groups.2 k).2 q).blocks.1 → ∃ ce, layBlock.rd wx hi (((d.groups.2 k).2 q).blocks.2 i) ce ∧ ∀ j, j < layBlock.sz → wx.cell? ⟨b, off + (i * layBlock.sz + j), none⟩ = ce[j]?) := hc5
              unfold maxLen at hm5
              obtain ⟨p, hp⟩ : ∃ p, p = ((d.groups.2 k).2 q).blocks := ⟨_, rfl⟩
              rw [← hp] at c5 hm5 HC5
              have HP : Hid (p = ((d.groups.2 k).2 q).blocks) := hp
              clear hel9 hcq hc5 hrq T4 hb4 hp
              by_cases hl3 : (p.1 : Int) = d.shape 4
              · have hne3 : ((p.1 : Int) != d.shape 4) = false := by simpa using hl3
                have HL3 : Hid ((p.1 : Int) = d.shape 4) := hl3
                clear hl3
                go_wp2
                go_loop [7] (fun i => ∃ z : Nat, z ≤ p.1 ∧ i = .int .i64 z ∧ ∀ i, i < z → BlockP (p.2 i)) (fun i => p.1 - (intOf i).toNat)
                case atStart => exact ⟨0, Nat.zero_le _, rfl, fun i hi => by omega⟩
                case round =>
                  obtain ⟨z, hz, rfl, hal3⟩ := hrel
                  have HAL3 : Hid (∀ i, i < z → BlockP (p.2 i)) := hal3
                  clear hal3
                  by_cases hlz : z < p.1
                  · obtain ⟨b5, off5, he5, hb5, hel5⟩ := HC5.out (by omega)
                    subst he5
                    obtain ⟨cz, hrz, hcz⟩ := hel5 z hlz
                    obtain ⟨ao0, cap0, rfl, -⟩ := Block_rd hrz
                    have s0 : wx.cell? ⟨b5, off5 + z * 2, none⟩ = some (.int .i64 (p.2 z).stamp) := hcz 0 (by decide)
                    have s1 : wx.cell? ⟨b5, off5 + z * 2 + 1, none⟩ = some (.slice ao0 (p.2 z).bytes.1 cap0) := hcz 1 (by decide)
                    obtain ⟨t1, h1⟩ := exB (InP (p.2 z).stamp 0 1000000000)
                    have C1 := fun w' => l1In_b (w := w') h1
                    obtain ⟨b2', h2⟩ : ∃ b, (((p.2 z).bytes.1 : Int) != 4) = b := ⟨_, rfl⟩
                    have HE : Hid (BlockP (p.2 z) ↔ (t1 = true ∧ b2' = false)) := by
                      show BlockP (p.2 z) ↔ _
                      rw [h1, ← h2]
                      unfold BlockP
                      simp
                      intro _
                      omega
                    clear hel5 hcz hrz h1
                    go_wp2_with fail
                    refine (C1 _).mono ?_
                    rintro e w' ⟨rfl, hw'⟩
                    obtain rfl := hw'.symm
                    clear C1
                    cases t1 with
                    | false =>
                      go_wp2
                      go_ret
                      exact boolNo rfl (fun h => by
                        have hb := ((h.2 k hlt).2 q hlq).2 z (by rw [← HP.out]; exact hlz)
                        rw [← HP.out] at hb
                        have := HE.out.1 hb
                        simp at this) HT4.out.bel
                    | true =>
                      cases b2' with
                      | true =>
                        go_wp2
                        go_ret
                        exact boolNo rfl (fun h => by
                          have hb := ((h.2 k hlt).2 q hlq).2 z (by rw [← HP.out]; exact hlz)
                          rw [← HP.out] at hb
                          have := HE.out.1 hb
                          simp at this) HT4.out.bel
                      | false =>
                        go_wp2
                        go_round
                        case rel => exact ⟨z + 1, by omega, by go_num, fun i hi => by
                                      by_cases c : i = z
                                      · subst c; exact HE.out.2 (by simp)
                                      · exact HAL3.out i (by omega)⟩
                        case measure => simp [intOf]; omega
                  · obtain rfl : z = p.1 := by omega
                    go_wp2
                    go_roundw
                    case rel => exact ⟨q + 1, by omega, by go_num, fun i hi => by
                                  by_cases c : i = q
                                  · subst c
                                    rw [← HP.out]
                                    exact ⟨HL3.out, HAL3.out⟩
                                  · exact HAL2.out i (by omega), HT4.out, HB4.out⟩
                    case measure => simp [intOf]; omega
              · have hne3 : ((p.1 : Int) != d.shape 4) = true := by simpa using hl3
                have HN3 : Hid (¬ (p.1 : Int) = d.shape 4) := hl3
                clear hl3
                go_wp2
                go_ret
                exact boolNo rfl (fun h => HN3.out (by rw [HP.out]; exact ((h.2 k hlt).2 q hlq).1)) HT4.out.bel
            · obtain rfl : q = (d.groups.2 k).1 := by omega
              clear T4 hb4
              go_wp2
              go_roundw
              case rel => exact ⟨k + 1, by omega, by go_num, fun i hi => by
                            by_cases c : i = k
                            · subst c
                              exact ⟨HL2.out, HAL2.out⟩
                            · exact HAL.out i (by omega), HT4.out⟩
              case measure => simp [intOf]; omega
        · have hne2 : (((d.groups.2 k).1 : Int) != d.shape 2 + d.shape 3) = true := by simpa using hlen2
          have HN2 : Hid (¬ ((d.groups.2 k).1 : Int) = d.shape 2 + d.shape 3) := hlen2
          clear hlen2
          go_wp2
          refine WQ.region (by kernel_rfl) (by kernel_rfl) ?_
          repeat (first | (apply WQ.skip; (case hw => rfl); intro K hK; go_simp; apply hK; clear hK K) | (apply WQ.want; (case hw => rfl); intro K hK; go_simp; first | (apply hK; clear hK K) | (apply Exists.intro; apply And.intro; (case left => intro p; (first | (go_at_call 56; exact cD _ _))); apply hK; clear hK K)))
          refine WQ.nil ?_
          intro w3 hw3
          have HB3 : Hid (Below w.heap.size w w3) := (HT2.out.call (below_rg hw3)).bel
          clear hw3 cD c0 kc0
          go_wp2
          go_ret
          exact boolNo rfl (fun h => HN2.out (h.2 k hlt).1) HB3.out
      · obtain rfl : k = d.groups.1 := by omega
        go_wp2
        go_ret
        exact boolYes rfl ⟨HLEN.out, HAL.out⟩ HT2.out.bel
  · have hne : ((d.groups.1 : Int) != d.shape 0 + d.shape 1) = true := by simpa using hlen
    have HN : Hid (¬ (d.groups.1 : Int) = d.shape 0 + d.shape 1) := hlen
    clear hlen
    refine WQ.region (by kernel_rfl) (by kernel_rfl) ?_
    repeat (first | (apply WQ.skip; (case hw => rfl); intro K hK; go_simp; apply hK; clear hK K) | (apply WQ.want; (case hw => rfl); intro K hK; go_simp; first | (apply hK; clear hK K) | (apply Exists.intro; apply And.intro; (case left => intro p; (first | (go_at_call 22; exact cA _ _))); apply hK; clear hK K)))
    refine WQ.nil ?_
    intro w1 hw1
    have HB1 : Hid (Below w.heap.size w w1) := (HT.out.call (below_rg hw1)).bel
    clear hw1
    go_wp2
    go_ret
    exact boolNo rfl (fun h => HN.out h.1) HB1.out
end Go.Proofs.Ytgpglgchbimmaaa

namespace Go.Proofs.Ytgpglgchbimmaaa
open Go.RowKit F256
set_option linter.unusedVariables false
set_option linter.unusedSimpArgs false

set_option maxHeartbeats 8000000 in

theorem l5Item_any (s : Nat → Int) (hs : OkShape s) (r : RecD) (cs : List Value) (hi : Nat) (w : World) (h : layRec.rd w hi r cs) (hhi : hi ≤ w.heap.size) :
    Calls Try.prog 41 #[shapeV s, .agg cs.toArray] w (BoolP (ItemP s r) w) := by
  obtain ⟨ao6, cap6, ao7, cap7, ao8, cap8, rfl, g6, g7, g8, -, -, -, hl, -⟩ := Rec_rd h
  clear h g7 g8
  have hs2 : 1 ≤ s 2 ∧ s 2 ≤ 3 ∧ 1 ≤ s 4 ∧ s 4 ≤ 6 := by
    obtain ⟨_, h2, h3, _⟩ := hs
    unfold Shp at h2
    omega
  obtain ⟨v6, e6, ⟨h6, hcp6⟩, _⟩ := g6
  cases e6
  have H6 : Hid (RdI w hi (.slice ao6 r.rows.1 cap6) r.rows.1 r.rows.2) := h6
  have HCP : Hid (CapP (.slice ao6 r.rows.1 cap6) r.rows.1) := hcp6
  have hm6 := h6.mx
  unfold maxLen at hm6
  clear h6 hcp6
  have T0 := two_newb w #[.int .i64 (s 0), .int .i64 (s 1), .int .i64 (s 2), .int .i64 (s 3), .int .i64 (s 4), .int .i64 (s 5), .int .i64 (s 6), .int .i64 (s 7), .int .i64 (s 8)] #[.int .i64 r.kind, .int .i64 r.seq, .string r.name, .int .i64 r.length, .int .i64 r.group, .int .i64 r.row, .slice ao6 r.rows.1 cap6, .slice ao7 r.data.1 cap7, .slice ao8 r.delta.1 cap8] 31 45
  have CLong := fun w' => l4Long_any s (by omega) (by omega) r.length w'
  have HIT : Hid (ItemP s r ↔ ItemP s r) := Iff.rfl
  unfold shapeV
  unfold shapeV at CLong
  go_enter Try.func41, Try.ntmps41
  by_cases hl1 : r.length = -1
  · have HL : Hid (r.length = -1) := hl1
    have e1 : (r.length == -1) = true := by simp [hl1]
    have HB : Hid (Below w.heap.size w ((w.alloc (.cells #[.int .i64 (s 0), .int .i64 (s 1), .int .i64 (s 2), .int .i64 (s 3), .int .i64 (s 4), .int .i64 (s 5), .int .i64 (s 6), .int .i64 (s 7), .int .i64 (s 8)] 31)).alloc (.cells #[.int .i64 r.kind, .int .i64 r.seq, .string r.name, .int .i64 r.length, .int .i64 r.group, .int .i64 r.row, .slice ao6 r.rows.1 cap6, .slice ao7 r.data.1 cap7, .slice ao8 r.delta.1 cap8] 45))) := T0.bel
    clear T0 CLong hl1
    obtain ⟨b0, h0⟩ : ∃ b, ((r.data.1 : Int) == 0) = b := ⟨_, rfl⟩
    obtain ⟨b1, h1⟩ : ∃ b, ((r.rows.1 : Int) == 0) = b := ⟨_, rfl⟩
    have HE : Hid (ItemP s r ↔ (b0 = true ∧ b1 = true)) := by
      show ItemP s r ↔ _
      rw [← h0, ← h1]
      unfold ItemP
      simp [HL.out]
    have hst : b0 = false ∨ (b0 = true ∧ b1 = false) ∨ (b0 = true ∧ b1 = true) := by
      clear HE h0 h1
      cases b0 <;> simp
    rcases hst with rfl | ⟨rfl, rfl⟩ | ⟨rfl, rfl⟩
    all_goals
      go_wp2
      go_ret
      first
        | exact boolNo rfl (fun h => by have := HE.out.1 h; simp at this) HB.out
        | exact boolYes rfl (HE.out.2 (by simp)) HB.out
  · have e1 : (r.length == -1) = false := by simp [hl1]
    have HL : Hid (r.length ≠ -1) := hl1
    clear hl1
    go_wp2_with fail
    refine (CLong _).mono ?_
    rintro e w1 ⟨c, rfl, hc, b1⟩
    have T1 : Two w w1 #[.int .i64 (s 0), .int .i64 (s 1), .int .i64 (s 2), .int .i64 (s 3), .int .i64 (s 4), .int .i64 (s 5), .int .i64 (s 6), .int .i64 (s 7), .int .i64 (s 8)] #[.int .i64 r.kind, .int .i64 r.seq, .string r.name, .int .i64 r.length, .int .i64 r.group, .int .i64 r.row, .slice ao6 r.rows.1 cap6, .slice ao7 r.data.1 cap7, .slice ao8 r.delta.1 cap8] 31 45 := T0.call b1
    clear b1 T0 CLong
    have HT1 : Hid (Two w w1 #[.int .i64 (s 0), .int .i64 (s 1), .int .i64 (s 2), .int .i64 (s 3), .int .i64 (s 4), .int .i64 (s 5), .int .i64 (s 6), .int .i64 (s 7), .int .i64 (s 8)] #[.int .i64 r.kind, .int .i64 r.seq, .string r.name, .int .i64 r.length, .int .i64 r.group, .int .i64 r.row, .slice ao6 r.rows.1 cap6, .slice ao7 r.data.1 cap7, .slice ao8 r.delta.1 cap8] 31 45) := T1
    have x1_0 : w1.cell? ⟨w.heap.size, 0, none⟩ = some (.int .i64 (s 0)) := T1.b1.cell 0
    have kx1_0 := cell_regrown x1_0
    have x1_1 : w1.cell? ⟨w.heap.size, 1, none⟩ = some (.int .i64 (s 1)) := T1.b1.cell 1
    have kx1_1 := cell_regrown x1_1
    have x1_2 : w1.cell? ⟨w.heap.size, 2, none⟩ = some (.int .i64 (s 2)) := T1.b1.cell 2
    have kx1_2 := cell_regrown x1_2
    have x1_3 : w1.cell? ⟨w.heap.size, 3, none⟩ = some (.int .i64 (s 3)) := T1.b1.cell 3
    have kx1_3 := cell_regrown x1_3
    have x1_4 : w1.cell? ⟨w.heap.size, 4, none⟩ = some (.int .i64 (s 4)) := T1.b1.cell 4
    have kx1_4 := cell_regrown x1_4
    have x1_5 : w1.cell? ⟨w.heap.size, 5, none⟩ = some (.int .i64 (s 5)) := T1.b1.cell 5
    have kx1_5 := cell_regrown x1_5
    have x1_6 : w1.cell? ⟨w.heap.size, 6, none⟩ = some (.int .i64 (s 6)) := T1.b1.cell 6
    have kx1_6 := cell_regrown x1_6
    have x1_7 : w1.cell? ⟨w.heap.size, 7, none⟩ = some (.int .i64 (s 7)) := T1.b1.cell 7
    have kx1_7 := cell_regrown x1_7
    have x1_8 : w1.cell? ⟨w.heap.size, 8, none⟩ = some (.int .i64 (s 8)) := T1.b1.cell 8
    have kx1_8 := cell_regrown x1_8
    have y1_0 : w1.cell? ⟨w.heap.size + 1, 0, none⟩ = some (.int .i64 r.kind) := T1.b2.cell 0
    have ky1_0 := cell_regrown y1_0
    have y1_1 : w1.cell? ⟨w.heap.size + 1, 1, none⟩ = some (.int .i64 r.seq) := T1.b2.cell 1
    have ky1_1 := cell_regrown y1_1
    have y1_2 : w1.cell? ⟨w.heap.size + 1, 2, none⟩ = some (.string r.name) := T1.b2.cell 2
    have ky1_2 := cell_regrown y1_2
    have y1_3 : w1.cell? ⟨w.heap.size + 1, 3, none⟩ = some (.int .i64 r.length) := T1.b2.cell 3
    have ky1_3 := cell_regrown y1_3
    have y1_4 : w1.cell? ⟨w.heap.size + 1, 4, none⟩ = some (.int .i64 r.group) := T1.b2.cell 4
    have ky1_4 := cell_regrown y1_4
    have y1_5 : w1.cell? ⟨w.heap.size + 1, 5, none⟩ = some (.int .i64 r.row) := T1.b2.cell 5
    have ky1_5 := cell_regrown y1_5
    have y1_6 : w1.cell? ⟨w.heap.size + 1, 6, none⟩ = some (.slice ao6 r.rows.1 cap6) := T1.b2.cell 6
    have ky1_6 := cell_regrown y1_6
    have y1_7 : w1.cell? ⟨w.heap.size + 1, 7, none⟩ = some (.slice ao7 r.data.1 cap7) := T1.b2.cell 7
    have ky1_7 := cell_regrown y1_7
    have y1_8 : w1.cell? ⟨w.heap.size + 1, 8, none⟩ = some (.slice ao8 r.delta.1 cap8) := T1.b2.cell 8
    have ky1_8 := cell_regrown y1_8
    clear T1
    by_cases hok : 1 ≤ r.length ∧ r.length ≤ 3 * (s 2 * 4)
    · obtain rfl : c = 0 := by omega
      have HOK : Hid (1 ≤ r.length ∧ r.length ≤ 3 * (s 2 * 4)) := hok
      clear hc
      by_cases hd : 0 < r.data.1
      · have d1 : decide (0 < (r.data.1 : Int)) = true := by simp; omega
        obtain ⟨b0, h0⟩ : ∃ b, ((r.data.1 : Int) == r.length) = b := ⟨_, rfl⟩
        obtain ⟨b1, h1⟩ : ∃ b, ((r.rows.1 : Int) == 0) = b := ⟨_, rfl⟩
        have HE : Hid (ItemP s r ↔ (b0 = true ∧ b1 = true)) := by
          show ItemP s r ↔ _
          rw [← h0, ← h1]
          unfold ItemP
          have := HL.out
          have := HOK.out
          constructor
          · rintro (h | ⟨_, _, _, h | h⟩)
            · omega
            · simp; omega
            · omega
          · intro h
            simp at h
            exact .inr ⟨by omega, by omega, by omega, .inl ⟨hd, h.1, h.2⟩⟩
        have HD : Hid (0 < r.data.1) := hd
        have hst : b0 = false ∨ (b0 = true ∧ b1 = false) ∨ (b0 = true ∧ b1 = true) := by
          clear HE h0 h1
          cases b0 <;> simp
        clear hd hok
        rcases hst with rfl | ⟨rfl, rfl⟩ | ⟨rfl, rfl⟩
        all_goals
          go_wp2
          go_ret
          first
            | exact boolNo rfl (fun h => by have := HE.out.1 h; simp at this) HT1.out.bel
            | exact boolYes rfl (HE.out.2 (by simp)) HT1.out.bel
      · have d1 : decide (0 < (r.data.1 : Int)) = false := by simp; omega
        have hd0 : r.data.1 = 0 := by omega
        obtain ⟨S, hS⟩ : ∃ S, S = (r.length + s 2 * 4 - 1) / (s 2 * 4) := ⟨_, rfl⟩
        have HSV : Hid (S = (r.length + s 2 * 4 - 1) / (s 2 * 4)) := hS
        have hlb : r.length ≤ 1000000000 := by omega
        have cP := q_below (W := w1) (fun w' _ => l4Parts_any s (by omega) (by omega) r.length (by omega) (by omega) w')
        unfold shapeV at cP
        rw [← hS] at cP
        obtain ⟨t2, h2⟩ := exB (ApartP r.rows.1 r.rows.2 (s 4 - 1))
        have cQ := q_below (W := w1) (fun w' hw' => det_b (l5Apart_any _ r.rows.1 r.rows.2 hi (s 4 - 1) w' ((H6.out.below HT1.out.bel hhi).below hw' (Nat.le_trans hhi HT1.out.bel.size)) HCP.out (Nat.le_trans hhi (Nat.le_trans HT1.out.bel.size hw'.size))) h2)
        obtain ⟨b0, h0⟩ : ∃ b, ((r.rows.1 : Int) == S) = b := ⟨_, rfl⟩
        have HE : Hid (ItemP s r ↔ (b0 = true ∧ t2 = true)) := by
          show ItemP s r ↔ _
          rw [← h0, h2, hS]
          unfold ItemP
          have := HL.out
          have := HOK.out
          constructor
          · rintro (h | ⟨_, _, _, h | h⟩)
            · omega
            · omega
            · exact ⟨by simpa using h.2.1, h.2.2⟩
          · intro h
            exact .inr ⟨by omega, by omega, by omega, .inr ⟨hd0, by simpa using h.1, h.2⟩⟩
        have HD : Hid (¬ 0 < r.data.1) := hd
        have hst : b0 = false ∨ (b0 = true ∧ t2 = false) ∨ (b0 = true ∧ t2 = true) := by
          clear HE h0 h2 cQ
          cases b0 <;> simp
        have hw4 : IntKind.i64.wrap (s 4 - 1) = s 4 - 1 := by rw [IntKind.wrap_i64]; omega
        clear hd hok hS h2 hd0
        go_wp2
        rcases hst with rfl | ⟨rfl, rfl⟩ | ⟨rfl, rfl⟩
        all_goals
          refine WQ.region (by kernel_rfl) (by kernel_rfl) ?_
          repeat (first | (apply WQ.skip; (case hw => rfl); intro K hK; go_simp; apply hK; clear hK K) | (apply WQ.want; (case hw => rfl); intro K hK; go_simp; first | (apply hK; clear hK K) | (apply Exists.intro; apply And.intro; (case left => intro p; (first | (go_at_call 69; exact cP _ _) | (go_at_call 21; exact cQ _ _))); apply hK; clear hK K)))
          refine WQ.nil ?_
          intro w2 hw2
          have HB2 : Hid (Below w.heap.size w w2) := (HT1.out.call (below_rg hw2)).bel
          clear hw2
          go_wp2
          go_ret
          first
            | exact boolNo rfl (fun h => by have := HE.out.1 h; simp at this) HB2.out
            | exact boolYes rfl (HE.out.2 (by simp)) HB2.out
    · have hc0 : (c != 0) = true := by
        have : c ≠ 0 := by omega
        simp [this]
      have HNO : Hid (¬ ItemP s r) := fun h => by
        have := HL.out
        unfold ItemP at h
        omega
      clear hc hok
      go_wp2
      go_ret
      exact boolNo rfl HNO.out HT1.out.bel
end Go.Proofs.Ytgpglgchbimmaaa
