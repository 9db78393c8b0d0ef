/- Walks: the measure of records and tapes. -/
import Derived.Test.YtanlgabdpnnfbaaCells
namespace Go.Proofs.Ytanlgabdpnnfbaa
open Go.RowKit F256
set_option linter.unusedVariables false
set_option linter.unusedSimpArgs false
set_option maxHeartbeats 4000000 in
theorem szRec_is : SzV layRec szRecD 4 := fun cs d hi L w r hhi hL => by
  obtain ⟨ao6, cap6, ao7, cap7, ao8, cap8, rfl, r6, r7, r8, k0, k1, k2, k3, k4, k5⟩ := Rec_rd r
  clear r
  unfold szRecD
  have R6 : Hid (layInts.rd w hi d.rows [.slice ao6 d.rows.1 cap6]) := r6
  have R7 : Hid (layBytes.rd w hi d.data [.slice ao7 d.data.1 cap7]) := r7
  have R8 : Hid (layBytes.rd w hi d.delta [.slice ao8 d.delta.1 cap8]) := r8
  clear r6 r7 r8
  unfold maxLen at k2
  by_cases hnm : L < d.name.size
  · have hz : (L : Int) - (d.name.size : Int) < 0 := by omega
    go_enter Try.func4, Try.ntmps4
    go_wp2
    go_ret
    exact ⟨-1, rfl, .inl rfl, (one_new w _ _).bel⟩
  · have hz : ¬ (L : Int) - (d.name.size : Int) < 0 := by omega
    obtain ⟨M0, hM0⟩ : ∃ M0 : Nat, M0 + d.name.size = L := ⟨L - d.name.size, by omega⟩
    have eM0 : (L : Int) - (d.name.size : Int) = (M0 : Int) := by omega
    go_enter Try.func4, Try.ntmps4
    go_wp2_with fail
    have T0 := one_new w #[.int .i64 d.kind, .int .i64 d.seq, .string d.name, .int .i64 d.length, .int .i64 d.group, .int .i64 d.row, .slice ao6 d.rows.1 cap6, .slice ao7 d.data.1 cap7, .slice ao8 d.delta.1 cap8] 25
    have HM0 : Hid (M0 + d.name.size = L) := hM0
    have hML0 : M0 ≤ L := by omega
    first | rw [eM0] | skip
    clear hM0
    refine (szInts_is _ d.rows hi M0 _ (layInts.rd_below R6.out T0.bel hhi) (Nat.le_trans hhi T0.bel.size) (by omega)).mono ?_
    rintro e w1 ⟨y1, rfl, s1, b1⟩
    have T1 : One w w1 #[.int .i64 d.kind, .int .i64 d.seq, .string d.name, .int .i64 d.length, .int .i64 d.group, .int .i64 d.row, .slice ao6 d.rows.1 cap6, .slice ao7 d.data.1 cap7, .slice ao8 d.delta.1 cap8] 25 := T0.call b1
    have x1_7 : w1.cell? ⟨w.heap.size, 7, none⟩ = some (.slice ao7 d.data.1 cap7) := T1.b1.cell 7
    have HB1 : Hid (Below w.heap.size w w1) := T1.bel
    rcases s1 with rfl | ⟨l1, hy1⟩
    · clear T1 T0 b1
      go_wp2
      go_ret
      exact ⟨-1, rfl, .inl rfl, HB1.out⟩
    obtain ⟨M1, hM1⟩ : ∃ M : Nat, M + lenD d.rows = M0 := ⟨M0 - lenD d.rows, by omega⟩
    obtain rfl : y1 = ((M1 : Nat) : Int) := by omega
    have HM1 : Hid (M1 + lenD d.rows = M0) := hM1
    have hML1 : M1 ≤ M0 := by omega
    have hz1 : ¬ ((M1 : Int) < 0) := by omega
    clear hM1 hy1 l1 T0 b1
    go_wp2_with fail
    refine (szBytes_is _ d.data hi M1 _ (layBytes.rd_below R7.out T1.bel hhi) (Nat.le_trans hhi T1.bel.size) (by omega)).mono ?_
    rintro e w2 ⟨y2, rfl, s2, b2⟩
    have T2 : One w w2 #[.int .i64 d.kind, .int .i64 d.seq, .string d.name, .int .i64 d.length, .int .i64 d.group, .int .i64 d.row, .slice ao6 d.rows.1 cap6, .slice ao7 d.data.1 cap7, .slice ao8 d.delta.1 cap8] 25 := T1.call b2
    have x2_8 : w2.cell? ⟨w.heap.size, 8, none⟩ = some (.slice ao8 d.delta.1 cap8) := T2.b1.cell 8
    have HB2 : Hid (Below w.heap.size w w2) := T2.bel
    rcases s2 with rfl | ⟨l2, hy2⟩
    · clear T2 T1 b2
      go_wp2
      go_ret
      exact ⟨-1, rfl, .inl rfl, HB2.out⟩
    obtain ⟨M2, hM2⟩ : ∃ M : Nat, M + lenD d.data = M1 := ⟨M1 - lenD d.data, by omega⟩
    obtain rfl : y2 = ((M2 : Nat) : Int) := by omega
    have HM2 : Hid (M2 + lenD d.data = M1) := hM2
    have hML2 : M2 ≤ M1 := by omega
    have hz2 : ¬ ((M2 : Int) < 0) := by omega
    clear hM2 hy2 l2 T1 b2
    go_wp2_with fail
    refine (szBytes_is _ d.delta hi M2 _ (layBytes.rd_below R8.out T2.bel hhi) (Nat.le_trans hhi T2.bel.size) (by omega)).mono ?_
    rintro e w3 ⟨y3, rfl, s3, b3⟩
    have T3 : One w w3 #[.int .i64 d.kind, .int .i64 d.seq, .string d.name, .int .i64 d.length, .int .i64 d.group, .int .i64 d.row, .slice ao6 d.rows.1 cap6, .slice ao7 d.data.1 cap7, .slice ao8 d.delta.1 cap8] 25 := T2.call b3
    have HB3 : Hid (Below w.heap.size w w3) := T3.bel
    rcases s3 with rfl | ⟨l3, hy3⟩
    · clear T3 T2 b3
      go_wp2
      go_ret
      exact ⟨-1, rfl, .inl rfl, HB3.out⟩
    obtain ⟨M3, hM3⟩ : ∃ M : Nat, M + lenD d.delta = M2 := ⟨M2 - lenD d.delta, by omega⟩
    obtain rfl : y3 = ((M3 : Nat) : Int) := by omega
    have HM3 : Hid (M3 + lenD d.delta = M2) := hM3
    have hML3 : M3 ≤ M2 := by omega
    have hz3 : ¬ ((M3 : Int) < 0) := by omega
    clear hM3 hy3 l3 T2 b3
    clear T3
    go_wp2
    go_ret
    exact ⟨M3, rfl, .inr ⟨by have e0 := HM0.out; have e1 := HM1.out; have e2 := HM2.out; have e3 := HM3.out; omega, by have e0 := HM0.out; have e1 := HM1.out; have e2 := HM2.out; have e3 := HM3.out; omega⟩, HB3.out⟩
end Go.Proofs.Ytanlgabdpnnfbaa
