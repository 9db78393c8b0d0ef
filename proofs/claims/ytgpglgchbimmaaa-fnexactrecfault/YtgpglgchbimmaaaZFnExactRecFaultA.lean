/- Walk of the program's risesWithin. -/
import Derived.Test.YtgpglgchbimmaaaCells
import Derived.Test.YtgpglgchbimmaaaWShape
import Derived.Test.YtgpglgchbimmaaaWRowF
import Derived.Test.YtgpglgchbimmaaaProg
import Derived.Test.YtgpglgchbimmaaaBits
import Derived.WalkLawsBesides
import Derived.Test.YtgpglgchbimmaaaColDefs
import Derived.Test.YtgpglgchbimmaaaWColA
import Derived.Test.YtgpglgchbimmaaaWInts
import Derived.Lib.QuietBelow
import Derived.Test.YtgpglgchbimmaaaWRowA
import Derived.BigQuiet
import Derived.Deep.QuietTactic
import Derived.StillTailTactics
import Derived.Lib.MinMax
import Derived.Laws.StructEq
import Derived.Deep.Cut
namespace Go.Proofs.Ytgpglgchbimmaaa
open Go.RowKit F256
set_option linter.unusedVariables false
set_option linter.unusedSimpArgs false
set_option maxHeartbeats 4000000 in
theorem szRec_is : SzV layRec szRecD 10 := fun cs d hi L w r hhi hL => by
  obtain ⟨ao6, cap6, ao7, cap7, ao8, cap8, rfl, r6, r7, r8, k0, k1, k2, k3, k4, k5⟩ := Rec_rd r
  clear r
  unfold szRecD
  have R6 : Hid (layInts.rd w hi d.rows [.slice ao6 d.rows.1 cap6]) := r6
  have R7 : Hid (layBytes.rd w hi d.data [.slice ao7 d.data.1 cap7]) := r7
  have R8 : Hid (layBytes.rd w hi d.delta [.slice ao8 d.delta.1 cap8]) := r8
  clear r6 r7 r8
  unfold maxLen at k2
  by_cases hnm : L < d.name.size
  · have hz : (L : Int) - (d.name.size : Int) < 0 := by omega
    go_enter Try.func10, Try.ntmps10
    go_wp2
    go_ret
    exact ⟨-1, rfl, .inl rfl, (one_new w _ _).bel⟩
  · have hz : ¬ (L : Int) - (d.name.size : Int) < 0 := by omega
    obtain ⟨M0, hM0⟩ : ∃ M0 : Nat, M0 + d.name.size = L := ⟨L - d.name.size, by omega⟩
    have eM0 : (L : Int) - (d.name.size : Int) = (M0 : Int) := by omega
    go_enter Try.func10, Try.ntmps10
    go_wp2_with fail
    have T0 := one_new w #[.int .i64 d.kind, .int .i64 d.seq, .string d.name, .int .i64 d.length, .int .i64 d.group, .int .i64 d.row, .slice ao6 d.rows.1 cap6, .slice ao7 d.data.1 cap7, .slice ao8 d.delta.1 cap8] 41
    have HM0 : Hid (M0 + d.name.size = L) := hM0
    have hML0 : M0 ≤ L := by omega
    first | rw [eM0] | skip
    clear hM0
    refine (szInts_is _ d.rows hi M0 _ (layInts.rd_below R6.out T0.bel hhi) (Nat.le_trans hhi T0.bel.size) (by omega)).mono ?_
    rintro e w1 ⟨y1, rfl, s1, b1⟩
    have T1 : One w w1 #[.int .i64 d.kind, .int .i64 d.seq, .string d.name, .int .i64 d.length, .int .i64 d.group, .int .i64 d.row, .slice ao6 d.rows.1 cap6, .slice ao7 d.data.1 cap7, .slice ao8 d.delta.1 cap8] 41 := T0.call b1
    have x1_7 : w1.cell? ⟨w.heap.size, 7, none⟩ = some (.slice ao7 d.data.1 cap7) := T1.b1.cell 7
    have HB1 : Hid (Below w.heap.size w w1) := T1.bel
    rcases s1 with rfl | ⟨l1, hy1⟩
    · clear T1 T0 b1
      go_wp2
      go_ret
      exact ⟨-1, rfl, .inl rfl, HB1.out⟩
    obtain ⟨M1, hM1⟩ : ∃ M : Nat, M + lenD d.rows = M0 := ⟨M0 - lenD d.rows, by omega⟩
    obtain rfl : y1 = ((M1 : Nat) : Int) := by omega
    have HM1 : Hid (M1 + lenD d.rows = M0) := hM1
    have hML1 : M1 ≤ M0 := by omega
    have hz1 : ¬ ((M1 : Int) < 0) := by omega
    clear hM1 hy1 l1 T0 b1
    go_wp2_with fail
    refine (szBytes_is _ d.data hi M1 _ (layBytes.rd_below R7.out T1.bel hhi) (Nat.le_trans hhi T1.bel.size) (by omega)).mono ?_
    rintro e w2 ⟨y2, rfl, s2, b2⟩
    have T2 : One w w2 #[.int .i64 d.kind, .int .i64 d.seq, .string d.name, .int .i64 d.length, .int .i64 d.group, .int .i64 d.row, .slice ao6 d.rows.1 cap6, .slice ao7 d.data.1 cap7, .slice ao8 d.delta.1 cap8] 41 := T1.call b2
    have x2_8 : w2.cell? ⟨w.heap.size, 8, none⟩ = some (.slice ao8 d.delta.1 cap8) := T2.b1.cell 8
    have HB2 : Hid (Below w.heap.size w w2) := T2.bel
    rcases s2 with rfl | ⟨l2, hy2⟩
    · clear T2 T1 b2
      go_wp2
      go_ret
      exact ⟨-1, rfl, .inl rfl, HB2.out⟩
    obtain ⟨M2, hM2⟩ : ∃ M : Nat, M + lenD d.data = M1 := ⟨M1 - lenD d.data, by omega⟩
    obtain rfl : y2 = ((M2 : Nat) : Int) := by omega
    have HM2 : Hid (M2 + lenD d.data = M1) := hM2
    have hML2 : M2 ≤ M1 := by omega
    have hz2 : ¬ ((M2 : Int) < 0) := by omega
    clear hM2 hy2 l2 T1 b2
    go_wp2_with fail
    refine (szBytes_is _ d.delta hi M2 _ (layBytes.rd_below R8.out T2.bel hhi) (Nat.le_trans hhi T2.bel.size) (by omega)).mono ?_
    rintro e w3 ⟨y3, rfl, s3, b3⟩
    have T3 : One w w3 #[.int .i64 d.kind, .int .i64 d.seq, .string d.name, .int .i64 d.length, .int .i64 d.group, .int .i64 d.row, .slice ao6 d.rows.1 cap6, .slice ao7 d.data.1 cap7, .slice ao8 d.delta.1 cap8] 41 := T2.call b3
    have HB3 : Hid (Below w.heap.size w w3) := T3.bel
    rcases s3 with rfl | ⟨l3, hy3⟩
    · clear T3 T2 b3
      go_wp2
      go_ret
      exact ⟨-1, rfl, .inl rfl, HB3.out⟩
    obtain ⟨M3, hM3⟩ : ∃ M : Nat, M + lenD d.delta = M2 := ⟨M2 - lenD d.delta, by omega⟩
    obtain rfl : y3 = ((M3 : Nat) : Int) := by omega
    have HM3 : Hid (M3 + lenD d.delta = M2) := hM3
    have hML3 : M3 ≤ M2 := by omega
    have hz3 : ¬ ((M3 : Int) < 0) := by omega
    clear hM3 hy3 l3 T2 b3
    clear T3
    go_wp2
    go_ret
    exact ⟨M3, rfl, .inr ⟨by have e0 := HM0.out; have e1 := HM1.out; have e2 := HM2.out; have e3 := HM3.out; omega, by have e0 := HM0.out; have e1 := HM1.out; have e2 := HM2.out; have e3 := HM3.out; omega⟩, HB3.out⟩
set_option maxHeartbeats 4000000 in
theorem szRecS_is : SzS (layRec.slice 45) (szSl szRecD) 79 := fun v d hi L w h hhi hL => by
  obtain ⟨n, x⟩ := d
  obtain ⟨ao, cap, hv, hm, hc⟩ := h
  cases hv
  simp only at hm hc
  unfold maxLen at hm
  by_cases hnL : L < n
  · clear hc
    have hz : (L : Int) - (n : Int) < 0 := by omega
    go_enter Try.func79, Try.ntmps79
    go_wp2
    go_ret
    exact ⟨-1, rfl, .inl rfl, Below.refl _ _⟩
  · have hz : ¬ (L : Int) - (n : Int) < 0 := by omega
    go_enter Try.func79, Try.ntmps79
    go_wp2
    go_loopw [1, 5] (fun y i wr => ∃ k M : Nat, k ≤ n ∧ i = .int .i64 k ∧ y = .int .i64 M ∧ M + n + sumN (fun i => szRecD (x i)) k = L ∧ Below w.heap.size w wr) (fun _ i _ => n - (intOf i).toNat)
    case atStart => exact ⟨0, L - n, Nat.zero_le _, rfl, val_eq (by omega), by simp [sumN]; omega, Below.refl _ _⟩
    case round =>
      obtain ⟨k, M, hk, rfl, rfl, hM, hb⟩ := hrel
      have HM : Hid (M + n + sumN (fun i => szRecD (x i)) k = L) := hM
      have hML : M ≤ L := by omega
      clear hM
      by_cases hlt : k < n
      · obtain ⟨b, off, rfl, hblt, hel⟩ := hc (by omega)
        obtain ⟨ck, hrk, hcell⟩ := elem_rd (t := 0) hel hb hhi hblt hlt
        obtain ⟨ao6, cap6, ao7, cap7, ao8, cap8, rfl, -⟩ := Rec_rd hrk
        have c0 : wr.cell? ⟨b, off + k * 9, none⟩ = some (.int .i64 (x k).kind) := hcell 0 (by decide)
        have c1 : wr.cell? ⟨b, off + k * 9 + 1, none⟩ = some (.int .i64 (x k).seq) := hcell 1 (by decide)
        have c2 : wr.cell? ⟨b, off + k * 9 + 2, none⟩ = some (.string (x k).name) := hcell 2 (by decide)
        have c3 : wr.cell? ⟨b, off + k * 9 + 3, none⟩ = some (.int .i64 (x k).length) := hcell 3 (by decide)
        have c4 : wr.cell? ⟨b, off + k * 9 + 4, none⟩ = some (.int .i64 (x k).group) := hcell 4 (by decide)
        have c5 : wr.cell? ⟨b, off + k * 9 + 5, none⟩ = some (.int .i64 (x k).row) := hcell 5 (by decide)
        have c6 : wr.cell? ⟨b, off + k * 9 + 6, none⟩ = some (.slice ao6 (x k).rows.1 cap6) := hcell 6 (by decide)
        have c7 : wr.cell? ⟨b, off + k * 9 + 7, none⟩ = some (.slice ao7 (x k).data.1 cap7) := hcell 7 (by decide)
        have c8 : wr.cell? ⟨b, off + k * 9 + 8, none⟩ = some (.slice ao8 (x k).delta.1 cap8) := hcell 8 (by decide)
        clear hc hel hcell
        go_wp2_with fail
        refine (szRec_is _ (x k) hi M _ hrk (Nat.le_trans hhi hb.size) (by omega)).mono ?_
        rintro e w2 ⟨y, rfl, s, b2⟩
        have HB : Hid (Below w.heap.size w w2) := hb.trans (b2.mono hb.size)
        clear b2 hb hrk
        rcases s with rfl | ⟨l1, hy⟩
        · go_wp2
          go_ret
          exact ⟨-1, rfl, .inl rfl, HB.out⟩
        · obtain ⟨M', hM'⟩ : ∃ M' : Nat, M' + szRecD (x k) = M := ⟨M - szRecD (x k), by omega⟩
          obtain rfl : y = (M' : Int) := by omega
          have HM' : Hid (M' + szRecD (x k) = M) := hM'
          have hz2 : ¬ ((M' : Int) < 0) := by omega
          clear hM' hy l1
          go_wp2_with fail
          go_roundw
          case rel => exact ⟨k + 1, M', by omega, by go_num, rfl, by
                have e1 := HM.out
                have e2 := HM'.out
                have e3 : sumN (fun i => szRecD (x i)) (k + 1) = sumN (fun i => szRecD (x i)) k + szRecD (x k) := rfl
                omega, HB.out⟩
          case measure => simp [intOf]; omega
      · obtain rfl : k = n := by omega
        go_wp2
        go_ret
        exact ⟨M, rfl, .inr ⟨by
          have e1 := HM.out
          show k + sumN (fun i => szRecD (x i)) k ≤ L
          omega, by
          have e1 := HM.out
          show (M : Int) = (L : Int) - ((k + sumN (fun i => szRecD (x i)) k : Nat) : Int)
          omega⟩, hb⟩
set_option maxHeartbeats 4000000 in
theorem szTape_is : SzV layTape szTapeD 53 := fun cs d hi L w r hhi hL => by
  obtain ⟨ao1, cap1, rfl, r1⟩ := Tape_rd r
  clear r
  unfold szTapeD
  have R1 : Hid ((layRec.slice 45).rd w hi d.recs [.slice ao1 d.recs.1 cap1]) := r1
  clear r1
  go_enter Try.func53, Try.ntmps53
  go_wp2_with fail
  have T0 := one_new w #[.bool d.wiped, .slice ao1 d.recs.1 cap1] 81
  refine (szRecS_is _ d.recs hi L _ ((layRec.slice 45).rd_below R1.out T0.bel hhi) (Nat.le_trans hhi T0.bel.size) (by omega)).mono ?_
  rintro e w1 ⟨y1, rfl, s1, b1⟩
  have T1 : One w w1 #[.bool d.wiped, .slice ao1 d.recs.1 cap1] 81 := T0.call b1
  have HB1 : Hid (Below w.heap.size w w1) := T1.bel
  rcases s1 with rfl | ⟨l1, hy1⟩
  · clear T1 T0 b1
    go_wp2
    go_ret
    exact ⟨-1, rfl, .inl rfl, HB1.out⟩
  obtain ⟨M1, hM1⟩ : ∃ M : Nat, M + (szSl szRecD) d.recs = L := ⟨L - (szSl szRecD) d.recs, by omega⟩
  obtain rfl : y1 = ((M1 : Nat) : Int) := by omega
  have HM1 : Hid (M1 + (szSl szRecD) d.recs = L) := hM1
  have hML1 : M1 ≤ L := by omega
  have hz1 : ¬ ((M1 : Int) < 0) := by omega
  clear hM1 hy1 l1 T0 b1
  clear T1
  go_wp2
  go_ret
  exact ⟨M1, rfl, .inr ⟨by have e0 := HM1.out; omega, by have e0 := HM1.out; omega⟩, HB1.out⟩
set_option maxHeartbeats 4000000 in
theorem szTapeS_is : SzS (layTape.slice 57) (szSl szTapeD) 18 := fun v d hi L w h hhi hL => by
  obtain ⟨n, x⟩ := d
  obtain ⟨ao, cap, hv, hm, hc⟩ := h
  cases hv
  simp only at hm hc
  unfold maxLen at hm
  by_cases hnL : L < n
  · clear hc
    have hz : (L : Int) - (n : Int) < 0 := by omega
    go_enter Try.func18, Try.ntmps18
    go_wp2
    go_ret
    exact ⟨-1, rfl, .inl rfl, Below.refl _ _⟩
  · have hz : ¬ (L : Int) - (n : Int) < 0 := by omega
    go_enter Try.func18, Try.ntmps18
    go_wp2
    go_loopw [1, 5] (fun y i wr => ∃ k M : Nat, k ≤ n ∧ i = .int .i64 k ∧ y = .int .i64 M ∧ M + n + sumN (fun i => szTapeD (x i)) k = L ∧ Below w.heap.size w wr) (fun _ i _ => n - (intOf i).toNat)
    case atStart => exact ⟨0, L - n, Nat.zero_le _, rfl, val_eq (by omega), by simp [sumN]; omega, Below.refl _ _⟩
    case round =>
      obtain ⟨k, M, hk, rfl, rfl, hM, hb⟩ := hrel
      have HM : Hid (M + n + sumN (fun i => szTapeD (x i)) k = L) := hM
      have hML : M ≤ L := by omega
      clear hM
      by_cases hlt : k < n
      · obtain ⟨b, off, rfl, hblt, hel⟩ := hc (by omega)
        obtain ⟨ck, hrk, hcell⟩ := elem_rd (t := 0) hel hb hhi hblt hlt
        obtain ⟨ao1, cap1, rfl, -⟩ := Tape_rd hrk
        have c0 : wr.cell? ⟨b, off + k * 2, none⟩ = some (.bool (x k).wiped) := hcell 0 (by decide)
        have c1 : wr.cell? ⟨b, off + k * 2 + 1, none⟩ = some (.slice ao1 (x k).recs.1 cap1) := hcell 1 (by decide)
        clear hc hel hcell
        go_wp2_with fail
        refine (szTape_is _ (x k) hi M _ hrk (Nat.le_trans hhi hb.size) (by omega)).mono ?_
        rintro e w2 ⟨y, rfl, s, b2⟩
        have HB : Hid (Below w.heap.size w w2) := hb.trans (b2.mono hb.size)
        clear b2 hb hrk
        rcases s with rfl | ⟨l1, hy⟩
        · go_wp2
          go_ret
          exact ⟨-1, rfl, .inl rfl, HB.out⟩
        · obtain ⟨M', hM'⟩ : ∃ M' : Nat, M' + szTapeD (x k) = M := ⟨M - szTapeD (x k), by omega⟩
          obtain rfl : y = (M' : Int) := by omega
          have HM' : Hid (M' + szTapeD (x k) = M) := hM'
          have hz2 : ¬ ((M' : Int) < 0) := by omega
          clear hM' hy l1
          go_wp2_with fail
          go_roundw
          case rel => exact ⟨k + 1, M', by omega, by go_num, rfl, by
                have e1 := HM.out
                have e2 := HM'.out
                have e3 : sumN (fun i => szTapeD (x i)) (k + 1) = sumN (fun i => szTapeD (x i)) k + szTapeD (x k) := rfl
                omega, HB.out⟩
          case measure => simp [intOf]; omega
      · obtain rfl : k = n := by omega
        go_wp2
        go_ret
        exact ⟨M, rfl, .inr ⟨by
          have e1 := HM.out
          show k + sumN (fun i => szTapeD (x i)) k ≤ L
          omega, by
          have e1 := HM.out
          show (M : Int) = (L : Int) - ((k + sumN (fun i => szTapeD (x i)) k : Nat) : Int)
          omega⟩, hb⟩
end Go.Proofs.Ytgpglgchbimmaaa

namespace Go.Proofs.Ytgpglgchbimmaaa
open Go.RowKit F256
set_option linter.unusedVariables false
set_option linter.unusedSimpArgs false

/-- the bytes of a string -/
def nameByte (b : ByteArray) (i : Nat) : Nat := if h : i < b.size then (b[i]'h).toNat else 0
theorem nameByte_lt (b : ByteArray) (i : Nat) : nameByte b i < 256 := by
  unfold nameByte
  split
  · exact UInt8.toNat_lt _
  · omega
theorem index_name (b : ByteArray) (i : Nat) (h : i < b.size) (w : World) : (Instr.index 9 (.string b) (.int .i64 (i : Int))).run Try.prog w = .ok (.int .u8 (nameByte b i)) w := by
  rw [run_index_string w 9 b .i64 (i : Int) Try.underlying9, dif_pos ⟨by omega, by omega⟩]
  simp [nameByte, h]
def LetP (y : Nat) : Prop := 97 ≤ y ∧ y ≤ 122
def DigP (y : Nat) : Prop := 48 ≤ y ∧ y ≤ 57
/-- a name that has no fault -/
def OkName (b : ByteArray) : Prop := 1 ≤ b.size ∧ b.size ≤ 8 ∧ LetP (nameByte b 0) ∧ ∀ i, i < b.size → LetP (nameByte b i) ∨ DigP (nameByte b i)
def NmAns (b : ByteArray) (x : Int) : Prop := (x = 5 ∧ ¬ OkName b) ∨ (x = 0 ∧ OkName b)
theorem NmAns.one {b : ByteArray} {x y : Int} (h : NmAns b x) (k : NmAns b y) : x = y := by
  rcases h with ⟨rfl, h⟩ | ⟨rfl, h⟩ <;> rcases k with ⟨rfl, k⟩ | ⟨rfl, k⟩ <;> first | rfl | exact absurd h k | exact absurd k h

set_option maxHeartbeats 4000000 in
theorem specName_any (b : ByteArray) (hb : b.size ≤ 1048576) (w : World) :
    Calls Try.prog 40 #[.string b] w fun e w' => ∃ x, e = .returned (.int .i64 x) ∧ NmAns b x ∧ w' = w := by
  by_cases h1 : 1 ≤ b.size
  · have t1 : decide ((b.size : Int) < 1) = false := by simp; omega
    have t1n : decide (b.size < 1) = false := decide_eq_false (by omega)
    have t1z : decide (b.size = 0) = false := decide_eq_false (by omega)
    by_cases h2 : b.size ≤ 8
    · have t2 : decide ((8 : Int) < (b.size : Int)) = false := by simp; omega
      have t2n : decide (8 < b.size) = false := by simp; omega
      have hix := index_name b 0 h1
      have e0 : ((0 : Nat) : Int) = 0 := rfl
      rw [e0] at hix
      obtain ⟨y, hy⟩ : ∃ y, y = nameByte b 0 := ⟨_, rfl⟩
      rw [← hy] at hix
      have HY : Hid (y = nameByte b 0) := hy
      clear e0 hy
      by_cases h3 : y < 97
      · have HN : Hid (¬ OkName b) := fun h => by have := h.2.2.1.1; rw [← HY.out] at this; omega
        have t3 : decide ((y : Int) < 97) = true := by simp; omega
        go_enter Try.func40, Try.ntmps40
        go_wp2
        go_ret
        exact ⟨5, rfl, .inl ⟨rfl, HN.out⟩, rfl⟩
      · have t3 : decide ((y : Int) < 97) = false := by simp; omega
        have t3n : decide (y < 97) = false := by simp; omega
        by_cases h4 : 122 < y
        · have HN : Hid (¬ OkName b) := fun h => by have := h.2.2.1.2; rw [← HY.out] at this; omega
          have t4 : decide ((122 : Int) < (y : Int)) = true := by simp; omega
          clear h3
          go_enter Try.func40, Try.ntmps40
          go_wp2
          go_ret
          exact ⟨5, rfl, .inl ⟨rfl, HN.out⟩, rfl⟩
        · have t4 : decide ((122 : Int) < (y : Int)) = false := by simp; omega
          have t4n : decide (122 < y) = false := by simp; omega
          have HL : Hid (LetP (nameByte b 0)) := by show LetP (nameByte b 0); rw [← HY.out]; exact ⟨by omega, by omega⟩
          clear h3 h4
          go_enter Try.func40, Try.ntmps40
          go_wp2
          go_loop [3] (fun i => ∃ k : Nat, k ≤ b.size ∧ i = .int .i64 k ∧ ∀ i, i < k → LetP (nameByte b i) ∨ DigP (nameByte b i)) (fun i => b.size - (intOf i).toNat)
          case atStart => exact ⟨0, Nat.zero_le _, rfl, fun i hi => by omega⟩
          case round =>
            obtain ⟨k, hk, rfl, hall⟩ := hrel
            have HALL : Hid (∀ i, i < k → LetP (nameByte b i) ∨ DigP (nameByte b i)) := hall
            clear hall
            by_cases hlt : k < b.size
            · have hik := index_name b k hlt
              obtain ⟨z, hz⟩ : ∃ z, z = nameByte b k := ⟨_, rfl⟩
              rw [← hz] at hik
              have HZ : Hid (z = nameByte b k) := hz
              clear hz
              by_cases c1 : z < 97
              · have s1 : decide ((z : Int) < 97) = true := by simp; omega
                by_cases c3 : z < 48
                · have s3 : decide ((z : Int) < 48) = true := by simp; omega
                  have HN : Hid (¬ OkName b) := fun h => by
                    have := h.2.2.2 k hlt
                    rw [← HZ.out] at this
                    unfold LetP DigP at this
                    omega
                  go_wp2
                  go_ret
                  exact ⟨5, rfl, .inl ⟨rfl, HN.out⟩, rfl⟩
                · have s3 : decide ((z : Int) < 48) = false := by simp; omega
                  have s3n : decide (z < 48) = false := by simp; omega
                  by_cases c4 : 57 < z
                  · have s4 : decide ((57 : Int) < (z : Int)) = true := by simp; omega
                    have HN : Hid (¬ OkName b) := fun h => by
                      have := h.2.2.2 k hlt
                      rw [← HZ.out] at this
                      unfold LetP DigP at this
                      omega
                    clear c3
                    go_wp2
                    go_ret
                    exact ⟨5, rfl, .inl ⟨rfl, HN.out⟩, rfl⟩
                  · have s4 : decide ((57 : Int) < (z : Int)) = false := by simp; omega
                    have s4n : decide (57 < z) = false := by simp; omega
                    have HD : Hid (DigP (nameByte b k)) := by show DigP (nameByte b k); rw [← HZ.out]; exact ⟨by omega, by omega⟩
                    clear c3 c4
                    go_wp2
                    go_round
                    case rel => exact ⟨k + 1, by omega, by go_num, fun i hi => by
                                  by_cases c : i = k
                                  · right; rw [c]; exact HD.out
                                  · exact HALL.out i (by omega)⟩
                    case measure => simp [intOf]; omega
              · have s1 : decide ((z : Int) < 97) = false := by simp; omega
                have s1n : decide (z < 97) = false := by simp; omega
                by_cases c2 : 122 < z
                · have s2 : decide ((122 : Int) < (z : Int)) = true := by simp; omega
                  have s3 : decide ((z : Int) < 48) = false := by simp; omega
                  have s3n : decide (z < 48) = false := by simp; omega
                  have s4 : decide ((57 : Int) < (z : Int)) = true := by simp; omega
                  have HN : Hid (¬ OkName b) := fun h => by
                    have := h.2.2.2 k hlt
                    rw [← HZ.out] at this
                    unfold LetP DigP at this
                    omega
                  clear c1
                  go_wp2
                  go_ret
                  exact ⟨5, rfl, .inl ⟨rfl, HN.out⟩, rfl⟩
                · have s2 : decide ((122 : Int) < (z : Int)) = false := by simp; omega
                  have s2n : decide (122 < z) = false := by simp; omega
                  have HD : Hid (LetP (nameByte b k)) := by show LetP (nameByte b k); rw [← HZ.out]; exact ⟨by omega, by omega⟩
                  clear c1 c2
                  go_wp2
                  go_round
                  case rel => exact ⟨k + 1, by omega, by go_num, fun i hi => by
                                by_cases c : i = k
                                · left; rw [c]; exact HD.out
                                · exact HALL.out i (by omega)⟩
                  case measure => simp [intOf]; omega
            · obtain rfl : k = b.size := by omega
              have HY2 : Hid (OkName b) := ⟨h1, h2, HL.out, HALL.out⟩
              go_wp2
              go_ret
              exact ⟨0, rfl, .inr ⟨rfl, HY2.out⟩, rfl⟩
    · have HN : Hid (¬ OkName b) := fun h => h2 h.2.1
      have t2 : decide ((8 : Int) < (b.size : Int)) = true := by simp; omega
      have t2i : (8 : Int) < (b.size : Int) := by omega
      clear h2
      go_enter Try.func40, Try.ntmps40
      go_wp2
      go_ret
      exact ⟨5, rfl, .inl ⟨rfl, HN.out⟩, rfl⟩
  · have HN : Hid (¬ OkName b) := fun h => h1 h.1
    have t1 : decide ((b.size : Int) < 1) = true := by simp; omega
    have t1i : (b.size : Int) < 1 := by omega
    clear h1
    go_enter Try.func40, Try.ntmps40
    go_wp2
    go_ret
    exact ⟨5, rfl, .inl ⟨rfl, HN.out⟩, rfl⟩
end Go.Proofs.Ytgpglgchbimmaaa

namespace Go.Proofs.Ytgpglgchbimmaaa
open Go.RowKit F256
set_option linter.unusedVariables false

def InP (x a b : Int) : Prop := a ≤ x ∧ x ≤ b
/-- numbers from 0 to most, no two alike -/
def ApartP (n : Nat) (g : Nat → Int) (most : Int) : Prop := ∀ i, i < n → InP (g i) 0 most ∧ ∀ t, t < i → g t ≠ g i
def ItemP (s : Nat → Int) (r : RecD) : Prop :=
  (r.length = -1 ∧ r.data.1 = 0 ∧ r.rows.1 = 0) ∨
  (r.length ≠ -1 ∧ 1 ≤ r.length ∧ r.length ≤ 3 * (s 2 * 4) ∧
    ((0 < r.data.1 ∧ (r.data.1 : Int) = r.length ∧ r.rows.1 = 0) ∨
     (r.data.1 = 0 ∧ (r.rows.1 : Int) = (r.length + s 2 * 4 - 1) / (s 2 * 4) ∧ ApartP r.rows.1 r.rows.2 (s 4 - 1))))
def MoveP (s : Nat → Int) (r : RecD) : Prop := InP r.group 0 (s 0 - 1) ∧ InP r.row 0 (s 4 - 1) ∧ (r.data.1 : Int) = s 2 * 4 ∧ (r.delta.1 : Int) = s 2 * 4
def DoneP (s : Nat → Int) (r : RecD) : Prop := InP r.group 0 (s 0 + s 1 - 1)
def WeightsP (s : Nat → Int) (r : RecD) : Prop := (r.delta.1 : Int) = s 0 + s 1 ∧ r.delta.2 r.group.toNat = 0 ∧ ∀ i, i < r.rows.1 → r.delta.2 (r.rows.2 i).toNat ≠ 0
def ShareP (s : Nat → Int) (r : RecD) : Prop := InP r.group 0 (s 0 + s 1 - 1) ∧ InP r.row 0 (s 4 - 1) ∧ RiseP r.rows.1 r.rows.2 (s 0 + s 1 - 1) ∧ (r.data.1 : Int) = s 2 * 4 ∧ WeightsP s r
def KindP (s : Nat → Int) (r : RecD) : Prop := (r.kind = 1 ∧ ItemP s r) ∨ (r.kind = 2 ∧ MoveP s r) ∨ (r.kind = 3 ∧ DoneP s r) ∨ (r.kind = 4 ∧ ShareP s r)
def noName (r : RecD) : Prop := r.name = ByteArray.empty ∧ r.length = 0
def BlankP (r : RecD) : Prop :=
  (r.kind = 1 ∧ r.group = 0 ∧ r.row = 0 ∧ r.delta.1 = 0) ∨ (r.kind = 2 ∧ noName r ∧ r.rows.1 = 0) ∨
  (r.kind = 3 ∧ noName r ∧ r.row = 0 ∧ r.rows.1 = 0 ∧ r.data.1 = 0 ∧ r.delta.1 = 0) ∨ (r.kind = 4 ∧ noName r)
def NamedP (r : RecD) : Prop := r.kind = 1 → OkName r.name
/-- codes asked one behind the other: the first that falls is told; behind them all K -/
def Stair : List (Prop × Int) → (Int → Prop) → Int → Prop
  | [], K, x => K x
  | (p, c) :: l, K, x => (¬ p ∧ x = c) ∨ (p ∧ Stair l K x)
theorem Stair.fall {p : Prop} {c : Int} {l : List (Prop × Int)} {K : Int → Prop} (h : ¬ p) : Stair ((p, c) :: l) K c := .inl ⟨h, rfl⟩
theorem Stair.pass {p : Prop} {c : Int} {l : List (Prop × Int)} {K : Int → Prop} {x : Int} (h : p) (k : Stair l K x) : Stair ((p, c) :: l) K x := .inr ⟨h, k⟩
theorem Stair.last {K : Int → Prop} {x : Int} (h : K x) : Stair [] K x := h
theorem Stair.one {K : Int → Prop} (hK : ∀ x y, K x → K y → x = y) : ∀ (l : List (Prop × Int)) {x y : Int}, Stair l K x → Stair l K y → x = y
  | [], x, y, h, k => hK x y h k
  | (p, c) :: l, x, y, h, k => by
    rcases h with ⟨h1, h2⟩ | ⟨h1, h2⟩ <;> rcases k with ⟨k1, k2⟩ | ⟨k1, k2⟩
    · rw [h2, k2]
    · exact absurd k1 h1
    · exact absurd h1 k1
    · exact Stair.one hK l h2 k2
def isZ (x : Int) : Prop := x = 0
theorem isZ_one (x y : Int) (h : isZ x) (k : isZ y) : x = y := by rw [show x = 0 from h, show y = 0 from k]
/-- what RecFault tells -/
def RecAns (s : Nat → Int) (r : RecD) (x : Int) : Prop :=
  Stair [(OkShape s, 3), (InP r.kind 1 4, 5), (InP r.seq 1 1000000000, 3), (NamedP r, 5), (KindP s r, 3), (BlankP r, 1)] isZ x
theorem RecAns.one {s : Nat → Int} {r : RecD} {x y : Int} (h : RecAns s r x) (k : RecAns s r y) : x = y := Stair.one isZ_one _ h k

/-- groups, drives and blocks as the shape has them -/
def BlockP (b : BlockD) : Prop := InP b.stamp 0 1000000000 ∧ b.bytes.1 = 4
def BlocksP (s : Nat → Int) (p : Nat × (Nat → BlockD)) : Prop := (p.1 : Int) = s 4 ∧ ∀ i, i < p.1 → BlockP (p.2 i)
def DrivesP (s : Nat → Int) (p : Nat × (Nat → DriveD)) : Prop := (p.1 : Int) = s 2 + s 3 ∧ ∀ i, i < p.1 → BlocksP s (p.2 i).blocks
def BuiltP (d : WorldD) : Prop := (d.groups.1 : Int) = d.shape 0 + d.shape 1 ∧ ∀ i, i < d.groups.1 → DrivesP d.shape (d.groups.2 i)
def OnP (d : WorldD) : Prop := ApartP d.on.1 d.on.2 (d.shape 0 + d.shape 1 - 1) ∧ (d.on.1 : Int) ≤ d.shape 5 ∧ (d.down = true → d.on.1 = 0)
def FormP (d : WorldD) : Prop := BuiltP d ∧ OnP d ∧ d.tapes.1 = 2
def FewP (d : WorldD) : Prop := ∀ t, t < d.tapes.1 → (d.tapes.2 t).recs.1 ≤ 200
/-- the first record that has a fault -/
def RecsAns (s : Nat → Int) (n : Nat) (x : Nat → TapeD) (c : Int) : Prop :=
  (c = 0 ∧ ∀ t, t < n → ∀ i, i < (x t).recs.1 → RecAns s ((x t).recs.2 i) 0) ∨
  (c ≠ 0 ∧ ∃ t i, t < n ∧ i < (x t).recs.1 ∧ RecAns s ((x t).recs.2 i) c ∧ (∀ k, k < i → RecAns s ((x t).recs.2 k) 0) ∧ ∀ u, u < t → ∀ k, k < (x u).recs.1 → RecAns s ((x u).recs.2 k) 0)
theorem RecsAns.one {s : Nat → Int} {n : Nat} {x : Nat → TapeD} {c e : Int} (h : RecsAns s n x c) (k : RecsAns s n x e) : c = e := by
  rcases h with ⟨rfl, h⟩ | ⟨hc, t, i, ht, hi, hr, hb, hu⟩ <;> rcases k with ⟨rfl, k⟩ | ⟨kc, t', i', kt, ki, kr, kb, ku⟩
  · rfl
  · exact absurd (kr.one (h t' kt i' ki)) kc
  · exact absurd (hr.one (k t ht i hi)) hc
  · rcases Nat.lt_trichotomy t t' with c1 | c1 | c1
    · exact absurd (hr.one (ku t c1 i hi)) hc
    · subst c1
      rcases Nat.lt_trichotomy i i' with c2 | c2 | c2
      · exact absurd (hr.one (kb i c2)) hc
      · subst c2; exact hr.one kr
      · exact absurd (kr.one (hb i' c2)) kc
    · exact absurd (kr.one (hu t' c1 i' ki)) kc
def CleanP (d : WorldD) : Prop := ∀ t, t < d.tapes.1 → (d.tapes.2 t).wiped = true → (d.tapes.2 t).recs.1 = 0
def CountP (d : WorldD) : Prop := InP d.writes 0 1000000000 ∧ InP d.stop (-1) 1000000000
/-- what WorldFault tells -/
def WldAns (d : WorldD) (x : Int) : Prop :=
  Stair [(OkShape d.shape, 3), (FormP d, 1), (FewP d, 2)] (fun x => (x ≠ 0 ∧ RecsAns d.shape d.tapes.1 d.tapes.2 x) ∨ (RecsAns d.shape d.tapes.1 d.tapes.2 0 ∧ Stair [(CleanP d, 1), (CountP d, 3)] isZ x)) x
theorem WldAns.one {d : WorldD} {x y : Int} (h : WldAns d x) (k : WldAns d y) : x = y := by
  refine Stair.one (fun x y h k => ?_) _ h k
  rcases h with ⟨h1, h2⟩ | ⟨h1, h2⟩ <;> rcases k with ⟨k1, k2⟩ | ⟨k1, k2⟩
  · exact h2.one k2
  · exact absurd (h2.one k1) h1
  · exact absurd (k2.one h1) k1
  · exact Stair.one isZ_one _ h2 k2
/-- a world without a fault -/
structure OkWorld (d : WorldD) : Prop where
  shape : OkShape d.shape
  form : FormP d
  few : FewP d
  recs : ∀ t, t < d.tapes.1 → ∀ i, i < (d.tapes.2 t).recs.1 → RecAns d.shape ((d.tapes.2 t).recs.2 i) 0
  clean : CleanP d
  count : CountP d
theorem WldAns.ok {d : WorldD} (h : WldAns d 0) : OkWorld d := by
  rcases h with ⟨_, h⟩ | ⟨h1, h⟩
  · omega
  rcases h with ⟨_, h⟩ | ⟨h2, h⟩
  · omega
  rcases h with ⟨_, h⟩ | ⟨h3, h⟩
  · omega
  rcases h with ⟨h, _⟩ | ⟨h4, h⟩
  · exact absurd rfl h
  rcases h with ⟨_, h⟩ | ⟨h5, h⟩
  · omega
  rcases h with ⟨_, h⟩ | ⟨h6, h⟩
  · omega
  rcases h4 with ⟨_, h4⟩ | ⟨h4, _⟩
  · exact ⟨h1, h2, h3, h4, h5, h6⟩
  · exact absurd rfl h4
theorem exB (P : Prop) : ∃ b : Bool, b = true ↔ P := by
  by_cases h : P
  · exact ⟨true, by simp [h]⟩
  · exact ⟨false, by simp [h]⟩
end Go.Proofs.Ytgpglgchbimmaaa

namespace Go.Proofs.Ytgpglgchbimmaaa
open Go.RowKit F256

/-- a result with a number in it -/
def intR (code value : Int) : Value := .agg #[.int .i64 code, .int .i64 value]

end Go.Proofs.Ytgpglgchbimmaaa

namespace Go.Proofs.Ytgpglgchbimmaaa
open Go.RowKit F256
set_option linter.unusedVariables false
set_option linter.unusedSimpArgs false

set_option maxHeartbeats 1000000 in
theorem l1Has_any (v : Value) (n : Nat) (g : Nat → Int) (hi : Nat) (x : Int) (w : World) (r : RdI w hi v n g) :
    Calls Try.prog 57 #[v, .int .i64 x] w (BoolP (HasP n g x) w) := by
  obtain ⟨ao, cap, rfl, hm, hc⟩ := r
  unfold maxLen at hm
  go_enter Try.func57, Try.ntmps57
  go_wp2
  go_loop [5] (fun i => ∃ k : Nat, k ≤ n ∧ i = .int .i64 k ∧ ∀ i, i < k → g i ≠ x) (fun i => n - (intOf i).toNat)
  case atStart => exact ⟨0, Nat.zero_le _, rfl, fun i hi => by omega⟩
  case round =>
    obtain ⟨k, hk, rfl, hall⟩ := hrel
    have HALL : Hid (∀ i, i < k → g i ≠ x) := hall
    clear hall
    by_cases hlt : k < n
    · obtain ⟨b, off, rfl, hblt, hcell⟩ := hc (by omega)
      have hck : w.cell? ⟨b, off + k, none⟩ = some (.int .i64 (g k)) := hcell k hlt
      obtain ⟨y, hy⟩ : ∃ y, y = g k := ⟨_, rfl⟩
      have HY : Hid (y = g k) := hy
      rw [← hy] at hck
      clear hc hcell hy
      by_cases heq : y = x
      · have tn : (y == x) = true := by simp [heq]
        have HE : Hid (y = x) := heq
        clear heq
        go_wp2
        go_ret
        exact boolYes rfl ⟨k, hlt, by rw [← HY.out]; exact HE.out⟩ (Below.refl _ _)
      · have tn : (y == x) = false := by simp [heq]
        have HE : Hid (y ≠ x) := heq
        clear heq
        go_wp2
        go_round
        case rel => exact ⟨k + 1, by omega, by go_num, fun i hi => by
                      by_cases c : i = k
                      · rw [c, ← HY.out]; exact HE.out
                      · exact HALL.out i (by omega)⟩
        case measure => simp [intOf]; omega
    · obtain rfl : k = n := by omega
      go_wp2
      go_ret
      exact boolNo rfl (fun ⟨i, hi, h⟩ => HALL.out i hi h) (Below.refl _ _)
end Go.Proofs.Ytgpglgchbimmaaa

namespace Go.Proofs.Ytgpglgchbimmaaa
open Go.RowKit F256
set_option linter.unusedVariables false

theorem q_below {f : Nat} {args : Array Value} {W : World} {v : Value} (h : ∀ w', Below W.heap.size W w' → Calls Try.prog f args w' fun e w'' => e = .returned v ∧ Below w'.heap.size w' w'') :
    ∀ d os, Calls Try.prog f args (Go.Sort.grow (redrawn W d) os) fun e w'' => e = .returned v ∧ ∃ p : Regrown, w'' = Go.Sort.grow (redrawn W p.d) p.os := fun d os => Calls.regrown_of (h _ (below_regrown W d os))
theorem q_same {f : Nat} {args : Array Value} {W : World} {v : Value} (h : ∀ w', Calls Try.prog f args w' fun e w'' => e = .returned v ∧ w'' = w') :
    ∀ d os, Calls Try.prog f args (Go.Sort.grow (redrawn W d) os) fun e w'' => e = .returned v ∧ ∃ p : Regrown, w'' = Go.Sort.grow (redrawn W p.d) p.os :=
  q_below fun w' _ => (h w').mono fun e w'' ⟨h1, h2⟩ => ⟨h1, by rw [h2]; exact Below.refl _ _⟩
theorem det_b {f : Nat} {args : Array Value} {w : World} {P : Prop} {b : Bool} (h : Calls Try.prog f args w (BoolP P w)) (hb : b = true ↔ P) : Calls Try.prog f args w fun e w' => e = .returned (.bool b) ∧ Below w.heap.size w w' :=
  h.mono fun e w' ⟨b', h1, h2, h3⟩ => ⟨by rw [h1]; congr 2; cases b <;> cases b' <;> simp_all, h3⟩
/-- l1In, told by a bool -/
theorem l1In_b {v a b : Int} {t : Bool} (ht : t = true ↔ InP v a b) (w : World) :
    Calls Try.prog 23 #[.int .i64 v, .int .i64 a, .int .i64 b] w fun e w' => e = .returned (.bool t) ∧ w' = w := by
  cases t with
  | true => exact l1In_yes v a b (ht.1 rfl).1 (ht.1 rfl).2 w
  | false =>
    have : ¬ InP v a b := fun h => by have := ht.2 h; cases this
    exact l1In_no v a b (by unfold InP at this; omega) w
theorem below_rg {W w' : World} (h : ∃ p : Regrown, w' = Go.Sort.grow (redrawn W p.d) p.os) : Below W.heap.size W w' := by
  obtain ⟨p, rfl⟩ := h
  exact below_regrown W p.d p.os
/-- the walk in the text's order, behind a wall (what is behind it is not looked into) -/
structure WQ (P : Program) (ops : Array Oper) (C : World → Prop) (Q : Act → Prop) (l : List Oper) (a : Act) : Prop where
  out : wpQuiet P ops C Q l a
theorem WQ.skip {P : Program} {ops : Array Oper} {C : World → Prop} {Q : Act → Prop} {a : Act} {o : Oper} {rest : List Oper} (hw : Region.wanted o (yielded ops a.tmps) = false)
    (h : ∀ K : Act → Prop, (∀ a, WQ P ops C Q rest a → K a) → K (a.put o.dst undef)) : WQ P ops C Q (o :: rest) a := by
  refine ⟨?_⟩
  unfold wpQuiet
  rw [if_neg (by rw [hw]; decide)]
  exact (h _ (fun _ h => h)).out
theorem WQ.want {P : Program} {ops : Array Oper} {C : World → Prop} {Q : Act → Prop} {a : Act} {o : Oper} {rest : List Oper} (hw : Region.wanted o (yielded ops a.tmps) = true)
    (h : ∀ K : Act → Prop, (∀ a, WQ P ops C Q rest a → K a) → o.quiet P a C K) : WQ P ops C Q (o :: rest) a := by
  refine ⟨?_⟩
  unfold wpQuiet
  rw [if_pos hw]
  exact Oper.quiet_mono (fun a h => h.out) (h _ (fun _ h => h))
theorem WQ.nil {P : Program} {ops : Array Oper} {C : World → Prop} {Q : Act → Prop} {a : Act} (h : Q a) : WQ P ops C Q [] a := ⟨wpQuiet_nil h⟩
theorem WQ.region {P : Program} {id : Nat} {Q : Exit → Act → World → Prop} {a : Act} {w : World} {l : List Oper} (hm : P.follows .mixedOrders = true) (hB : Region.lexB .any l.toArray = true)
    (h : WQ P l.toArray (fun w' => ∃ p : Regrown, w' = Go.Sort.grow (redrawn w p.d) p.os) (fun a' => ∀ w', (∃ p : Regrown, w' = Go.Sort.grow (redrawn w p.d) p.os) → Q .normal a' w') l a) : (Code.region id l.toArray true).wp P Q a w := wp_region_quiet_below hm hB h.out
end Go.Proofs.Ytgpglgchbimmaaa

namespace Go.Proofs.Ytgpglgchbimmaaa
open Go.RowKit F256
set_option linter.unusedVariables false
set_option linter.unusedSimpArgs false

/-- the sum of a name's first bytes -/
def nameSum (b : ByteArray) : Nat → Nat
  | 0 => 0
  | k + 1 => nameSum b k + nameByte b k
theorem nameSum_lt (b : ByteArray) (k : Nat) : nameSum b k ≤ 255 * k := by
  induction k with
  | zero => exact Nat.le_refl _
  | succ k ih => have := nameByte_lt b k; simp only [nameSum]; omega

/-- what HomeOf answers -/
def HoAns (s : Nat → Int) (b : ByteArray) (x c : Int) : Prop :=
  (¬ OkShape s ∧ c = 3 ∧ x = 0) ∨ (OkShape s ∧ ¬ OkName b ∧ c = 5 ∧ x = 0) ∨ (OkShape s ∧ OkName b ∧ c = 0 ∧ x = (nameSum b b.size : Int) % s 0)
theorem HoAns.one {s : Nat → Int} {b : ByteArray} {x c y d : Int} (h : HoAns s b x c) (k : HoAns s b y d) : x = y ∧ c = d := by
  rcases h with ⟨h1, rfl, rfl⟩ | ⟨h1, h2, rfl, rfl⟩ | ⟨h1, h2, rfl, rfl⟩ <;> rcases k with ⟨k1, rfl, rfl⟩ | ⟨k1, k2, rfl, rfl⟩ | ⟨k1, k2, rfl, rfl⟩ <;>
    first | exact ⟨rfl, rfl⟩ | exact absurd h1 k1 | exact absurd k1 h1 | exact absurd h2 k2 | exact absurd k2 h2

theorem two_new {w w1 : World} {cs ds : Array Value} {t u : TypeId} (h : Below ((w.alloc (.cells cs t)).alloc (.cells ds u)).heap.size ((w.alloc (.cells cs t)).alloc (.cells ds u)) w1) :
    Box w1 w.heap.size cs t ∧ Box w1 (w.heap.size + 1) ds u ∧ Below w.heap.size w w1 ∧ w.heap.size + 1 < w1.heap.size := by
  have h2 := bnew h
  have e : (w.alloc (.cells cs t)).heap.size = w.heap.size + 1 := by simp
  have k2 := box_new (w.alloc (.cells cs t)) ds u
  rw [e] at k2
  have z := bsize h
  rw [e] at z
  exact ⟨(box_new w cs t).below h2 (by simp), k2.below h (by simp), bnew h2, z⟩

end Go.Proofs.Ytgpglgchbimmaaa

namespace Go.Proofs.Ytgpglgchbimmaaa
open Go.RowKit F256
set_option linter.unusedVariables false
set_option linter.unusedSimpArgs false

set_option maxHeartbeats 4000000 in
theorem l4Wide_any (s : Nat → Int) (h1 : 1 ≤ s 2) (h2 : s 2 ≤ 1000) (w : World) :
    Calls Try.prog 42 #[shapeV s] w fun e w' => e = .returned (.int .i64 (s 2 * 4)) ∧ Below w.heap.size w w' := by
  unfold shapeV
  obtain ⟨a2, h0⟩ : ∃ a, a = s 2 := ⟨_, rfl⟩
  rw [← h0] at h1 h2 ⊢
  clear h0
  have B0 : Below w.heap.size w (w.alloc (.cells #[.int .i64 (s 0), .int .i64 (s 1), .int .i64 a2, .int .i64 (s 3), .int .i64 (s 4), .int .i64 (s 5), .int .i64 (s 6), .int .i64 (s 7), .int .i64 (s 8)] 31)) := bnew (Below.refl _ _)
  go_enter Try.func42, Try.ntmps42
  go_wp2
  go_ret
  exact ⟨rfl, B0⟩

theorem box_new9 {w w1 : World} {cs : Array Value} {t : TypeId} (h : Below (w.alloc (.cells cs t)).heap.size (w.alloc (.cells cs t)) w1) :
    Box w1 w.heap.size cs t ∧ Below w.heap.size w w1 ∧ w.heap.size < w1.heap.size :=
  ⟨(box_new w cs t).below h (by simp), bnew h, bsize h⟩

theorem keep9 {B : Nat} {w W w2 : World} {cs : Array Value} {t : TypeId} (hX : Box W B cs t) (hB : Below B w W) (hb : Below W.heap.size W w2) : Box w2 B cs t ∧ Below B w w2 :=
  ⟨hX.below hb hX.lt, hB.trans (hb.mono (Nat.le_of_lt hX.lt))⟩

set_option maxHeartbeats 4000000 in
theorem l4Parts_any (s : Nat → Int) (h1 : 1 ≤ s 2) (h2 : s 2 ≤ 1000) (l : Int) (h3 : 0 ≤ l) (h4 : l ≤ 1000000000) (w : World) :
    Calls Try.prog 69 #[shapeV s, .int .i64 l] w fun e w' => e = .returned (.int .i64 ((l + s 2 * 4 - 1) / (s 2 * 4))) ∧ Below w.heap.size w w' := by
  have CL := l4Wide_any s h1 h2
  unfold shapeV
  have K0 : Hid (Box (w.alloc (.cells #[.int .i64 (s 0), .int .i64 (s 1), .int .i64 (s 2), .int .i64 (s 3), .int .i64 (s 4), .int .i64 (s 5), .int .i64 (s 6), .int .i64 (s 7), .int .i64 (s 8)] 31)) w.heap.size #[.int .i64 (s 0), .int .i64 (s 1), .int .i64 (s 2), .int .i64 (s 3), .int .i64 (s 4), .int .i64 (s 5), .int .i64 (s 6), .int .i64 (s 7), .int .i64 (s 8)] 31) := box_new w _ _
  have KB : Hid (Below w.heap.size w (w.alloc (.cells #[.int .i64 (s 0), .int .i64 (s 1), .int .i64 (s 2), .int .i64 (s 3), .int .i64 (s 4), .int .i64 (s 5), .int .i64 (s 6), .int .i64 (s 7), .int .i64 (s 8)] 31))) := bnew (Below.refl _ _)
  obtain ⟨S, hS⟩ : ∃ S, S = s 2 * 4 := ⟨_, rfl⟩
  rw [← hS]
  rw [← hS] at CL
  have q1 : 4 ≤ S := by omega
  have q2 : S ≤ 4000 := by omega
  have q3 : 0 ≤ l + S - 1 := by omega
  clear hS
  go_enter Try.func69, Try.ntmps69
  go_wp2_with fail
  go_region_with (go_at_call 42; refine (CL _).mono ?_; rintro ee w2 ⟨rfl, hb2⟩; (first | (obtain ⟨hX2, hB2⟩ := keep9 hX hB ⟨hb2.os, hb2.tape, hb2.output, hb2.size, hb2.block⟩; clear hb2; obtain ⟨x0, x1, x2, x3, x4, x5, x6, x7, x8⟩ := box9 hX2) | (obtain ⟨hX, hB⟩ := keep9 K0.out KB.out ⟨hb2.os, hb2.tape, hb2.output, hb2.size, hb2.block⟩; clear hb2; obtain ⟨x0, x1, x2, x3, x4, x5, x6, x7, x8⟩ := box9 hX)))
  all_goals
    clear hX hX2
    go_wp2
    go_ret
    exact ⟨rfl, hB2⟩

set_option maxHeartbeats 4000000 in
theorem l4Long_any (s : Nat → Int) (h1 : 1 ≤ s 2) (h2 : s 2 ≤ 1000) (l : Int) (w : World) :
    Calls Try.prog 68 #[shapeV s, .int .i64 l] w fun e w' => ∃ c, e = .returned (.int .i64 c) ∧ ((l < 1 ∧ c = 6) ∨ (1 ≤ l ∧ 3 * (s 2 * 4) < l ∧ c = 2) ∨ (1 ≤ l ∧ l ≤ 3 * (s 2 * 4) ∧ c = 0)) ∧ Below w.heap.size w w' := by
  have CL := l4Wide_any s h1 h2
  have KB : Hid (Below w.heap.size w (w.alloc (.cells #[.int .i64 (s 0), .int .i64 (s 1), .int .i64 (s 2), .int .i64 (s 3), .int .i64 (s 4), .int .i64 (s 5), .int .i64 (s 6), .int .i64 (s 7), .int .i64 (s 8)] 31))) := bnew (Below.refl _ _)
  obtain ⟨S, hS⟩ : ∃ S, S = s 2 * 4 := ⟨_, rfl⟩
  rw [← hS]
  rw [← hS] at CL
  have q1 : 4 ≤ S := by omega
  have q2 : S ≤ 4000 := by omega
  clear hS
  unfold shapeV
  by_cases c1 : l < 1
  · go_enter Try.func68, Try.ntmps68
    go_wp2
    go_ret
    exact ⟨6, rfl, .inl ⟨c1, rfl⟩, KB.out⟩
  · by_cases c2 : 3 * S < l
    · go_enter Try.func68, Try.ntmps68
      go_wp2_with fail
      refine (CL _).mono ?_
      rintro e w2 ⟨rfl, hb2⟩
      have B := bnew hb2
      clear hb2
      go_wp2
      go_ret
      exact ⟨2, rfl, .inr (.inl ⟨by omega, c2, rfl⟩), B⟩
    · go_enter Try.func68, Try.ntmps68
      go_wp2_with fail
      refine (CL _).mono ?_
      rintro e w2 ⟨rfl, hb2⟩
      have B := bnew hb2
      clear hb2
      go_wp2
      go_ret
      exact ⟨0, rfl, .inr (.inr ⟨by omega, by omega, rfl⟩), B⟩

/-- what PartsFor answers -/
def PfAns (s : Nat → Int) (l x c : Int) : Prop :=
  (¬ OkShape s ∧ c = 3 ∧ x = 0) ∨ (OkShape s ∧ l < 1 ∧ c = 6 ∧ x = 0) ∨ (OkShape s ∧ 1 ≤ l ∧ 3 * (s 2 * 4) < l ∧ c = 2 ∧ x = 0) ∨ (OkShape s ∧ 1 ≤ l ∧ l ≤ 3 * (s 2 * 4) ∧ c = 0 ∧ x = (l + s 2 * 4 - 1) / (s 2 * 4))
theorem PfAns.one {s : Nat → Int} {l x c y d : Int} (h : PfAns s l x c) (k : PfAns s l y d) : x = y ∧ c = d := by
  rcases h with ⟨h1, rfl, rfl⟩ | ⟨h1, h2, rfl, rfl⟩ | ⟨h1, h2, h3, rfl, rfl⟩ | ⟨h1, h2, h3, rfl, rfl⟩ <;> rcases k with ⟨k1, rfl, rfl⟩ | ⟨k1, k2, rfl, rfl⟩ | ⟨k1, k2, k3, rfl, rfl⟩ | ⟨k1, k2, k3, rfl, rfl⟩ <;>
    first | exact ⟨rfl, rfl⟩ | exact absurd h1 k1 | exact absurd k1 h1 | (exfalso; omega)

end Go.Proofs.Ytgpglgchbimmaaa

namespace Go.Proofs.Ytgpglgchbimmaaa
open Go.RowKit F256
set_option linter.unusedVariables false
set_option linter.unusedSimpArgs false

theorem RdI.part {w : World} {hi : Nat} {b off n cap k : Nat} {g : Nat → Int} (r : RdI w hi (.slice (some ⟨b, off, none⟩) n cap) n g) (h : k ≤ n) (h0 : n ≠ 0) : RdI w hi (.slice (some ⟨b, off, none⟩) k cap) k g := by
  obtain ⟨ao, cap', e, hm, hc⟩ := r
  cases e
  obtain ⟨b', off', e, h1, h2⟩ := hc h0
  cases e
  exact ⟨_, _, rfl, by omega, fun _ => ⟨b, off, rfl, h1, fun i hi => h2 i (by omega)⟩⟩
theorem RdI.mx {w : World} {hi : Nat} {v : Value} {n : Nat} {g : Nat → Int} (r : RdI w hi v n g) : n ≤ maxLen := by
  obtain ⟨ao, cap', e, hm, hc⟩ := r
  exact hm

set_option maxHeartbeats 4000000 in
theorem l5Apart_any (v : Value) (n : Nat) (g : Nat → Int) (hi : Nat) (most : Int) (w : World) (r : RdI w hi v n g) (hcp : CapP v n) (hhi : hi ≤ w.heap.size) :
    Calls Try.prog 21 #[v, .int .i64 most] w (BoolP (ApartP n g most) w) := by
  have HR : Hid (RdI w hi v n g) := r
  obtain ⟨ao, cap, rfl, hm, hc⟩ := r
  obtain ⟨_, _, e, hcp⟩ := hcp
  cases e
  unfold maxLen at hm
  go_enter Try.func21, Try.ntmps21
  go_wp2
  go_loopw [5] (fun i wr => ∃ k : Nat, k ≤ n ∧ i = .int .i64 k ∧ ApartP k g most ∧ Below w.heap.size w wr) (fun i _ => n - (intOf i).toNat)
  case atStart => exact ⟨0, Nat.zero_le _, rfl, fun i hi => by omega, Below.refl _ _⟩
  case round =>
    obtain ⟨k, hk, rfl, hall, hb⟩ := hrel
    have HALL : Hid (ApartP k g most) := hall
    clear hall
    by_cases hlt : k < n
    · obtain ⟨b, off, rfl, hblt, hcell⟩ := hc (by omega)
      have hck : wr.cell? ⟨b, off + k, none⟩ = some (.int .i64 (g k)) := (hb.cell (p := ⟨b, off + k, none⟩) (by show b < w.heap.size; omega)).trans (hcell k hlt)
      have k0 := cell_regrown hck
      obtain ⟨t1, h1⟩ := exB (InP (g k) 0 most)
      obtain ⟨t2, h2⟩ := exB (HasP k g (g k))
      have zr := hb.size
      have cA := q_same (W := wr) (fun w' => l1In_b h1 w')
      have cB := q_below (W := wr) (fun w' hw' => det_b (l1Has_any (.slice (some ⟨b, off, none⟩) k cap) k g hi (g k) w' (((HR.out.part hk (by omega)).below hb hhi).below hw' (by omega))) h2)
      have kcp : k ≤ cap := by omega
      have H1 : Hid (t1 = true ↔ InP (g k) 0 most) := h1
      have H2 : Hid (t2 = true ↔ HasP k g (g k)) := h2
      obtain ⟨y, hy⟩ : ∃ y, y = g k := ⟨_, rfl⟩
      have HY : Hid (y = g k) := hy
      rw [← hy] at hck k0 cA cB
      clear hc hcell h1 h2 hy
      have HB : Hid (Below w.heap.size w wr) := hb
      clear hb
      go_wp2
      have hs : t1 = false ∨ (t1 = true ∧ t2 = false) ∨ (t1 = true ∧ t2 = true) := by cases t1 <;> cases t2 <;> simp
      rcases hs with rfl | ⟨rfl, rfl⟩ | ⟨rfl, rfl⟩
      all_goals
        refine WQ.region (by kernel_rfl) (by kernel_rfl) ?_
        repeat (first | (apply WQ.skip; (case hw => rfl); intro K hK; go_simp; apply hK; clear hK K) | (apply WQ.want; (case hw => rfl); intro K hK; go_simp; first | (apply hK; clear hK K) | (apply Exists.intro; apply And.intro; (case left => intro p; (first | (go_at_call 23; exact cA _ _) | (go_at_call 57; exact cB _ _))); apply hK; clear hK K)))
        refine WQ.nil ?_
        intro w2 hw2
        have HB2 : Hid (Below w.heap.size w w2) := HB.out.trans ((below_rg hw2).mono HB.out.size)
        clear hw2
        go_wp2
      · go_ret
        exact boolNo rfl (fun h => by
          have := H1.out.2 (h k hlt).1
          cases this) HB2.out
      · go_roundw
        case rel => exact ⟨k + 1, by omega, by go_num, fun i hi => by
                      by_cases c : i = k
                      · subst c
                        exact ⟨H1.out.1 (by simp), fun t ht e => by
                          have := H2.out.2 ⟨t, ht, e⟩
                          cases this⟩
                      · exact HALL.out i (by omega), HB2.out⟩
        case measure => simp [intOf]; omega
      · go_ret
        exact boolNo rfl (fun h => by
          obtain ⟨t, ht, e⟩ := H2.out.1 (by simp)
          exact (h k hlt).2 t ht e) HB2.out
    · obtain rfl : k = n := by omega
      go_wp2
      go_ret
      exact boolYes rfl HALL.out hb

/-- a record's value -/
def recC (r : RecD) (v6 v7 v8 : Value) : Array Value := #[.int .i64 r.kind, .int .i64 r.seq, .string r.name, .int .i64 r.length, .int .i64 r.group, .int .i64 r.row, v6, v7, v8]
theorem rec_val {w : World} {hi : Nat} {r : RecD} {cs : List Value} (h : layRec.rd w hi r cs) : ∃ ao6 cap6 ao7 cap7 ao8 cap8, cs.toArray = recC r (.slice ao6 r.rows.1 cap6) (.slice ao7 r.data.1 cap7) (.slice ao8 r.delta.1 cap8) := by
  obtain ⟨ao6, cap6, ao7, cap7, ao8, cap8, rfl, _⟩ := Rec_rd h
  exact ⟨ao6, cap6, ao7, cap7, ao8, cap8, rfl⟩
theorem nm_iff (b : ByteArray) : b.toList.isEmpty = true ↔ b = ByteArray.empty := by
  have e : b.toList = b.data.toList := ByteArray.toList_eq b
  rw [e]
  cases b with | mk x =>
  constructor
  · intro h
    have : x = #[] := by simpa using h
    subst this
    rfl
  · intro h
    have : x = #[] := congrArg ByteArray.data h
    subst this
    rfl
/-- nothing is in these fields -/
def EmptyQ (nm : ByteArray) (ln gr rw_ : Int) (n6 n7 n8 : Nat) : Prop := nm = ByteArray.empty ∧ ln = 0 ∧ gr = 0 ∧ rw_ = 0 ∧ n6 = 0 ∧ n7 = 0 ∧ n8 = 0
set_option maxHeartbeats 4000000 in
theorem l5Empty_any (kd sq ln gr rw_ : Int) (nm : ByteArray) (ao6 ao7 ao8 : Option Addr) (n6 n7 n8 cap6 cap7 cap8 : Nat) (w : World) :
    Calls Try.prog 45 #[.agg #[.int .i64 kd, .int .i64 sq, .string nm, .int .i64 ln, .int .i64 gr, .int .i64 rw_, .slice ao6 n6 cap6, .slice ao7 n7 cap7, .slice ao8 n8 cap8]] w (BoolP (EmptyQ nm ln gr rw_ n6 n7 n8) w) := by
  have B0 : Hid (Below w.heap.size w (w.alloc (.cells #[.int .i64 kd, .int .i64 sq, .string nm, .int .i64 ln, .int .i64 gr, .int .i64 rw_, .slice ao6 n6 cap6, .slice ao7 n7 cap7, .slice ao8 n8 cap8] 45))) := (Below.refl _ _).alloc (Nat.le_refl _) _
  obtain ⟨b0, h0⟩ : ∃ b, nm.toList.isEmpty = b := ⟨_, rfl⟩
  obtain ⟨b1, h1⟩ : ∃ b, (ln == 0) = b := ⟨_, rfl⟩
  obtain ⟨b2, h2⟩ : ∃ b, (gr == 0) = b := ⟨_, rfl⟩
  obtain ⟨b3, h3⟩ : ∃ b, (rw_ == 0) = b := ⟨_, rfl⟩
  obtain ⟨b4, h4⟩ : ∃ b, ((n6 : Int) == 0) = b := ⟨_, rfl⟩
  obtain ⟨b5, h5⟩ : ∃ b, ((n7 : Int) == 0) = b := ⟨_, rfl⟩
  obtain ⟨b6, h6⟩ : ∃ b, ((n8 : Int) == 0) = b := ⟨_, rfl⟩
  have HE : Hid (EmptyQ nm ln gr rw_ n6 n7 n8 ↔ (b0 = true ∧ b1 = true ∧ b2 = true ∧ b3 = true ∧ b4 = true ∧ b5 = true ∧ b6 = true)) := by
    show EmptyQ nm ln gr rw_ n6 n7 n8 ↔ _
    rw [← h0, ← h1, ← h2, ← h3, ← h4, ← h5, ← h6, nm_iff]
    unfold EmptyQ
    simp
  have hs : b0 = false ∨ (b0 = true ∧ b1 = false) ∨ (b0 = true ∧ b1 = true ∧ b2 = false) ∨ (b0 = true ∧ b1 = true ∧ b2 = true ∧ b3 = false) ∨ (b0 = true ∧ b1 = true ∧ b2 = true ∧ b3 = true ∧ b4 = false) ∨ (b0 = true ∧ b1 = true ∧ b2 = true ∧ b3 = true ∧ b4 = true ∧ b5 = false) ∨ (b0 = true ∧ b1 = true ∧ b2 = true ∧ b3 = true ∧ b4 = true ∧ b5 = true ∧ b6 = false) ∨ (b0 = true ∧ b1 = true ∧ b2 = true ∧ b3 = true ∧ b4 = true ∧ b5 = true ∧ b6 = true) := by
    clear HE h0 h1 h2 h3 h4 h5 h6
    cases b0 <;> simp
    cases b1 <;> simp
    cases b2 <;> simp
    cases b3 <;> simp
    cases b4 <;> simp
    cases b5 <;> simp
  go_enter Try.func45, Try.ntmps45
  rcases hs with rfl | ⟨rfl, rfl⟩ | ⟨rfl, rfl, rfl⟩ | ⟨rfl, rfl, rfl, rfl⟩ | ⟨rfl, rfl, rfl, rfl, rfl⟩ | ⟨rfl, rfl, rfl, rfl, rfl, rfl⟩ | ⟨rfl, rfl, rfl, rfl, rfl, rfl, rfl⟩ | ⟨rfl, rfl, rfl, rfl, rfl, rfl, rfl⟩
  all_goals
    go_wp2
    go_ret
    first
      | exact boolNo rfl (fun h => by have := HE.out.1 h; simp at this) B0.out
      | exact boolYes rfl (HE.out.2 (by simp)) B0.out
end Go.Proofs.Ytgpglgchbimmaaa

namespace Go.Proofs.Ytgpglgchbimmaaa
open Go.RowKit F256
set_option linter.unusedVariables false
set_option linter.unusedSimpArgs false

theorem l5All_any (s : Nat → Int) (h : OkShape s) (w : World) :
    Calls Try.prog 22 #[shapeV s] w fun e w' => e = .returned (.int .i64 (s 0 + s 1)) ∧ Below w.heap.size w w' := by
  obtain ⟨h1, h2, _⟩ := h
  unfold Shp3 at h1
  have B0 := (one_new w #[.int .i64 (s 0), .int .i64 (s 1), .int .i64 (s 2), .int .i64 (s 3), .int .i64 (s 4), .int .i64 (s 5), .int .i64 (s 6), .int .i64 (s 7), .int .i64 (s 8)] 31).bel
  unfold shapeV
  have hw : -9223372036854775808 ≤ s 0 + s 1 ∧ s 0 + s 1 ≤ 9223372036854775807 := by omega
  go_enter Try.func22, Try.ntmps22
  go_wp2
  go_ret
  exact ⟨rfl, B0⟩
theorem l5Drives_any (s : Nat → Int) (h : OkShape s) (w : World) :
    Calls Try.prog 56 #[shapeV s] w fun e w' => e = .returned (.int .i64 (s 2 + s 3)) ∧ Below w.heap.size w w' := by
  obtain ⟨h1, h2, _⟩ := h
  unfold Shp at h2
  have B0 := (one_new w #[.int .i64 (s 0), .int .i64 (s 1), .int .i64 (s 2), .int .i64 (s 3), .int .i64 (s 4), .int .i64 (s 5), .int .i64 (s 6), .int .i64 (s 7), .int .i64 (s 8)] 31).bel
  unfold shapeV
  have hw : -9223372036854775808 ≤ s 2 + s 3 ∧ s 2 + s 3 ≤ 9223372036854775807 := by omega
  go_enter Try.func56, Try.ntmps56
  go_wp2
  go_ret
  exact ⟨rfl, B0⟩

set_option maxHeartbeats 8000000 in
theorem l5Weights_any (s : Nat → Int) (hs : OkShape s) (r : RecD) (cs : List Value) (hi : Nat) (w : World) (h : layRec.rd w hi r cs) (hhi : hi ≤ w.heap.size) (hg : InP r.group 0 (s 0 + s 1 - 1)) (hr : RiseP r.rows.1 r.rows.2 (s 0 + s 1 - 1)) :
    Calls Try.prog 44 #[shapeV s, .agg cs.toArray] w (BoolP (WeightsP s r) w) := by
  obtain ⟨ao6, cap6, ao7, cap7, ao8, cap8, rfl, g6, g7, g8, -⟩ := Rec_rd h
  clear h
  have HS : Hid (OkShape s) := hs
  have hall : 0 ≤ s 0 + s 1 ∧ s 0 + s 1 ≤ 100 := by
    obtain ⟨h1, _⟩ := hs
    unfold Shp3 at h1
    omega
  clear hs
  obtain ⟨v6, e6, ⟨⟨_, _, e6', hm6, hc6⟩, _⟩, _⟩ := g6
  cases e6
  cases e6'
  obtain ⟨v8, e8, ⟨_, _, e8', hm8, hc8⟩, hk8⟩ := g8
  cases e8
  cases e8'
  have HC6 : Hid (r.rows.1 ≠ 0 → ∃ b off, ao6 = some ⟨b, off, none⟩ ∧ b < hi ∧ ∀ i, i < r.rows.1 → w.cell? ⟨b, off + i, none⟩ = some (.int .i64 (r.rows.2 i))) := hc6
  have HC8 : Hid (r.delta.1 ≠ 0 → ∃ b off, ao8 = some ⟨b, off, none⟩ ∧ b < hi ∧ ∀ i, i < r.delta.1 → w.cell? ⟨b, off + i, none⟩ = some (.int .u8 (r.delta.2 i))) := hc8
  unfold maxLen at hm6 hm8
  unfold InP at hg
  have HR : Hid (RiseP r.rows.1 r.rows.2 (s 0 + s 1 - 1)) := hr
  clear g7 hc6 hc8 hr hk8
  unfold shapeV
  go_enter Try.func44, Try.ntmps44
  go_wp2_with fail
  have T0 := two_newb w #[.int .i64 (s 0), .int .i64 (s 1), .int .i64 (s 2), .int .i64 (s 3), .int .i64 (s 4), .int .i64 (s 5), .int .i64 (s 6), .int .i64 (s 7), .int .i64 (s 8)] #[.int .i64 r.kind, .int .i64 r.seq, .string r.name, .int .i64 r.length, .int .i64 r.group, .int .i64 r.row, .slice ao6 r.rows.1 cap6, .slice ao7 r.data.1 cap7, .slice ao8 r.delta.1 cap8] 31 45
  obtain ⟨W, hW⟩ : ∃ W, W = (w.alloc (.cells #[.int .i64 (s 0), .int .i64 (s 1), .int .i64 (s 2), .int .i64 (s 3), .int .i64 (s 4), .int .i64 (s 5), .int .i64 (s 6), .int .i64 (s 7), .int .i64 (s 8)] 31)).alloc (.cells #[.int .i64 r.kind, .int .i64 r.seq, .string r.name, .int .i64 r.length, .int .i64 r.group, .int .i64 r.row, .slice ao6 r.rows.1 cap6, .slice ao7 r.data.1 cap7, .slice ao8 r.delta.1 cap8] 45) := ⟨_, rfl⟩
  rw [← hW] at T0 ⊢
  clear hW
  have cA := q_below (W := W) (fun w' _ => l5All_any s HS.out w')
  unfold shapeV at cA
  have zW := T0.b2.lt
  have x0_0 : W.cell? ⟨w.heap.size, 0, none⟩ = some (.int .i64 (s 0)) := T0.b1.cell 0
  have kx0_0 := cell_regrown x0_0
  have x0_1 : W.cell? ⟨w.heap.size, 1, none⟩ = some (.int .i64 (s 1)) := T0.b1.cell 1
  have kx0_1 := cell_regrown x0_1
  have x0_2 : W.cell? ⟨w.heap.size, 2, none⟩ = some (.int .i64 (s 2)) := T0.b1.cell 2
  have kx0_2 := cell_regrown x0_2
  have x0_3 : W.cell? ⟨w.heap.size, 3, none⟩ = some (.int .i64 (s 3)) := T0.b1.cell 3
  have kx0_3 := cell_regrown x0_3
  have x0_4 : W.cell? ⟨w.heap.size, 4, none⟩ = some (.int .i64 (s 4)) := T0.b1.cell 4
  have kx0_4 := cell_regrown x0_4
  have x0_5 : W.cell? ⟨w.heap.size, 5, none⟩ = some (.int .i64 (s 5)) := T0.b1.cell 5
  have kx0_5 := cell_regrown x0_5
  have x0_6 : W.cell? ⟨w.heap.size, 6, none⟩ = some (.int .i64 (s 6)) := T0.b1.cell 6
  have kx0_6 := cell_regrown x0_6
  have x0_7 : W.cell? ⟨w.heap.size, 7, none⟩ = some (.int .i64 (s 7)) := T0.b1.cell 7
  have kx0_7 := cell_regrown x0_7
  have x0_8 : W.cell? ⟨w.heap.size, 8, none⟩ = some (.int .i64 (s 8)) := T0.b1.cell 8
  have kx0_8 := cell_regrown x0_8
  have y0_0 : W.cell? ⟨w.heap.size + 1, 0, none⟩ = some (.int .i64 r.kind) := T0.b2.cell 0
  have ky0_0 := cell_regrown y0_0
  have y0_1 : W.cell? ⟨w.heap.size + 1, 1, none⟩ = some (.int .i64 r.seq) := T0.b2.cell 1
  have ky0_1 := cell_regrown y0_1
  have y0_2 : W.cell? ⟨w.heap.size + 1, 2, none⟩ = some (.string r.name) := T0.b2.cell 2
  have ky0_2 := cell_regrown y0_2
  have y0_3 : W.cell? ⟨w.heap.size + 1, 3, none⟩ = some (.int .i64 r.length) := T0.b2.cell 3
  have ky0_3 := cell_regrown y0_3
  have y0_4 : W.cell? ⟨w.heap.size + 1, 4, none⟩ = some (.int .i64 r.group) := T0.b2.cell 4
  have ky0_4 := cell_regrown y0_4
  have y0_5 : W.cell? ⟨w.heap.size + 1, 5, none⟩ = some (.int .i64 r.row) := T0.b2.cell 5
  have ky0_5 := cell_regrown y0_5
  have y0_6 : W.cell? ⟨w.heap.size + 1, 6, none⟩ = some (.slice ao6 r.rows.1 cap6) := T0.b2.cell 6
  have ky0_6 := cell_regrown y0_6
  have y0_7 : W.cell? ⟨w.heap.size + 1, 7, none⟩ = some (.slice ao7 r.data.1 cap7) := T0.b2.cell 7
  have ky0_7 := cell_regrown y0_7
  have y0_8 : W.cell? ⟨w.heap.size + 1, 8, none⟩ = some (.slice ao8 r.delta.1 cap8) := T0.b2.cell 8
  have ky0_8 := cell_regrown y0_8
  have HT : Hid (Two w W #[.int .i64 (s 0), .int .i64 (s 1), .int .i64 (s 2), .int .i64 (s 3), .int .i64 (s 4), .int .i64 (s 5), .int .i64 (s 6), .int .i64 (s 7), .int .i64 (s 8)] #[.int .i64 r.kind, .int .i64 r.seq, .string r.name, .int .i64 r.length, .int .i64 r.group, .int .i64 r.row, .slice ao6 r.rows.1 cap6, .slice ao7 r.data.1 cap7, .slice ao8 r.delta.1 cap8] 31 45) := T0
  clear T0
  by_cases hlen : (r.delta.1 : Int) = s 0 + s 1
  · obtain ⟨b8, off8, he8, hb8, hcell8⟩ := HC8.out (by omega)
    subst he8
    obtain ⟨G, hG⟩ : ∃ G : Nat, r.group = (G : Int) := ⟨r.group.toNat, by omega⟩
    have hGl : G < r.delta.1 := by omega
    have d0 : W.cell? ⟨b8, off8 + G, none⟩ = some (.int .u8 (r.delta.2 G)) := (HT.out.bel.cell (p := ⟨b8, off8 + G, none⟩) (by show b8 < w.heap.size; omega)).trans (hcell8 G hGl)
    have kd0 := cell_regrown d0
    have hne : ((r.delta.1 : Int) != s 0 + s 1) = false := by simpa using hlen
    rw [hG] at y0_4 ky0_4
    have HCE : Hid (∀ i, i < r.delta.1 → w.cell? ⟨b8, off8 + i, none⟩ = some (.int .u8 (r.delta.2 i))) := hcell8
    have HLEN : Hid ((r.delta.1 : Int) = s 0 + s 1) := hlen
    have HG : Hid (r.group = (G : Int)) := hG
    clear hcell8 hlen hG
    obtain ⟨x0, hx0⟩ : ∃ x, x = r.delta.2 G := ⟨_, rfl⟩
    have HX0 : Hid (x0 = r.delta.2 G) := hx0
    rw [← hx0] at d0 kd0
    clear hx0
    by_cases hz : x0 = 0
    · subst hz
      refine WQ.region (by kernel_rfl) (by kernel_rfl) ?_
      repeat (first | (apply WQ.skip; (case hw => rfl); intro K hK; go_simp; apply hK; clear hK K) | (apply WQ.want; (case hw => rfl); intro K hK; go_simp; first | (apply hK; clear hK K) | (apply Exists.intro; apply And.intro; (case left => intro p; (first | (go_at_call 22; exact cA _ _))); apply hK; clear hK K)))
      refine WQ.nil ?_
      intro w1 hw1
      have T1 := HT.out.call (below_rg hw1)
      have H1 : Hid (Two w w1 #[.int .i64 (s 0), .int .i64 (s 1), .int .i64 (s 2), .int .i64 (s 3), .int .i64 (s 4), .int .i64 (s 5), .int .i64 (s 6), .int .i64 (s 7), .int .i64 (s 8)] #[.int .i64 r.kind, .int .i64 r.seq, .string r.name, .int .i64 r.length, .int .i64 r.group, .int .i64 r.row, .slice ao6 r.rows.1 cap6, .slice ao7 r.data.1 cap7, .slice (some ⟨b8, off8, none⟩) r.delta.1 cap8] 31 45) := T1
      clear hw1 T1 d0 kd0
      go_wp2
      go_loopw [5] (fun i wr => ∃ k : Nat, k ≤ r.rows.1 ∧ i = .int .i64 k ∧ (∀ i, i < k → r.delta.2 (r.rows.2 i).toNat ≠ 0) ∧ Two w wr #[.int .i64 (s 0), .int .i64 (s 1), .int .i64 (s 2), .int .i64 (s 3), .int .i64 (s 4), .int .i64 (s 5), .int .i64 (s 6), .int .i64 (s 7), .int .i64 (s 8)] #[.int .i64 r.kind, .int .i64 r.seq, .string r.name, .int .i64 r.length, .int .i64 r.group, .int .i64 r.row, .slice ao6 r.rows.1 cap6, .slice ao7 r.data.1 cap7, .slice (some ⟨b8, off8, none⟩) r.delta.1 cap8] 31 45) (fun i _ => r.rows.1 - (intOf i).toNat)
      case atStart => exact ⟨0, Nat.zero_le _, rfl, fun i hi => by omega, H1.out⟩
      case round =>
        obtain ⟨k, hk, rfl, hal, T2⟩ := hrel
        have HAL : Hid (∀ i, i < k → r.delta.2 (r.rows.2 i).toNat ≠ 0) := hal
        have H2 : Hid (Two w wr #[.int .i64 (s 0), .int .i64 (s 1), .int .i64 (s 2), .int .i64 (s 3), .int .i64 (s 4), .int .i64 (s 5), .int .i64 (s 6), .int .i64 (s 7), .int .i64 (s 8)] #[.int .i64 r.kind, .int .i64 r.seq, .string r.name, .int .i64 r.length, .int .i64 r.group, .int .i64 r.row, .slice ao6 r.rows.1 cap6, .slice ao7 r.data.1 cap7, .slice (some ⟨b8, off8, none⟩) r.delta.1 cap8] 31 45) := T2
        clear hal
        have y2_6 : wr.cell? ⟨w.heap.size + 1, 6, none⟩ = some (.slice ao6 r.rows.1 cap6) := T2.b2.cell 6
        have y2_8 : wr.cell? ⟨w.heap.size + 1, 8, none⟩ = some (.slice (some ⟨b8, off8, none⟩) r.delta.1 cap8) := T2.b2.cell 8
        by_cases hlt : k < r.rows.1
        · obtain ⟨b6, off6, he6, hb6, hcell6⟩ := HC6.out (by omega)
          subst he6
          have hrk := HR.out k hlt
          obtain ⟨Y, hY⟩ : ∃ Y : Nat, r.rows.2 k = (Y : Int) := ⟨(r.rows.2 k).toNat, by omega⟩
          have hYl : Y < r.delta.1 := by have := HLEN.out; omega
          have c6 : wr.cell? ⟨b6, off6 + k, none⟩ = some (.int .i64 (Y : Int)) := by
            rw [← hY]
            exact (T2.bel.cell (p := ⟨b6, off6 + k, none⟩) (by show b6 < w.heap.size; omega)).trans (hcell6 k hlt)
          have c8 : wr.cell? ⟨b8, off8 + Y, none⟩ = some (.int .u8 (r.delta.2 Y)) := (T2.bel.cell (p := ⟨b8, off8 + Y, none⟩) (by show b8 < w.heap.size; omega)).trans (HCE.out Y hYl)
          have q6 := cell_regrown c6
          have q8 := cell_regrown c8
          have p6 := cell_regrown y2_6
          have p8 := cell_regrown y2_8
          have HY : Hid (r.rows.2 k = (Y : Int)) := hY
          clear hcell6 hrk hY T2
          obtain ⟨z0, hz0⟩ : ∃ x, x = r.delta.2 Y := ⟨_, rfl⟩
          have HZ0 : Hid (z0 = r.delta.2 Y) := hz0
          rw [← hz0] at c8 q8
          clear hz0
          by_cases hz : z0 = 0
          · subst hz
            go_wp2
            refine WQ.region (by kernel_rfl) (by kernel_rfl) ?_
            repeat (first | (apply WQ.skip; (case hw => rfl); intro K hK; go_simp; apply hK; clear hK K) | (apply WQ.want; (case hw => rfl); intro K hK; go_simp; first | (apply hK; clear hK K) | (apply Exists.intro; apply And.intro; (case left => intro p; (first | fail)); apply hK; clear hK K)))
            refine WQ.nil ?_
            intro w3 hw3
            have HB3 : Hid (Below w.heap.size w w3) := (H2.out.call (below_rg hw3)).bel
            clear hw3
            go_wp2
            go_ret
            exact boolNo rfl (fun h => h.2.2 k hlt (by rw [HY.out]; exact HZ0.out.symm)) HB3.out
          · have hz' : ((z0 : Int) == 0) = false := by simp; omega
            go_wp2
            refine WQ.region (by kernel_rfl) (by kernel_rfl) ?_
            repeat (first | (apply WQ.skip; (case hw => rfl); intro K hK; go_simp; apply hK; clear hK K) | (apply WQ.want; (case hw => rfl); intro K hK; go_simp; first | (apply hK; clear hK K) | (apply Exists.intro; apply And.intro; (case left => intro p; (first | fail)); apply hK; clear hK K)))
            refine WQ.nil ?_
            intro w3 hw3
            have HT3 : Hid (Two w w3 #[.int .i64 (s 0), .int .i64 (s 1), .int .i64 (s 2), .int .i64 (s 3), .int .i64 (s 4), .int .i64 (s 5), .int .i64 (s 6), .int .i64 (s 7), .int .i64 (s 8)] #[.int .i64 r.kind, .int .i64 r.seq, .string r.name, .int .i64 r.length, .int .i64 r.group, .int .i64 r.row, .slice (some ⟨b6, off6, none⟩) r.rows.1 cap6, .slice ao7 r.data.1 cap7, .slice (some ⟨b8, off8, none⟩) r.delta.1 cap8] 31 45) := H2.out.call (below_rg hw3)
            clear hw3
            go_wp2
            go_roundw
            case rel => exact ⟨k + 1, by omega, by go_num, fun i hi => by
                          by_cases c : i = k
                          · subst c
                            rw [HY.out, Int.toNat_natCast, ← HZ0.out]
                            exact hz
                          · exact HAL.out i (by omega), HT3.out⟩
            case measure => simp [intOf]; omega
        · obtain rfl : k = r.rows.1 := by omega
          go_wp2
          go_ret
          exact boolYes rfl ⟨HLEN.out, by rw [HG.out, Int.toNat_natCast]; exact HX0.out.symm, HAL.out⟩ H2.out.bel
    · have hz' : ((x0 : Int) != 0) = true := by simp; omega
      refine WQ.region (by kernel_rfl) (by kernel_rfl) ?_
      repeat (first | (apply WQ.skip; (case hw => rfl); intro K hK; go_simp; apply hK; clear hK K) | (apply WQ.want; (case hw => rfl); intro K hK; go_simp; first | (apply hK; clear hK K) | (apply Exists.intro; apply And.intro; (case left => intro p; (first | (go_at_call 22; exact cA _ _))); apply hK; clear hK K)))
      refine WQ.nil ?_
      intro w1 hw1
      have HB1 : Hid (Below w.heap.size w w1) := (HT.out.call (below_rg hw1)).bel
      clear hw1 d0 kd0
      go_wp2
      go_ret
      exact boolNo rfl (fun h => hz (by rw [HX0.out, ← h.2.1, HG.out, Int.toNat_natCast])) HB1.out
  · have hne : ((r.delta.1 : Int) != s 0 + s 1) = true := by simpa using hlen
    have HN : Hid (¬ (r.delta.1 : Int) = s 0 + s 1) := hlen
    clear hlen
    refine WQ.region (by kernel_rfl) (by kernel_rfl) ?_
    repeat (first | (apply WQ.skip; (case hw => rfl); intro K hK; go_simp; apply hK; clear hK K) | (apply WQ.want; (case hw => rfl); intro K hK; go_simp; first | (apply hK; clear hK K) | (apply Exists.intro; apply And.intro; (case left => intro p; (first | (go_at_call 22; exact cA _ _))); apply hK; clear hK K)))
    refine WQ.nil ?_
    intro w1 hw1
    have HB1 : Hid (Below w.heap.size w w1) := (HT.out.call (below_rg hw1)).bel
    clear hw1
    go_wp2
    go_ret
    exact boolNo rfl (fun h => HN.out h.1) HB1.out
end Go.Proofs.Ytgpglgchbimmaaa

namespace Go.Proofs.Ytgpglgchbimmaaa
open Go.RowKit F256
set_option linter.unusedVariables false
set_option linter.unusedSimpArgs false

set_option maxHeartbeats 1000000 in
theorem index_any (v : Value) (n : Nat) (g : Nat → Int) (hi : Nat) (x : Int) (w : World) (r : RdI w hi v n g) :
    Calls Try.prog 92 #[v, .int .i64 x] w fun e w' => ∃ z : Int, e = .returned (.int .i64 z) ∧ (0 ≤ z ↔ ∃ t, t < n ∧ g t = x) ∧ w' = w := by
  obtain ⟨ao, cap, rfl, hm, hc⟩ := r
  unfold maxLen at hm
  go_enter Try.func92, Try.ntmps92
  go_wp2
  go_loop [8] (fun i => ∃ k : Nat, k ≤ n ∧ i = .int .i64 k ∧ ∀ i, i < k → g i ≠ x) (fun i => n - (intOf i).toNat)
  case atStart => exact ⟨0, Nat.zero_le _, rfl, fun i hi => by omega⟩
  case round =>
    obtain ⟨k, hk, rfl, hall⟩ := hrel
    have HALL : Hid (∀ i, i < k → g i ≠ x) := hall
    clear hall
    by_cases hlt : k < n
    · obtain ⟨b, off, rfl, hblt, hcell⟩ := hc (by omega)
      have hck : w.cell? ⟨b, off + k, none⟩ = some (.int .i64 (g k)) := hcell k hlt
      obtain ⟨y, hy⟩ : ∃ y, y = g k := ⟨_, rfl⟩
      have HY : Hid (y = g k) := hy
      rw [← hy] at hck
      clear hc hcell hy
      by_cases heq : x = y
      · have HP : Hid (0 ≤ (k : Int) ↔ ∃ t, t < n ∧ g t = x) := ⟨fun _ => ⟨k, hlt, by rw [← HY.out, heq]⟩, fun _ => by omega⟩
        have te : (x == y) = true := by simp [heq]
        clear heq
        go_wp2
        go_ret
        exact ⟨_, rfl, HP.out, rfl⟩
      · have te : (x == y) = false := by simp [heq]
        have HN : Hid (g k ≠ x) := by show g k ≠ x; rw [← HY.out]; exact fun h => heq h.symm
        clear heq
        go_wp2
        go_round
        case rel => exact ⟨k + 1, by omega, by go_num, fun i hi => by
                      by_cases c : i = k
                      · rw [c]; exact HN.out
                      · exact HALL.out i (by omega)⟩
        case measure => simp [intOf]; omega
    · obtain rfl : k = n := by omega
      have HP : Hid (0 ≤ (-1 : Int) ↔ ∃ t, t < k ∧ g t = x) := ⟨fun h => by omega, fun ⟨t, ht, he⟩ => absurd he (HALL.out t ht)⟩
      clear hc
      go_wp2
      go_ret
      exact ⟨-1, rfl, HP.out, rfl⟩

theorem contains_any (v : Value) (n : Nat) (g : Nat → Int) (hi : Nat) (x : Int) (w : World) (r : RdI w hi v n g) :
    Calls Try.prog 84 #[v, .int .i64 x] w (BoolP (∃ t, t < n ∧ g t = x) w) := by
  have C := index_any v n g hi x w r
  obtain ⟨ao, cap, rfl, hm, hc⟩ := r
  clear hc hm
  have HI : Hid (Calls Try.prog 92 #[.slice ao n cap, .int .i64 x] w fun e w' => ∃ z : Int, e = .returned (.int .i64 z) ∧ (0 ≤ z ↔ ∃ t, t < n ∧ g t = x) ∧ w' = w) := C
  clear C
  obtain ⟨P, hP⟩ : ∃ P : Prop, P = ∃ t, t < n ∧ g t = x := ⟨_, rfl⟩
  rw [← hP] at HI ⊢
  clear hP
  go_enter Try.func84, Try.ntmps84
  go_wp2_with fail
  refine HI.out.mono ?_
  rintro e w1 ⟨z, rfl, hz, hw1⟩
  obtain rfl := hw1.symm
  have HZ : Hid (0 ≤ z ↔ P) := hz
  clear hz HI
  by_cases h0 : 0 ≤ z
  · have HP : Hid P := HZ.out.mp h0
    go_wp2
    go_ret
    exact boolYes rfl HP.out (Below.refl _ _)
  · have HP : Hid (¬ P) := fun h => h0 (HZ.out.mpr h)
    have td : decide (0 ≤ z) = false := by simp; omega
    clear h0
    go_wp2
    go_ret
    exact boolNo rfl HP.out (Below.refl _ _)
end Go.Proofs.Ytgpglgchbimmaaa

namespace Go.Proofs.Ytgpglgchbimmaaa
open Go.RowKit

theorem Box.allocd {w : World} {b : Nat} {cs : Array Value} {t : TypeId} (h : Box w b cs t) (o : Obj) : Box (w.alloc o) b cs t := (Below.heap_alloc w o b h.lt).trans h
theorem box_first {w w1 : World} {cs : Array Value} {t : TypeId} (h : Below (w.alloc (.cells cs t)).heap.size (w.alloc (.cells cs t)) w1) : Box w1 w.heap.size cs t ∧ Below w.heap.size w w1 :=
  ⟨(box_new w cs t).below h (by simp), bnew h⟩
theorem box_on {B : Nat} {w w1 : World} {cs : Array Value} {t : TypeId} {o : Obj} (hX : Box w B cs t) (h : Below (w.alloc o).heap.size (w.alloc o) w1) : Box w1 B cs t := (hX.allocd o).below h (hX.allocd o).lt
end Go.Proofs.Ytgpglgchbimmaaa

namespace Go.Proofs.Ytgpglgchbimmaaa
open Go.RowKit F256
set_option linter.unusedVariables false
set_option linter.unusedSimpArgs false

theorem nearest_any (x a b : Int) (w : World) :
    Calls Try.prog 82 #[.int .i64 x, .int .i64 a, .int .i64 b] w fun e w' => e = .returned (.int .i64 (max a (min x b))) ∧ w' = w := by
  go_enter Try.func82, Try.ntmps82
  go_wp2
  go_ret
  exact ⟨rfl, rfl⟩

/-- x moved to the nearest number from a to b -/
def nearZ (x a b : Int) : Int := max a (min x b)
theorem nearZ_iff (x a b : Int) (h : a ≤ b) : x = nearZ x a b ↔ a ≤ x ∧ x ≤ b := by
  unfold nearZ
  omega
theorem nearest_z (x a b : Int) (w : World) :
    Calls Try.prog 82 #[.int .i64 x, .int .i64 a, .int .i64 b] w fun e w' => e = .returned (.int .i64 (nearZ x a b)) ∧ w' = w := nearest_any x a b w

set_option maxRecDepth 20000 in
set_option maxHeartbeats 8000000 in
theorem nearestShape_any (a0 a1 a2 a3 a4 a5 a6 a7 a8 : Int) (w : World) :
    Calls Try.prog 60 #[.agg #[.int .i64 a0, .int .i64 a1, .int .i64 a2, .int .i64 a3, .int .i64 a4, .int .i64 a5, .int .i64 a6, .int .i64 a7, .int .i64 a8]] w fun e w' => e = .returned (.agg #[.int .i64 (nearZ a0 1 4), .int .i64 (nearZ a1 0 2), .int .i64 (nearZ a2 1 3), .int .i64 (nearZ a3 0 2), .int .i64 (nearZ a4 1 6), .int .i64 (nearZ a5 1 6), .int .i64 (nearZ a6 1 4), .int .i64 (nearZ a7 1 6), .int .i64 (nearZ a8 0 400)]) ∧ Below w.heap.size w w' := by
  go_enter Try.func60, Try.ntmps60
  go_wp2_with fail
  have XA := (box_new w #[.int .i64 a0, .int .i64 a1, .int .i64 a2, .int .i64 a3, .int .i64 a4, .int .i64 a5, .int .i64 a6, .int .i64 a7, .int .i64 a8] 31).allocd (.cells #[.int .i64 0, .int .i64 0, .int .i64 0, .int .i64 0, .int .i64 0, .int .i64 0, .int .i64 0, .int .i64 0, .int .i64 0] 31)
  have XZ := box_new (w.alloc (.cells #[.int .i64 a0, .int .i64 a1, .int .i64 a2, .int .i64 a3, .int .i64 a4, .int .i64 a5, .int .i64 a6, .int .i64 a7, .int .i64 a8] 31)) #[.int .i64 0, .int .i64 0, .int .i64 0, .int .i64 0, .int .i64 0, .int .i64 0, .int .i64 0, .int .i64 0, .int .i64 0] 31
  have hz : (w.alloc (.cells #[.int .i64 a0, .int .i64 a1, .int .i64 a2, .int .i64 a3, .int .i64 a4, .int .i64 a5, .int .i64 a6, .int .i64 a7, .int .i64 a8] 31)).heap.size = w.heap.size + 1 := by simp
  rw [hz] at XZ
  have BA : Below w.heap.size w ((w.alloc (.cells #[.int .i64 a0, .int .i64 a1, .int .i64 a2, .int .i64 a3, .int .i64 a4, .int .i64 a5, .int .i64 a6, .int .i64 a7, .int .i64 a8] 31)).alloc (.cells #[.int .i64 0, .int .i64 0, .int .i64 0, .int .i64 0, .int .i64 0, .int .i64 0, .int .i64 0, .int .i64 0, .int .i64 0] 31)) := ((Below.refl _ _).alloc (Nat.le_refl _) _).alloc (by simp) _
  obtain ⟨wA, hwA⟩ : ∃ x, x = (w.alloc (.cells #[.int .i64 a0, .int .i64 a1, .int .i64 a2, .int .i64 a3, .int .i64 a4, .int .i64 a5, .int .i64 a6, .int .i64 a7, .int .i64 a8] 31)).alloc (.cells #[.int .i64 0, .int .i64 0, .int .i64 0, .int .i64 0, .int .i64 0, .int .i64 0, .int .i64 0, .int .i64 0, .int .i64 0] 31) := ⟨_, rfl⟩
  rw [← hwA] at XA XZ BA ⊢
  clear hwA hz
  refine wp_region_still_tail 28 (by kernel_rfl) (by kernel_rfl) ?_
  have XA' : Box { wA with drawn := wA.drawn + 1 } w.heap.size #[.int .i64 a0, .int .i64 a1, .int .i64 a2, .int .i64 a3, .int .i64 a4, .int .i64 a5, .int .i64 a6, .int .i64 a7, .int .i64 a8] 31 := XA
  have XZ' : Box { wA with drawn := wA.drawn + 1 } (w.heap.size + 1) #[.int .i64 0, .int .i64 0, .int .i64 0, .int .i64 0, .int .i64 0, .int .i64 0, .int .i64 0, .int .i64 0, .int .i64 0] 31 := XZ
  have BA' : Below w.heap.size w { wA with drawn := wA.drawn + 1 } := ⟨BA.os, BA.tape, BA.output, BA.size, BA.block⟩
  obtain ⟨wB, hwB⟩ : ∃ x : World, x = { wA with drawn := wA.drawn + 1 } := ⟨_, rfl⟩
  rw [← hwB] at XA' XZ' BA' ⊢
  clear XA XZ BA hwB
  obtain ⟨x0, x1, x2, x3, x4, x5, x6, x7, x8⟩ := box9 XA'
  obtain ⟨y0, y1, y2, y3, y4, y5, y6, y7, y8⟩ := box9 XZ'
  simp only [List.take_succ_cons, List.take_zero, List.drop_succ_cons, List.drop_zero]
  still_step
  still_step
  still_call (nearest_z _ _ _ _)
  still_step
  still_step
  still_call (nearest_z _ _ _ _)
  still_step
  still_step
  still_call (nearest_z _ _ _ _)
  still_step
  still_step
  still_call (nearest_z _ _ _ _)
  still_step
  still_step
  still_call (nearest_z _ _ _ _)
  still_step
  still_step
  still_call (nearest_z _ _ _ _)
  still_step
  still_step
  still_call (nearest_z _ _ _ _)
  still_step
  still_step
  still_call (nearest_z _ _ _ _)
  still_step
  still_step
  still_call (nearest_z _ _ _ _)
  still_step
  refine wpStill_nil ?_
  have z0 : wB.frozen? ⟨w.heap.size + 1, 0, none⟩ = false := XZ'.frozen 0
  have z1 : wB.frozen? ⟨w.heap.size + 1, 1, none⟩ = false := XZ'.frozen 1
  have z2 : wB.frozen? ⟨w.heap.size + 1, 2, none⟩ = false := XZ'.frozen 2
  have z3 : wB.frozen? ⟨w.heap.size + 1, 3, none⟩ = false := XZ'.frozen 3
  have z4 : wB.frozen? ⟨w.heap.size + 1, 4, none⟩ = false := XZ'.frozen 4
  have z5 : wB.frozen? ⟨w.heap.size + 1, 5, none⟩ = false := XZ'.frozen 5
  have z6 : wB.frozen? ⟨w.heap.size + 1, 6, none⟩ = false := XZ'.frozen 6
  have z7 : wB.frozen? ⟨w.heap.size + 1, 7, none⟩ = false := XZ'.frozen 7
  have z8 : wB.frozen? ⟨w.heap.size + 1, 8, none⟩ = false := XZ'.frozen 8
  go_wp2
  refine bodyPost_ret (v := .agg #[.int .i64 (nearZ a0 1 4), .int .i64 (nearZ a1 0 2), .int .i64 (nearZ a2 1 3), .int .i64 (nearZ a3 0 2), .int .i64 (nearZ a4 1 6), .int .i64 (nearZ a5 1 6), .int .i64 (nearZ a6 1 4), .int .i64 (nearZ a7 1 6), .int .i64 (nearZ a8 0 400)]) (by simp [results, Try.results60, go_sem, y0, y1, y2, y3, y4, y5, y6, y7, y8]) rfl ⟨rfl, ?_⟩
  exact (((((((((BA'.setCell (Nat.le_succ _) _).setCell (Nat.le_succ _) _).setCell (Nat.le_succ _) _).setCell (Nat.le_succ _) _).setCell (Nat.le_succ _) _).setCell (Nat.le_succ _) _).setCell (Nat.le_succ _) _).setCell (Nat.le_succ _) _).setCell (Nat.le_succ _) _)

end Go.Proofs.Ytgpglgchbimmaaa

namespace Go.Proofs.Ytgpglgchbimmaaa
open Go.RowKit F256
set_option linter.unusedVariables false
set_option linter.unusedSimpArgs false

theorem shape_eq_yes (a0 a1 a2 a3 a4 a5 a6 a7 a8 : Int) (w : World) : (Op.equalIn 10000 31 (.agg #[.int .i64 a0, .int .i64 a1, .int .i64 a2, .int .i64 a3, .int .i64 a4, .int .i64 a5, .int .i64 a6, .int .i64 a7, .int .i64 a8]) (.agg #[.int .i64 a0, .int .i64 a1, .int .i64 a2, .int .i64 a3, .int .i64 a4, .int .i64 a5, .int .i64 a6, .int .i64 a7, .int .i64 a8])).run Try.prog w = .ok true w := by
  have u3 := Try.underlying2
  rw [show (10000 : Nat) = 9999 + 1 from rfl, run_equalIn_agg w 9999 31 _ _ (by kernel_rfl) (by kernel_rfl)]
  simp only [Program.fieldsOf, Try.underlying31]
  go_simp
theorem shape_eq_no (a0 a1 a2 a3 a4 a5 a6 a7 a8 b0 b1 b2 b3 b4 b5 b6 b7 b8 : Int) (h : ¬ (a0 = b0 ∧ a1 = b1 ∧ a2 = b2 ∧ a3 = b3 ∧ a4 = b4 ∧ a5 = b5 ∧ a6 = b6 ∧ a7 = b7 ∧ a8 = b8)) (w : World) : (Op.equalIn 10000 31 (.agg #[.int .i64 a0, .int .i64 a1, .int .i64 a2, .int .i64 a3, .int .i64 a4, .int .i64 a5, .int .i64 a6, .int .i64 a7, .int .i64 a8]) (.agg #[.int .i64 b0, .int .i64 b1, .int .i64 b2, .int .i64 b3, .int .i64 b4, .int .i64 b5, .int .i64 b6, .int .i64 b7, .int .i64 b8])).run Try.prog w = .ok false w := by
  have u3 := Try.underlying2
  rw [show (10000 : Nat) = 9999 + 1 from rfl, run_equalIn_agg w 9999 31 _ _ (by kernel_rfl) (by kernel_rfl)]
  simp only [Program.fieldsOf, Try.underlying31]
  have H : Hid (¬ (a0 = b0 ∧ a1 = b1 ∧ a2 = b2 ∧ a3 = b3 ∧ a4 = b4 ∧ a5 = b5 ∧ a6 = b6 ∧ a7 = b7 ∧ a8 = b8)) := h
  clear h
  go_simp
  exact fun h0 h1 h2 h3 h4 h5 h6 h7 h8 => H.out ⟨h0, h1, h2, h3, h4, h5, h6, h7, h8⟩
theorem ok_near (s : Nat → Int) : OkShape s ↔ s 0 = nearZ (s 0) 1 4 ∧ s 1 = nearZ (s 1) 0 2 ∧ s 2 = nearZ (s 2) 1 3 ∧ s 3 = nearZ (s 3) 0 2 ∧ s 4 = nearZ (s 4) 1 6 ∧ s 5 = nearZ (s 5) 1 6 ∧ s 6 = nearZ (s 6) 1 4 ∧ s 7 = nearZ (s 7) 1 6 ∧ s 8 = nearZ (s 8) 0 400 := by
  unfold OkShape Shp3 Shp
  rw [nearZ_iff (s 0) 1 4 (by omega), nearZ_iff (s 1) 0 2 (by omega), nearZ_iff (s 2) 1 3 (by omega), nearZ_iff (s 3) 0 2 (by omega), nearZ_iff (s 4) 1 6 (by omega), nearZ_iff (s 5) 1 6 (by omega), nearZ_iff (s 6) 1 4 (by omega), nearZ_iff (s 7) 1 6 (by omega), nearZ_iff (s 8) 0 400 (by omega)]
  omega

set_option maxHeartbeats 4000000 in
theorem implShape_any (s : Nat → Int) (w : World) :
    Calls Try.prog 27 #[shapeV s] w fun e w' => ∃ x, e = .returned (.int .i64 x) ∧ ShFAns s x ∧ Below w.heap.size w w' := by
  have HK : Hid (OkShape s ↔ s 0 = nearZ (s 0) 1 4 ∧ s 1 = nearZ (s 1) 0 2 ∧ s 2 = nearZ (s 2) 1 3 ∧ s 3 = nearZ (s 3) 0 2 ∧ s 4 = nearZ (s 4) 1 6 ∧ s 5 = nearZ (s 5) 1 6 ∧ s 6 = nearZ (s 6) 1 4 ∧ s 7 = nearZ (s 7) 1 6 ∧ s 8 = nearZ (s 8) 0 400) := ok_near s
  unfold shapeV
  obtain ⟨a0, h0⟩ : ∃ a, a = s 0 := ⟨_, rfl⟩
  obtain ⟨a1, h1⟩ : ∃ a, a = s 1 := ⟨_, rfl⟩
  obtain ⟨a2, h2⟩ : ∃ a, a = s 2 := ⟨_, rfl⟩
  obtain ⟨a3, h3⟩ : ∃ a, a = s 3 := ⟨_, rfl⟩
  obtain ⟨a4, h4⟩ : ∃ a, a = s 4 := ⟨_, rfl⟩
  obtain ⟨a5, h5⟩ : ∃ a, a = s 5 := ⟨_, rfl⟩
  obtain ⟨a6, h6⟩ : ∃ a, a = s 6 := ⟨_, rfl⟩
  obtain ⟨a7, h7⟩ : ∃ a, a = s 7 := ⟨_, rfl⟩
  obtain ⟨a8, h8⟩ : ∃ a, a = s 8 := ⟨_, rfl⟩
  rw [← h0, ← h1, ← h2, ← h3, ← h4, ← h5, ← h6, ← h7, ← h8]
  have HK2 : Hid (OkShape s ↔ a0 = nearZ a0 1 4 ∧ a1 = nearZ a1 0 2 ∧ a2 = nearZ a2 1 3 ∧ a3 = nearZ a3 0 2 ∧ a4 = nearZ a4 1 6 ∧ a5 = nearZ a5 1 6 ∧ a6 = nearZ a6 1 4 ∧ a7 = nearZ a7 1 6 ∧ a8 = nearZ a8 0 400) := by
    show OkShape s ↔ _
    rw [h0, h1, h2, h3, h4, h5, h6, h7, h8]
    exact HK.out
  clear HK h0 h1 h2 h3 h4 h5 h6 h7 h8
  have CN := nearestShape_any a0 a1 a2 a3 a4 a5 a6 a7 a8
  have XA := box_new w #[.int .i64 a0, .int .i64 a1, .int .i64 a2, .int .i64 a3, .int .i64 a4, .int .i64 a5, .int .i64 a6, .int .i64 a7, .int .i64 a8] 31
  obtain ⟨x0, x1, x2, x3, x4, x5, x6, x7, x8⟩ := box9 XA
  have HX : Hid (Box (w.alloc (.cells #[.int .i64 a0, .int .i64 a1, .int .i64 a2, .int .i64 a3, .int .i64 a4, .int .i64 a5, .int .i64 a6, .int .i64 a7, .int .i64 a8] 31)) w.heap.size #[.int .i64 a0, .int .i64 a1, .int .i64 a2, .int .i64 a3, .int .i64 a4, .int .i64 a5, .int .i64 a6, .int .i64 a7, .int .i64 a8] 31) := XA
  have HB : Hid (Below w.heap.size w (w.alloc (.cells #[.int .i64 a0, .int .i64 a1, .int .i64 a2, .int .i64 a3, .int .i64 a4, .int .i64 a5, .int .i64 a6, .int .i64 a7, .int .i64 a8] 31))) := bnew (Below.refl _ _)
  obtain ⟨wA, hwA⟩ : ∃ x, x = w.alloc (.cells #[.int .i64 a0, .int .i64 a1, .int .i64 a2, .int .i64 a3, .int .i64 a4, .int .i64 a5, .int .i64 a6, .int .i64 a7, .int .i64 a8] 31) := ⟨_, rfl⟩
  rw [← hwA] at x0 x1 x2 x3 x4 x5 x6 x7 x8 HX HB
  clear XA
  by_cases ok : OkShape s
  · have HO : Hid (OkShape s) := ok
    obtain ⟨e0, e1, e2, e3, e4, e5, e6, e7, e8⟩ := HK2.out.mp ok
    rw [← e0, ← e1, ← e2, ← e3, ← e4, ← e5, ← e6, ← e7, ← e8] at CN
    have heq := shape_eq_yes a0 a1 a2 a3 a4 a5 a6 a7 a8
    clear e0 e1 e2 e3 e4 e5 e6 e7 e8 ok
    go_enter Try.func27, Try.ntmps27
    go_wp2_with fail
    rw [← hwA]
    clear hwA
    go_region_with (go_at_call 60; refine (CN _).mono ?_; rintro ee w2 ⟨rfl, hb2⟩; have hB2 : Below wA.heap.size wA w2 := ⟨hb2.os, hb2.tape, hb2.output, hb2.size, hb2.block⟩; obtain ⟨y0, y1, y2, y3, y4, y5, y6, y7, y8⟩ := box9 (HX.out.below hB2 HX.out.lt))
    all_goals
      go_wp2
      go_ret
      exact ⟨0, rfl, .inr ⟨rfl, HO.out⟩, HB.out.trans (hB2.mono HB.out.size)⟩
  · have HO : Hid (¬ OkShape s) := ok
    have hno : ¬ (a0 = nearZ a0 1 4 ∧ a1 = nearZ a1 0 2 ∧ a2 = nearZ a2 1 3 ∧ a3 = nearZ a3 0 2 ∧ a4 = nearZ a4 1 6 ∧ a5 = nearZ a5 1 6 ∧ a6 = nearZ a6 1 4 ∧ a7 = nearZ a7 1 6 ∧ a8 = nearZ a8 0 400) := fun h => ok (HK2.out.mpr h)
    have heq := shape_eq_no a0 a1 a2 a3 a4 a5 a6 a7 a8 (nearZ a0 1 4) (nearZ a1 0 2) (nearZ a2 1 3) (nearZ a3 0 2) (nearZ a4 1 6) (nearZ a5 1 6) (nearZ a6 1 4) (nearZ a7 1 6) (nearZ a8 0 400) hno
    clear hno ok
    go_enter Try.func27, Try.ntmps27
    go_wp2_with fail
    rw [← hwA]
    clear hwA
    go_region_with (go_at_call 60; refine (CN _).mono ?_; rintro ee w2 ⟨rfl, hb2⟩; have hB2 : Below wA.heap.size wA w2 := ⟨hb2.os, hb2.tape, hb2.output, hb2.size, hb2.block⟩; obtain ⟨y0, y1, y2, y3, y4, y5, y6, y7, y8⟩ := box9 (HX.out.below hB2 HX.out.lt))
    all_goals
      go_wp2
      go_ret
      exact ⟨3, rfl, .inl ⟨rfl, HO.out⟩, HB.out.trans (hB2.mono HB.out.size)⟩
end Go.Proofs.Ytgpglgchbimmaaa

namespace Go.Proofs.Ytgpglgchbimmaaa
open Go.RowKit F256
set_option linter.unusedVariables false
set_option linter.unusedSimpArgs false

set_option maxHeartbeats 4000000 in
theorem rowLength_any (s : Nat → Int) (h1 : 1 ≤ s 2) (h2 : s 2 ≤ 1000) (w : World) :
    Calls Try.prog 88 #[shapeV s] w fun e w' => e = .returned (.int .i64 (s 2 * 4)) ∧ Below w.heap.size w w' := by
  unfold shapeV
  obtain ⟨a2, h0⟩ : ∃ a, a = s 2 := ⟨_, rfl⟩
  rw [← h0] at h1 h2 ⊢
  clear h0
  have B0 : Below w.heap.size w (w.alloc (.cells #[.int .i64 (s 0), .int .i64 (s 1), .int .i64 a2, .int .i64 (s 3), .int .i64 (s 4), .int .i64 (s 5), .int .i64 (s 6), .int .i64 (s 7), .int .i64 (s 8)] 31)) := bnew (Below.refl _ _)
  go_enter Try.func88, Try.ntmps88
  go_wp2
  go_ret
  exact ⟨rfl, B0⟩

set_option maxHeartbeats 4000000 in
theorem implParts_any (s : Nat → Int) (l : Int) (w : World) :
    Calls Try.prog 87 #[shapeV s, .int .i64 l] w fun e w' => ∃ x c, e = .returned (intR c x) ∧ PfAns s l x c ∧ Below w.heap.size w w' := by
  unfold shapeV
  go_enter Try.func87, Try.ntmps87
  go_wp2_with fail
  refine (implShape_any s _).mono ?_
  rintro e w1 ⟨x, rfl, hx, B1'⟩
  obtain ⟨X1, X2, B1, z1⟩ := two_new B1'
  obtain ⟨x0, x1, x2, x3, x4, x5, x6, x7, x8⟩ := box9 X1
  obtain ⟨y0, y1, y2, y3⟩ := res_cells X2
  have HX : Hid (Box w1 (w.heap.size + 1) #[.int .i64 0, .int .i64 0] 112) := X2
  have HX1 : Hid (Box w1 w.heap.size #[.int .i64 (s 0), .int .i64 (s 1), .int .i64 (s 2), .int .i64 (s 3), .int .i64 (s 4), .int .i64 (s 5), .int .i64 (s 6), .int .i64 (s 7), .int .i64 (s 8)] 31) := X1
  clear B1' X1 X2
  rcases hx with ⟨rfl, hx⟩ | ⟨rfl, hx⟩
  · have HN : Hid (¬ OkShape s) := hx
    clear hx
    go_wp2
    exact bodyPost_ret (v := intR 3 0) (by simp [results, Try.results87, go_sem, intR, y0, y1]) rfl ⟨0, 3, rfl, .inl ⟨HN.out, rfl, rfl⟩, (B1.setCell (Nat.le_succ _) _).setCell (Nat.le_succ _) _⟩
  · have HO : Hid (OkShape s) := hx
    have HD : Hid (1 ≤ s 2 ∧ s 2 ≤ 1000) := by show 1 ≤ s 2 ∧ s 2 ≤ 1000; have := hx.2.1; unfold Shp at this; omega
    clear hx
    have CL := rowLength_any s HD.out.1 HD.out.2
    unfold shapeV at CL
    have HM : Hid (∀ m, m = (l + s 2 * 4 - 1) / (s 2 * 4) → 1 ≤ l → l ≤ 3 * (s 2 * 4) → PfAns s l m 0) := fun m hm h1 h2 => .inr (.inr (.inr ⟨HO.out, h1, h2, rfl, hm⟩))
    have HM2 : Hid (1 ≤ l → 3 * (s 2 * 4) < l → PfAns s l 0 2) := fun h1 h2 => .inr (.inr (.inl ⟨HO.out, h1, h2, rfl, rfl⟩))
    obtain ⟨S, hS⟩ : ∃ S, S = s 2 * 4 := ⟨_, rfl⟩
    rw [← hS] at CL HM HM2
    have q1 : 4 ≤ S := by have := HD.out.1; omega
    have q2 : S ≤ 4000 := by have := HD.out.2; omega
    clear hS
    by_cases c1 : l < 1
    · go_wp2
      exact bodyPost_ret (v := intR 6 0) (by simp [results, Try.results87, go_sem, intR, y0, y1]) rfl ⟨0, 6, rfl, .inr (.inl ⟨HO.out, c1, rfl, rfl⟩), (B1.setCell (Nat.le_succ _) _).setCell (Nat.le_succ _) _⟩
    · go_wp2_with fail
      refine (CL _).mono ?_
      rintro e w2 ⟨rfl, B2⟩
      have z2 := B2.size
      have B12 : Below w.heap.size w w2 := B1.trans (B2.mono B1.size)
      have HX2 : Hid (Box w2 (w.heap.size + 1) #[.int .i64 0, .int .i64 0] 112) := HX.out.below B2 z1
      have HY2 : Hid (Box w2 w.heap.size #[.int .i64 (s 0), .int .i64 (s 1), .int .i64 (s 2), .int .i64 (s 3), .int .i64 (s 4), .int .i64 (s 5), .int .i64 (s 6), .int .i64 (s 7), .int .i64 (s 8)] 31) := HX1.out.below B2 (by omega)
      clear x0 x1 x2 x3 x4 x5 x6 x7 x8 y0 y1 y2 y3 B2 HX HX1
      obtain ⟨y0, y1, y2, y3⟩ := res_cells HX2.out
      obtain ⟨x0, x1, x2, x3, x4, x5, x6, x7, x8⟩ := box9 HY2.out
      by_cases c2 : 3 * S < l
      · have t2 : decide (3 * S < l) = true := by simp; omega
        go_wp2
        exact bodyPost_ret (v := intR 2 0) (by simp [results, Try.results87, go_sem, intR, y0, y1]) rfl ⟨0, 2, rfl, HM2.out (by omega) c2, (B12.setCell (Nat.le_succ _) _).setCell (Nat.le_succ _) _⟩
      · have t2 : decide (3 * S < l) = false := by simp; omega
        have q3 : 0 ≤ l + S - 1 := by omega
        go_wp2_with fail
        have K0 : Hid (Below w2.heap.size w2 w2) := Below.refl _ _
        go_region_with (go_at_call 88; refine (CL _).mono ?_; rintro ee w3 ⟨rfl, hb3⟩; (first | (have hB2 : Below w2.heap.size w2 w3 := hB.trans ((⟨hb3.os, hb3.tape, hb3.output, hb3.size, hb3.block⟩ : Below _ _ _).mono hB.size); clear hb3; obtain ⟨v0, v1, v2, v3⟩ := res_cells (HX2.out.below hB2 (by omega)); obtain ⟨u0, u1, u2, u3, u4, u5, u6, u7, u8⟩ := box9 (HY2.out.below hB2 (by omega))) | (have hB : Below w2.heap.size w2 w3 := ⟨hb3.os, hb3.tape, hb3.output, hb3.size, hb3.block⟩; clear hb3; obtain ⟨u0, u1, u2, u3, u4, u5, u6, u7, u8⟩ := box9 (HY2.out.below hB (by omega)))))
        all_goals
          have B4 : Below w.heap.size w w3 := B12.trans (hB2.mono B12.size)
          go_wp2
          exact bodyPost_ret (v := intR 0 ((l + S - 1) / S)) (by simp [results, Try.results87, go_sem, intR, v0, v1]) rfl ⟨(l + S - 1) / S, 0, rfl, HM.out _ rfl (by omega) (by omega), (B4.setCell (Nat.le_succ _) _).setCell (Nat.le_succ _) _⟩
end Go.Proofs.Ytgpglgchbimmaaa

namespace Go.Proofs.Ytgpglgchbimmaaa
open Go.RowKit F256
set_option linter.unusedVariables false
set_option linter.unusedSimpArgs false

theorem inBounds_b {x a b : Int} {t : Bool} (hab : a ≤ b) (ht : t = true ↔ InP x a b) (w : World) :
    Calls Try.prog 34 #[.int .i64 x, .int .i64 a, .int .i64 b] w fun e w' => e = .returned (.bool t) ∧ w' = w := by
  by_cases h1 : a ≤ x
  · by_cases h2 : x ≤ b
    · obtain rfl : t = true := ht.2 ⟨h1, h2⟩
      clear ht hab
      go_enter Try.func34, Try.ntmps34
      go_wp2
      go_ret
      exact ⟨rfl, rfl⟩
    · obtain rfl : t = false := by
        cases t with
        | false => rfl
        | true => exact absurd (ht.1 rfl).2 h2
      clear ht hab
      have hd : decide (x ≤ b) = false := decide_eq_false h2
      go_enter Try.func34, Try.ntmps34
      go_wp2
      go_ret
      exact ⟨rfl, rfl⟩
  · obtain rfl : t = false := by
      cases t with
      | false => rfl
      | true => exact absurd (ht.1 rfl).1 h1
    clear ht hab
    have hd : decide (a ≤ x) = false := decide_eq_false h1
    go_enter Try.func34, Try.ntmps34
    go_wp2
    go_ret
    exact ⟨rfl, rfl⟩
theorem groupCount_any (s : Nat → Int) (h : OkShape s) (w : World) :
    Calls Try.prog 61 #[shapeV s] w fun e w' => e = .returned (.int .i64 (s 0 + s 1)) ∧ Below w.heap.size w w' := by
  obtain ⟨h1, h2, _⟩ := h
  unfold Shp3 at h1
  have B0 := (one_new w #[.int .i64 (s 0), .int .i64 (s 1), .int .i64 (s 2), .int .i64 (s 3), .int .i64 (s 4), .int .i64 (s 5), .int .i64 (s 6), .int .i64 (s 7), .int .i64 (s 8)] 31).bel
  unfold shapeV
  have hw : -9223372036854775808 ≤ s 0 + s 1 ∧ s 0 + s 1 ≤ 9223372036854775807 := by omega
  go_enter Try.func61, Try.ntmps61
  go_wp2
  go_ret
  exact ⟨rfl, B0⟩
theorem driveCount_any (s : Nat → Int) (h : OkShape s) (w : World) :
    Calls Try.prog 62 #[shapeV s] w fun e w' => e = .returned (.int .i64 (s 2 + s 3)) ∧ Below w.heap.size w w' := by
  obtain ⟨h1, h2, _⟩ := h
  unfold Shp at h2
  have B0 := (one_new w #[.int .i64 (s 0), .int .i64 (s 1), .int .i64 (s 2), .int .i64 (s 3), .int .i64 (s 4), .int .i64 (s 5), .int .i64 (s 6), .int .i64 (s 7), .int .i64 (s 8)] 31).bel
  unfold shapeV
  have hw : -9223372036854775808 ≤ s 2 + s 3 ∧ s 2 + s 3 ≤ 9223372036854775807 := by omega
  go_enter Try.func62, Try.ntmps62
  go_wp2
  go_ret
  exact ⟨rfl, B0⟩
theorem okB {s : Nat → Int} (h : OkShape s) : 1 ≤ s 0 ∧ s 0 ≤ 4 ∧ 0 ≤ s 1 ∧ s 1 ≤ 2 ∧ 1 ≤ s 2 ∧ s 2 ≤ 3 ∧ 0 ≤ s 3 ∧ s 3 ≤ 2 ∧ 1 ≤ s 4 ∧ s 4 ≤ 6 ∧ 1 ≤ s 5 ∧ s 5 ≤ 6 := by
  obtain ⟨h1, h2, h3, h4, _⟩ := h
  unfold Shp3 at h1
  unfold Shp at h2
  omega
theorem isGroup_b {s : Nat → Int} (h : OkShape s) {x : Int} {t : Bool} (ht : t = true ↔ InP x 0 (s 0 + s 1 - 1)) (w : World) :
    Calls Try.prog 76 #[shapeV s, .int .i64 x] w fun e w' => e = .returned (.bool t) ∧ Below w.heap.size w w' := by
  have hb := okB h
  have C := groupCount_any s h
  have CB := fun w' => inBounds_b (w := w') (show 0 ≤ s 0 + s 1 - 1 by omega) ht
  have T0 := one_new w #[.int .i64 (s 0), .int .i64 (s 1), .int .i64 (s 2), .int .i64 (s 3), .int .i64 (s 4), .int .i64 (s 5), .int .i64 (s 6), .int .i64 (s 7), .int .i64 (s 8)] 31
  unfold shapeV at C ⊢
  clear ht h
  go_enter Try.func76, Try.ntmps76
  go_wp2_with fail
  refine (C _).mono ?_
  rintro e w1 ⟨rfl, b1⟩
  have HB : Hid (Below w.heap.size w w1) := (T0.call b1).bel
  clear b1 T0 C
  go_wp2_with fail
  refine (CB _).mono ?_
  rintro e w2 ⟨rfl, hw2⟩
  obtain rfl := hw2.symm
  go_wp2
  go_ret
  exact ⟨rfl, HB.out⟩
theorem isDataGroup_b {s : Nat → Int} (h : OkShape s) {x : Int} {t : Bool} (ht : t = true ↔ InP x 0 (s 0 - 1)) (w : World) :
    Calls Try.prog 73 #[shapeV s, .int .i64 x] w fun e w' => e = .returned (.bool t) ∧ Below w.heap.size w w' := by
  have hb := okB h
  have CB := fun w' => inBounds_b (w := w') (show 0 ≤ s 0 - 1 by omega) ht
  have HB : Hid (Below w.heap.size w (w.alloc (.cells #[.int .i64 (s 0), .int .i64 (s 1), .int .i64 (s 2), .int .i64 (s 3), .int .i64 (s 4), .int .i64 (s 5), .int .i64 (s 6), .int .i64 (s 7), .int .i64 (s 8)] 31))) := (one_new w #[.int .i64 (s 0), .int .i64 (s 1), .int .i64 (s 2), .int .i64 (s 3), .int .i64 (s 4), .int .i64 (s 5), .int .i64 (s 6), .int .i64 (s 7), .int .i64 (s 8)] 31).bel
  unfold shapeV
  clear ht h
  go_enter Try.func73, Try.ntmps73
  go_wp2_with fail
  refine (CB _).mono ?_
  rintro e w2 ⟨rfl, hw2⟩
  obtain rfl := hw2.symm
  go_wp2
  go_ret
  exact ⟨rfl, HB.out⟩
theorem isRow_b {s : Nat → Int} (h : OkShape s) {x : Int} {t : Bool} (ht : t = true ↔ InP x 0 (s 4 - 1)) (w : World) :
    Calls Try.prog 74 #[shapeV s, .int .i64 x] w fun e w' => e = .returned (.bool t) ∧ Below w.heap.size w w' := by
  have hb := okB h
  have CB := fun w' => inBounds_b (w := w') (show 0 ≤ s 4 - 1 by omega) ht
  have HB : Hid (Below w.heap.size w (w.alloc (.cells #[.int .i64 (s 0), .int .i64 (s 1), .int .i64 (s 2), .int .i64 (s 3), .int .i64 (s 4), .int .i64 (s 5), .int .i64 (s 6), .int .i64 (s 7), .int .i64 (s 8)] 31))) := (one_new w #[.int .i64 (s 0), .int .i64 (s 1), .int .i64 (s 2), .int .i64 (s 3), .int .i64 (s 4), .int .i64 (s 5), .int .i64 (s 6), .int .i64 (s 7), .int .i64 (s 8)] 31).bel
  unfold shapeV
  clear ht h
  go_enter Try.func74, Try.ntmps74
  go_wp2_with fail
  refine (CB _).mono ?_
  rintro e w2 ⟨rfl, hw2⟩
  obtain rfl := hw2.symm
  go_wp2
  go_ret
  exact ⟨rfl, HB.out⟩
theorem rowLong_b {s : Nat → Int} (h : OkShape s) {ao : Option Addr} {n cap : Nat} (hn : n ≤ 9223372036854775807) {t : Bool} (ht : ((n : Int) == s 2 * 4) = t) (w : World) :
    Calls Try.prog 75 #[shapeV s, .slice ao n cap] w fun e w' => e = .returned (.bool t) ∧ Below w.heap.size w w' := by
  have hb := okB h
  have C := fun w' => rowLength_any s (by omega) (by omega) w'
  have T0 := one_new w #[.int .i64 (s 0), .int .i64 (s 1), .int .i64 (s 2), .int .i64 (s 3), .int .i64 (s 4), .int .i64 (s 5), .int .i64 (s 6), .int .i64 (s 7), .int .i64 (s 8)] 31
  unfold shapeV at C ⊢
  clear h
  go_enter Try.func75, Try.ntmps75
  go_wp2_with fail
  refine (C _).mono ?_
  rintro e w1 ⟨rfl, b1⟩
  have HB : Hid (Below w.heap.size w w1) := (T0.call b1).bel
  clear b1 T0 C
  go_wp2
  go_ret
  exact ⟨by simp [ht], HB.out⟩
set_option maxHeartbeats 4000000 in
theorem differWithin_any (v : Value) (n : Nat) (g : Nat → Int) (hi : Nat) (bound : Int) (hb1 : 1 ≤ bound) (hb2 : bound ≤ 1000000) (w : World) (r : RdI w hi v n g) (hcp : CapP v n) (hhi : hi ≤ w.heap.size) :
    Calls Try.prog 64 #[v, .int .i64 bound] w (BoolP (ApartP n g (bound - 1)) w) := by
  have HR : Hid (RdI w hi v n g) := r
  obtain ⟨ao, cap, rfl, hm, hc⟩ := r
  obtain ⟨_, _, e, hcp⟩ := hcp
  cases e
  unfold maxLen at hm
  go_enter Try.func64, Try.ntmps64
  go_wp2
  go_loopw [9] (fun i wr => ∃ k : Nat, k ≤ n ∧ i = .int .i64 k ∧ ApartP k g (bound - 1) ∧ Below w.heap.size w wr) (fun i _ => n - (intOf i).toNat)
  case atStart => exact ⟨0, Nat.zero_le _, rfl, fun i hi => by omega, Below.refl _ _⟩
  case round =>
    obtain ⟨k, hk, rfl, hall, hb⟩ := hrel
    have HALL : Hid (ApartP k g (bound - 1)) := hall
    clear hall
    by_cases hlt : k < n
    · obtain ⟨b, off, rfl, hblt, hcell⟩ := hc (by omega)
      have hck : wr.cell? ⟨b, off + k, none⟩ = some (.int .i64 (g k)) := (hb.cell (p := ⟨b, off + k, none⟩) (by show b < w.heap.size; omega)).trans (hcell k hlt)
      have kcp : k ≤ cap := by omega
      obtain ⟨t1, h1⟩ := exB (InP (g k) 0 (bound - 1))
      obtain ⟨t2, h2⟩ := exB (∃ t, t < k ∧ g t = g k)
      have C1 := fun w' => inBounds_b (w := w') (show 0 ≤ bound - 1 by omega) h1
      have C2 := det_b (contains_any (.slice (some ⟨b, off, none⟩) k cap) k g hi (g k) wr ((HR.out.part hk (by omega)).below hb hhi)) h2
      have H1 : Hid (t1 = true ↔ InP (g k) 0 (bound - 1)) := h1
      have H2 : Hid (t2 = true ↔ ∃ t, t < k ∧ g t = g k) := h2
      obtain ⟨y, hy⟩ : ∃ y, y = g k := ⟨_, rfl⟩
      have HY : Hid (y = g k) := hy
      rw [← hy] at hck C1 C2
      have HB : Hid (Below w.heap.size w wr) := hb
      clear hc hcell h1 h2 hy hb
      go_wp2_with fail
      refine (C1 _).mono ?_
      rintro e w' ⟨rfl, hw'⟩
      obtain rfl := hw'.symm
      clear C1
      cases t1 with
      | false =>
        go_wp2
        go_ret
        exact boolNo rfl (fun h => by
          have := H1.out.2 (h k hlt).1
          simp at this) HB.out
      | true =>
        go_wp2_with fail
        refine C2.mono ?_
        rintro e w2 ⟨rfl, b2⟩
        have HB2 : Hid (Below w.heap.size w w2) := HB.out.trans (b2.mono HB.out.size)
        clear b2 C2
        cases t2 with
        | true =>
          go_wp2
          go_ret
          exact boolNo rfl (fun h => by
            obtain ⟨t, ht, e⟩ := H2.out.1 (by simp)
            exact (h k hlt).2 t ht e) HB2.out
        | false =>
          go_wp2
          go_roundw
          case rel => exact ⟨k + 1, by omega, by go_num, fun i hi => by
                        by_cases c : i = k
                        · subst c
                          exact ⟨H1.out.1 (by simp), fun t ht e => by
                            have := H2.out.2 ⟨t, ht, e⟩
                            simp at this⟩
                        · exact HALL.out i (by omega), HB2.out⟩
          case measure => simp [intOf]; omega
    · obtain rfl : k = n := by omega
      go_wp2
      go_ret
      exact boolYes rfl HALL.out hb
end Go.Proofs.Ytgpglgchbimmaaa

namespace Go.Proofs.Ytgpglgchbimmaaa
open Go.RowKit F256
set_option linter.unusedVariables false
set_option linter.unusedSimpArgs false

set_option maxHeartbeats 8000000 in
theorem itemIn_any (s : Nat → Int) (hs : OkShape s) (r : RecD) (cs : List Value) (hi : Nat) (w : World) (h : layRec.rd w hi r cs) (hhi : hi ≤ w.heap.size) :
    Calls Try.prog 72 #[shapeV s, .agg cs.toArray] w (BoolP (ItemP s r) w) := by
  obtain ⟨ao6, cap6, ao7, cap7, ao8, cap8, rfl, g6, g7, g8, -, -, -, hl, -⟩ := Rec_rd h
  clear h
  have hb := okB hs
  obtain ⟨v6, e6, ⟨h6, hcp6⟩, _⟩ := g6
  cases e6
  have H6 : Hid (RdI w hi (.slice ao6 r.rows.1 cap6) r.rows.1 r.rows.2) := h6
  have HCP : Hid (CapP (.slice ao6 r.rows.1 cap6) r.rows.1) := hcp6
  have hm6 := h6.mx
  obtain ⟨v7, e7, ⟨_, _, e7', hm7, _⟩, _⟩ := g7
  cases e7
  cases e7'
  unfold maxLen at hm6 hm7
  clear h6 hcp6 g8
  have T0 := two_newb w #[.int .i64 (s 0), .int .i64 (s 1), .int .i64 (s 2), .int .i64 (s 3), .int .i64 (s 4), .int .i64 (s 5), .int .i64 (s 6), .int .i64 (s 7), .int .i64 (s 8)] #[.int .i64 r.kind, .int .i64 r.seq, .string r.name, .int .i64 r.length, .int .i64 r.group, .int .i64 r.row, .slice ao6 r.rows.1 cap6, .slice ao7 r.data.1 cap7, .slice ao8 r.delta.1 cap8] 31 45
  have CP := fun w' => implParts_any s r.length w'
  unfold shapeV intR at CP
  unfold shapeV
  go_enter Try.func72, Try.ntmps72
  by_cases hl1 : r.length = -1
  · have HL : Hid (r.length = -1) := hl1
    have e1 : (r.length == -1) = true := by simp [hl1]
    have HB : Hid (Below w.heap.size w ((w.alloc (.cells #[.int .i64 (s 0), .int .i64 (s 1), .int .i64 (s 2), .int .i64 (s 3), .int .i64 (s 4), .int .i64 (s 5), .int .i64 (s 6), .int .i64 (s 7), .int .i64 (s 8)] 31)).alloc (.cells #[.int .i64 r.kind, .int .i64 r.seq, .string r.name, .int .i64 r.length, .int .i64 r.group, .int .i64 r.row, .slice ao6 r.rows.1 cap6, .slice ao7 r.data.1 cap7, .slice ao8 r.delta.1 cap8] 45))) := T0.bel
    clear T0 CP hl1
    obtain ⟨b0, h0⟩ : ∃ b, ((r.data.1 : Int) == 0) = b := ⟨_, rfl⟩
    obtain ⟨b1, h1⟩ : ∃ b, ((r.rows.1 : Int) == 0) = b := ⟨_, rfl⟩
    have HE : Hid (ItemP s r ↔ (b0 = true ∧ b1 = true)) := by
      show ItemP s r ↔ _
      rw [← h0, ← h1]
      unfold ItemP
      simp [HL.out]
    have hst : b0 = false ∨ (b0 = true ∧ b1 = false) ∨ (b0 = true ∧ b1 = true) := by
      clear HE h0 h1
      cases b0 <;> simp
    rcases hst with rfl | ⟨rfl, rfl⟩ | ⟨rfl, rfl⟩
    all_goals
      go_wp2
      go_ret
      first
        | exact boolNo rfl (fun h => by have := HE.out.1 h; simp at this) HB.out
        | exact boolYes rfl (HE.out.2 (by simp)) HB.out
  · have e1 : (r.length == -1) = false := by simp [hl1]
    have HL : Hid (r.length ≠ -1) := hl1
    clear hl1
    go_wp2_with fail
    refine (CP _).mono ?_
    rintro e w1 ⟨pv, pc, rfl, hp, b1⟩
    have T1 : Two w w1 #[.int .i64 (s 0), .int .i64 (s 1), .int .i64 (s 2), .int .i64 (s 3), .int .i64 (s 4), .int .i64 (s 5), .int .i64 (s 6), .int .i64 (s 7), .int .i64 (s 8)] #[.int .i64 r.kind, .int .i64 r.seq, .string r.name, .int .i64 r.length, .int .i64 r.group, .int .i64 r.row, .slice ao6 r.rows.1 cap6, .slice ao7 r.data.1 cap7, .slice ao8 r.delta.1 cap8] 31 45 := T0.call b1
    clear b1 T0 CP
    have HT1 : Hid (Two w w1 #[.int .i64 (s 0), .int .i64 (s 1), .int .i64 (s 2), .int .i64 (s 3), .int .i64 (s 4), .int .i64 (s 5), .int .i64 (s 6), .int .i64 (s 7), .int .i64 (s 8)] #[.int .i64 r.kind, .int .i64 r.seq, .string r.name, .int .i64 r.length, .int .i64 r.group, .int .i64 r.row, .slice ao6 r.rows.1 cap6, .slice ao7 r.data.1 cap7, .slice ao8 r.delta.1 cap8] 31 45) := T1
    have z1 : w.heap.size + 1 < w1.heap.size := T1.b2.lt
    have x1_0 : w1.cell? ⟨w.heap.size, 0, none⟩ = some (.int .i64 (s 0)) := T1.b1.cell 0
    have x1_1 : w1.cell? ⟨w.heap.size, 1, none⟩ = some (.int .i64 (s 1)) := T1.b1.cell 1
    have x1_2 : w1.cell? ⟨w.heap.size, 2, none⟩ = some (.int .i64 (s 2)) := T1.b1.cell 2
    have x1_3 : w1.cell? ⟨w.heap.size, 3, none⟩ = some (.int .i64 (s 3)) := T1.b1.cell 3
    have x1_4 : w1.cell? ⟨w.heap.size, 4, none⟩ = some (.int .i64 (s 4)) := T1.b1.cell 4
    have x1_5 : w1.cell? ⟨w.heap.size, 5, none⟩ = some (.int .i64 (s 5)) := T1.b1.cell 5
    have x1_6 : w1.cell? ⟨w.heap.size, 6, none⟩ = some (.int .i64 (s 6)) := T1.b1.cell 6
    have x1_7 : w1.cell? ⟨w.heap.size, 7, none⟩ = some (.int .i64 (s 7)) := T1.b1.cell 7
    have x1_8 : w1.cell? ⟨w.heap.size, 8, none⟩ = some (.int .i64 (s 8)) := T1.b1.cell 8
    have y1_0 : w1.cell? ⟨w.heap.size + 1, 0, none⟩ = some (.int .i64 r.kind) := T1.b2.cell 0
    have y1_1 : w1.cell? ⟨w.heap.size + 1, 1, none⟩ = some (.int .i64 r.seq) := T1.b2.cell 1
    have y1_2 : w1.cell? ⟨w.heap.size + 1, 2, none⟩ = some (.string r.name) := T1.b2.cell 2
    have y1_3 : w1.cell? ⟨w.heap.size + 1, 3, none⟩ = some (.int .i64 r.length) := T1.b2.cell 3
    have y1_4 : w1.cell? ⟨w.heap.size + 1, 4, none⟩ = some (.int .i64 r.group) := T1.b2.cell 4
    have y1_5 : w1.cell? ⟨w.heap.size + 1, 5, none⟩ = some (.int .i64 r.row) := T1.b2.cell 5
    have y1_6 : w1.cell? ⟨w.heap.size + 1, 6, none⟩ = some (.slice ao6 r.rows.1 cap6) := T1.b2.cell 6
    have y1_7 : w1.cell? ⟨w.heap.size + 1, 7, none⟩ = some (.slice ao7 r.data.1 cap7) := T1.b2.cell 7
    have y1_8 : w1.cell? ⟨w.heap.size + 1, 8, none⟩ = some (.slice ao8 r.delta.1 cap8) := T1.b2.cell 8
    clear T1
    go_upto_region 4 with fail
    have bA : Below w1.heap.size w1 (w1.alloc (.cells #[.int .i64 pc, .int .i64 pv] 112)) := (Below.refl _ _).alloc (Nat.le_refl _) _
    have T2 : Two w (w1.alloc (.cells #[.int .i64 pc, .int .i64 pv] 112)) #[.int .i64 (s 0), .int .i64 (s 1), .int .i64 (s 2), .int .i64 (s 3), .int .i64 (s 4), .int .i64 (s 5), .int .i64 (s 6), .int .i64 (s 7), .int .i64 (s 8)] #[.int .i64 r.kind, .int .i64 r.seq, .string r.name, .int .i64 r.length, .int .i64 r.group, .int .i64 r.row, .slice ao6 r.rows.1 cap6, .slice ao7 r.data.1 cap7, .slice ao8 r.delta.1 cap8] 31 45 := HT1.out.call bA
    have X2 : Box (w1.alloc (.cells #[.int .i64 pc, .int .i64 pv] 112)) w1.heap.size #[.int .i64 pc, .int .i64 pv] 112 := box_new _ _ _
    obtain ⟨W2, hW2⟩ : ∃ W2, W2 = w1.alloc (.cells #[.int .i64 pc, .int .i64 pv] 112) := ⟨_, rfl⟩
    rw [← hW2] at T2 X2 ⊢
    have HT2 : Hid (Two w W2 #[.int .i64 (s 0), .int .i64 (s 1), .int .i64 (s 2), .int .i64 (s 3), .int .i64 (s 4), .int .i64 (s 5), .int .i64 (s 6), .int .i64 (s 7), .int .i64 (s 8)] #[.int .i64 r.kind, .int .i64 r.seq, .string r.name, .int .i64 r.length, .int .i64 r.group, .int .i64 r.row, .slice ao6 r.rows.1 cap6, .slice ao7 r.data.1 cap7, .slice ao8 r.delta.1 cap8] 31 45) := T2
    have q0 : W2.cell? ⟨w1.heap.size, 0, none⟩ = some (.int .i64 pc) := X2.cell 0
    have q1 : W2.cell? ⟨w1.heap.size, 1, none⟩ = some (.int .i64 pv) := X2.cell 1
    clear bA hW2 x1_0 y1_0 x1_1 y1_1 x1_2 y1_2 x1_3 y1_3 x1_4 y1_4 x1_5 y1_5 x1_6 y1_6 x1_7 y1_7 x1_8 y1_8
    have x2_0 : W2.cell? ⟨w.heap.size, 0, none⟩ = some (.int .i64 (s 0)) := T2.b1.cell 0
    have x2_1 : W2.cell? ⟨w.heap.size, 1, none⟩ = some (.int .i64 (s 1)) := T2.b1.cell 1
    have x2_2 : W2.cell? ⟨w.heap.size, 2, none⟩ = some (.int .i64 (s 2)) := T2.b1.cell 2
    have x2_3 : W2.cell? ⟨w.heap.size, 3, none⟩ = some (.int .i64 (s 3)) := T2.b1.cell 3
    have x2_4 : W2.cell? ⟨w.heap.size, 4, none⟩ = some (.int .i64 (s 4)) := T2.b1.cell 4
    have x2_5 : W2.cell? ⟨w.heap.size, 5, none⟩ = some (.int .i64 (s 5)) := T2.b1.cell 5
    have x2_6 : W2.cell? ⟨w.heap.size, 6, none⟩ = some (.int .i64 (s 6)) := T2.b1.cell 6
    have x2_7 : W2.cell? ⟨w.heap.size, 7, none⟩ = some (.int .i64 (s 7)) := T2.b1.cell 7
    have x2_8 : W2.cell? ⟨w.heap.size, 8, none⟩ = some (.int .i64 (s 8)) := T2.b1.cell 8
    have y2_0 : W2.cell? ⟨w.heap.size + 1, 0, none⟩ = some (.int .i64 r.kind) := T2.b2.cell 0
    have y2_1 : W2.cell? ⟨w.heap.size + 1, 1, none⟩ = some (.int .i64 r.seq) := T2.b2.cell 1
    have y2_2 : W2.cell? ⟨w.heap.size + 1, 2, none⟩ = some (.string r.name) := T2.b2.cell 2
    have y2_3 : W2.cell? ⟨w.heap.size + 1, 3, none⟩ = some (.int .i64 r.length) := T2.b2.cell 3
    have y2_4 : W2.cell? ⟨w.heap.size + 1, 4, none⟩ = some (.int .i64 r.group) := T2.b2.cell 4
    have y2_5 : W2.cell? ⟨w.heap.size + 1, 5, none⟩ = some (.int .i64 r.row) := T2.b2.cell 5
    have y2_6 : W2.cell? ⟨w.heap.size + 1, 6, none⟩ = some (.slice ao6 r.rows.1 cap6) := T2.b2.cell 6
    have y2_7 : W2.cell? ⟨w.heap.size + 1, 7, none⟩ = some (.slice ao7 r.data.1 cap7) := T2.b2.cell 7
    have y2_8 : W2.cell? ⟨w.heap.size + 1, 8, none⟩ = some (.slice ao8 r.delta.1 cap8) := T2.b2.cell 8
    clear T2 X2
    by_cases hok : 1 ≤ r.length ∧ r.length ≤ 3 * (s 2 * 4)
    · have hpp : pc = 0 ∧ pv = (r.length + s 2 * 4 - 1) / (s 2 * 4) := by
        rcases hp with ⟨h1, _⟩ | ⟨_, h1, _⟩ | ⟨_, h1, h2, _⟩ | ⟨_, _, _, h1, h2⟩
        · exact absurd hs h1
        · omega
        · omega
        · exact ⟨h1, h2⟩
      obtain ⟨rfl, hpv⟩ := hpp
      have HPV : Hid (pv = (r.length + s 2 * 4 - 1) / (s 2 * 4)) := hpv
      have HOK : Hid (1 ≤ r.length ∧ r.length ≤ 3 * (s 2 * 4)) := hok
      clear hp hpv hs
      by_cases hd : 0 < r.data.1
      · have d1 : decide (0 < (r.data.1 : Int)) = true := by simp; omega
        obtain ⟨b0, h0⟩ : ∃ b, ((r.data.1 : Int) == r.length) = b := ⟨_, rfl⟩
        obtain ⟨b1, h1⟩ : ∃ b, ((r.rows.1 : Int) == 0) = b := ⟨_, rfl⟩
        have HE : Hid (ItemP s r ↔ (b0 = true ∧ b1 = true)) := by
          show ItemP s r ↔ _
          rw [← h0, ← h1]
          unfold ItemP
          have := HL.out
          have := HOK.out
          constructor
          · rintro (h | ⟨_, _, _, h | h⟩)
            · omega
            · simp; omega
            · omega
          · intro h
            simp at h
            exact .inr ⟨by omega, by omega, by omega, .inl ⟨hd, h.1, h.2⟩⟩
        have hst : b0 = false ∨ (b0 = true ∧ b1 = false) ∨ (b0 = true ∧ b1 = true) := by
          clear HE h0 h1
          cases b0 <;> simp
        clear hok
        rcases hst with rfl | ⟨rfl, rfl⟩ | ⟨rfl, rfl⟩
        all_goals
          go_wp2
          go_ret
          first
            | exact boolNo rfl (fun h => by have := HE.out.1 h; simp at this) HT2.out.bel
            | exact boolYes rfl (HE.out.2 (by simp)) HT2.out.bel
      · have d1 : decide (0 < (r.data.1 : Int)) = false := by simp; omega
        have hd0 : r.data.1 = 0 := by omega
        obtain ⟨t2, h2⟩ := exB (ApartP r.rows.1 r.rows.2 (s 4 - 1))
        have cQ := det_b (differWithin_any _ r.rows.1 r.rows.2 hi (s 4) (by omega) (by omega) W2 (H6.out.below HT2.out.bel hhi) HCP.out (Nat.le_trans hhi HT2.out.bel.size)) h2
        obtain ⟨b0, h0⟩ : ∃ b, ((r.rows.1 : Int) == pv) = b := ⟨_, rfl⟩
        have HE : Hid (ItemP s r ↔ (b0 = true ∧ t2 = true)) := by
          show ItemP s r ↔ _
          rw [← h0, h2, HPV.out]
          unfold ItemP
          have := HL.out
          have := HOK.out
          constructor
          · rintro (h | ⟨_, _, _, h | h⟩)
            · omega
            · omega
            · exact ⟨by simpa using h.2.1, h.2.2⟩
          · intro h
            exact .inr ⟨by omega, by omega, by omega, .inr ⟨hd0, by simpa using h.1, h.2⟩⟩
        clear hok h2 hd0
        cases b0 with
        | false =>
          go_wp2
          go_ret
          exact boolNo rfl (fun h => by have := HE.out.1 h; simp at this) HT2.out.bel
        | true =>
          go_wp2_with fail
          refine cQ.mono ?_
          rintro e w3 ⟨rfl, b3⟩
          have HB3 : Hid (Below w.heap.size w w3) := (HT2.out.call b3).bel
          clear b3 cQ
          go_wp2
          go_ret
          cases t2 with
          | true => exact boolYes rfl (HE.out.2 (by simp)) HB3.out
          | false => exact boolNo rfl (fun h => by have := HE.out.1 h; simp at this) HB3.out
    · have hc0 : (pc != 0) = true := by
        have : pc ≠ 0 := by
          rcases hp with ⟨h1, h2, _⟩ | ⟨_, h1, h2, _⟩ | ⟨_, h1, h2, h3, _⟩ | ⟨_, h1, h2, h3, _⟩
          · omega
          · omega
          · omega
          · omega
        simp [this]
      have HNO : Hid (¬ ItemP s r) := fun h => by
        have := HL.out
        unfold ItemP at h
        omega
      clear hp hok
      go_wp2
      go_ret
      exact boolNo rfl HNO.out HT2.out.bel
end Go.Proofs.Ytgpglgchbimmaaa

namespace Go.Proofs.Ytgpglgchbimmaaa
open Go.RowKit F256
set_option linter.unusedVariables false
set_option linter.unusedSimpArgs false

/-- the least number that may come next -/
def leastN (g : Nat → Int) : Nat → Int
  | 0 => 0
  | k + 1 => g k + 1
theorem rise_next {g : Nat → Int} {most : Int} {k : Nat} (h : RiseP k g most) (h1 : leastN g k ≤ g k) (h2 : g k ≤ most) : RiseP (k + 1) g most := fun i hi => by
  by_cases c : i = k
  · subst c
    cases i with
    | zero => exact ⟨h1, h2, fun h0 => by omega⟩
    | succ j =>
      have := (h j (by omega)).1
      simp only [leastN] at h1
      exact ⟨by omega, h2, fun _ => by rw [show j + 1 - 1 = j by omega]; omega⟩
  · exact h i (by omega)
theorem rise_least {g : Nat → Int} {most : Int} {n k : Nat} (h : RiseP n g most) (hk : k < n) : leastN g k ≤ g k := by
  cases k with
  | zero => exact (h 0 hk).1
  | succ j =>
    have := (h (j + 1) hk).2.2 (by omega)
    rw [show j + 1 - 1 = j by omega] at this
    simp only [leastN]
    omega

set_option maxHeartbeats 2000000 in
theorem risesWithin_any (v : Value) (n : Nat) (g : Nat → Int) (hi : Nat) (bound : Int) (hb : bound ≤ 1000000) (w : World) (r : RdI w hi v n g) :
    Calls Try.prog 89 #[v, .int .i64 bound] w (BoolP (RiseP n g (bound - 1)) w) := by
  obtain ⟨ao, cap, rfl, hm, hc⟩ := r
  unfold maxLen at hm
  go_enter Try.func89, Try.ntmps89
  go_wp2
  go_loop [5, 10] (fun l i => ∃ k : Nat, k ≤ n ∧ i = .int .i64 k ∧ l = .int .i64 (leastN g k) ∧ RiseP k g (bound - 1)) (fun _ i => n - (intOf i).toNat)
  case atStart => exact ⟨0, Nat.zero_le _, rfl, rfl, fun i hi => by omega⟩
  case round =>
    obtain ⟨k, hk, rfl, rfl, hall⟩ := hrel
    have HALL : Hid (RiseP k g (bound - 1)) := hall
    clear hall
    by_cases hlt : k < n
    · obtain ⟨b, off, rfl, hblt, hcell⟩ := hc (by omega)
      have hck : w.cell? ⟨b, off + k, none⟩ = some (.int .i64 (g k)) := hcell k hlt
      obtain ⟨x, hx⟩ : ∃ x, x = g k := ⟨_, rfl⟩
      have HX : Hid (x = g k) := hx
      rw [← hx] at hck
      obtain ⟨l, hl⟩ : ∃ l, l = leastN g k := ⟨_, rfl⟩
      have HL : Hid (l = leastN g k) := hl
      rw [← hl]
      have hl0 : 0 ≤ l := by
        rw [hl]
        cases k with
        | zero => exact Int.le_refl _
        | succ j =>
          have := (HALL.out j (by omega)).1
          simp only [leastN]
          omega
      clear hc hcell hx hl
      by_cases h1 : x < l
      · have HNO : Hid (¬ RiseP n g (bound - 1)) := fun h => by
          have := rise_least h hlt
          rw [← HX.out, ← HL.out] at this
          omega
        go_wp2
        go_ret
        exact boolNo rfl HNO.out (Below.refl _ _)
      · have e1 : decide (x < l) = false := by simp; omega
        by_cases h2 : bound ≤ x
        · have HNO : Hid (¬ RiseP n g (bound - 1)) := fun h => by
            have := (h k hlt).2.1
            rw [← HX.out] at this
            omega
          clear h1
          go_wp2
          go_ret
          exact boolNo rfl HNO.out (Below.refl _ _)
        · have e2 : decide (bound ≤ x) = false := by simp; omega
          have HRN : Hid (RiseP (k + 1) g (bound - 1)) := rise_next HALL.out (by rw [← HX.out, ← HL.out]; omega) (by rw [← HX.out]; omega)
          have hxb : x ≤ 1000000 := by omega
          have hx0 : 0 ≤ x := by omega
          have HLN : Hid (x + 1 = leastN g (k + 1)) := by show x + 1 = g k + 1; rw [HX.out]
          have wadd : IntKind.i64.wrap (x + 1) = x + 1 := by rw [IntKind.wrap_i64]; omega
          clear h1 h2
          go_wp2
          go_round
          case rel => exact ⟨k + 1, by omega, by go_num, by rw [← HLN.out], HRN.out⟩
          case measure => simp [intOf]; omega
    · obtain rfl : k = n := by omega
      clear hc
      go_wp2
      go_ret
      exact boolYes rfl HALL.out (Below.refl _ _)

end Go.Proofs.Ytgpglgchbimmaaa
