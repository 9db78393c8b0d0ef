/- Walks: records and tapes compared. -/
import Derived.Test.YtgpglgchbimmaaaCells
import Derived.Test.YtgpglgchbimmaaaWShape
import Derived.Deep.RegionLaw
namespace Go.Proofs.Ytgpglgchbimmaaa
open Go.RowKit F256
set_option linter.unusedVariables false
set_option linter.unusedSimpArgs false
set_option maxHeartbeats 8000000 in
set_option maxRecDepth 20000 in
theorem eqRec_is : EqV layRec 15 := fun c1 c2 d h1 h2 w r1 r2 u1 u2 => by
  obtain ⟨ao6, cap6, ao7, cap7, ao8, cap8, rfl, g6, g7, g8, -⟩ := Rec_rd r1
  obtain ⟨bao6, bcap6, bao7, bcap7, bao8, bcap8, rfl, q6, q7, q8, -⟩ := Rec_rd r2
  clear r1 r2
  have G6 : Hid (layInts.rd w h1 d.rows [.slice ao6 d.rows.1 cap6]) := g6
  have E6 : Hid (layInts.rd w h2 d.rows [.slice bao6 d.rows.1 bcap6]) := q6
  have G7 : Hid (layBytes.rd w h1 d.data [.slice ao7 d.data.1 cap7]) := g7
  have E7 : Hid (layBytes.rd w h2 d.data [.slice bao7 d.data.1 bcap7]) := q7
  have G8 : Hid (layBytes.rd w h1 d.delta [.slice ao8 d.delta.1 cap8]) := g8
  have E8 : Hid (layBytes.rd w h2 d.delta [.slice bao8 d.delta.1 bcap8]) := q8
  clear g6 q6 g7 q7 g8 q8
  go_enter Try.func15, Try.ntmps15
  go_wp2_with fail
  have T0 := two_newb w #[.int .i64 d.kind, .int .i64 d.seq, .string d.name, .int .i64 d.length, .int .i64 d.group, .int .i64 d.row, .slice ao6 d.rows.1 cap6, .slice ao7 d.data.1 cap7, .slice ao8 d.delta.1 cap8] #[.int .i64 d.kind, .int .i64 d.seq, .string d.name, .int .i64 d.length, .int .i64 d.group, .int .i64 d.row, .slice bao6 d.rows.1 bcap6, .slice bao7 d.data.1 bcap7, .slice bao8 d.delta.1 bcap8] 45 45
  refine (eqInts_is _ _ d.rows h1 h2 _ (layInts.rd_below G6.out T0.bel u1) (layInts.rd_below E6.out T0.bel u2) (Nat.le_trans u1 T0.bel.size) (Nat.le_trans u2 T0.bel.size)).mono ?_
  rintro e w1 ⟨rfl, b1⟩
  have T1 : Two w w1 #[.int .i64 d.kind, .int .i64 d.seq, .string d.name, .int .i64 d.length, .int .i64 d.group, .int .i64 d.row, .slice ao6 d.rows.1 cap6, .slice ao7 d.data.1 cap7, .slice ao8 d.delta.1 cap8] #[.int .i64 d.kind, .int .i64 d.seq, .string d.name, .int .i64 d.length, .int .i64 d.group, .int .i64 d.row, .slice bao6 d.rows.1 bcap6, .slice bao7 d.data.1 bcap7, .slice bao8 d.delta.1 bcap8] 45 45 := T0.call b1
  clear T0 b1
  have x1_7 : w1.cell? ⟨w.heap.size, 7, none⟩ = some (.slice ao7 d.data.1 cap7) := T1.b1.cell 7
  have y1_7 : w1.cell? ⟨w.heap.size + 1, 7, none⟩ = some (.slice bao7 d.data.1 bcap7) := T1.b2.cell 7
  go_wp2_with fail
  refine (eqBytes_is _ _ d.data h1 h2 _ (layBytes.rd_below G7.out T1.bel u1) (layBytes.rd_below E7.out T1.bel u2) (Nat.le_trans u1 T1.bel.size) (Nat.le_trans u2 T1.bel.size)).mono ?_
  rintro e w2 ⟨rfl, b2⟩
  have T2 : Two w w2 #[.int .i64 d.kind, .int .i64 d.seq, .string d.name, .int .i64 d.length, .int .i64 d.group, .int .i64 d.row, .slice ao6 d.rows.1 cap6, .slice ao7 d.data.1 cap7, .slice ao8 d.delta.1 cap8] #[.int .i64 d.kind, .int .i64 d.seq, .string d.name, .int .i64 d.length, .int .i64 d.group, .int .i64 d.row, .slice bao6 d.rows.1 bcap6, .slice bao7 d.data.1 bcap7, .slice bao8 d.delta.1 bcap8] 45 45 := T1.call b2
  clear T1 b2
  have x2_8 : w2.cell? ⟨w.heap.size, 8, none⟩ = some (.slice ao8 d.delta.1 cap8) := T2.b1.cell 8
  have y2_8 : w2.cell? ⟨w.heap.size + 1, 8, none⟩ = some (.slice bao8 d.delta.1 bcap8) := T2.b2.cell 8
  go_wp2_with fail
  refine (eqBytes_is _ _ d.delta h1 h2 _ (layBytes.rd_below G8.out T2.bel u1) (layBytes.rd_below E8.out T2.bel u2) (Nat.le_trans u1 T2.bel.size) (Nat.le_trans u2 T2.bel.size)).mono ?_
  rintro e w3 ⟨rfl, b3⟩
  have T3 : Two w w3 #[.int .i64 d.kind, .int .i64 d.seq, .string d.name, .int .i64 d.length, .int .i64 d.group, .int .i64 d.row, .slice ao6 d.rows.1 cap6, .slice ao7 d.data.1 cap7, .slice ao8 d.delta.1 cap8] #[.int .i64 d.kind, .int .i64 d.seq, .string d.name, .int .i64 d.length, .int .i64 d.group, .int .i64 d.row, .slice bao6 d.rows.1 bcap6, .slice bao7 d.data.1 bcap7, .slice bao8 d.delta.1 bcap8] 45 45 := T2.call b3
  clear T2 b3
  have B : Hid (Below w.heap.size w w3) := T3.bel
  clear T3
  go_wp2
  go_ret
  exact ⟨rfl, B.out⟩
set_option maxHeartbeats 4000000 in
theorem eqRecS_is : EqS (layRec.slice 45) 86 := fun v1 v2 d h1 h2 w r1 r2 u1 u2 => by
  obtain ⟨n, x⟩ := d
  obtain ⟨ao, cap, hv, hm, hc⟩ := r1
  cases hv
  obtain ⟨ao', cap', hv', hm', hc'⟩ := r2
  cases hv'
  simp only at hm hc hc'
  unfold maxLen at hm
  clear hm'
  go_enter Try.func86, Try.ntmps86
  go_wp2
  go_loopw [5] (fun i wr => ∃ k : Nat, k ≤ n ∧ i = .int .i64 k ∧ Below w.heap.size w wr) (fun i _ => n - (intOf i).toNat)
  case atStart => exact ⟨0, Nat.zero_le _, rfl, Below.refl _ _⟩
  case round =>
    obtain ⟨k, hk, rfl, hb⟩ := hrel
    by_cases hlt : k < n
    · obtain ⟨b, off, rfl, hblt, hel⟩ := hc (by omega)
      obtain ⟨b', off', rfl, hblt', hel'⟩ := hc' (by omega)
      obtain ⟨ck, hrk, hcell⟩ := elem_rd (t := 0) hel (below_drewN hb 1) u1 hblt hlt
      obtain ⟨ck', hrk', hcell'⟩ := elem_rd (t := 0) hel' (below_drewN hb 1) u2 hblt' hlt
      obtain ⟨ao6, cap6, ao7, cap7, ao8, cap8, rfl, -⟩ := Rec_rd hrk
      obtain ⟨bao6, bcap6, bao7, bcap7, bao8, bcap8, rfl, -⟩ := Rec_rd hrk'
      have c0 : wr.cell? ⟨b, off + k * 9, none⟩ = some (.int .i64 (x k).kind) := hcell 0 (by decide)
      have c1 : wr.cell? ⟨b, off + k * 9 + 1, none⟩ = some (.int .i64 (x k).seq) := hcell 1 (by decide)
      have c2 : wr.cell? ⟨b, off + k * 9 + 2, none⟩ = some (.string (x k).name) := hcell 2 (by decide)
      have c3 : wr.cell? ⟨b, off + k * 9 + 3, none⟩ = some (.int .i64 (x k).length) := hcell 3 (by decide)
      have c4 : wr.cell? ⟨b, off + k * 9 + 4, none⟩ = some (.int .i64 (x k).group) := hcell 4 (by decide)
      have c5 : wr.cell? ⟨b, off + k * 9 + 5, none⟩ = some (.int .i64 (x k).row) := hcell 5 (by decide)
      have c6 : wr.cell? ⟨b, off + k * 9 + 6, none⟩ = some (.slice ao6 (x k).rows.1 cap6) := hcell 6 (by decide)
      have c7 : wr.cell? ⟨b, off + k * 9 + 7, none⟩ = some (.slice ao7 (x k).data.1 cap7) := hcell 7 (by decide)
      have c8 : wr.cell? ⟨b, off + k * 9 + 8, none⟩ = some (.slice ao8 (x k).delta.1 cap8) := hcell 8 (by decide)
      have e0 : wr.cell? ⟨b', off' + k * 9, none⟩ = some (.int .i64 (x k).kind) := hcell' 0 (by decide)
      have e1 : wr.cell? ⟨b', off' + k * 9 + 1, none⟩ = some (.int .i64 (x k).seq) := hcell' 1 (by decide)
      have e2 : wr.cell? ⟨b', off' + k * 9 + 2, none⟩ = some (.string (x k).name) := hcell' 2 (by decide)
      have e3 : wr.cell? ⟨b', off' + k * 9 + 3, none⟩ = some (.int .i64 (x k).length) := hcell' 3 (by decide)
      have e4 : wr.cell? ⟨b', off' + k * 9 + 4, none⟩ = some (.int .i64 (x k).group) := hcell' 4 (by decide)
      have e5 : wr.cell? ⟨b', off' + k * 9 + 5, none⟩ = some (.int .i64 (x k).row) := hcell' 5 (by decide)
      have e6 : wr.cell? ⟨b', off' + k * 9 + 6, none⟩ = some (.slice bao6 (x k).rows.1 bcap6) := hcell' 6 (by decide)
      have e7 : wr.cell? ⟨b', off' + k * 9 + 7, none⟩ = some (.slice bao7 (x k).data.1 bcap7) := hcell' 7 (by decide)
      have e8 : wr.cell? ⟨b', off' + k * 9 + 8, none⟩ = some (.slice bao8 (x k).delta.1 bcap8) := hcell' 8 (by decide)
      have C1 := eqRec_is _ _ (x k) h1 h2 (wr.drewN 1) hrk hrk' (Nat.le_trans u1 hb.size) (Nat.le_trans u2 hb.size)
      clear hc hc' hel hel' hcell hcell' hrk hrk'
      go_wp2
      go_region_with (go_at_call 15; refine C1.mono ?_; rintro ee w2 ⟨rfl, hb2⟩)
      all_goals
        have R' : Below w.heap.size w w2 := hb.trans ((below_drewN (Below.refl wr.heap.size wr) 1).trans hb2 |>.mono hb.size)
        clear hb2
        go_wp2
        go_roundw
        case rel => exact ⟨k + 1, by omega, by go_num, R'⟩
        case measure => simp [intOf]; omega
    · obtain rfl : k = n := by omega
      go_wp2
      go_ret
      exact ⟨rfl, hb⟩
set_option maxHeartbeats 8000000 in
set_option maxRecDepth 20000 in
theorem eqTape_is : EqV layTape 67 := fun c1 c2 d h1 h2 w r1 r2 u1 u2 => by
  obtain ⟨ao1, cap1, rfl, g1⟩ := Tape_rd r1
  obtain ⟨bao1, bcap1, rfl, q1⟩ := Tape_rd r2
  clear r1 r2
  have G1 : Hid ((layRec.slice 45).rd w h1 d.recs [.slice ao1 d.recs.1 cap1]) := g1
  have E1 : Hid ((layRec.slice 45).rd w h2 d.recs [.slice bao1 d.recs.1 bcap1]) := q1
  clear g1 q1
  go_enter Try.func67, Try.ntmps67
  go_wp2_with fail
  have T0 := two_newb w #[.bool d.wiped, .slice ao1 d.recs.1 cap1] #[.bool d.wiped, .slice bao1 d.recs.1 bcap1] 57 57
  refine (eqRecS_is _ _ d.recs h1 h2 _ ((layRec.slice 45).rd_below G1.out T0.bel u1) ((layRec.slice 45).rd_below E1.out T0.bel u2) (Nat.le_trans u1 T0.bel.size) (Nat.le_trans u2 T0.bel.size)).mono ?_
  rintro e w1 ⟨rfl, b1⟩
  have T1 : Two w w1 #[.bool d.wiped, .slice ao1 d.recs.1 cap1] #[.bool d.wiped, .slice bao1 d.recs.1 bcap1] 57 57 := T0.call b1
  clear T0 b1
  have B : Hid (Below w.heap.size w w1) := T1.bel
  clear T1
  go_wp2
  go_ret
  exact ⟨rfl, B.out⟩
set_option maxHeartbeats 4000000 in
theorem eqTapeS_is : EqS (layTape.slice 57) 38 := fun v1 v2 d h1 h2 w r1 r2 u1 u2 => by
  obtain ⟨n, x⟩ := d
  obtain ⟨ao, cap, hv, hm, hc⟩ := r1
  cases hv
  obtain ⟨ao', cap', hv', hm', hc'⟩ := r2
  cases hv'
  simp only at hm hc hc'
  unfold maxLen at hm
  clear hm'
  go_enter Try.func38, Try.ntmps38
  go_wp2
  go_loopw [5] (fun i wr => ∃ k : Nat, k ≤ n ∧ i = .int .i64 k ∧ Below w.heap.size w wr) (fun i _ => n - (intOf i).toNat)
  case atStart => exact ⟨0, Nat.zero_le _, rfl, Below.refl _ _⟩
  case round =>
    obtain ⟨k, hk, rfl, hb⟩ := hrel
    by_cases hlt : k < n
    · obtain ⟨b, off, rfl, hblt, hel⟩ := hc (by omega)
      obtain ⟨b', off', rfl, hblt', hel'⟩ := hc' (by omega)
      obtain ⟨ck, hrk, hcell⟩ := elem_rd (t := 0) hel (below_drewN hb 1) u1 hblt hlt
      obtain ⟨ck', hrk', hcell'⟩ := elem_rd (t := 0) hel' (below_drewN hb 1) u2 hblt' hlt
      obtain ⟨ao1, cap1, rfl, -⟩ := Tape_rd hrk
      obtain ⟨bao1, bcap1, rfl, -⟩ := Tape_rd hrk'
      have c0 : wr.cell? ⟨b, off + k * 2, none⟩ = some (.bool (x k).wiped) := hcell 0 (by decide)
      have c1 : wr.cell? ⟨b, off + k * 2 + 1, none⟩ = some (.slice ao1 (x k).recs.1 cap1) := hcell 1 (by decide)
      have e0 : wr.cell? ⟨b', off' + k * 2, none⟩ = some (.bool (x k).wiped) := hcell' 0 (by decide)
      have e1 : wr.cell? ⟨b', off' + k * 2 + 1, none⟩ = some (.slice bao1 (x k).recs.1 bcap1) := hcell' 1 (by decide)
      have C1 := eqTape_is _ _ (x k) h1 h2 (wr.drewN 1) hrk hrk' (Nat.le_trans u1 hb.size) (Nat.le_trans u2 hb.size)
      clear hc hc' hel hel' hcell hcell' hrk hrk'
      go_wp2
      go_region_with (go_at_call 67; refine C1.mono ?_; rintro ee w2 ⟨rfl, hb2⟩)
      all_goals
        have R' : Below w.heap.size w w2 := hb.trans ((below_drewN (Below.refl wr.heap.size wr) 1).trans hb2 |>.mono hb.size)
        clear hb2
        go_wp2
        go_roundw
        case rel => exact ⟨k + 1, by omega, by go_num, R'⟩
        case measure => simp [intOf]; omega
    · obtain rfl : k = n := by omega
      go_wp2
      go_ret
      exact ⟨rfl, hb⟩
end Go.Proofs.Ytgpglgchbimmaaa
