/- Walks: copies of records and tapes. -/
import Derived.Test.YtgpglgchbimmaaaCells
import Derived.Test.YtgpglgchbimmaaaWShape
namespace Go.Proofs.Ytgpglgchbimmaaa
open Go.RowKit F256
set_option linter.unusedVariables false
set_option linter.unusedSimpArgs false
set_option maxHeartbeats 8000000 in
set_option maxRecDepth 20000 in
theorem toRec_is : ToV layRec szRecD 13 := fun cs d hi w r hhi hn => by
  obtain ⟨ao6, cap6, ao7, cap7, ao8, cap8, rfl, h6, h7, h8, k0, k1, k2, k3, k4, k5⟩ := Rec_rd r
  clear r
  unfold szRecD at hn
  have R6 : Hid (layInts.rd w hi d.rows [.slice ao6 d.rows.1 cap6]) := h6
  have R7 : Hid (layBytes.rd w hi d.data [.slice ao7 d.data.1 cap7]) := h7
  have R8 : Hid (layBytes.rd w hi d.delta [.slice ao8 d.delta.1 cap8]) := h8
  clear h6 h7 h8
  have Q0 : Hid ((-9223372036854775808 ≤ d.kind ∧ d.kind ≤ 9223372036854775807)) := k0
  have Q1 : Hid ((-9223372036854775808 ≤ d.seq ∧ d.seq ≤ 9223372036854775807)) := k1
  have Q2 : Hid (d.name.size ≤ maxLen) := k2
  have Q3 : Hid ((-9223372036854775808 ≤ d.length ∧ d.length ≤ 9223372036854775807)) := k3
  have Q4 : Hid ((-9223372036854775808 ≤ d.group ∧ d.group ≤ 9223372036854775807)) := k4
  have Q5 : Hid ((-9223372036854775808 ≤ d.row ∧ d.row ≤ 9223372036854775807)) := k5
  clear k0 k1 k2 k3 k4 k5
  go_enter Try.func13, Try.ntmps13
  go_wp2_with fail
  have T0 := three_newb w #[.int .i64 d.kind, .int .i64 d.seq, .string d.name, .int .i64 d.length, .int .i64 d.group, .int .i64 d.row, .slice ao6 d.rows.1 cap6, .slice ao7 d.data.1 cap7, .slice ao8 d.delta.1 cap8] #[.int .i64 0, .int .i64 0, .string ByteArray.empty, .int .i64 0, .int .i64 0, .int .i64 0, .slice none 0 0, .slice none 0 0, .slice none 0 0] #[.int .i64 d.kind, .int .i64 d.seq, .string d.name, .int .i64 d.length, .int .i64 d.group, .int .i64 d.row, .slice none 0 0, .slice none 0 0, .slice none 0 0] 41 45 45
  refine (toInts_is _ d.rows hi _ (layInts.rd_below R6.out T0.bel hhi) (Nat.le_trans hhi T0.bel.size) (by omega)).mono ?_
  rintro e w1 ⟨v1, rfl, o1, b1⟩
  have L1 := T0.lt
  obtain ⟨bo6, bcap6, hv⟩ := ints_formT o1
  obtain rfl := one_eq hv
  clear hv
  have T1 : Three w w1 #[.int .i64 d.kind, .int .i64 d.seq, .string d.name, .int .i64 d.length, .int .i64 d.group, .int .i64 d.row, .slice ao6 d.rows.1 cap6, .slice ao7 d.data.1 cap7, .slice ao8 d.delta.1 cap8] #[.int .i64 0, .int .i64 0, .string ByteArray.empty, .int .i64 0, .int .i64 0, .int .i64 0, .slice none 0 0, .slice none 0 0, .slice none 0 0] #[.int .i64 d.kind, .int .i64 d.seq, .string d.name, .int .i64 d.length, .int .i64 d.group, .int .i64 d.row, .slice none 0 0, .slice none 0 0, .slice none 0 0] 41 45 45 := T0.call b1
  have O6 : Hid (OwnT layInts w1 (w.heap.size + 1 + 1 + 1) (w1.heap.size) d.rows [.slice bo6 d.rows.1 bcap6]) := o1.weaken (by simp <;> omega) (Nat.le_refl _)
  clear o1
  have LT1 : w.heap.size + 1 + 1 + 1 ≤ w1.heap.size := T1.lt
  have x1_7 : w1.cell? ⟨w.heap.size, 7, none⟩ = some (.slice ao7 d.data.1 cap7) := T1.b1.cell 7
  have y1_6 : w1.cell? ⟨w.heap.size + 1 + 1, 6, none⟩ = some (.slice none 0 0) := T1.b3.cell 6
  have yf1_6 : w1.frozen? ⟨w.heap.size + 1 + 1, 6, none⟩ = false := T1.b3.frozen 6
  have V1 : Three w (w1.setCell ⟨w.heap.size + 1 + 1, 6, none⟩ (.slice bo6 d.rows.1 bcap6)) #[.int .i64 d.kind, .int .i64 d.seq, .string d.name, .int .i64 d.length, .int .i64 d.group, .int .i64 d.row, .slice ao6 d.rows.1 cap6, .slice ao7 d.data.1 cap7, .slice ao8 d.delta.1 cap8] #[.int .i64 0, .int .i64 0, .string ByteArray.empty, .int .i64 0, .int .i64 0, .int .i64 0, .slice none 0 0, .slice none 0 0, .slice none 0 0] #[.int .i64 d.kind, .int .i64 d.seq, .string d.name, .int .i64 d.length, .int .i64 d.group, .int .i64 d.row, .slice bo6 d.rows.1 bcap6, .slice none 0 0, .slice none 0 0] 41 45 45 := T1.st3 6 [.slice bo6 d.rows.1 bcap6] (c3' := [.int .i64 d.kind, .int .i64 d.seq, .string d.name, .int .i64 d.length, .int .i64 d.group, .int .i64 d.row, .slice bo6 d.rows.1 bcap6, .slice none 0 0, .slice none 0 0]) rfl
  clear T1 b1
  go_wp2_with fail
  refine (toBytes_is _ d.data hi _ (layBytes.rd_below R7.out V1.bel hhi) (Nat.le_trans hhi V1.bel.size) (by omega)).mono ?_
  rintro e w2 ⟨v2, rfl, o2, b2⟩
  have L2 := V1.lt
  obtain ⟨bo7, bcap7, hv⟩ := bytes_formT o2
  obtain rfl := one_eq hv
  clear hv
  have T2 : Three w w2 #[.int .i64 d.kind, .int .i64 d.seq, .string d.name, .int .i64 d.length, .int .i64 d.group, .int .i64 d.row, .slice ao6 d.rows.1 cap6, .slice ao7 d.data.1 cap7, .slice ao8 d.delta.1 cap8] #[.int .i64 0, .int .i64 0, .string ByteArray.empty, .int .i64 0, .int .i64 0, .int .i64 0, .slice none 0 0, .slice none 0 0, .slice none 0 0] #[.int .i64 d.kind, .int .i64 d.seq, .string d.name, .int .i64 d.length, .int .i64 d.group, .int .i64 d.row, .slice bo6 d.rows.1 bcap6, .slice none 0 0, .slice none 0 0] 41 45 45 := V1.call b2
  have O6x : OwnT layInts w2 (w.heap.size + 1 + 1 + 1) (w1.heap.size) d.rows [.slice bo6 d.rows.1 bcap6] := ((O6.out).set (show w.heap.size + 1 + 1 < _ by omega)).call b2
  clear O6
  have O6 : Hid (OwnT layInts w2 (w.heap.size + 1 + 1 + 1) (w1.heap.size) d.rows [.slice bo6 d.rows.1 bcap6]) := O6x
  clear O6x
  have O7 : Hid (OwnT layBytes w2 (w1.heap.size) (w2.heap.size) d.data [.slice bo7 d.data.1 bcap7]) := o2.weaken (by simp <;> omega) (Nat.le_refl _)
  clear o2
  have LT2 : w.heap.size + 1 + 1 + 1 ≤ w2.heap.size := T2.lt
  have S2 : w1.heap.size ≤ w2.heap.size := by
    have := b2.size
    simpa using this
  have x2_8 : w2.cell? ⟨w.heap.size, 8, none⟩ = some (.slice ao8 d.delta.1 cap8) := T2.b1.cell 8
  have y2_7 : w2.cell? ⟨w.heap.size + 1 + 1, 7, none⟩ = some (.slice none 0 0) := T2.b3.cell 7
  have yf2_7 : w2.frozen? ⟨w.heap.size + 1 + 1, 7, none⟩ = false := T2.b3.frozen 7
  have V2 : Three w (w2.setCell ⟨w.heap.size + 1 + 1, 7, none⟩ (.slice bo7 d.data.1 bcap7)) #[.int .i64 d.kind, .int .i64 d.seq, .string d.name, .int .i64 d.length, .int .i64 d.group, .int .i64 d.row, .slice ao6 d.rows.1 cap6, .slice ao7 d.data.1 cap7, .slice ao8 d.delta.1 cap8] #[.int .i64 0, .int .i64 0, .string ByteArray.empty, .int .i64 0, .int .i64 0, .int .i64 0, .slice none 0 0, .slice none 0 0, .slice none 0 0] #[.int .i64 d.kind, .int .i64 d.seq, .string d.name, .int .i64 d.length, .int .i64 d.group, .int .i64 d.row, .slice bo6 d.rows.1 bcap6, .slice bo7 d.data.1 bcap7, .slice none 0 0] 41 45 45 := T2.st3 7 [.slice bo7 d.data.1 bcap7] (c3' := [.int .i64 d.kind, .int .i64 d.seq, .string d.name, .int .i64 d.length, .int .i64 d.group, .int .i64 d.row, .slice bo6 d.rows.1 bcap6, .slice bo7 d.data.1 bcap7, .slice none 0 0]) rfl
  clear T2 b2
  go_wp2_with fail
  refine (toBytes_is _ d.delta hi _ (layBytes.rd_below R8.out V2.bel hhi) (Nat.le_trans hhi V2.bel.size) (by omega)).mono ?_
  rintro e w3 ⟨v3, rfl, o3, b3⟩
  have L3 := V2.lt
  obtain ⟨bo8, bcap8, hv⟩ := bytes_formT o3
  obtain rfl := one_eq hv
  clear hv
  have T3 : Three w w3 #[.int .i64 d.kind, .int .i64 d.seq, .string d.name, .int .i64 d.length, .int .i64 d.group, .int .i64 d.row, .slice ao6 d.rows.1 cap6, .slice ao7 d.data.1 cap7, .slice ao8 d.delta.1 cap8] #[.int .i64 0, .int .i64 0, .string ByteArray.empty, .int .i64 0, .int .i64 0, .int .i64 0, .slice none 0 0, .slice none 0 0, .slice none 0 0] #[.int .i64 d.kind, .int .i64 d.seq, .string d.name, .int .i64 d.length, .int .i64 d.group, .int .i64 d.row, .slice bo6 d.rows.1 bcap6, .slice bo7 d.data.1 bcap7, .slice none 0 0] 41 45 45 := V2.call b3
  have O6x : OwnT layInts w3 (w.heap.size + 1 + 1 + 1) (w1.heap.size) d.rows [.slice bo6 d.rows.1 bcap6] := ((O6.out).set (show w.heap.size + 1 + 1 < _ by omega)).call b3
  clear O6
  have O6 : Hid (OwnT layInts w3 (w.heap.size + 1 + 1 + 1) (w1.heap.size) d.rows [.slice bo6 d.rows.1 bcap6]) := O6x
  clear O6x
  have O7x : OwnT layBytes w3 (w1.heap.size) (w2.heap.size) d.data [.slice bo7 d.data.1 bcap7] := ((O7.out).set (show w.heap.size + 1 + 1 < _ by omega)).call b3
  clear O7
  have O7 : Hid (OwnT layBytes w3 (w1.heap.size) (w2.heap.size) d.data [.slice bo7 d.data.1 bcap7]) := O7x
  clear O7x
  have O8 : Hid (OwnT layBytes w3 (w2.heap.size) (w3.heap.size) d.delta [.slice bo8 d.delta.1 bcap8]) := o3.weaken (by simp <;> omega) (Nat.le_refl _)
  clear o3
  have LT3 : w.heap.size + 1 + 1 + 1 ≤ w3.heap.size := T3.lt
  have S3 : w2.heap.size ≤ w3.heap.size := by
    have := b3.size
    simpa using this
  have y3_0 : w3.cell? ⟨w.heap.size + 1 + 1, 0, none⟩ = some (.int .i64 d.kind) := T3.b3.cell 0
  have y3_1 : w3.cell? ⟨w.heap.size + 1 + 1, 1, none⟩ = some (.int .i64 d.seq) := T3.b3.cell 1
  have y3_2 : w3.cell? ⟨w.heap.size + 1 + 1, 2, none⟩ = some (.string d.name) := T3.b3.cell 2
  have y3_3 : w3.cell? ⟨w.heap.size + 1 + 1, 3, none⟩ = some (.int .i64 d.length) := T3.b3.cell 3
  have y3_4 : w3.cell? ⟨w.heap.size + 1 + 1, 4, none⟩ = some (.int .i64 d.group) := T3.b3.cell 4
  have y3_5 : w3.cell? ⟨w.heap.size + 1 + 1, 5, none⟩ = some (.int .i64 d.row) := T3.b3.cell 5
  have y3_6 : w3.cell? ⟨w.heap.size + 1 + 1, 6, none⟩ = some (.slice bo6 d.rows.1 bcap6) := T3.b3.cell 6
  have y3_7 : w3.cell? ⟨w.heap.size + 1 + 1, 7, none⟩ = some (.slice bo7 d.data.1 bcap7) := T3.b3.cell 7
  have y3_8 : w3.cell? ⟨w.heap.size + 1 + 1, 8, none⟩ = some (.slice none 0 0) := T3.b3.cell 8
  have yf3_8 : w3.frozen? ⟨w.heap.size + 1 + 1, 8, none⟩ = false := T3.b3.frozen 8
  have z3_0 : w3.cell? ⟨w.heap.size + 1, 0, none⟩ = some (.int .i64 0) := T3.b2.cell 0
  have zf3_0 : w3.frozen? ⟨w.heap.size + 1, 0, none⟩ = false := T3.b2.frozen 0
  have z3_1 : w3.cell? ⟨w.heap.size + 1, 1, none⟩ = some (.int .i64 0) := T3.b2.cell 1
  have zf3_1 : w3.frozen? ⟨w.heap.size + 1, 1, none⟩ = false := T3.b2.frozen 1
  have z3_2 : w3.cell? ⟨w.heap.size + 1, 2, none⟩ = some (.string ByteArray.empty) := T3.b2.cell 2
  have zf3_2 : w3.frozen? ⟨w.heap.size + 1, 2, none⟩ = false := T3.b2.frozen 2
  have z3_3 : w3.cell? ⟨w.heap.size + 1, 3, none⟩ = some (.int .i64 0) := T3.b2.cell 3
  have zf3_3 : w3.frozen? ⟨w.heap.size + 1, 3, none⟩ = false := T3.b2.frozen 3
  have z3_4 : w3.cell? ⟨w.heap.size + 1, 4, none⟩ = some (.int .i64 0) := T3.b2.cell 4
  have zf3_4 : w3.frozen? ⟨w.heap.size + 1, 4, none⟩ = false := T3.b2.frozen 4
  have z3_5 : w3.cell? ⟨w.heap.size + 1, 5, none⟩ = some (.int .i64 0) := T3.b2.cell 5
  have zf3_5 : w3.frozen? ⟨w.heap.size + 1, 5, none⟩ = false := T3.b2.frozen 5
  have z3_6 : w3.cell? ⟨w.heap.size + 1, 6, none⟩ = some (.slice none 0 0) := T3.b2.cell 6
  have zf3_6 : w3.frozen? ⟨w.heap.size + 1, 6, none⟩ = false := T3.b2.frozen 6
  have z3_7 : w3.cell? ⟨w.heap.size + 1, 7, none⟩ = some (.slice none 0 0) := T3.b2.cell 7
  have zf3_7 : w3.frozen? ⟨w.heap.size + 1, 7, none⟩ = false := T3.b2.frozen 7
  have z3_8 : w3.cell? ⟨w.heap.size + 1, 8, none⟩ = some (.slice none 0 0) := T3.b2.cell 8
  have zf3_8 : w3.frozen? ⟨w.heap.size + 1, 8, none⟩ = false := T3.b2.frozen 8
  have Bq : Hid (Below w.heap.size w w3) := T3.bel
  clear T3 b3
  go_wp2
  refine bodyPost_ret (v := .agg #[.int .i64 d.kind, .int .i64 d.seq, .string d.name, .int .i64 d.length, .int .i64 d.group, .int .i64 d.row, .slice bo6 d.rows.1 bcap6, .slice bo7 d.data.1 bcap7, .slice bo8 d.delta.1 bcap8]) (by simp [results, Try.results13, go_sem, y3_0, z3_0, y3_1, z3_1, y3_2, z3_2, y3_3, z3_3, y3_4, z3_4, y3_5, z3_5, y3_6, z3_6, y3_7, z3_7, y3_8, z3_8]) rfl ?_
  have F : OwnT layRec w3 (w.heap.size + 1 + 1 + 1) w3.heap.size d ([.int .i64 d.kind] ++ ([.int .i64 d.seq] ++ ([.string d.name] ++ ([.int .i64 d.length] ++ ([.int .i64 d.group] ++ ([.int .i64 d.row] ++ ([.slice bo6 d.rows.1 bcap6] ++ ([.slice bo7 d.data.1 bcap7] ++ [.slice bo8 d.delta.1 bcap8])))))))) := OwnT.conv (OwnT.pre (A := layI) (a := d.kind) (c := [.int .i64 d.kind]) ⟨rfl, Q0.out, rfl⟩ (OwnT.pre (A := layI) (a := d.seq) (c := [.int .i64 d.seq]) ⟨rfl, Q1.out, rfl⟩ (OwnT.pre (A := layS) (a := d.name) (c := [.string d.name]) ⟨rfl, Q2.out, rfl⟩ (OwnT.pre (A := layI) (a := d.length) (c := [.int .i64 d.length]) ⟨rfl, Q3.out, rfl⟩ (OwnT.pre (A := layI) (a := d.group) (c := [.int .i64 d.group]) ⟨rfl, Q4.out, rfl⟩ (OwnT.pre (A := layI) (a := d.row) (c := [.int .i64 d.row]) ⟨rfl, Q5.out, rfl⟩ (OwnT.two O6.out (OwnT.two O7.out (O8.out) (by omega) (by omega) (by omega)) (by omega) (by omega) (by omega))))))))
  exact ⟨[.int .i64 d.kind, .int .i64 d.seq, .string d.name, .int .i64 d.length, .int .i64 d.group, .int .i64 d.row, .slice bo6 d.rows.1 bcap6, .slice bo7 d.data.1 bcap7, .slice bo8 d.delta.1 bcap8], rfl, OwnT.fin F 8 0 [.slice bo8 d.delta.1 bcap8] [.int .i64 d.kind, .int .i64 d.seq, .string d.name, .int .i64 d.length, .int .i64 d.group, .int .i64 d.row, .slice bo6 d.rows.1 bcap6, .slice bo7 d.data.1 bcap7, .slice bo8 d.delta.1 bcap8] _ rfl, below_fin Bq.out 8 0 [.slice bo8 d.delta.1 bcap8] [.int .i64 d.kind, .int .i64 d.seq, .string d.name, .int .i64 d.length, .int .i64 d.group, .int .i64 d.row, .slice bo6 d.rows.1 bcap6, .slice bo7 d.data.1 bcap7, .slice bo8 d.delta.1 bcap8] _ rfl⟩
theorem info_RecS : (Try.prog.info? 45).map (fun i => (i.zero.map (·.cells), i.size, i.bytes)) = some (some #[.int .i64 0, .int .i64 0, .string ByteArray.empty, .int .i64 0, .int .i64 0, .int .i64 0, .slice none 0 0, .slice none 0 0, .slice none 0 0], 9, 128) := by kernel_rfl
set_option maxHeartbeats 4000000 in
theorem toRecS_is : ToS (layRec.slice 45) (szSl szRecD) 81 := fun v d hi w h hhi hn => by
  obtain ⟨n, x⟩ := d
  obtain ⟨ao, cap, hv, hm, hc⟩ := h
  cases hv
  have hn1 := szSl_n hn
  have hn2 : ∀ i, i < n → szRecD (x i) ≤ 1048576 := fun i hi => szSl_at hn hi
  simp only at hn1 hm hc
  clear hn
  go_enter Try.func81, Try.ntmps81
  go_wp2_with (at_make; refine wp_makeT layRec [.int .i64 0, .int .i64 0, .string ByteArray.empty, .int .i64 0, .int .i64 0, .int .i64 0, .slice none 0 0, .slice none 0 0, .slice none 0 0] _ 45 128 (by decide) rfl Try.underlying55 info_RecS x (fun _ => []) _ rfl _ _ rfl _ _ n rfl rfl rfl rfl (by omega) (by omega) ?_; intro w1 sp1 hb1)
  go_loopw [4] (fun i wr => ∃ k : Nat, k ≤ n ∧ i = .int .i64 k ∧ ∃ ce Ls, SlP layRec 45 wr w.heap.size w.heap.size n n k x ce Ls ∧ Below w.heap.size w wr) (fun i _ => n - (intOf i).toNat)
  case atStart => exact ⟨0, Nat.zero_le _, rfl, _, _, sp1, hb1⟩
  case round =>
    clear sp1 hb1
    obtain ⟨k, hk, rfl, ce, Ls, sp, hb⟩ := hrel
    by_cases hlt : k < n
    · obtain ⟨b, off, rfl, hblt, hel⟩ := hc (by omega)
      obtain ⟨ck, hrk, hcell⟩ := elem_rd (t := 0) hel hb hhi hblt hlt
      obtain ⟨ao6, cap6, ao7, cap7, ao8, cap8, rfl, -⟩ := Rec_rd hrk
      have c0 : wr.cell? ⟨b, off + k * 9, none⟩ = some (.int .i64 (x k).kind) := hcell 0 (by decide)
      have c1 : wr.cell? ⟨b, off + k * 9 + 1, none⟩ = some (.int .i64 (x k).seq) := hcell 1 (by decide)
      have c2 : wr.cell? ⟨b, off + k * 9 + 2, none⟩ = some (.string (x k).name) := hcell 2 (by decide)
      have c3 : wr.cell? ⟨b, off + k * 9 + 3, none⟩ = some (.int .i64 (x k).length) := hcell 3 (by decide)
      have c4 : wr.cell? ⟨b, off + k * 9 + 4, none⟩ = some (.int .i64 (x k).group) := hcell 4 (by decide)
      have c5 : wr.cell? ⟨b, off + k * 9 + 5, none⟩ = some (.int .i64 (x k).row) := hcell 5 (by decide)
      have c6 : wr.cell? ⟨b, off + k * 9 + 6, none⟩ = some (.slice ao6 (x k).rows.1 cap6) := hcell 6 (by decide)
      have c7 : wr.cell? ⟨b, off + k * 9 + 7, none⟩ = some (.slice ao7 (x k).data.1 cap7) := hcell 7 (by decide)
      have c8 : wr.cell? ⟨b, off + k * 9 + 8, none⟩ = some (.slice ao8 (x k).delta.1 cap8) := hcell 8 (by decide)
      clear hc hel hcell
      go_wp2_with fail
      refine (toRec_is _ (x k) hi wr hrk (Nat.le_trans hhi hb.size) (hn2 k hlt)).mono ?_
      rintro e w2 ⟨cs', rfl, o2, hb2⟩
      obtain ⟨bao6, bcap6, bao7, bcap7, bao8, bcap8, rfl⟩ := Rec_cells o2
      obtain ⟨z0, s0⟩ := sp.some hb2 hlt (show 0 < layRec.sz by decide)
      have s0 : w2.cell? ⟨w.heap.size, k * 9, none⟩ = some z0 := s0
      have sf0 := (sp.below hb2).frozen (k * 9)
      obtain ⟨z1, s1⟩ := sp.some hb2 hlt (show 1 < layRec.sz by decide)
      have s1 : w2.cell? ⟨w.heap.size, k * 9 + 1, none⟩ = some z1 := s1
      have sf1 := (sp.below hb2).frozen (k * 9 + 1)
      obtain ⟨z2, s2⟩ := sp.some hb2 hlt (show 2 < layRec.sz by decide)
      have s2 : w2.cell? ⟨w.heap.size, k * 9 + 2, none⟩ = some z2 := s2
      have sf2 := (sp.below hb2).frozen (k * 9 + 2)
      obtain ⟨z3, s3⟩ := sp.some hb2 hlt (show 3 < layRec.sz by decide)
      have s3 : w2.cell? ⟨w.heap.size, k * 9 + 3, none⟩ = some z3 := s3
      have sf3 := (sp.below hb2).frozen (k * 9 + 3)
      obtain ⟨z4, s4⟩ := sp.some hb2 hlt (show 4 < layRec.sz by decide)
      have s4 : w2.cell? ⟨w.heap.size, k * 9 + 4, none⟩ = some z4 := s4
      have sf4 := (sp.below hb2).frozen (k * 9 + 4)
      obtain ⟨z5, s5⟩ := sp.some hb2 hlt (show 5 < layRec.sz by decide)
      have s5 : w2.cell? ⟨w.heap.size, k * 9 + 5, none⟩ = some z5 := s5
      have sf5 := (sp.below hb2).frozen (k * 9 + 5)
      obtain ⟨z6, s6⟩ := sp.some hb2 hlt (show 6 < layRec.sz by decide)
      have s6 : w2.cell? ⟨w.heap.size, k * 9 + 6, none⟩ = some z6 := s6
      have sf6 := (sp.below hb2).frozen (k * 9 + 6)
      obtain ⟨z7, s7⟩ := sp.some hb2 hlt (show 7 < layRec.sz by decide)
      have s7 : w2.cell? ⟨w.heap.size, k * 9 + 7, none⟩ = some z7 := s7
      have sf7 := (sp.below hb2).frozen (k * 9 + 7)
      obtain ⟨z8, s8⟩ := sp.some hb2 hlt (show 8 < layRec.sz by decide)
      have s8 : w2.cell? ⟨w.heap.size, k * 9 + 8, none⟩ = some z8 := s8
      have sf8 := (sp.below hb2).frozen (k * 9 + 8)
      have N := sp.next hb2 hlt o2 hb.size
      have N2 : Below w.heap.size w (stN w2 w.heap.size (k * layRec.sz) [.int .i64 (x k).kind, .int .i64 (x k).seq, .string (x k).name, .int .i64 (x k).length, .int .i64 (x k).group, .int .i64 (x k).row, .slice bao6 (x k).rows.1 bcap6, .slice bao7 (x k).data.1 bcap7, .slice bao8 (x k).delta.1 bcap8]) := (hb.trans (hb2.mono hb.size)).trans (stN_below (Nat.le_refl _) _ _)
      clear o2 hb2 sp hb
      go_wp2_with fail
      go_roundw
      case rel =>
        obtain ⟨ce', Ls', N⟩ := N
        exact ⟨k + 1, by omega, by go_num, ce', Ls', N, N2⟩
      case measure => simp [intOf]; omega
    · obtain rfl : k = n := by omega
      go_wp2
      go_ret
      exact ⟨_, rfl, sp.done (Nat.le_refl _), hb⟩
set_option maxHeartbeats 8000000 in
set_option maxRecDepth 20000 in
theorem toTape_is : ToV layTape szTapeD 59 := fun cs d hi w r hhi hn => by
  obtain ⟨ao1, cap1, rfl, h1⟩ := Tape_rd r
  clear r
  unfold szTapeD at hn
  have R1 : Hid ((layRec.slice 45).rd w hi d.recs [.slice ao1 d.recs.1 cap1]) := h1
  clear h1
  go_enter Try.func59, Try.ntmps59
  go_wp2_with fail
  have T0 := three_newb w #[.bool d.wiped, .slice ao1 d.recs.1 cap1] #[.bool false, .slice none 0 0] #[.bool d.wiped, .slice none 0 0] 81 57 57
  refine (toRecS_is _ d.recs hi _ ((layRec.slice 45).rd_below R1.out T0.bel hhi) (Nat.le_trans hhi T0.bel.size) (by omega)).mono ?_
  rintro e w1 ⟨v1, rfl, o1, b1⟩
  have L1 := T0.lt
  obtain ⟨bo1, bcap1, hv⟩ := sl_formT o1
  obtain rfl := one_eq hv
  clear hv
  have T1 : Three w w1 #[.bool d.wiped, .slice ao1 d.recs.1 cap1] #[.bool false, .slice none 0 0] #[.bool d.wiped, .slice none 0 0] 81 57 57 := T0.call b1
  have O1 : Hid (OwnT (layRec.slice 45) w1 (w.heap.size + 1 + 1 + 1) (w1.heap.size) d.recs [.slice bo1 d.recs.1 bcap1]) := o1.weaken (by simp <;> omega) (Nat.le_refl _)
  clear o1
  have LT1 : w.heap.size + 1 + 1 + 1 ≤ w1.heap.size := T1.lt
  have y1_0 : w1.cell? ⟨w.heap.size + 1 + 1, 0, none⟩ = some (.bool d.wiped) := T1.b3.cell 0
  have y1_1 : w1.cell? ⟨w.heap.size + 1 + 1, 1, none⟩ = some (.slice none 0 0) := T1.b3.cell 1
  have yf1_1 : w1.frozen? ⟨w.heap.size + 1 + 1, 1, none⟩ = false := T1.b3.frozen 1
  have z1_0 : w1.cell? ⟨w.heap.size + 1, 0, none⟩ = some (.bool false) := T1.b2.cell 0
  have zf1_0 : w1.frozen? ⟨w.heap.size + 1, 0, none⟩ = false := T1.b2.frozen 0
  have z1_1 : w1.cell? ⟨w.heap.size + 1, 1, none⟩ = some (.slice none 0 0) := T1.b2.cell 1
  have zf1_1 : w1.frozen? ⟨w.heap.size + 1, 1, none⟩ = false := T1.b2.frozen 1
  have Bq : Hid (Below w.heap.size w w1) := T1.bel
  clear T1 b1
  go_wp2
  refine bodyPost_ret (v := .agg #[.bool d.wiped, .slice bo1 d.recs.1 bcap1]) (by simp [results, Try.results59, go_sem, y1_0, z1_0, y1_1, z1_1]) rfl ?_
  have F : OwnT layTape w1 (w.heap.size + 1 + 1 + 1) w1.heap.size d ([.bool d.wiped] ++ [.slice bo1 d.recs.1 bcap1]) := OwnT.conv (OwnT.pre (A := layB) (a := d.wiped) (c := [.bool d.wiped]) ⟨rfl, trivial, rfl⟩ (O1.out))
  exact ⟨[.bool d.wiped, .slice bo1 d.recs.1 bcap1], rfl, OwnT.fin F 1 0 [.slice bo1 d.recs.1 bcap1] [.bool d.wiped, .slice bo1 d.recs.1 bcap1] _ rfl, below_fin Bq.out 1 0 [.slice bo1 d.recs.1 bcap1] [.bool d.wiped, .slice bo1 d.recs.1 bcap1] _ rfl⟩
theorem info_TapeS : (Try.prog.info? 57).map (fun i => (i.zero.map (·.cells), i.size, i.bytes)) = some (some #[.bool false, .slice none 0 0], 2, 32) := by kernel_rfl
set_option maxHeartbeats 4000000 in
theorem toTapeS_is : ToS (layTape.slice 57) (szSl szTapeD) 26 := fun v d hi w h hhi hn => by
  obtain ⟨n, x⟩ := d
  obtain ⟨ao, cap, hv, hm, hc⟩ := h
  cases hv
  have hn1 := szSl_n hn
  have hn2 : ∀ i, i < n → szTapeD (x i) ≤ 1048576 := fun i hi => szSl_at hn hi
  simp only at hn1 hm hc
  clear hn
  go_enter Try.func26, Try.ntmps26
  go_wp2_with (at_make; refine wp_makeT layTape [.bool false, .slice none 0 0] _ 57 32 (by decide) rfl Try.underlying33 info_TapeS x (fun _ => []) _ rfl _ _ rfl _ _ n rfl rfl rfl rfl (by omega) (by omega) ?_; intro w1 sp1 hb1)
  go_loopw [4] (fun i wr => ∃ k : Nat, k ≤ n ∧ i = .int .i64 k ∧ ∃ ce Ls, SlP layTape 57 wr w.heap.size w.heap.size n n k x ce Ls ∧ Below w.heap.size w wr) (fun i _ => n - (intOf i).toNat)
  case atStart => exact ⟨0, Nat.zero_le _, rfl, _, _, sp1, hb1⟩
  case round =>
    clear sp1 hb1
    obtain ⟨k, hk, rfl, ce, Ls, sp, hb⟩ := hrel
    by_cases hlt : k < n
    · obtain ⟨b, off, rfl, hblt, hel⟩ := hc (by omega)
      obtain ⟨ck, hrk, hcell⟩ := elem_rd (t := 0) hel hb hhi hblt hlt
      obtain ⟨ao1, cap1, rfl, -⟩ := Tape_rd hrk
      have c0 : wr.cell? ⟨b, off + k * 2, none⟩ = some (.bool (x k).wiped) := hcell 0 (by decide)
      have c1 : wr.cell? ⟨b, off + k * 2 + 1, none⟩ = some (.slice ao1 (x k).recs.1 cap1) := hcell 1 (by decide)
      clear hc hel hcell
      go_wp2_with fail
      refine (toTape_is _ (x k) hi wr hrk (Nat.le_trans hhi hb.size) (hn2 k hlt)).mono ?_
      rintro e w2 ⟨cs', rfl, o2, hb2⟩
      obtain ⟨bao1, bcap1, rfl⟩ := Tape_cells o2
      obtain ⟨z0, s0⟩ := sp.some hb2 hlt (show 0 < layTape.sz by decide)
      have s0 : w2.cell? ⟨w.heap.size, k * 2, none⟩ = some z0 := s0
      have sf0 := (sp.below hb2).frozen (k * 2)
      obtain ⟨z1, s1⟩ := sp.some hb2 hlt (show 1 < layTape.sz by decide)
      have s1 : w2.cell? ⟨w.heap.size, k * 2 + 1, none⟩ = some z1 := s1
      have sf1 := (sp.below hb2).frozen (k * 2 + 1)
      have N := sp.next hb2 hlt o2 hb.size
      have N2 : Below w.heap.size w (stN w2 w.heap.size (k * layTape.sz) [.bool (x k).wiped, .slice bao1 (x k).recs.1 bcap1]) := (hb.trans (hb2.mono hb.size)).trans (stN_below (Nat.le_refl _) _ _)
      clear o2 hb2 sp hb
      go_wp2_with fail
      go_roundw
      case rel =>
        obtain ⟨ce', Ls', N⟩ := N
        exact ⟨k + 1, by omega, by go_num, ce', Ls', N, N2⟩
      case measure => simp [intOf]; omega
    · obtain rfl : k = n := by omega
      go_wp2
      go_ret
      exact ⟨_, rfl, sp.done (Nat.le_refl _), hb⟩
end Go.Proofs.Ytgpglgchbimmaaa
