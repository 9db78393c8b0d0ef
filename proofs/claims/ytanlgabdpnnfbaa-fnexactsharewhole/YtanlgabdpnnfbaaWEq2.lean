/- Walks: records and tapes compared. -/
import Derived.Test.YtanlgabdpnnfbaaCells
import Derived.Test.YtanlgabdpnnfbaaWShape
import Derived.Deep.RegionLaw
namespace Go.Proofs.Ytanlgabdpnnfbaa
open Go.RowKit F256
set_option linter.unusedVariables false
set_option linter.unusedSimpArgs false
set_option maxHeartbeats 8000000 in
set_option maxRecDepth 20000 in
theorem eqRec_is : EqV layRec 8 := fun c1 c2 d h1 h2 w r1 r2 u1 u2 => by
  obtain ⟨ao6, cap6, ao7, cap7, ao8, cap8, rfl, g6, g7, g8, -⟩ := Rec_rd r1
  obtain ⟨bao6, bcap6, bao7, bcap7, bao8, bcap8, rfl, q6, q7, q8, -⟩ := Rec_rd r2
  clear r1 r2
  have G6 : Hid (layInts.rd w h1 d.rows [.slice ao6 d.rows.1 cap6]) := g6
  have E6 : Hid (layInts.rd w h2 d.rows [.slice bao6 d.rows.1 bcap6]) := q6
  have G7 : Hid (layBytes.rd w h1 d.data [.slice ao7 d.data.1 cap7]) := g7
  have E7 : Hid (layBytes.rd w h2 d.data [.slice bao7 d.data.1 bcap7]) := q7
  have G8 : Hid (layBytes.rd w h1 d.delta [.slice ao8 d.delta.1 cap8]) := g8
  have E8 : Hid (layBytes.rd w h2 d.delta [.slice bao8 d.delta.1 bcap8]) := q8
  clear g6 q6 g7 q7 g8 q8
  go_enter Try.func8, Try.ntmps8
  go_wp2_with fail
  have T0 := two_newb w #[.int .i64 d.kind, .int .i64 d.seq, .string d.name, .int .i64 d.length, .int .i64 d.group, .int .i64 d.row, .slice ao6 d.rows.1 cap6, .slice ao7 d.data.1 cap7, .slice ao8 d.delta.1 cap8] #[.int .i64 d.kind, .int .i64 d.seq, .string d.name, .int .i64 d.length, .int .i64 d.group, .int .i64 d.row, .slice bao6 d.rows.1 bcap6, .slice bao7 d.data.1 bcap7, .slice bao8 d.delta.1 bcap8] 28 28
  refine (eqInts_is _ _ d.rows h1 h2 _ (layInts.rd_below G6.out T0.bel u1) (layInts.rd_below E6.out T0.bel u2) (Nat.le_trans u1 T0.bel.size) (Nat.le_trans u2 T0.bel.size)).mono ?_
  rintro e w1 ⟨rfl, b1⟩
  have T1 : Two w w1 #[.int .i64 d.kind, .int .i64 d.seq, .string d.name, .int .i64 d.length, .int .i64 d.group, .int .i64 d.row, .slice ao6 d.rows.1 cap6, .slice ao7 d.data.1 cap7, .slice ao8 d.delta.1 cap8] #[.int .i64 d.kind, .int .i64 d.seq, .string d.name, .int .i64 d.length, .int .i64 d.group, .int .i64 d.row, .slice bao6 d.rows.1 bcap6, .slice bao7 d.data.1 bcap7, .slice bao8 d.delta.1 bcap8] 28 28 := T0.call b1
  clear T0 b1
  have x1_7 : w1.cell? ⟨w.heap.size, 7, none⟩ = some (.slice ao7 d.data.1 cap7) := T1.b1.cell 7
  have y1_7 : w1.cell? ⟨w.heap.size + 1, 7, none⟩ = some (.slice bao7 d.data.1 bcap7) := T1.b2.cell 7
  go_wp2_with fail
  refine (eqBytes_is _ _ d.data h1 h2 _ (layBytes.rd_below G7.out T1.bel u1) (layBytes.rd_below E7.out T1.bel u2) (Nat.le_trans u1 T1.bel.size) (Nat.le_trans u2 T1.bel.size)).mono ?_
  rintro e w2 ⟨rfl, b2⟩
  have T2 : Two w w2 #[.int .i64 d.kind, .int .i64 d.seq, .string d.name, .int .i64 d.length, .int .i64 d.group, .int .i64 d.row, .slice ao6 d.rows.1 cap6, .slice ao7 d.data.1 cap7, .slice ao8 d.delta.1 cap8] #[.int .i64 d.kind, .int .i64 d.seq, .string d.name, .int .i64 d.length, .int .i64 d.group, .int .i64 d.row, .slice bao6 d.rows.1 bcap6, .slice bao7 d.data.1 bcap7, .slice bao8 d.delta.1 bcap8] 28 28 := T1.call b2
  clear T1 b2
  have x2_8 : w2.cell? ⟨w.heap.size, 8, none⟩ = some (.slice ao8 d.delta.1 cap8) := T2.b1.cell 8
  have y2_8 : w2.cell? ⟨w.heap.size + 1, 8, none⟩ = some (.slice bao8 d.delta.1 bcap8) := T2.b2.cell 8
  go_wp2_with fail
  refine (eqBytes_is _ _ d.delta h1 h2 _ (layBytes.rd_below G8.out T2.bel u1) (layBytes.rd_below E8.out T2.bel u2) (Nat.le_trans u1 T2.bel.size) (Nat.le_trans u2 T2.bel.size)).mono ?_
  rintro e w3 ⟨rfl, b3⟩
  have T3 : Two w w3 #[.int .i64 d.kind, .int .i64 d.seq, .string d.name, .int .i64 d.length, .int .i64 d.group, .int .i64 d.row, .slice ao6 d.rows.1 cap6, .slice ao7 d.data.1 cap7, .slice ao8 d.delta.1 cap8] #[.int .i64 d.kind, .int .i64 d.seq, .string d.name, .int .i64 d.length, .int .i64 d.group, .int .i64 d.row, .slice bao6 d.rows.1 bcap6, .slice bao7 d.data.1 bcap7, .slice bao8 d.delta.1 bcap8] 28 28 := T2.call b3
  clear T2 b3
  have B : Hid (Below w.heap.size w w3) := T3.bel
  clear T3
  go_wp2
  go_ret
  exact ⟨rfl, B.out⟩
end Go.Proofs.Ytanlgabdpnnfbaa
