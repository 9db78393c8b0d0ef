/- Walk of the specification's RecFault. -/
import Derived.Test.YtkijpgfmjogagaaGreatZPgroupaf
import Derived.Deep.Cut
import Derived.Test.YtkijpgfmjogagaaGreatZPgroupab
import Derived.Deep.RegionLaw
import Derived.Deep.DeepCutAuto
import Derived.Laws.Tables
import Derived.Laws.Rows
import Derived.Test.YtkijpgfmjogagaaGreatZPgroupaa
import Derived.OrdersHeld
import Derived.Deep.RegionHeld
set_option linter.unusedVariables false
set_option linter.unusedSimpArgs false
namespace Go.Proofs.YtkijpgfmjogagaaGreat
open Go.RowKit F256
def RecPost (s : Nat → Int) (r : RecD) (w : World) (e : Ending) (w' : World) : Prop := ∃ x, e = .returned (.int .i64 x) ∧ RecAns s r x ∧ Below w.heap.size w w'
theorem recP {s : Nat → Int} {r : RecD} {w : World} {e : Ending} {w' : World} {x : Int} (he : e = .returned (.int .i64 x)) (h : RecAns s r x) (hb : Below w.heap.size w w') : RecPost s r w e w' := ⟨x, he, h, hb⟩
theorem exBT {P : Prop} (h : P) : true = true ↔ P := ⟨fun _ => h, fun _ => rfl⟩
theorem exBF {P : Prop} (h : ¬ P) : false = true ↔ P := ⟨fun h => (by cases h), fun hh => absurd hh h⟩
set_option maxHeartbeats 16000000 in
set_option maxRecDepth 20000 in
theorem specRec_any (s : Nat → Int) (r : RecD) (cs : List Value) (hi : Nat) (w : World) (h : layRec.rd w hi r cs) (hhi : hi ≤ w.heap.size) (hnm : r.name.size ≤ 1048576) :
    Calls Tryz.prog 54 #[shapeV s, .agg cs.toArray] w (RecPost s r w) := by
  obtain ⟨kind, seq, name, length, group, row, rows, data, delta⟩ := r
  obtain ⟨ao6, cap6, ao7, cap7, ao8, cap8, rfl, g6, g7, g8, k0, k1, k2, k3, k4, k5⟩ := Rec_rd h
  have HRD : Hid (layRec.rd w hi ⟨kind, seq, name, length, group, row, rows, data, delta⟩ [.int .i64 kind, .int .i64 seq, .string name, .int .i64 length, .int .i64 group, .int .i64 row, .slice ao6 rows.1 cap6, .slice ao7 data.1 cap7, .slice ao8 delta.1 cap8]) := h
  obtain ⟨v6, e6, ⟨h6, hcp6⟩, _⟩ := g6
  cases e6
  have H6 : Hid (RdI w hi (.slice ao6 rows.1 cap6) rows.1 rows.2) := h6
  have hm6 : rows.1 ≤ maxLen := h6.mx
  obtain ⟨v7, e7, ⟨_, _, e7', hm7, _⟩, _⟩ := g7
  cases e7
  cases e7'
  obtain ⟨v8, e8, ⟨_, _, e8', hm8, _⟩, _⟩ := g8
  cases e8
  cases e8'
  unfold maxLen at hm6 hm7 hm8
  simp only at k0 k1 k2 k3 k4 k5 hm6 hm7 hm8 hnm
  clear h h6 hcp6
  have T0 := two_newb w #[.int .i64 (s 0), .int .i64 (s 1), .int .i64 (s 2), .int .i64 (s 3), .int .i64 (s 4), .int .i64 (s 5), .int .i64 (s 6), .int .i64 (s 7), .int .i64 (s 8)] #[.int .i64 kind, .int .i64 seq, .string name, .int .i64 length, .int .i64 group, .int .i64 row, .slice ao6 rows.1 cap6, .slice ao7 data.1 cap7, .slice ao8 delta.1 cap8] 33 93
  have CSh := fun w' => specShape_any s w'
  unfold shapeV at CSh ⊢
  go_enter Tryz.func54, Tryz.ntmps54
  go_wp2_with fail
  refine (CSh _).mono ?_
  rintro e w1 ⟨x, rfl, hx, b1⟩
  have T1 : Two w w1 #[.int .i64 (s 0), .int .i64 (s 1), .int .i64 (s 2), .int .i64 (s 3), .int .i64 (s 4), .int .i64 (s 5), .int .i64 (s 6), .int .i64 (s 7), .int .i64 (s 8)] #[.int .i64 kind, .int .i64 seq, .string name, .int .i64 length, .int .i64 group, .int .i64 row, .slice ao6 rows.1 cap6, .slice ao7 data.1 cap7, .slice ao8 delta.1 cap8] 33 93 := T0.call b1
  have HT1 : Hid (Two w w1 #[.int .i64 (s 0), .int .i64 (s 1), .int .i64 (s 2), .int .i64 (s 3), .int .i64 (s 4), .int .i64 (s 5), .int .i64 (s 6), .int .i64 (s 7), .int .i64 (s 8)] #[.int .i64 kind, .int .i64 seq, .string name, .int .i64 length, .int .i64 group, .int .i64 row, .slice ao6 rows.1 cap6, .slice ao7 data.1 cap7, .slice ao8 delta.1 cap8] 33 93) := T1
  have z1 : w.heap.size + 1 < w1.heap.size := T1.b2.lt
  clear b1 T0 CSh
  have x1_0 : w1.cell? ⟨w.heap.size, 0, none⟩ = some (.int .i64 (s 0)) := T1.b1.cell 0
  have x1_1 : w1.cell? ⟨w.heap.size, 1, none⟩ = some (.int .i64 (s 1)) := T1.b1.cell 1
  have x1_2 : w1.cell? ⟨w.heap.size, 2, none⟩ = some (.int .i64 (s 2)) := T1.b1.cell 2
  have x1_3 : w1.cell? ⟨w.heap.size, 3, none⟩ = some (.int .i64 (s 3)) := T1.b1.cell 3
  have x1_4 : w1.cell? ⟨w.heap.size, 4, none⟩ = some (.int .i64 (s 4)) := T1.b1.cell 4
  have x1_5 : w1.cell? ⟨w.heap.size, 5, none⟩ = some (.int .i64 (s 5)) := T1.b1.cell 5
  have x1_6 : w1.cell? ⟨w.heap.size, 6, none⟩ = some (.int .i64 (s 6)) := T1.b1.cell 6
  have x1_7 : w1.cell? ⟨w.heap.size, 7, none⟩ = some (.int .i64 (s 7)) := T1.b1.cell 7
  have x1_8 : w1.cell? ⟨w.heap.size, 8, none⟩ = some (.int .i64 (s 8)) := T1.b1.cell 8
  have y1_0 : w1.cell? ⟨w.heap.size + 1, 0, none⟩ = some (.int .i64 kind) := T1.b2.cell 0
  have y1_1 : w1.cell? ⟨w.heap.size + 1, 1, none⟩ = some (.int .i64 seq) := T1.b2.cell 1
  have y1_2 : w1.cell? ⟨w.heap.size + 1, 2, none⟩ = some (.string name) := T1.b2.cell 2
  have y1_3 : w1.cell? ⟨w.heap.size + 1, 3, none⟩ = some (.int .i64 length) := T1.b2.cell 3
  have y1_4 : w1.cell? ⟨w.heap.size + 1, 4, none⟩ = some (.int .i64 group) := T1.b2.cell 4
  have y1_5 : w1.cell? ⟨w.heap.size + 1, 5, none⟩ = some (.int .i64 row) := T1.b2.cell 5
  have y1_6 : w1.cell? ⟨w.heap.size + 1, 6, none⟩ = some (.slice ao6 rows.1 cap6) := T1.b2.cell 6
  have y1_7 : w1.cell? ⟨w.heap.size + 1, 7, none⟩ = some (.slice ao7 data.1 cap7) := T1.b2.cell 7
  have y1_8 : w1.cell? ⟨w.heap.size + 1, 8, none⟩ = some (.slice ao8 delta.1 cap8) := T1.b2.cell 8
  clear T1
  rcases hx with ⟨rfl, hno⟩ | ⟨rfl, hok⟩
  · go_wp2
    go_ret
    exact recP rfl (Stair.fall hno) HT1.out.bel
  have HOK : Hid (OkShape s) := hok
  have hsb : 1 ≤ s 0 ∧ s 0 ≤ 4 ∧ 0 ≤ s 1 ∧ s 1 ≤ 2 ∧ 1 ≤ s 2 ∧ s 2 ≤ 3 ∧ 1 ≤ s 4 ∧ s 4 ≤ 6 := by
    obtain ⟨h1, h2, h3, _⟩ := hok
    unfold Shp3 at h1
    unfold Shp at h2
    omega
  clear hok
  by_cases hk : InP kind 1 4
  · go_wp2_with fail
    refine (l1In_b (t := true) (exBT hk) _).mono ?_
    rintro e w' ⟨rfl, hw'⟩
    obtain rfl := hw'.symm
    by_cases hq : InP seq 1 1000000000
    · go_wp2_with fail
      refine (l1In_b (t := true) (exBT hq) _).mono ?_
      rintro e w' ⟨rfl, hw'⟩
      obtain rfl := hw'.symm
      have HK : Hid (InP kind 1 4) := hk
      have HQ : Hid (InP seq 1 1000000000) := hq
      go_upto_region 9 with fail
      have bA : Below w1.heap.size w1 (w1.alloc (.cells #[.int .i64 kind, .int .i64 seq, .string name, .int .i64 length, .int .i64 group, .int .i64 row, .slice ao6 rows.1 cap6, .slice ao7 data.1 cap7, .slice ao8 delta.1 cap8] 93)) := (Below.refl _ _).alloc (Nat.le_refl _) _
      have T2 : Two w (w1.alloc (.cells #[.int .i64 kind, .int .i64 seq, .string name, .int .i64 length, .int .i64 group, .int .i64 row, .slice ao6 rows.1 cap6, .slice ao7 data.1 cap7, .slice ao8 delta.1 cap8] 93)) #[.int .i64 (s 0), .int .i64 (s 1), .int .i64 (s 2), .int .i64 (s 3), .int .i64 (s 4), .int .i64 (s 5), .int .i64 (s 6), .int .i64 (s 7), .int .i64 (s 8)] #[.int .i64 kind, .int .i64 seq, .string name, .int .i64 length, .int .i64 group, .int .i64 row, .slice ao6 rows.1 cap6, .slice ao7 data.1 cap7, .slice ao8 delta.1 cap8] 33 93 := HT1.out.call bA
      have X2 : Box (w1.alloc (.cells #[.int .i64 kind, .int .i64 seq, .string name, .int .i64 length, .int .i64 group, .int .i64 row, .slice ao6 rows.1 cap6, .slice ao7 data.1 cap7, .slice ao8 delta.1 cap8] 93)) w1.heap.size #[.int .i64 kind, .int .i64 seq, .string name, .int .i64 length, .int .i64 group, .int .i64 row, .slice ao6 rows.1 cap6, .slice ao7 data.1 cap7, .slice ao8 delta.1 cap8] 93 := box_new _ _ _
      obtain ⟨W2, hW2⟩ : ∃ W2, W2 = w1.alloc (.cells #[.int .i64 kind, .int .i64 seq, .string name, .int .i64 length, .int .i64 group, .int .i64 row, .slice ao6 rows.1 cap6, .slice ao7 data.1 cap7, .slice ao8 delta.1 cap8] 93) := ⟨_, rfl⟩
      rw [← hW2] at T2 X2 ⊢
      have HT2 : Hid (Two w W2 #[.int .i64 (s 0), .int .i64 (s 1), .int .i64 (s 2), .int .i64 (s 3), .int .i64 (s 4), .int .i64 (s 5), .int .i64 (s 6), .int .i64 (s 7), .int .i64 (s 8)] #[.int .i64 kind, .int .i64 seq, .string name, .int .i64 length, .int .i64 group, .int .i64 row, .slice ao6 rows.1 cap6, .slice ao7 data.1 cap7, .slice ao8 delta.1 cap8] 33 93) := T2
      have HX2 : Hid (Box W2 w1.heap.size #[.int .i64 kind, .int .i64 seq, .string name, .int .i64 length, .int .i64 group, .int .i64 row, .slice ao6 rows.1 cap6, .slice ao7 data.1 cap7, .slice ao8 delta.1 cap8] 93) := X2
      clear bA hW2 x1_0 y1_0 x1_1 y1_1 x1_2 y1_2 x1_3 y1_3 x1_4 y1_4 x1_5 y1_5 x1_6 y1_6 x1_7 y1_7 x1_8 y1_8
      have x2_0 : W2.cell? ⟨w.heap.size, 0, none⟩ = some (.int .i64 (s 0)) := T2.b1.cell 0
      have kx2_0 := cell_regrown x2_0
      have x2_1 : W2.cell? ⟨w.heap.size, 1, none⟩ = some (.int .i64 (s 1)) := T2.b1.cell 1
      have kx2_1 := cell_regrown x2_1
      have x2_2 : W2.cell? ⟨w.heap.size, 2, none⟩ = some (.int .i64 (s 2)) := T2.b1.cell 2
      have kx2_2 := cell_regrown x2_2
      have x2_3 : W2.cell? ⟨w.heap.size, 3, none⟩ = some (.int .i64 (s 3)) := T2.b1.cell 3
      have kx2_3 := cell_regrown x2_3
      have x2_4 : W2.cell? ⟨w.heap.size, 4, none⟩ = some (.int .i64 (s 4)) := T2.b1.cell 4
      have kx2_4 := cell_regrown x2_4
      have x2_5 : W2.cell? ⟨w.heap.size, 5, none⟩ = some (.int .i64 (s 5)) := T2.b1.cell 5
      have kx2_5 := cell_regrown x2_5
      have x2_6 : W2.cell? ⟨w.heap.size, 6, none⟩ = some (.int .i64 (s 6)) := T2.b1.cell 6
      have kx2_6 := cell_regrown x2_6
      have x2_7 : W2.cell? ⟨w.heap.size, 7, none⟩ = some (.int .i64 (s 7)) := T2.b1.cell 7
      have kx2_7 := cell_regrown x2_7
      have x2_8 : W2.cell? ⟨w.heap.size, 8, none⟩ = some (.int .i64 (s 8)) := T2.b1.cell 8
      have kx2_8 := cell_regrown x2_8
      have y2_0 : W2.cell? ⟨w.heap.size + 1, 0, none⟩ = some (.int .i64 kind) := T2.b2.cell 0
      have ky2_0 := cell_regrown y2_0
      have y2_1 : W2.cell? ⟨w.heap.size + 1, 1, none⟩ = some (.int .i64 seq) := T2.b2.cell 1
      have ky2_1 := cell_regrown y2_1
      have y2_2 : W2.cell? ⟨w.heap.size + 1, 2, none⟩ = some (.string name) := T2.b2.cell 2
      have ky2_2 := cell_regrown y2_2
      have y2_3 : W2.cell? ⟨w.heap.size + 1, 3, none⟩ = some (.int .i64 length) := T2.b2.cell 3
      have ky2_3 := cell_regrown y2_3
      have y2_4 : W2.cell? ⟨w.heap.size + 1, 4, none⟩ = some (.int .i64 group) := T2.b2.cell 4
      have ky2_4 := cell_regrown y2_4
      have y2_5 : W2.cell? ⟨w.heap.size + 1, 5, none⟩ = some (.int .i64 row) := T2.b2.cell 5
      have ky2_5 := cell_regrown y2_5
      have y2_6 : W2.cell? ⟨w.heap.size + 1, 6, none⟩ = some (.slice ao6 rows.1 cap6) := T2.b2.cell 6
      have ky2_6 := cell_regrown y2_6
      have y2_7 : W2.cell? ⟨w.heap.size + 1, 7, none⟩ = some (.slice ao7 data.1 cap7) := T2.b2.cell 7
      have ky2_7 := cell_regrown y2_7
      have y2_8 : W2.cell? ⟨w.heap.size + 1, 8, none⟩ = some (.slice ao8 delta.1 cap8) := T2.b2.cell 8
      have ky2_8 := cell_regrown y2_8
      have z2_0 : W2.cell? ⟨w1.heap.size, 0, none⟩ = some (.int .i64 kind) := X2.cell 0
      have f2_0 : W2.frozen? ⟨w1.heap.size, 0, none⟩ = false := X2.frozen 0
      have z2_1 : W2.cell? ⟨w1.heap.size, 1, none⟩ = some (.int .i64 seq) := X2.cell 1
      have f2_1 : W2.frozen? ⟨w1.heap.size, 1, none⟩ = false := X2.frozen 1
      have z2_2 : W2.cell? ⟨w1.heap.size, 2, none⟩ = some (.string name) := X2.cell 2
      have f2_2 : W2.frozen? ⟨w1.heap.size, 2, none⟩ = false := X2.frozen 2
      have z2_3 : W2.cell? ⟨w1.heap.size, 3, none⟩ = some (.int .i64 length) := X2.cell 3
      have f2_3 : W2.frozen? ⟨w1.heap.size, 3, none⟩ = false := X2.frozen 3
      have z2_4 : W2.cell? ⟨w1.heap.size, 4, none⟩ = some (.int .i64 group) := X2.cell 4
      have f2_4 : W2.frozen? ⟨w1.heap.size, 4, none⟩ = false := X2.frozen 4
      have z2_5 : W2.cell? ⟨w1.heap.size, 5, none⟩ = some (.int .i64 row) := X2.cell 5
      have f2_5 : W2.frozen? ⟨w1.heap.size, 5, none⟩ = false := X2.frozen 5
      have z2_6 : W2.cell? ⟨w1.heap.size, 6, none⟩ = some (.slice ao6 rows.1 cap6) := X2.cell 6
      have f2_6 : W2.frozen? ⟨w1.heap.size, 6, none⟩ = false := X2.frozen 6
      have z2_7 : W2.cell? ⟨w1.heap.size, 7, none⟩ = some (.slice ao7 data.1 cap7) := X2.cell 7
      have f2_7 : W2.frozen? ⟨w1.heap.size, 7, none⟩ = false := X2.frozen 7
      have z2_8 : W2.cell? ⟨w1.heap.size, 8, none⟩ = some (.slice ao8 delta.1 cap8) := X2.cell 8
      have f2_8 : W2.frozen? ⟨w1.heap.size, 8, none⟩ = false := X2.frozen 8
      clear T2 X2
      have hk4 : kind = 1 ∨ kind = 2 ∨ kind = 3 ∨ kind = 4 := by unfold InP at hk; omega
      have ws0 : IntKind.i64.wrap (s 0 - 1) = s 0 - 1 := by rw [IntKind.wrap_i64]; omega
      have ws4 : IntKind.i64.wrap (s 4 - 1) = s 4 - 1 := by rw [IntKind.wrap_i64]; omega
      have wsA : IntKind.i64.wrap (s 0 + s 1 - 1) = s 0 + s 1 - 1 := by rw [IntKind.wrap_i64]; omega
      clear hk hq
      rcases hk4 with rfl | rfl | rfl | rfl
      · go_wp2_with fail
        refine (specName_any name hnm _).mono ?_
        rintro e w' ⟨x, rfl, hx, hw'⟩
        obtain rfl := hw'.symm
        rcases hx with ⟨rfl, hno⟩ | ⟨rfl, hyes⟩
        · go_wp2
          go_ret
          exact recP rfl (Stair.pass HOK.out (Stair.pass HK.out (Stair.pass HQ.out (Stair.fall (fun h => hno (h rfl)))))) HT2.out.bel
        · have HN : Hid (NamedP ⟨1, seq, name, length, group, row, rows, data, delta⟩) := fun _ => hyes
          clear hyes
          obtain ⟨t3, h3⟩ := exB (ItemP s ⟨1, seq, name, length, group, row, rows, data, delta⟩)
          have CI := det_b (l5Item_any s HOK.out ⟨1, seq, name, length, group, row, rows, data, delta⟩ _ hi W2 (layRec.rd_below HRD.out HT2.out.bel hhi) (Nat.le_trans hhi HT2.out.bel.size)) h3
          unfold shapeV at CI
          go_wp2_with fail
          refine CI.mono ?_
          rintro e w3 ⟨rfl, b3⟩
          have X3 : Box w3 w1.heap.size #[.int .i64 1, .int .i64 seq, .string name, .int .i64 length, .int .i64 group, .int .i64 row, .slice ao6 rows.1 cap6, .slice ao7 data.1 cap7, .slice ao8 delta.1 cap8] 93 := HX2.out.call b3
          have HB3 : Hid (Below w.heap.size w w3) := (HT2.out.call b3).bel
          have z3_0 : w3.cell? ⟨w1.heap.size, 0, none⟩ = some (.int .i64 1) := X3.cell 0
          have f3_0 : w3.frozen? ⟨w1.heap.size, 0, none⟩ = false := X3.frozen 0
          have z3_1 : w3.cell? ⟨w1.heap.size, 1, none⟩ = some (.int .i64 seq) := X3.cell 1
          have f3_1 : w3.frozen? ⟨w1.heap.size, 1, none⟩ = false := X3.frozen 1
          have z3_2 : w3.cell? ⟨w1.heap.size, 2, none⟩ = some (.string name) := X3.cell 2
          have f3_2 : w3.frozen? ⟨w1.heap.size, 2, none⟩ = false := X3.frozen 2
          have z3_3 : w3.cell? ⟨w1.heap.size, 3, none⟩ = some (.int .i64 length) := X3.cell 3
          have f3_3 : w3.frozen? ⟨w1.heap.size, 3, none⟩ = false := X3.frozen 3
          have z3_4 : w3.cell? ⟨w1.heap.size, 4, none⟩ = some (.int .i64 group) := X3.cell 4
          have f3_4 : w3.frozen? ⟨w1.heap.size, 4, none⟩ = false := X3.frozen 4
          have z3_5 : w3.cell? ⟨w1.heap.size, 5, none⟩ = some (.int .i64 row) := X3.cell 5
          have f3_5 : w3.frozen? ⟨w1.heap.size, 5, none⟩ = false := X3.frozen 5
          have z3_6 : w3.cell? ⟨w1.heap.size, 6, none⟩ = some (.slice ao6 rows.1 cap6) := X3.cell 6
          have f3_6 : w3.frozen? ⟨w1.heap.size, 6, none⟩ = false := X3.frozen 6
          have z3_7 : w3.cell? ⟨w1.heap.size, 7, none⟩ = some (.slice ao7 data.1 cap7) := X3.cell 7
          have f3_7 : w3.frozen? ⟨w1.heap.size, 7, none⟩ = false := X3.frozen 7
          have z3_8 : w3.cell? ⟨w1.heap.size, 8, none⟩ = some (.slice ao8 delta.1 cap8) := X3.cell 8
          have f3_8 : w3.frozen? ⟨w1.heap.size, 8, none⟩ = false := X3.frozen 8
          clear X3 b3
          clear x2_0 kx2_0 y2_0 ky2_0 z2_0 f2_0 x2_1 kx2_1 y2_1 ky2_1 z2_1 f2_1 x2_2 kx2_2 y2_2 ky2_2 z2_2 f2_2 x2_3 kx2_3 y2_3 ky2_3 z2_3 f2_3 x2_4 kx2_4 y2_4 ky2_4 z2_4 f2_4 x2_5 kx2_5 y2_5 ky2_5 z2_5 f2_5 x2_6 kx2_6 y2_6 ky2_6 z2_6 f2_6 x2_7 kx2_7 y2_7 ky2_7 z2_7 f2_7 x2_8 kx2_8 y2_8 ky2_8 z2_8 f2_8 CI
          have H3 : Hid (t3 = true ↔ ItemP s ⟨1, seq, name, length, group, row, rows, data, delta⟩) := h3
          clear h3
          cases t3 with
          | false =>
            go_wp2
            go_ret
            exact recP rfl (Stair.pass HOK.out (Stair.pass HK.out (Stair.pass HQ.out (Stair.pass HN.out (Stair.fall (fun h => by
              have : ItemP s ⟨1, seq, name, length, group, row, rows, data, delta⟩ := by
                unfold KindP at h
                simpa using h
              have := H3.out.2 this
              simp at this)))))) HB3.out
          | true =>
            have HKP : Hid (KindP s ⟨1, seq, name, length, group, row, rows, data, delta⟩) := .inl ⟨rfl, H3.out.1 (by simp)⟩
            go_wp2_with fail
            refine (l5Empty_any _ _ _ _ _ _ _ _ _ _ _ _ _ _ _ _).mono ?_
            rintro e w9 ⟨t9, rfl, ht9, b9⟩
            have HB9 : Hid (Below w.heap.size w w9) := by
              show Below w.heap.size w w9
              refine Below.trans ?_ (b9.mono ?_)
              · repeat (refine below_set ?_ (by omega))
                exact HB3.out
              · simp
                exact HB3.out.size
            clear b9
            have HT9 : Hid (t9 = true ↔ BlankP ⟨1, seq, name, length, group, row, rows, data, delta⟩) := by
              show t9 = true ↔ BlankP ⟨1, seq, name, length, group, row, rows, data, delta⟩
              rw [ht9]
              unfold EmptyQ BlankP noName
              simp [and_assoc]
              try (intros; rfl)
            clear ht9
            cases t9 with
            | false =>
              go_wp2
              go_ret
              exact recP rfl (Stair.pass HOK.out (Stair.pass HK.out (Stair.pass HQ.out (Stair.pass HN.out (Stair.pass HKP.out (Stair.fall (fun h => by have := HT9.out.2 h; simp at this))))))) HB9.out
            | true =>
              go_wp2
              go_ret
              exact recP rfl (Stair.pass HOK.out (Stair.pass HK.out (Stair.pass HQ.out (Stair.pass HN.out (Stair.pass HKP.out (Stair.pass (HT9.out.1 (by simp)) (Stair.last rfl))))))) HB9.out
      · have HN : Hid (NamedP ⟨2, seq, name, length, group, row, rows, data, delta⟩) := fun h => by simp at h
        obtain ⟨t1, h1⟩ := exB (InP group 0 (s 0 - 1))
        obtain ⟨t2, h2⟩ := exB (InP row 0 (s 4 - 1))
        obtain ⟨b3', h3⟩ : ∃ b, ((data.1 : Int) != s 2 * 4) = b := ⟨_, rfl⟩
        obtain ⟨b4', h4⟩ : ∃ b, ((delta.1 : Int) != s 2 * 4) = b := ⟨_, rfl⟩
        have cG := q_same (W := W2) (fun w' => l1In_b h1 w')
        have cR := q_same (W := W2) (fun w' => l1In_b h2 w')
        have cW := q_below (W := W2) (fun w' _ => l4Wide_any s (by omega) (by omega) w')
        unfold shapeV at cW
        have HE : Hid (KindP s ⟨2, seq, name, length, group, row, rows, data, delta⟩ ↔ (t1 = true ∧ t2 = true ∧ b3' = false ∧ b4' = false)) := by
          show KindP s ⟨2, seq, name, length, group, row, rows, data, delta⟩ ↔ _
          rw [h1, h2, ← h3, ← h4]
          unfold KindP MoveP
          simp
        have hst : (t1 = false) ∨ (t1 = true ∧ t2 = false) ∨ (t1 = true ∧ t2 = true ∧ b3' = true) ∨ (t1 = true ∧ t2 = true ∧ b3' = false ∧ b4' = true) ∨ (t1 = true ∧ t2 = true ∧ b3' = false ∧ b4' = false) := by
          clear HE h1 h2 h3 h4 cG cR
          cases t1 <;> simp
          cases t2 <;> simp
          cases b3' <;> simp
        clear h1 h2
        go_wp2
        rcases hst with rfl | ⟨rfl, rfl⟩ | ⟨rfl, rfl, rfl⟩ | ⟨rfl, rfl, rfl, rfl⟩ | ⟨rfl, rfl, rfl, rfl⟩
        all_goals
          refine WQ.region (by kernel_rfl) (by kernel_rfl) ?_
          repeat (first | (apply WQ.skip; (case hw => rfl); intro K hK; go_simp; apply hK; clear hK K) | (apply WQ.want; (case hw => rfl); intro K hK; go_simp; first | (apply hK; clear hK K) | (apply Exists.intro; apply And.intro; (case left => intro p; (first | (go_at_call_of 55 (Value.int .i64 group); exact cG _ _) | (go_at_call_of 55 (Value.int .i64 row); exact cR _ _) | (go_at_call 87; exact cW _ _))); apply hK; clear hK K)))
          refine WQ.nil ?_
          intro w3 hw3
          have b3 := below_rg hw3
          have X3 : Box w3 w1.heap.size #[.int .i64 2, .int .i64 seq, .string name, .int .i64 length, .int .i64 group, .int .i64 row, .slice ao6 rows.1 cap6, .slice ao7 data.1 cap7, .slice ao8 delta.1 cap8] 93 := HX2.out.call b3
          have HB3 : Hid (Below w.heap.size w w3) := (HT2.out.call b3).bel
          have z3_0 : w3.cell? ⟨w1.heap.size, 0, none⟩ = some (.int .i64 2) := X3.cell 0
          have f3_0 : w3.frozen? ⟨w1.heap.size, 0, none⟩ = false := X3.frozen 0
          have z3_1 : w3.cell? ⟨w1.heap.size, 1, none⟩ = some (.int .i64 seq) := X3.cell 1
          have f3_1 : w3.frozen? ⟨w1.heap.size, 1, none⟩ = false := X3.frozen 1
          have z3_2 : w3.cell? ⟨w1.heap.size, 2, none⟩ = some (.string name) := X3.cell 2
          have f3_2 : w3.frozen? ⟨w1.heap.size, 2, none⟩ = false := X3.frozen 2
          have z3_3 : w3.cell? ⟨w1.heap.size, 3, none⟩ = some (.int .i64 length) := X3.cell 3
          have f3_3 : w3.frozen? ⟨w1.heap.size, 3, none⟩ = false := X3.frozen 3
          have z3_4 : w3.cell? ⟨w1.heap.size, 4, none⟩ = some (.int .i64 group) := X3.cell 4
          have f3_4 : w3.frozen? ⟨w1.heap.size, 4, none⟩ = false := X3.frozen 4
          have z3_5 : w3.cell? ⟨w1.heap.size, 5, none⟩ = some (.int .i64 row) := X3.cell 5
          have f3_5 : w3.frozen? ⟨w1.heap.size, 5, none⟩ = false := X3.frozen 5
          have z3_6 : w3.cell? ⟨w1.heap.size, 6, none⟩ = some (.slice ao6 rows.1 cap6) := X3.cell 6
          have f3_6 : w3.frozen? ⟨w1.heap.size, 6, none⟩ = false := X3.frozen 6
          have z3_7 : w3.cell? ⟨w1.heap.size, 7, none⟩ = some (.slice ao7 data.1 cap7) := X3.cell 7
          have f3_7 : w3.frozen? ⟨w1.heap.size, 7, none⟩ = false := X3.frozen 7
          have z3_8 : w3.cell? ⟨w1.heap.size, 8, none⟩ = some (.slice ao8 delta.1 cap8) := X3.cell 8
          have f3_8 : w3.frozen? ⟨w1.heap.size, 8, none⟩ = false := X3.frozen 8
          clear X3 b3
          clear hw3 x2_0 kx2_0 y2_0 ky2_0 z2_0 f2_0 x2_1 kx2_1 y2_1 ky2_1 z2_1 f2_1 x2_2 kx2_2 y2_2 ky2_2 z2_2 f2_2 x2_3 kx2_3 y2_3 ky2_3 z2_3 f2_3 x2_4 kx2_4 y2_4 ky2_4 z2_4 f2_4 x2_5 kx2_5 y2_5 ky2_5 z2_5 f2_5 x2_6 kx2_6 y2_6 ky2_6 z2_6 f2_6 x2_7 kx2_7 y2_7 ky2_7 z2_7 f2_7 x2_8 kx2_8 y2_8 ky2_8 z2_8 f2_8
        · go_wp2
          go_ret
          exact recP rfl (Stair.pass HOK.out (Stair.pass HK.out (Stair.pass HQ.out (Stair.pass HN.out (Stair.fall (fun h => by have := HE.out.1 h; simp at this)))))) HB3.out
        · go_wp2
          go_ret
          exact recP rfl (Stair.pass HOK.out (Stair.pass HK.out (Stair.pass HQ.out (Stair.pass HN.out (Stair.fall (fun h => by have := HE.out.1 h; simp at this)))))) HB3.out
        · go_wp2
          go_ret
          exact recP rfl (Stair.pass HOK.out (Stair.pass HK.out (Stair.pass HQ.out (Stair.pass HN.out (Stair.fall (fun h => by have := HE.out.1 h; simp at this)))))) HB3.out
        · go_wp2
          go_ret
          exact recP rfl (Stair.pass HOK.out (Stair.pass HK.out (Stair.pass HQ.out (Stair.pass HN.out (Stair.fall (fun h => by have := HE.out.1 h; simp at this)))))) HB3.out
        · have HKP : Hid (KindP s ⟨2, seq, name, length, group, row, rows, data, delta⟩) := HE.out.2 (by simp)
          go_wp2_with fail
          refine (l5Empty_any _ _ _ _ _ _ _ _ _ _ _ _ _ _ _ _).mono ?_
          rintro e w9 ⟨t9, rfl, ht9, b9⟩
          have HB9 : Hid (Below w.heap.size w w9) := by
            show Below w.heap.size w w9
            refine Below.trans ?_ (b9.mono ?_)
            · repeat (refine below_set ?_ (by omega))
              exact HB3.out
            · simp
              exact HB3.out.size
          clear b9
          have HT9 : Hid (t9 = true ↔ BlankP ⟨2, seq, name, length, group, row, rows, data, delta⟩) := by
            show t9 = true ↔ BlankP ⟨2, seq, name, length, group, row, rows, data, delta⟩
            rw [ht9]
            unfold EmptyQ BlankP noName
            simp [and_assoc]
            try (intros; rfl)
          clear ht9
          cases t9 with
          | false =>
            go_wp2
            go_ret
            exact recP rfl (Stair.pass HOK.out (Stair.pass HK.out (Stair.pass HQ.out (Stair.pass HN.out (Stair.pass HKP.out (Stair.fall (fun h => by have := HT9.out.2 h; simp at this))))))) HB9.out
          | true =>
            go_wp2
            go_ret
            exact recP rfl (Stair.pass HOK.out (Stair.pass HK.out (Stair.pass HQ.out (Stair.pass HN.out (Stair.pass HKP.out (Stair.pass (HT9.out.1 (by simp)) (Stair.last rfl))))))) HB9.out
      · have HN : Hid (NamedP ⟨3, seq, name, length, group, row, rows, data, delta⟩) := fun h => by simp at h
        obtain ⟨t1, h1⟩ := exB (InP group 0 (s 0 + s 1 - 1))
        have cG := q_same (W := W2) (fun w' => l1In_b h1 w')
        have cA := q_below (W := W2) (fun w' _ => l5All_any s HOK.out w')
        unfold shapeV at cA
        have HE : Hid (KindP s ⟨3, seq, name, length, group, row, rows, data, delta⟩ ↔ (t1 = true)) := by
          show KindP s ⟨3, seq, name, length, group, row, rows, data, delta⟩ ↔ _
          rw [h1]
          unfold KindP DoneP
          simp
        have hst : (t1 = false) ∨ (t1 = true) := by
          clear HE h1 cG
          cases t1 <;> simp
        clear h1
        go_wp2
        rcases hst with rfl | rfl
        all_goals
          refine WQ.region (by kernel_rfl) (by kernel_rfl) ?_
          repeat (first | (apply WQ.skip; (case hw => rfl); intro K hK; go_simp; apply hK; clear hK K) | (apply WQ.want; (case hw => rfl); intro K hK; go_simp; first | (apply hK; clear hK K) | (apply Exists.intro; apply And.intro; (case left => intro p; (first | (go_at_call 55; exact cG _ _) | (go_at_call 53; exact cA _ _))); apply hK; clear hK K)))
          refine WQ.nil ?_
          intro w3 hw3
          have b3 := below_rg hw3
          have X3 : Box w3 w1.heap.size #[.int .i64 3, .int .i64 seq, .string name, .int .i64 length, .int .i64 group, .int .i64 row, .slice ao6 rows.1 cap6, .slice ao7 data.1 cap7, .slice ao8 delta.1 cap8] 93 := HX2.out.call b3
          have HB3 : Hid (Below w.heap.size w w3) := (HT2.out.call b3).bel
          have z3_0 : w3.cell? ⟨w1.heap.size, 0, none⟩ = some (.int .i64 3) := X3.cell 0
          have f3_0 : w3.frozen? ⟨w1.heap.size, 0, none⟩ = false := X3.frozen 0
          have z3_1 : w3.cell? ⟨w1.heap.size, 1, none⟩ = some (.int .i64 seq) := X3.cell 1
          have f3_1 : w3.frozen? ⟨w1.heap.size, 1, none⟩ = false := X3.frozen 1
          have z3_2 : w3.cell? ⟨w1.heap.size, 2, none⟩ = some (.string name) := X3.cell 2
          have f3_2 : w3.frozen? ⟨w1.heap.size, 2, none⟩ = false := X3.frozen 2
          have z3_3 : w3.cell? ⟨w1.heap.size, 3, none⟩ = some (.int .i64 length) := X3.cell 3
          have f3_3 : w3.frozen? ⟨w1.heap.size, 3, none⟩ = false := X3.frozen 3
          have z3_4 : w3.cell? ⟨w1.heap.size, 4, none⟩ = some (.int .i64 group) := X3.cell 4
          have f3_4 : w3.frozen? ⟨w1.heap.size, 4, none⟩ = false := X3.frozen 4
          have z3_5 : w3.cell? ⟨w1.heap.size, 5, none⟩ = some (.int .i64 row) := X3.cell 5
          have f3_5 : w3.frozen? ⟨w1.heap.size, 5, none⟩ = false := X3.frozen 5
          have z3_6 : w3.cell? ⟨w1.heap.size, 6, none⟩ = some (.slice ao6 rows.1 cap6) := X3.cell 6
          have f3_6 : w3.frozen? ⟨w1.heap.size, 6, none⟩ = false := X3.frozen 6
          have z3_7 : w3.cell? ⟨w1.heap.size, 7, none⟩ = some (.slice ao7 data.1 cap7) := X3.cell 7
          have f3_7 : w3.frozen? ⟨w1.heap.size, 7, none⟩ = false := X3.frozen 7
          have z3_8 : w3.cell? ⟨w1.heap.size, 8, none⟩ = some (.slice ao8 delta.1 cap8) := X3.cell 8
          have f3_8 : w3.frozen? ⟨w1.heap.size, 8, none⟩ = false := X3.frozen 8
          clear X3 b3
          clear hw3 x2_0 kx2_0 y2_0 ky2_0 z2_0 f2_0 x2_1 kx2_1 y2_1 ky2_1 z2_1 f2_1 x2_2 kx2_2 y2_2 ky2_2 z2_2 f2_2 x2_3 kx2_3 y2_3 ky2_3 z2_3 f2_3 x2_4 kx2_4 y2_4 ky2_4 z2_4 f2_4 x2_5 kx2_5 y2_5 ky2_5 z2_5 f2_5 x2_6 kx2_6 y2_6 ky2_6 z2_6 f2_6 x2_7 kx2_7 y2_7 ky2_7 z2_7 f2_7 x2_8 kx2_8 y2_8 ky2_8 z2_8 f2_8
        · go_wp2
          go_ret
          exact recP rfl (Stair.pass HOK.out (Stair.pass HK.out (Stair.pass HQ.out (Stair.pass HN.out (Stair.fall (fun h => by have := HE.out.1 h; simp at this)))))) HB3.out
        · have HKP : Hid (KindP s ⟨3, seq, name, length, group, row, rows, data, delta⟩) := HE.out.2 (by simp)
          go_wp2_with fail
          refine (l5Empty_any _ _ _ _ _ _ _ _ _ _ _ _ _ _ _ _).mono ?_
          rintro e w9 ⟨t9, rfl, ht9, b9⟩
          have HB9 : Hid (Below w.heap.size w w9) := by
            show Below w.heap.size w w9
            refine Below.trans ?_ (b9.mono ?_)
            · repeat (refine below_set ?_ (by omega))
              exact HB3.out
            · simp
              exact HB3.out.size
          clear b9
          have HT9 : Hid (t9 = true ↔ BlankP ⟨3, seq, name, length, group, row, rows, data, delta⟩) := by
            show t9 = true ↔ BlankP ⟨3, seq, name, length, group, row, rows, data, delta⟩
            rw [ht9]
            unfold EmptyQ BlankP noName
            simp [and_assoc]
            try (intros; rfl)
          clear ht9
          cases t9 with
          | false =>
            go_wp2
            go_ret
            exact recP rfl (Stair.pass HOK.out (Stair.pass HK.out (Stair.pass HQ.out (Stair.pass HN.out (Stair.pass HKP.out (Stair.fall (fun h => by have := HT9.out.2 h; simp at this))))))) HB9.out
          | true =>
            go_wp2
            go_ret
            exact recP rfl (Stair.pass HOK.out (Stair.pass HK.out (Stair.pass HQ.out (Stair.pass HN.out (Stair.pass HKP.out (Stair.pass (HT9.out.1 (by simp)) (Stair.last rfl))))))) HB9.out
      · have HN : Hid (NamedP ⟨4, seq, name, length, group, row, rows, data, delta⟩) := fun h => by simp at h
        obtain ⟨t1, h1⟩ := exB (InP group 0 (s 0 + s 1 - 1))
        obtain ⟨t2, h2⟩ := exB (InP row 0 (s 4 - 1))
        obtain ⟨t3, h3⟩ := exB (RiseP rows.1 rows.2 (s 0 + s 1 - 1))
        obtain ⟨b4', h4⟩ : ∃ b, ((data.1 : Int) != s 2 * 4) = b := ⟨_, rfl⟩
        obtain ⟨t5, h5⟩ := exB (WeightsP s ⟨4, seq, name, length, group, row, rows, data, delta⟩)
        have cG := q_same (W := W2) (fun w' => l1In_b h1 w')
        have cR := q_same (W := W2) (fun w' => l1In_b h2 w')
        have cA := q_below (W := W2) (fun w' _ => l5All_any s HOK.out w')
        have cW := q_below (W := W2) (fun w' _ => l4Wide_any s (by omega) (by omega) w')
        have cS := q_below (W := W2) (fun w' hw' => det_b (l2Rise_any _ rows.1 rows.2 hi (s 0 + s 1 - 1) w' ((H6.out.below HT2.out.bel hhi).below hw' (Nat.le_trans hhi HT2.out.bel.size))) h3)
        have cX : t1 = true → t3 = true → ∀ d os, Calls Tryz.prog 89 #[shapeV s, .agg #[.int .i64 4, .int .i64 seq, .string name, .int .i64 length, .int .i64 group, .int .i64 row, .slice ao6 rows.1 cap6, .slice ao7 data.1 cap7, .slice ao8 delta.1 cap8]] (Go.Sort.grow (redrawn W2 d) os) fun e w'' => e = .returned (.bool t5) ∧ ∃ p : Regrown, w'' = Go.Sort.grow (redrawn W2 p.d) p.os := fun e1 e3 => q_below (W := W2) (fun w' hw' => det_b (l5Weights_any s HOK.out ⟨4, seq, name, length, group, row, rows, data, delta⟩ _ hi w' (layRec.rd_below (layRec.rd_below HRD.out HT2.out.bel hhi) hw' (Nat.le_trans hhi HT2.out.bel.size)) (Nat.le_trans hhi (Nat.le_trans HT2.out.bel.size hw'.size)) (h1.1 e1) (h3.1 e3)) h5)
        unfold shapeV at cW cA cX
        have HE : Hid (KindP s ⟨4, seq, name, length, group, row, rows, data, delta⟩ ↔ (t1 = true ∧ t2 = true ∧ t3 = true ∧ b4' = false ∧ t5 = true)) := by
          show KindP s ⟨4, seq, name, length, group, row, rows, data, delta⟩ ↔ _
          rw [h1, h2, h3, ← h4, h5]
          unfold KindP ShareP
          simp
        have hst : (t1 = false) ∨ (t1 = true ∧ t2 = false) ∨ (t1 = true ∧ t2 = true ∧ t3 = false) ∨ (t1 = true ∧ t2 = true ∧ t3 = true ∧ b4' = true) ∨ (t1 = true ∧ t2 = true ∧ t3 = true ∧ b4' = false ∧ t5 = false) ∨ (t1 = true ∧ t2 = true ∧ t3 = true ∧ b4' = false ∧ t5 = true) := by
          clear HE h1 h2 h3 h4 h5 cG cR cS cX
          cases t1 <;> simp
          cases t2 <;> simp
          cases t3 <;> simp
          cases b4' <;> simp
        clear h1 h2 h3 h5
        go_wp2
        rcases hst with rfl | ⟨rfl, rfl⟩ | ⟨rfl, rfl, rfl⟩ | ⟨rfl, rfl, rfl, rfl⟩ | ⟨rfl, rfl, rfl, rfl, rfl⟩ | ⟨rfl, rfl, rfl, rfl, rfl⟩
        all_goals
          refine WQ.region (by kernel_rfl) (by kernel_rfl) ?_
          repeat (first | (apply WQ.skip; (case hw => rfl); intro K hK; go_simp; apply hK; clear hK K) | (apply WQ.want; (case hw => rfl); intro K hK; go_simp; first | (apply hK; clear hK K) | (apply Exists.intro; apply And.intro; (case left => intro p; (first | (go_at_call_of 55 (Value.int .i64 group); exact cG _ _) | (go_at_call_of 55 (Value.int .i64 row); exact cR _ _) | (go_at_call 87; exact cW _ _) | (go_at_call 53; exact cA _ _) | (go_at_call 88; exact cS _ _) | (go_at_call 89; exact cX rfl rfl _ _))); apply hK; clear hK K)))
          refine WQ.nil ?_
          intro w3 hw3
          have b3 := below_rg hw3
          have X3 : Box w3 w1.heap.size #[.int .i64 4, .int .i64 seq, .string name, .int .i64 length, .int .i64 group, .int .i64 row, .slice ao6 rows.1 cap6, .slice ao7 data.1 cap7, .slice ao8 delta.1 cap8] 93 := HX2.out.call b3
          have HB3 : Hid (Below w.heap.size w w3) := (HT2.out.call b3).bel
          have z3_0 : w3.cell? ⟨w1.heap.size, 0, none⟩ = some (.int .i64 4) := X3.cell 0
          have f3_0 : w3.frozen? ⟨w1.heap.size, 0, none⟩ = false := X3.frozen 0
          have z3_1 : w3.cell? ⟨w1.heap.size, 1, none⟩ = some (.int .i64 seq) := X3.cell 1
          have f3_1 : w3.frozen? ⟨w1.heap.size, 1, none⟩ = false := X3.frozen 1
          have z3_2 : w3.cell? ⟨w1.heap.size, 2, none⟩ = some (.string name) := X3.cell 2
          have f3_2 : w3.frozen? ⟨w1.heap.size, 2, none⟩ = false := X3.frozen 2
          have z3_3 : w3.cell? ⟨w1.heap.size, 3, none⟩ = some (.int .i64 length) := X3.cell 3
          have f3_3 : w3.frozen? ⟨w1.heap.size, 3, none⟩ = false := X3.frozen 3
          have z3_4 : w3.cell? ⟨w1.heap.size, 4, none⟩ = some (.int .i64 group) := X3.cell 4
          have f3_4 : w3.frozen? ⟨w1.heap.size, 4, none⟩ = false := X3.frozen 4
          have z3_5 : w3.cell? ⟨w1.heap.size, 5, none⟩ = some (.int .i64 row) := X3.cell 5
          have f3_5 : w3.frozen? ⟨w1.heap.size, 5, none⟩ = false := X3.frozen 5
          have z3_6 : w3.cell? ⟨w1.heap.size, 6, none⟩ = some (.slice ao6 rows.1 cap6) := X3.cell 6
          have f3_6 : w3.frozen? ⟨w1.heap.size, 6, none⟩ = false := X3.frozen 6
          have z3_7 : w3.cell? ⟨w1.heap.size, 7, none⟩ = some (.slice ao7 data.1 cap7) := X3.cell 7
          have f3_7 : w3.frozen? ⟨w1.heap.size, 7, none⟩ = false := X3.frozen 7
          have z3_8 : w3.cell? ⟨w1.heap.size, 8, none⟩ = some (.slice ao8 delta.1 cap8) := X3.cell 8
          have f3_8 : w3.frozen? ⟨w1.heap.size, 8, none⟩ = false := X3.frozen 8
          clear X3 b3
          clear hw3 x2_0 kx2_0 y2_0 ky2_0 z2_0 f2_0 x2_1 kx2_1 y2_1 ky2_1 z2_1 f2_1 x2_2 kx2_2 y2_2 ky2_2 z2_2 f2_2 x2_3 kx2_3 y2_3 ky2_3 z2_3 f2_3 x2_4 kx2_4 y2_4 ky2_4 z2_4 f2_4 x2_5 kx2_5 y2_5 ky2_5 z2_5 f2_5 x2_6 kx2_6 y2_6 ky2_6 z2_6 f2_6 x2_7 kx2_7 y2_7 ky2_7 z2_7 f2_7 x2_8 kx2_8 y2_8 ky2_8 z2_8 f2_8
        · go_wp2
          go_ret
          exact recP rfl (Stair.pass HOK.out (Stair.pass HK.out (Stair.pass HQ.out (Stair.pass HN.out (Stair.fall (fun h => by have := HE.out.1 h; simp at this)))))) HB3.out
        · go_wp2
          go_ret
          exact recP rfl (Stair.pass HOK.out (Stair.pass HK.out (Stair.pass HQ.out (Stair.pass HN.out (Stair.fall (fun h => by have := HE.out.1 h; simp at this)))))) HB3.out
        · go_wp2
          go_ret
          exact recP rfl (Stair.pass HOK.out (Stair.pass HK.out (Stair.pass HQ.out (Stair.pass HN.out (Stair.fall (fun h => by have := HE.out.1 h; simp at this)))))) HB3.out
        · go_wp2
          go_ret
          exact recP rfl (Stair.pass HOK.out (Stair.pass HK.out (Stair.pass HQ.out (Stair.pass HN.out (Stair.fall (fun h => by have := HE.out.1 h; simp at this)))))) HB3.out
        · go_wp2
          go_ret
          exact recP rfl (Stair.pass HOK.out (Stair.pass HK.out (Stair.pass HQ.out (Stair.pass HN.out (Stair.fall (fun h => by have := HE.out.1 h; simp at this)))))) HB3.out
        · have HKP : Hid (KindP s ⟨4, seq, name, length, group, row, rows, data, delta⟩) := HE.out.2 (by simp)
          go_wp2_with fail
          refine (l5Empty_any _ _ _ _ _ _ _ _ _ _ _ _ _ _ _ _).mono ?_
          rintro e w9 ⟨t9, rfl, ht9, b9⟩
          have HB9 : Hid (Below w.heap.size w w9) := by
            show Below w.heap.size w w9
            refine Below.trans ?_ (b9.mono ?_)
            · repeat (refine below_set ?_ (by omega))
              exact HB3.out
            · simp
              exact HB3.out.size
          clear b9
          have HT9 : Hid (t9 = true ↔ BlankP ⟨4, seq, name, length, group, row, rows, data, delta⟩) := by
            show t9 = true ↔ BlankP ⟨4, seq, name, length, group, row, rows, data, delta⟩
            rw [ht9]
            unfold EmptyQ BlankP noName
            simp [and_assoc]
            try (intros; rfl)
          clear ht9
          cases t9 with
          | false =>
            go_wp2
            go_ret
            exact recP rfl (Stair.pass HOK.out (Stair.pass HK.out (Stair.pass HQ.out (Stair.pass HN.out (Stair.pass HKP.out (Stair.fall (fun h => by have := HT9.out.2 h; simp at this))))))) HB9.out
          | true =>
            go_wp2
            go_ret
            exact recP rfl (Stair.pass HOK.out (Stair.pass HK.out (Stair.pass HQ.out (Stair.pass HN.out (Stair.pass HKP.out (Stair.pass (HT9.out.1 (by simp)) (Stair.last rfl))))))) HB9.out
    · go_wp2_with fail
      refine (l1In_b (t := false) (exBF hq) _).mono ?_
      rintro e w' ⟨rfl, hw'⟩
      obtain rfl := hw'.symm
      go_wp2
      go_ret
      exact recP rfl (Stair.pass HOK.out (Stair.pass hk (Stair.fall hq))) HT1.out.bel
  · go_wp2_with fail
    refine (l1In_b (t := false) (exBF hk) _).mono ?_
    rintro e w' ⟨rfl, hw'⟩
    obtain rfl := hw'.symm
    go_wp2
    go_ret
    exact recP rfl (Stair.pass HOK.out (Stair.fall hk)) HT1.out.bel
end Go.Proofs.YtkijpgfmjogagaaGreat
namespace Go.Proofs.YtkijpgfmjogagaaGreat
open Go.RowKit F256
theorem stair_ex {K : Int → Prop} (hK : ∃ x, K x) : ∀ l : List (Prop × Int), ∃ x, Stair l K x
  | [] => hK
  | (p, c) :: l => by
    by_cases h : p
    · obtain ⟨x, hx⟩ := stair_ex hK l
      exact ⟨x, .inr ⟨h, hx⟩⟩
    · exact ⟨c, .inl ⟨h, rfl⟩⟩
theorem rec_det {s : Nat → Int} {d : RecD} {X : Int} {w : World} {f : Nat} {args : Array Value} (hX : RecAns s d X) (h : Calls Tryz.prog f args w (RecPost s d w)) : Calls Tryz.prog f args w fun e w' => e = .returned (.int .i64 X) ∧ Below w.heap.size w w' :=
  h.mono fun e w' ⟨x, h1, h2, h3⟩ => ⟨by rw [h1, h2.one hX], h3⟩
def WldPost (d : WorldD) (w : World) (e : Ending) (w' : World) : Prop := ∃ x, e = .returned (.int .i64 x) ∧ WldAns d x ∧ Below w.heap.size w w'
theorem wldP {d : WorldD} {w : World} {e : Ending} {w' : World} {x : Int} (he : e = .returned (.int .i64 x)) (h : WldAns d x) (hb : Below w.heap.size w w') : WldPost d w e w' := ⟨x, he, h, hb⟩
def RcsPost (s : Nat → Int) (p : Nat × (Nat → TapeD)) (w : World) (e : Ending) (w' : World) : Prop := ∃ x, e = .returned (.int .i64 x) ∧ RecsAns s p.1 p.2 x ∧ Below w.heap.size w w'
theorem WQ.free {P : Program} {ops : Array Oper} {C : World → Prop} {Q : Act → Prop} {a : Act} {o : Oper} {rest : List Oper} (hw : o.guard = none)
    (h : ∀ K : Act → Prop, (∀ a, WQ P ops C Q rest a → K a) → o.quiet P a C K) : WQ P ops C Q (o :: rest) a := WQ.want (by simp [Region.wanted, hw]) h
end Go.Proofs.YtkijpgfmjogagaaGreat
namespace Go.Proofs.YtkijpgfmjogagaaGreat
open Go.RowKit F256
end Go.Proofs.YtkijpgfmjogagaaGreat
namespace Go.Proofs.YtkijpgfmjogagaaGreat
open Go.RowKit F256
structure ElInfo {α : Type} (E : Lay α) (T e : TypeId) (by_ : Nat) (zs : List Value) : Prop where
  hs : 0 < E.sz
  hzs : zs.length = E.sz
  hu : Tryz.prog.underlying T = some (.slice e)
  hi : (Tryz.prog.info? e).map (fun i => (i.zero.map (·.cells), i.size, i.bytes)) = some (some zs.toArray, E.sz, by_)
  few : by_ ≤ 1000
def Gat {α : Type} (E : Lay α) (t : TypeId) (w : World) (lo : Nat) (v : Value) (n : Nat) (x : Nat → α) : Prop := ∃ ce Ls, SlG E t w lo v n x ce Ls
section
variable {α : Type} {E : Lay α} {t : TypeId} {w w' : World} {lo n : Nat} {v : Value} {x : Nat → α}
theorem Gat.nil (x : Nat → α) (w : World) (lo : Nat) : Gat E t w lo (.slice none 0 0) 0 x := ⟨_, _, SlG.nil x w lo⟩
theorem Gat.form (h : Gat E t w lo v n x) : ∃ ao cap, v = .slice ao n cap := by
  obtain ⟨ce, Ls, h⟩ := h
  rcases h.row.2 with ⟨hv, hn⟩ | ⟨g, cap, cur, rfl, _⟩
  · exact ⟨none, 0, by rw [hv, hn]⟩
  · exact ⟨_, _, rfl⟩
theorem Gat.below (h : Gat E t w lo v n x) (hb : Below w.heap.size w w') : Gat E t w' lo v n x := by
  obtain ⟨ce, Ls, h⟩ := h
  exact ⟨ce, Ls, h.below hb⟩
theorem Gat.own (h : Gat E t w lo v n x) : OwnT (E.slice t) w lo w.heap.size (n, x) [v] := by
  obtain ⟨ce, Ls, h⟩ := h
  exact h.own
theorem Gat.congr {y : Nat → α} (h : Gat E t w lo v n x) (hy : ∀ i, i < n → x i = y i) : Gat E t w lo v n y := by
  obtain ⟨ce, Ls, h⟩ := h
  exact ⟨ce, Ls, h.row, fun i hi => by rw [← hy i hi]; exact h.each i hi, h.nd, h.low⟩
theorem SlG.mem_low {ce : Nat → List Value} {Ls : Nat → List Nat} (h : SlG E t w lo v n x ce Ls) : ∀ b, b ∈ v.ownBlock.toList ++ catN n Ls → lo ≤ b := fun b hb => by
  rcases List.mem_append.1 hb with h1 | h1
  · exact (h.row.lt b (by simpa using h1)).1
  · exact h.low b h1
theorem Gat.set (h : Gat E t w lo v n x) (b j : Nat) (u : Value) (hb : b < lo) : Gat E t (w.setCell ⟨b, j, none⟩ u) lo v n x := by
  obtain ⟨ce, Ls, h⟩ := h
  exact ⟨ce, Ls, h.kept (fun k hk => heap_setCell_other w ⟨b, j, none⟩ k u (by have := h.mem_low k hk; show k ≠ b; omega))⟩
theorem Gat.weaken {lo' : Nat} (h : Gat E t w lo v n x) (hl : lo' ≤ lo) : Gat E t w lo' v n x := by
  obtain ⟨ce, Ls, h⟩ := h
  refine ⟨ce, Ls, ⟨h.row.1, ?_⟩, h.each, h.nd, fun b hb => Nat.le_trans hl (h.low b hb)⟩
  rcases h.row.2 with hn | ⟨g, cap, cur, rfl, hbg, rest⟩
  · exact .inl hn
  · exact .inr ⟨g, cap, cur, rfl, by omega, rest⟩
end
end Go.Proofs.YtkijpgfmjogagaaGreat
namespace Go.Proofs.YtkijpgfmjogagaaGreat
open Go.RowKit F256
def blankB : BlockD := ⟨0, (4, fun _ => 0)⟩
def freshD (rows : Nat) : DriveD := ⟨false, (rows, fun _ => blankB)⟩
theorem Three.low {w wc w' : World} {c1 c2 c3 : Array Value} {t1 t2 t3 : TypeId} (h : Three w wc c1 c2 c3 t1 t2 t3) (hb : Below (w.heap.size + 1 + 1 + 1) wc w') : Three w w' c1 c2 c3 t1 t2 t3 :=
  ⟨h.b1.below hb (by omega), h.b2.below hb (by omega), h.b3.below hb (by omega), h.bel.trans (hb.mono (by omega))⟩
end Go.Proofs.YtkijpgfmjogagaaGreat
namespace Go.Proofs.YtkijpgfmjogagaaGreat
open Go.RowKit F256
section
variable {α : Type} {E : Lay α} {t : TypeId} {w w1 : World} {lo g cap n k : Nat} {x : Nat → α} {ce : Nat → List Value} {Ls : Nat → List Nat}
theorem SlP.count {x1 : Nat → α} {ce1 : Nat → List Value} (h1 : SlP E t w1 lo g cap n k x1 ce1 Ls) (h : SlP E t w lo g cap n k x ce Ls) {a : α} {K : List Nat} (ha : E.own w a (ce k) K) (hnd : K.Nodup) (hK : ∀ b, b ∈ K → w1.heap.size ≤ b) (hlo : lo ≤ w1.heap.size) :
    SlP E t w lo g cap n (k + 1) (upd x k a) ce (upd Ls k K) := by
  have eL : catN (k + 1) (upd Ls k K) = catN k Ls ++ K := by
    rw [catN_succ, upd_at, catN_congr (g := Ls) (fun i hi => upd_ne Ls K (by omega))]
  refine ⟨h.row, h.lens, fun i hi => ?_, ?_, ?_⟩
  · by_cases c : i = k
    · subst c; rw [upd_at, upd_at]; exact ha
    · rw [upd_ne x a c, upd_ne Ls K c]; exact h.each i (by omega)
  · rw [eL]
    refine List.nodup_cons.2 ⟨fun hb => ?_, List.nodup_append.2 ⟨(List.nodup_cons.1 h.nd).2, hnd, fun b hb c hc hh => ?_⟩⟩
    · rcases List.mem_append.1 hb with h3 | h3
      · exact (List.nodup_cons.1 h.nd).1 h3
      · have := hK g h3; have := h1.lt; omega
    · subst hh
      have k1 := h1.mem_lt b hb
      have k2 := hK b hc
      omega
  · rw [eL]
    intro b hb
    rcases List.mem_append.1 hb with h3 | h3
    · exact h.low b h3
    · have := hK b h3; omega
theorem SlP.congr {y : Nat → α} (h : SlP E t w lo g cap n k x ce Ls) (hy : ∀ i, i < k → x i = y i) : SlP E t w lo g cap n k y ce Ls := ⟨h.row, h.lens, fun i hi => by rw [← hy i hi]; exact h.each i hi, h.nd, h.low⟩
theorem SlP.zero {zs : List Value} {a : α} (h : SlP E t w lo g cap n 0 x (fun _ => zs) Ls) (hz : E.own w a zs []) (hg : lo ≤ g) : OwnT (E.slice t) w lo w.heap.size (n, fun _ => a) [.slice (Option.some ⟨g, 0, none⟩) n cap] := by
  have e : ∀ m, catN m (fun _ => ([] : List Nat)) = [] := fun m => by
    induction m with
    | zero => rfl
    | succ m ih => rw [catN_succ, ih]; rfl
  have h2 : SlP E t w lo g cap n n (fun _ => a) (fun _ => zs) (fun _ => []) := ⟨h.row, h.lens, fun i _ => hz, by rw [e]; simp, fun b hb => by rw [e] at hb; cases hb⟩
  exact h2.done hg
end
theorem run_makeT {α : Type} {E : Lay α} {T e : TypeId} {by_ : Nat} {zs : List Value} (I : ElInfo E T e by_ zs) (x : Nat → α) (Ls : Nat → List Nat) (w : World) (n : Nat) (hn : n ≤ 10000000) :
    ∃ w', (Instr.makeSlice T (.int .i64 (n : Int)) (.int .i64 (n : Int))).run Tryz.prog w = .ok (.slice (some ⟨w.heap.size, 0, none⟩) n n) w' ∧ SlP E e w' w.heap.size w.heap.size n n 0 x (fun _ => zs) Ls ∧ Below w.heap.size w w' := by
  obtain ⟨hs, hzs, hu, hi, few⟩ := I
  obtain ⟨i0, hi0⟩ : ∃ i0, Tryz.prog.info? e = some i0 := by
    cases h : Tryz.prog.info? e with
    | none => rw [h] at hi; cases hi
    | some i0 => exact ⟨i0, rfl⟩
  rw [hi0] at hi
  simp only [Option.map_some, Option.some.injEq, Prod.mk.injEq] at hi
  obtain ⟨h1, h2, h3⟩ := hi
  obtain ⟨z, hz, hzc⟩ : ∃ z, i0.zero = some z ∧ z.cells = zs.toArray := by
    cases h : i0.zero with
    | none => rw [h] at h1; cases h1
    | some z => rw [h] at h1; exact ⟨z, rfl, by simpa using h1⟩
  obtain ⟨w', hrun, hown, hgrow⟩ := run_make_full (P := Tryz.prog) w w.heap.size T e i0 z E.sz hu hi0 hz h2 .i64 .i64 n (by
    rw [h3]
    have : by_ * n ≤ 1000 * 10000000 := Nat.mul_le_mul few hn
    omega) (by unfold maxLen; omega) (Nat.le_refl _)
  rw [hzc, ← hzs, catN_made zs (by omega)] at hown
  rw [hzs] at hown
  exact ⟨w', hrun, ⟨hown, fun _ _ => hzs, fun i hi => by omega, by simp [catN_zero], fun b hb => by rw [catN_zero] at hb; cases hb⟩, below_of_grown hgrow⟩
end Go.Proofs.YtkijpgfmjogagaaGreat
namespace Go.Proofs.YtkijpgfmjogagaaGreat
open Go.RowKit F256
def noRec : RecD := ⟨0, 0, ByteArray.empty, 0, 0, 0, (0, fun _ => 0), (0, fun _ => 0), (0, fun _ => 0)⟩
def zeroT : TapeD := ⟨false, (0, fun _ => noRec)⟩
def zeroW : WorldD := ⟨fun _ => 0, (0, fun _ => (0, fun _ => freshD 0)), (0, fun _ => 0), (0, fun _ => zeroT), 0, 0, false⟩
def newW (s : Nat → Int) : WorldD := ⟨s, ((s 0 + s 1).toNat, fun _ => ((s 2 + s 3).toNat, fun _ => freshD (s 4).toNat)), (0, fun _ => 0), (2, fun _ => zeroT), 0, -1, false⟩
def NewAns (s : Nat → Int) (d : WorldResultD) : Prop := (¬ OkShape s ∧ d = ⟨3, zeroW⟩) ∨ (OkShape s ∧ d = ⟨0, newW s⟩)
theorem NewAns.one {s : Nat → Int} {d e : WorldResultD} (h : NewAns s d) (k : NewAns s e) : d = e := by
  rcases h with ⟨h1, h2⟩ | ⟨h1, h2⟩ <;> rcases k with ⟨k1, k2⟩ | ⟨k1, k2⟩
  · rw [h2, k2]
  · exact absurd k1 h1
  · exact absurd h1 k1
  · rw [h2, k2]
theorem own_noSl {α : Type} {E : Lay α} {t : TypeId} (w : World) (x : Nat → α) : (E.slice t).own w (0, x) [.slice none 0 0] [] := ⟨_, fun _ => [], fun _ => [], rfl, rfl, World.ownsRow_nil w 0 t E.sz, fun i hi => by omega⟩
theorem own_zeroT (w : World) : layTape.own w zeroT [.bool false, .slice none 0 0] [] := ⟨_, _, [], [], rfl, rfl, ⟨rfl, trivial, rfl⟩, own_noSl w _⟩
theorem ChgL.bel {K : List Nat} {w w' : World} {B : Nat} (hc : ChgL K w w') (hK : ∀ b, b ∈ K → B ≤ b) (hB : B ≤ w.heap.size) : Below B w w' := ⟨hc.os, hc.tape, hc.output, hc.size, fun k hk => hc.block k (by omega) (fun h => by have := hK k h; omega)⟩
theorem ChgL.after {K : List Nat} {a b c : World} (h : ChgL K a b) (k : Below a.heap.size b c) : ChgL K a c := ⟨k.os.trans h.os, k.tape.trans h.tape, k.output.trans h.output, Nat.le_trans h.size k.size, fun i hi hn => (k.block i hi).trans (h.block i hi hn)⟩
structure NewBx (cs : Array Value) (w1 wx : World) (P t : Nat) : Prop where
  box : Box wx P cs 37
  tp : (layTape.slice 80).own wx (2, fun _ => zeroT) [.slice (some ⟨t, 0, none⟩) 2 2] [t]
  p1 : w1.heap.size ≤ P
  t1 : w1.heap.size ≤ t
  ne : t ≠ P
  bel : Below w1.heap.size w1 wx
theorem SlP.two {w : World} {lo t cap : Nat} {x : Nat → TapeD} {Ls : Nat → List Nat} (h : SlP layTape 80 w lo t cap 2 0 x (fun _ => [.bool false, .slice none 0 0]) Ls) : (layTape.slice 80).own w (2, fun _ => zeroT) [.slice (Option.some ⟨t, 0, none⟩) 2 cap] [t] := by
  refine ⟨_, fun _ => [.bool false, .slice none 0 0], fun _ => [], rfl, rfl, ⟨h.row.1, ?_⟩, fun i _ => own_zeroT w⟩
  rcases h.row.2 with ⟨hn, _⟩ | ⟨g', cap', cur, he, hbg, rest⟩
  · cases hn
  · exact .inr ⟨g', cap', cur, he, Nat.zero_le _, rest⟩
end Go.Proofs.YtkijpgfmjogagaaGreat
namespace Go.Proofs.YtkijpgfmjogagaaGreat
open Go.RowKit F256
theorem Chg.bel {lo hi B : Nat} {w w' : World} (h : Chg lo hi w w') (hl : B ≤ lo) (hB : B ≤ w.heap.size) : Below B w w' := ⟨h.os, h.tape, h.output, h.size, fun k hk => h.block k (by omega) (.inl (by omega))⟩
end Go.Proofs.YtkijpgfmjogagaaGreat
namespace Go.Proofs.YtkijpgfmjogagaaGreat
open Go.RowKit F256
theorem OwnT.one {α : Type} {A : Lay α} {w : World} {lo hi : Nat} {a : α} {cs : List Value} (h : OwnT A w lo hi a cs) : ∀ v, v ∈ cs → v.oneCell' = true := by
  obtain ⟨L, h1, _⟩ := h
  exact fun v hv => A.own_one h1 v hv
theorem wp_allocStore {ops : Array Oper} {rest : List Oper} {o1 o2 : Oper} {a : Act} {w : World} {Q : Exit → Act → World → Prop} (T : TypeId) (k : Nat) (x : Operand) (cs : List Value) (zs : Array Value) (n : Nat)
    (hop1 : o1.op = Op.alloc T) (hop2 : o2.op = Op.store T (.tmp k) x) (hg1 : o1.guard = none) (hg2 : o2.guard = none) (hd1 : o1.dst = some k) (hd2 : o2.dst = none)
    (hp : (a.put (some k) (.pointer (some ⟨w.heap.size, 0, none⟩))).eval (.tmp k) = .pointer (some ⟨w.heap.size, 0, none⟩)) (hx : (a.put (some k) (.pointer (some ⟨w.heap.size, 0, none⟩))).eval x = .agg cs.toArray)
    (hi : (Tryz.prog.info? T).map (fun i => (i.zero.map (·.cells), i.size)) = some (some zs, n)) (hz : zs.size = n) (hl : cs.length = n) (h1 : ∀ v, v ∈ cs → v.oneCell' = true)
    (h : wpList Tryz.prog ops Q rest (a.put (some k) (.pointer (some ⟨w.heap.size, 0, none⟩))) (w.alloc (.cells cs.toArray T))) : wpList Tryz.prog ops Q (o1 :: o2 :: rest) a w := by
  obtain ⟨i0, hi0⟩ : ∃ i0, Tryz.prog.info? T = some i0 := by
    cases h : Tryz.prog.info? T with
    | none => rw [h] at hi; cases hi
    | some i0 => exact ⟨i0, rfl⟩
  rw [hi0] at hi
  simp only [Option.map_some, Option.some.injEq, Prod.mk.injEq] at hi
  obtain ⟨h2, h3⟩ := hi
  obtain ⟨z, hzz, hzc⟩ : ∃ z, i0.zero = some z ∧ z.cells = zs := by
    cases h : i0.zero with
    | none => rw [h] at h2; cases h2
    | some z => rw [h] at h2; exact ⟨z, rfl, by simpa using h2⟩
  have hr : (Instr.alloc T true (.tuple #[])).run Tryz.prog w = .ok (.pointer (some ⟨w.heap.size, 0, none⟩)) (w.alloc (.cells zs T)) := by
    simp [Instr.alloc, zeroValue, typeInfo, hi0, hzz, hzc, newVar, newRow]
  have hw : (w.alloc (.cells zs T)).setRow w.heap.size cs.toArray = w.alloc (.cells cs.toArray T) := by
    have hh : ((w.alloc (.cells zs T)).setRow w.heap.size cs.toArray).heap = w.heap.push (.cells cs.toArray T) := by
      apply Array.ext_getElem?
      intro i
      by_cases c : i = w.heap.size
      · subst c
        rw [setRow_heap (w.alloc (.cells zs T)) w.heap.size zs cs.toArray T (0, 0) (box_new w zs T), Array.getElem?_push, if_pos rfl]
      · rw [setRow_other _ _ _ _ c, Array.getElem?_push, if_neg c]
        show (w.heap.push _)[i]? = _
        rw [Array.getElem?_push, if_neg c]
    show ({ w with heap := ((w.alloc (.cells zs T)).setRow w.heap.size cs.toArray).heap } : World) = _
    rw [hh]
    rfl
  refine wpList_plain hg1 fun K hK => ?_
  unfold Oper.wp execOp
  simp only [hop1, Sem.run_bind, hr, Result.andThen_ok]
  refine hK _ _ ?_
  rw [hd1]
  refine wpList_store_row hg2 T (.tmp k) x hop2 w.heap.size cs.toArray hp hx T zs (box_new w zs T) (by rw [hi0]; simp [h3, hl]) (by simp [hz, hl]) (by simp; exact h1) ?_
  rw [hw, hd2]
  exact h
theorem wp_loadBox {ops : Array Oper} {rest : List Oper} {o : Oper} {a : Act} {w : World} {Q : Exit → Act → World → Prop} (T : TypeId) (x : Operand) (ho : o.op = .load T x) (hgd : o.guard = none) (b : Nat) (hx : a.eval x = .pointer (some ⟨b, 0, none⟩)) {cs : List Value} (hB : Box w b cs.toArray T) {fs : Array Field} (hu : Tryz.prog.underlying T = some (.struct fs)) {n : Nat} (hi : (Tryz.prog.info? T).map (·.size) = some n) (hl : cs.length = n)
    (h : wpList Tryz.prog ops Q rest (a.put o.dst (.agg cs.toArray)) w) : wpList Tryz.prog ops Q (o :: rest) a w :=
  wpList_load_row hgd T x ho b hx T cs.toArray (0, 0) (.struct fs) hB hu rfl (by rw [hi]; simp [hl]) h
theorem OwnT.len {α : Type} {A : Lay α} {w : World} {lo hi : Nat} {a : α} {cs : List Value} (h : OwnT A w lo hi a cs) : cs.length = A.sz := by
  obtain ⟨L, h1, _⟩ := h
  exact A.own_len h1
theorem size_W : (Tryz.prog.info? 37).map (·.size) = some 15 := by kernel_rfl
theorem size_LW : (Tryz.prog.info? 28).map (·.size) = some 15 := by kernel_rfl
theorem info_W : (Tryz.prog.info? 37).map (fun i => (i.zero.map (·.cells), i.size)) = some (some #[.int .i64 0, .int .i64 0, .int .i64 0, .int .i64 0, .int .i64 0, .int .i64 0, .int .i64 0, .int .i64 0, .int .i64 0, .slice none 0 0, .slice none 0 0, .slice none 0 0, .int .i64 0, .int .i64 0, .bool false], 15) := by kernel_rfl
end Go.Proofs.YtkijpgfmjogagaaGreat
namespace Go.Proofs.YtkijpgfmjogagaaGreat
open Go.RowKit
section
variable {P : Program} {ops : Array Oper} {Q : Exit → Act → World → Prop} {md : Region.Mode} {S : World → Prop} {L : Nat}
def wpAnyL (P : Program) (md : Region.Mode) (ops : Array Oper) (Q : Exit → Act → World → Prop) (S : World → Prop) (L : Nat) : Nat → Array Bool → Act → World → Prop
  | 0, listed, a, w => Region.ready md ops listed = [] ∧ Q .normal a w
  | fuel + 1, listed, a, w =>
    (Region.ready md ops listed = [] → Q .normal a w) ∧
    ∀ i ∈ Region.ready md ops listed, wpOp P ops Q i (fun a' w' => (i ≠ L → S w') ∧ wpAnyL P md ops Q S L fuel (listed.setIfInBounds i true) a' w') a w
theorem wpAny_of_L : ∀ (fuel : Nat) (listed : Array Bool) (a : Act) (w : World), wpAnyL P md ops Q S L fuel listed a w → wpAny P md ops Q fuel listed a w
  | 0, _, _, _, h => h
  | fuel + 1, _, _, _, h => ⟨h.1, fun i hi => wpOp_mono (fun a' w' h' => wpAny_of_L fuel _ a' w' h'.2) (h.2 i hi)⟩
def ClosedP (md : Region.Mode) (ops : Array Oper) (listed : Array Bool) : Prop :=
  ∀ j oj, ops[j]? = some oj → listed.getD j false = true → ∀ e ∈ oj.after, Region.binds md e = true → listed.getD e.on false = true
def closedB (md : Region.Mode) (ops : Array Oper) (listed : Array Bool) : Bool :=
  (List.range ops.size).all fun j => !listed.getD j false || ((ops[j]?).map (·.after.all fun e => !Region.binds md e || listed.getD e.on false)).getD false
theorem closed_of {listed : Array Bool} (h : closedB md ops listed = true) : ClosedP md ops listed := fun j oj hj hl e he hb => by
  unfold closedB at h
  have hlt : j < ops.size := (Array.getElem?_eq_some_iff.1 hj).1
  have h1 := List.all_eq_true.1 h j (List.mem_range.2 hlt)
  rw [hl, hj] at h1
  simp only [Bool.not_true, Bool.false_or, Option.map_some, Option.getD_some, Array.all_eq_true_iff_forall_mem] at h1
  have h2 := h1 e he
  rw [hb] at h2
  simpa using h2
theorem closed_step {listed : Array Bool} {j : Nat} (h : ClosedP md ops listed) (hj : j ∈ Region.ready md ops listed) : ClosedP md ops (listed.setIfInBounds j true) := fun k ok hk hl e he hb => by
  obtain ⟨_, o, ho, hall⟩ := mem_ready.1 hj
  by_cases c : j = k
  · subst c
    rw [hk] at ho
    cases ho
    exact getD_set_true (hall e he hb)
  · rw [getD_set_ne false c] at hl
    exact getD_set_true (h k ok hk hl e he hb)
def depB (md : Region.Mode) (ops : Array Oper) : Nat → Nat → Nat → Bool
  | 0, l, i => l == i
  | n + 1, l, i => l == i || ((ops[l]?).map (·.after.any fun e => Region.binds md e && depB md ops n e.on i)).getD false
theorem dep_listed {listed : Array Bool} (hc : ClosedP md ops listed) : ∀ (n l i : Nat), depB md ops n l i = true → listed.getD l false = true → listed.getD i false = true
  | 0, l, i, h, hl => by
    unfold depB at h
    have : l = i := by simpa using h
    rw [← this]; exact hl
  | n + 1, l, i, h, hl => by
    unfold depB at h
    rcases Bool.or_eq_true _ _ ▸ h with h1 | h1
    · have : l = i := by simpa using h1
      rw [← this]; exact hl
    · cases ho : ops[l]? with
      | none => rw [ho] at h1; simp at h1
      | some o =>
        rw [ho] at h1
        simp only [Option.map_some, Option.getD_some] at h1
        obtain ⟨k, hk, hbk⟩ := Array.any_eq_true.1 h1
        obtain ⟨hb, hd⟩ := Bool.and_eq_true _ _ ▸ hbk
        exact dep_listed hc n _ i hd (hc l o ho hl _ (Array.getElem_mem hk) hb)
theorem dep_waits {listed : Array Bool} (hc : ClosedP md ops listed) {n i : Nat} (hne : L ≠ i) (hd : depB md ops n L i = true) (hi : listed.getD i false = false) : L ∉ Region.ready md ops listed := fun hL => by
  obtain ⟨_, o, ho, hall⟩ := mem_ready.1 hL
  cases n with
  | zero => unfold depB at hd; exact hne (by simpa using hd)
  | succ n =>
    unfold depB at hd
    rcases Bool.or_eq_true _ _ ▸ hd with h1 | h1
    · exact hne (by simpa using h1)
    · rw [ho] at h1
      simp only [Option.map_some, Option.getD_some] at h1
      obtain ⟨k, hk, hbk⟩ := Array.any_eq_true.1 h1
      obtain ⟨hb, hd'⟩ := Bool.and_eq_true _ _ ▸ hbk
      have := dep_listed hc n _ i hd' (hall _ (Array.getElem_mem hk) hb)
      rw [hi] at this
      cases this
theorem unlisted_false {listed : Array Bool} {i : Nat} (h : listed.getD i true = false) : listed.getD i false = false := by
  rcases Nat.lt_or_ge i listed.size with h' | h'
  · simpa [h'] using h
  · simp [Array.getElem?_eq_none h'] at h
theorem wpAnyL_first {i : Nat} {oi : Oper} {v : Value} (hi : ops[i]? = some oi) (hsel : ∀ (j : Nat) (o : Oper) cs b, ops[j]? = some o → o.op ≠ .select cs b)
    (hQ : ∀ c a w, Q (.panic c) (a.put oi.dst v) w → Q (.panic c) a w) (hLi : L ≠ i) {n : Nat} (hd : depB md ops n L i = true) :
    ∀ (fuel : Nat) (listed : Array Bool) (a : Act) (w : World), ClosedP md ops listed →
      (∀ j oj, ops[j]? = some oj → j ≠ i → listed.getD j true = false → (∀ e ∈ oj.after, Region.binds md e = true → e.on ≠ i) → oi.apart ops oj = true) →
      i ∈ Region.ready md ops listed → YieldsIf P ops S oi v a → S w →
      wpAnyL P md ops Q S L fuel (listed.setIfInBounds i true) (a.put oi.dst v) w → wpAnyL P md ops Q S L (fuel + 1) listed a w := by
  intro fuel
  induction fuel with
  | zero =>
    intro listed a w _ _ hr hy hS H
    refine ⟨fun h => (by rw [h] at hr; cases hr), fun j hj => ?_⟩
    by_cases hji : j = i
    · subst hji; exact hy.wpOp hi hS ⟨fun _ => hS, H⟩
    · have := ready_mono hj hji
      rw [H.1] at this
      cases this
  | succ fuel ih =>
    intro listed a w hcl hfree hr hy hS H
    refine ⟨fun h => (by rw [h] at hr; cases hr), fun j hj => ?_⟩
    by_cases hji : j = i
    · subst hji; exact hy.wpOp hi hS ⟨fun _ => hS, H⟩
    · have hjL : j ≠ L := fun h => by
        subst h
        exact dep_waits hcl hLi hd (unlisted_false (mem_ready.1 hr).1) hj
      have h1 := H.2 j (ready_mono hj hji)
      obtain ⟨hjun, oj, hoj, hall⟩ := mem_ready.1 hj
      have hnot : ∀ e ∈ oj.after, Region.binds md e = true → e.on ≠ i := fun e he hb heq => by
        have h1 := hall e he hb
        have h0 := unlisted_false (mem_ready.1 hr).1
        rw [heq, h0] at h1
        cases h1
      have h2 := wpOp_putIf hoj (hfree j oj hoj hji hjun hnot) (fun cs b => hsel i oi cs b hi) (fun cs b => hsel j oj cs b hoj) hQ hy h1
      have hfree' : ∀ k ok, ops[k]? = some ok → k ≠ i → (listed.setIfInBounds j true).getD k true = false →
          (∀ e ∈ ok.after, Region.binds md e = true → e.on ≠ i) → oi.apart ops ok = true := fun k ok hk hki hun hno => by
        refine hfree k ok hk hki ?_ hno
        by_cases hjk : j = k
        · subst hjk; exact hjun
        · rw [getD_set_ne true hjk] at hun; exact hun
      refine wpOp_mono (fun a' w' h3 => ⟨h3.2.1, ih (listed.setIfInBounds j true) a' w' (closed_step hcl hj) hfree' (ready_mono hr (Ne.symm hji)) h3.1 (h3.2.1 hjL) ?_⟩) h2
      rw [Array.setIfInBounds_comm _ _ hji]
      exact h3.2.2
theorem wpAnyL_take {i : Nat} {oi : Oper} {v : Value} {fuel : Nat} {listed : Array Bool} {a : Act} {w : World} (n : Nat) (hi : ops[i]? = some oi)
    (hs : (Region.noSelect ops && Region.free md ops listed i && (Region.ready md ops listed).contains i && !(L == i) && depB md ops n L i && closedB md ops listed) = true)
    (hQ : ∀ c a w, Q (.panic c) (a.put oi.dst v) w → Q (.panic c) a w) (hy : YieldsIf P ops S oi v a) (hS : S w)
    (h : wpAnyL P md ops Q S L fuel (listed.setIfInBounds i true) (a.put oi.dst v) w) : wpAnyL P md ops Q S L (fuel + 1) listed a w := by
  simp only [Bool.and_eq_true, Bool.not_eq_true', beq_eq_false_iff_ne] at hs
  obtain ⟨⟨⟨⟨⟨h1, h2⟩, h3⟩, h4⟩, h5⟩, h6⟩ := hs
  exact wpAnyL_first hi (Region.noSelect_spec h1) hQ h4 h5 fuel listed a w (closed_of h6) (Region.free_spec hi h2) (by simpa using h3) hy hS h
theorem wpAnyL_one {i : Nat} {o : Oper} {fuel : Nat} {listed : Array Bool} {a : Act} {w : World} (ho : ops[i]? = some o) (hr : Region.ready md ops listed = [i])
    (h : ∀ K' : Act → World → Prop, Shut (∀ a w, S w → (S w → wpAnyL P md ops Q S L fuel (listed.setIfInBounds i true) a w) → K' a w) → if Region.wanted o (yielded ops a.tmps) = true then Oper.wp P o a w K' Q else K' (a.put o.dst undef) w) : wpAnyL P md ops Q S L (fuel + 1) listed a w := by
  refine ⟨fun h0 => (by rw [hr] at h0; cases h0), fun j hj => ?_⟩
  rw [hr] at hj
  obtain rfl : j = i := by simpa using hj
  exact wpOp_step ho (fun K' hK => h K' (fun a w hS hW => hK a w ⟨fun _ => hS, hW hS⟩))
theorem wpAnyL_last {o : Oper} {fuel : Nat} {listed : Array Bool} {a : Act} {w : World} (ho : ops[L]? = some o) (hr : Region.ready md ops listed = [L])
    (h : ∀ K' : Act → World → Prop, Shut (∀ a w, wpAnyL P md ops Q S L fuel (listed.setIfInBounds L true) a w → K' a w) → if Region.wanted o (yielded ops a.tmps) = true then Oper.wp P o a w K' Q else K' (a.put o.dst undef) w) : wpAnyL P md ops Q S L (fuel + 1) listed a w := by
  refine ⟨fun h0 => (by rw [hr] at h0; cases h0), fun j hj => ?_⟩
  rw [hr] at hj
  obtain rfl : j = L := by simpa using hj
  exact wpOp_step ho (fun K' hK => h K' (fun a w hW => hK a w ⟨fun hn => absurd rfl hn, hW⟩))
theorem wpAnyL_done {listed : Array Bool} {a : Act} {w : World} (hr : Region.ready md ops listed = []) (h : Q .normal a w) : ∀ fuel, wpAnyL P md ops Q S L fuel listed a w
  | 0 => ⟨hr, h⟩
  | _ + 1 => ⟨fun _ => h, by rw [hr]; simp⟩
theorem wp_region_L {id : Nat} {a : Act} {w : World} (L : Nat) (S : World → Prop) (hm : P.follows .mixedOrders = true) (hS : S w.drew)
    (h : S w.drew → wpAnyL P .any ops Q S L ops.size (Array.replicate ops.size false) a w.drew) : (Code.region id ops true).wp P Q a w :=
  wp_region_any hm (wpAny_of_L _ _ _ _ (h hS))
end
end Go.Proofs.YtkijpgfmjogagaaGreat
namespace Go.Proofs.YtkijpgfmjogagaaGreat
open Go.RowKit F256
end Go.Proofs.YtkijpgfmjogagaaGreat
namespace Go.Proofs.YtkijpgfmjogagaaGreat
open Go.RowKit
section
variable {ops : Array Oper} {Q : Exit → Act → World → Prop} {md : Region.Mode} {S : World → Prop} {L : Nat}
theorem load_yield {o : Oper} {a : Act} (T : TypeId) (x : Operand) (ho : o.op = .load T x) (hg : o.guard = none) (b : Nat) (hx : a.eval x = .pointer (some ⟨b, 0, none⟩)) {cs : List Value} (hB : ∀ w, S w → Box w b cs.toArray T) {fs : Array Field} (hu : Tryz.prog.underlying T = some (.struct fs)) {n : Nat} (hi : (Tryz.prog.info? T).map (·.size) = some n) (hl : cs.length = n) : YieldsIf Tryz.prog ops S o (.agg cs.toArray) a := by
  refine .inl ⟨by simp [Region.wanted, hg], fun w hS => ?_⟩
  unfold execOp
  simp only [ho, hx, Instr.loadAt, Instr.sureAddr, Sem.run_bind, Sem.run_pure, Result.andThen_ok, run_loadVar_row w b T T cs.toArray (0, 0) (.struct fs) (hB w hS) hu rfl (by rw [hi]; simp [hl])]
end
theorem below_drew (w : World) : Below w.heap.size w w.drew := ⟨rfl, rfl, rfl, Nat.le_refl _, fun _ _ => rfl⟩
end Go.Proofs.YtkijpgfmjogagaaGreat