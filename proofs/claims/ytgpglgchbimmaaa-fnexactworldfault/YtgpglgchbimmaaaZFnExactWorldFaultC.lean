/- Walk of the program's ShapeFault. -/
import Derived.Test.YtgpglgchbimmaaaZFnExactWorldFaultB
import Derived.Deep.Cut
import Derived.Deep.DeepCutAuto
import Derived.Test.YtgpglgchbimmaaaWRowA
import Derived.Test.YtgpglgchbimmaaaWInts
import Derived.Test.YtgpglgchbimmaaaZFnExactWorldFaultA
import Derived.BigQuiet
import Derived.Deep.QuietTactic
import Derived.StillTailTactics
import Derived.Lib.MinMax
import Derived.Laws.StructEq
namespace Go.Proofs.Ytgpglgchbimmaaa
open Go.RowKit F256
set_option linter.unusedVariables false
set_option linter.unusedSimpArgs false

/-- RecFault has told what is to be told -/
def RecPost (s : Nat → Int) (r : RecD) (w : World) (e : Ending) (w' : World) : Prop := ∃ x, e = .returned (.int .i64 x) ∧ RecAns s r x ∧ Below w.heap.size w w'
theorem recP {s : Nat → Int} {r : RecD} {w : World} {e : Ending} {w' : World} {x : Int} (he : e = .returned (.int .i64 x)) (h : RecAns s r x) (hb : Below w.heap.size w w') : RecPost s r w e w' := ⟨x, he, h, hb⟩
theorem exBT {P : Prop} (h : P) : true = true ↔ P := ⟨fun _ => h, fun _ => rfl⟩
theorem exBF {P : Prop} (h : ¬ P) : false = true ↔ P := ⟨fun h => (by cases h), fun hh => absurd hh h⟩

set_option maxHeartbeats 16000000 in
set_option maxRecDepth 20000 in
theorem specRec_any (s : Nat → Int) (r : RecD) (cs : List Value) (hi : Nat) (w : World) (h : layRec.rd w hi r cs) (hhi : hi ≤ w.heap.size) (hnm : r.name.size ≤ 1048576) :
    Calls Try.prog 11 #[shapeV s, .agg cs.toArray] w (RecPost s r w) := by
  obtain ⟨kind, seq, name, length, group, row, rows, data, delta⟩ := r
  obtain ⟨ao6, cap6, ao7, cap7, ao8, cap8, rfl, g6, g7, g8, k0, k1, k2, k3, k4, k5⟩ := Rec_rd h
  have HRD : Hid (layRec.rd w hi ⟨kind, seq, name, length, group, row, rows, data, delta⟩ [.int .i64 kind, .int .i64 seq, .string name, .int .i64 length, .int .i64 group, .int .i64 row, .slice ao6 rows.1 cap6, .slice ao7 data.1 cap7, .slice ao8 delta.1 cap8]) := h
  obtain ⟨v6, e6, ⟨h6, hcp6⟩, _⟩ := g6
  cases e6
  have H6 : Hid (RdI w hi (.slice ao6 rows.1 cap6) rows.1 rows.2) := h6
  have hm6 : rows.1 ≤ maxLen := h6.mx
  obtain ⟨v7, e7, ⟨_, _, e7', hm7, _⟩, _⟩ := g7
  cases e7
  cases e7'
  obtain ⟨v8, e8, ⟨_, _, e8', hm8, _⟩, _⟩ := g8
  cases e8
  cases e8'
  unfold maxLen at hm6 hm7 hm8
  simp only at k0 k1 k2 k3 k4 k5 hm6 hm7 hm8 hnm
  clear h h6 hcp6
  have T0 := two_newb w #[.int .i64 (s 0), .int .i64 (s 1), .int .i64 (s 2), .int .i64 (s 3), .int .i64 (s 4), .int .i64 (s 5), .int .i64 (s 6), .int .i64 (s 7), .int .i64 (s 8)] #[.int .i64 kind, .int .i64 seq, .string name, .int .i64 length, .int .i64 group, .int .i64 row, .slice ao6 rows.1 cap6, .slice ao7 data.1 cap7, .slice ao8 delta.1 cap8] 31 45
  have CSh := fun w' => specShape_any s w'
  unfold shapeV at CSh ⊢
  go_enter Try.func11, Try.ntmps11
  go_wp2_with fail
  refine (CSh _).mono ?_
  rintro e w1 ⟨x, rfl, hx, b1⟩
  have T1 : Two w w1 #[.int .i64 (s 0), .int .i64 (s 1), .int .i64 (s 2), .int .i64 (s 3), .int .i64 (s 4), .int .i64 (s 5), .int .i64 (s 6), .int .i64 (s 7), .int .i64 (s 8)] #[.int .i64 kind, .int .i64 seq, .string name, .int .i64 length, .int .i64 group, .int .i64 row, .slice ao6 rows.1 cap6, .slice ao7 data.1 cap7, .slice ao8 delta.1 cap8] 31 45 := T0.call b1
  have HT1 : Hid (Two w w1 #[.int .i64 (s 0), .int .i64 (s 1), .int .i64 (s 2), .int .i64 (s 3), .int .i64 (s 4), .int .i64 (s 5), .int .i64 (s 6), .int .i64 (s 7), .int .i64 (s 8)] #[.int .i64 kind, .int .i64 seq, .string name, .int .i64 length, .int .i64 group, .int .i64 row, .slice ao6 rows.1 cap6, .slice ao7 data.1 cap7, .slice ao8 delta.1 cap8] 31 45) := T1
  have z1 : w.heap.size + 1 < w1.heap.size := T1.b2.lt
  clear b1 T0 CSh
  have x1_0 : w1.cell? ⟨w.heap.size, 0, none⟩ = some (.int .i64 (s 0)) := T1.b1.cell 0
  have x1_1 : w1.cell? ⟨w.heap.size, 1, none⟩ = some (.int .i64 (s 1)) := T1.b1.cell 1
  have x1_2 : w1.cell? ⟨w.heap.size, 2, none⟩ = some (.int .i64 (s 2)) := T1.b1.cell 2
  have x1_3 : w1.cell? ⟨w.heap.size, 3, none⟩ = some (.int .i64 (s 3)) := T1.b1.cell 3
  have x1_4 : w1.cell? ⟨w.heap.size, 4, none⟩ = some (.int .i64 (s 4)) := T1.b1.cell 4
  have x1_5 : w1.cell? ⟨w.heap.size, 5, none⟩ = some (.int .i64 (s 5)) := T1.b1.cell 5
  have x1_6 : w1.cell? ⟨w.heap.size, 6, none⟩ = some (.int .i64 (s 6)) := T1.b1.cell 6
  have x1_7 : w1.cell? ⟨w.heap.size, 7, none⟩ = some (.int .i64 (s 7)) := T1.b1.cell 7
  have x1_8 : w1.cell? ⟨w.heap.size, 8, none⟩ = some (.int .i64 (s 8)) := T1.b1.cell 8
  have y1_0 : w1.cell? ⟨w.heap.size + 1, 0, none⟩ = some (.int .i64 kind) := T1.b2.cell 0
  have y1_1 : w1.cell? ⟨w.heap.size + 1, 1, none⟩ = some (.int .i64 seq) := T1.b2.cell 1
  have y1_2 : w1.cell? ⟨w.heap.size + 1, 2, none⟩ = some (.string name) := T1.b2.cell 2
  have y1_3 : w1.cell? ⟨w.heap.size + 1, 3, none⟩ = some (.int .i64 length) := T1.b2.cell 3
  have y1_4 : w1.cell? ⟨w.heap.size + 1, 4, none⟩ = some (.int .i64 group) := T1.b2.cell 4
  have y1_5 : w1.cell? ⟨w.heap.size + 1, 5, none⟩ = some (.int .i64 row) := T1.b2.cell 5
  have y1_6 : w1.cell? ⟨w.heap.size + 1, 6, none⟩ = some (.slice ao6 rows.1 cap6) := T1.b2.cell 6
  have y1_7 : w1.cell? ⟨w.heap.size + 1, 7, none⟩ = some (.slice ao7 data.1 cap7) := T1.b2.cell 7
  have y1_8 : w1.cell? ⟨w.heap.size + 1, 8, none⟩ = some (.slice ao8 delta.1 cap8) := T1.b2.cell 8
  clear T1
  rcases hx with ⟨rfl, hno⟩ | ⟨rfl, hok⟩
  · go_wp2
    go_ret
    exact recP rfl (Stair.fall hno) HT1.out.bel
  have HOK : Hid (OkShape s) := hok
  have hsb : 1 ≤ s 0 ∧ s 0 ≤ 4 ∧ 0 ≤ s 1 ∧ s 1 ≤ 2 ∧ 1 ≤ s 2 ∧ s 2 ≤ 3 ∧ 1 ≤ s 4 ∧ s 4 ≤ 6 := by
    obtain ⟨h1, h2, h3, _⟩ := hok
    unfold Shp3 at h1
    unfold Shp at h2
    omega
  clear hok
  by_cases hk : InP kind 1 4
  · go_wp2_with fail
    refine (l1In_b (t := true) (exBT hk) _).mono ?_
    rintro e w' ⟨rfl, hw'⟩
    obtain rfl := hw'.symm
    by_cases hq : InP seq 1 1000000000
    · go_wp2_with fail
      refine (l1In_b (t := true) (exBT hq) _).mono ?_
      rintro e w' ⟨rfl, hw'⟩
      obtain rfl := hw'.symm
      have HK : Hid (InP kind 1 4) := hk
      have HQ : Hid (InP seq 1 1000000000) := hq
      go_upto_region 9 with fail
      have bA : Below w1.heap.size w1 (w1.alloc (.cells #[.int .i64 kind, .int .i64 seq, .string name, .int .i64 length, .int .i64 group, .int .i64 row, .slice ao6 rows.1 cap6, .slice ao7 data.1 cap7, .slice ao8 delta.1 cap8] 45)) := (Below.refl _ _).alloc (Nat.le_refl _) _
      have T2 : Two w (w1.alloc (.cells #[.int .i64 kind, .int .i64 seq, .string name, .int .i64 length, .int .i64 group, .int .i64 row, .slice ao6 rows.1 cap6, .slice ao7 data.1 cap7, .slice ao8 delta.1 cap8] 45)) #[.int .i64 (s 0), .int .i64 (s 1), .int .i64 (s 2), .int .i64 (s 3), .int .i64 (s 4), .int .i64 (s 5), .int .i64 (s 6), .int .i64 (s 7), .int .i64 (s 8)] #[.int .i64 kind, .int .i64 seq, .string name, .int .i64 length, .int .i64 group, .int .i64 row, .slice ao6 rows.1 cap6, .slice ao7 data.1 cap7, .slice ao8 delta.1 cap8] 31 45 := HT1.out.call bA
      have X2 : Box (w1.alloc (.cells #[.int .i64 kind, .int .i64 seq, .string name, .int .i64 length, .int .i64 group, .int .i64 row, .slice ao6 rows.1 cap6, .slice ao7 data.1 cap7, .slice ao8 delta.1 cap8] 45)) w1.heap.size #[.int .i64 kind, .int .i64 seq, .string name, .int .i64 length, .int .i64 group, .int .i64 row, .slice ao6 rows.1 cap6, .slice ao7 data.1 cap7, .slice ao8 delta.1 cap8] 45 := box_new _ _ _
      obtain ⟨W2, hW2⟩ : ∃ W2, W2 = w1.alloc (.cells #[.int .i64 kind, .int .i64 seq, .string name, .int .i64 length, .int .i64 group, .int .i64 row, .slice ao6 rows.1 cap6, .slice ao7 data.1 cap7, .slice ao8 delta.1 cap8] 45) := ⟨_, rfl⟩
      rw [← hW2] at T2 X2 ⊢
      have HT2 : Hid (Two w W2 #[.int .i64 (s 0), .int .i64 (s 1), .int .i64 (s 2), .int .i64 (s 3), .int .i64 (s 4), .int .i64 (s 5), .int .i64 (s 6), .int .i64 (s 7), .int .i64 (s 8)] #[.int .i64 kind, .int .i64 seq, .string name, .int .i64 length, .int .i64 group, .int .i64 row, .slice ao6 rows.1 cap6, .slice ao7 data.1 cap7, .slice ao8 delta.1 cap8] 31 45) := T2
      have HX2 : Hid (Box W2 w1.heap.size #[.int .i64 kind, .int .i64 seq, .string name, .int .i64 length, .int .i64 group, .int .i64 row, .slice ao6 rows.1 cap6, .slice ao7 data.1 cap7, .slice ao8 delta.1 cap8] 45) := X2
      clear bA hW2 x1_0 y1_0 x1_1 y1_1 x1_2 y1_2 x1_3 y1_3 x1_4 y1_4 x1_5 y1_5 x1_6 y1_6 x1_7 y1_7 x1_8 y1_8
      have x2_0 : W2.cell? ⟨w.heap.size, 0, none⟩ = some (.int .i64 (s 0)) := T2.b1.cell 0
      have kx2_0 := cell_regrown x2_0
      have x2_1 : W2.cell? ⟨w.heap.size, 1, none⟩ = some (.int .i64 (s 1)) := T2.b1.cell 1
      have kx2_1 := cell_regrown x2_1
      have x2_2 : W2.cell? ⟨w.heap.size, 2, none⟩ = some (.int .i64 (s 2)) := T2.b1.cell 2
      have kx2_2 := cell_regrown x2_2
      have x2_3 : W2.cell? ⟨w.heap.size, 3, none⟩ = some (.int .i64 (s 3)) := T2.b1.cell 3
      have kx2_3 := cell_regrown x2_3
      have x2_4 : W2.cell? ⟨w.heap.size, 4, none⟩ = some (.int .i64 (s 4)) := T2.b1.cell 4
      have kx2_4 := cell_regrown x2_4
      have x2_5 : W2.cell? ⟨w.heap.size, 5, none⟩ = some (.int .i64 (s 5)) := T2.b1.cell 5
      have kx2_5 := cell_regrown x2_5
      have x2_6 : W2.cell? ⟨w.heap.size, 6, none⟩ = some (.int .i64 (s 6)) := T2.b1.cell 6
      have kx2_6 := cell_regrown x2_6
      have x2_7 : W2.cell? ⟨w.heap.size, 7, none⟩ = some (.int .i64 (s 7)) := T2.b1.cell 7
      have kx2_7 := cell_regrown x2_7
      have x2_8 : W2.cell? ⟨w.heap.size, 8, none⟩ = some (.int .i64 (s 8)) := T2.b1.cell 8
      have kx2_8 := cell_regrown x2_8
      have y2_0 : W2.cell? ⟨w.heap.size + 1, 0, none⟩ = some (.int .i64 kind) := T2.b2.cell 0
      have ky2_0 := cell_regrown y2_0
      have y2_1 : W2.cell? ⟨w.heap.size + 1, 1, none⟩ = some (.int .i64 seq) := T2.b2.cell 1
      have ky2_1 := cell_regrown y2_1
      have y2_2 : W2.cell? ⟨w.heap.size + 1, 2, none⟩ = some (.string name) := T2.b2.cell 2
      have ky2_2 := cell_regrown y2_2
      have y2_3 : W2.cell? ⟨w.heap.size + 1, 3, none⟩ = some (.int .i64 length) := T2.b2.cell 3
      have ky2_3 := cell_regrown y2_3
      have y2_4 : W2.cell? ⟨w.heap.size + 1, 4, none⟩ = some (.int .i64 group) := T2.b2.cell 4
      have ky2_4 := cell_regrown y2_4
      have y2_5 : W2.cell? ⟨w.heap.size + 1, 5, none⟩ = some (.int .i64 row) := T2.b2.cell 5
      have ky2_5 := cell_regrown y2_5
      have y2_6 : W2.cell? ⟨w.heap.size + 1, 6, none⟩ = some (.slice ao6 rows.1 cap6) := T2.b2.cell 6
      have ky2_6 := cell_regrown y2_6
      have y2_7 : W2.cell? ⟨w.heap.size + 1, 7, none⟩ = some (.slice ao7 data.1 cap7) := T2.b2.cell 7
      have ky2_7 := cell_regrown y2_7
      have y2_8 : W2.cell? ⟨w.heap.size + 1, 8, none⟩ = some (.slice ao8 delta.1 cap8) := T2.b2.cell 8
      have ky2_8 := cell_regrown y2_8
      have z2_0 : W2.cell? ⟨w1.heap.size, 0, none⟩ = some (.int .i64 kind) := X2.cell 0
      have f2_0 : W2.frozen? ⟨w1.heap.size, 0, none⟩ = false := X2.frozen 0
      have z2_1 : W2.cell? ⟨w1.heap.size, 1, none⟩ = some (.int .i64 seq) := X2.cell 1
      have f2_1 : W2.frozen? ⟨w1.heap.size, 1, none⟩ = false := X2.frozen 1
      have z2_2 : W2.cell? ⟨w1.heap.size, 2, none⟩ = some (.string name) := X2.cell 2
      have f2_2 : W2.frozen? ⟨w1.heap.size, 2, none⟩ = false := X2.frozen 2
      have z2_3 : W2.cell? ⟨w1.heap.size, 3, none⟩ = some (.int .i64 length) := X2.cell 3
      have f2_3 : W2.frozen? ⟨w1.heap.size, 3, none⟩ = false := X2.frozen 3
      have z2_4 : W2.cell? ⟨w1.heap.size, 4, none⟩ = some (.int .i64 group) := X2.cell 4
      have f2_4 : W2.frozen? ⟨w1.heap.size, 4, none⟩ = false := X2.frozen 4
      have z2_5 : W2.cell? ⟨w1.heap.size, 5, none⟩ = some (.int .i64 row) := X2.cell 5
      have f2_5 : W2.frozen? ⟨w1.heap.size, 5, none⟩ = false := X2.frozen 5
      have z2_6 : W2.cell? ⟨w1.heap.size, 6, none⟩ = some (.slice ao6 rows.1 cap6) := X2.cell 6
      have f2_6 : W2.frozen? ⟨w1.heap.size, 6, none⟩ = false := X2.frozen 6
      have z2_7 : W2.cell? ⟨w1.heap.size, 7, none⟩ = some (.slice ao7 data.1 cap7) := X2.cell 7
      have f2_7 : W2.frozen? ⟨w1.heap.size, 7, none⟩ = false := X2.frozen 7
      have z2_8 : W2.cell? ⟨w1.heap.size, 8, none⟩ = some (.slice ao8 delta.1 cap8) := X2.cell 8
      have f2_8 : W2.frozen? ⟨w1.heap.size, 8, none⟩ = false := X2.frozen 8
      clear T2 X2
      have hk4 : kind = 1 ∨ kind = 2 ∨ kind = 3 ∨ kind = 4 := by unfold InP at hk; omega
      have ws0 : IntKind.i64.wrap (s 0 - 1) = s 0 - 1 := by rw [IntKind.wrap_i64]; omega
      have ws4 : IntKind.i64.wrap (s 4 - 1) = s 4 - 1 := by rw [IntKind.wrap_i64]; omega
      have wsA : IntKind.i64.wrap (s 0 + s 1 - 1) = s 0 + s 1 - 1 := by rw [IntKind.wrap_i64]; omega
      clear hk hq
      rcases hk4 with rfl | rfl | rfl | rfl
      · go_wp2_with fail
        refine (specName_any name hnm _).mono ?_
        rintro e w' ⟨x, rfl, hx, hw'⟩
        obtain rfl := hw'.symm
        rcases hx with ⟨rfl, hno⟩ | ⟨rfl, hyes⟩
        · go_wp2
          go_ret
          exact recP rfl (Stair.pass HOK.out (Stair.pass HK.out (Stair.pass HQ.out (Stair.fall (fun h => hno (h rfl)))))) HT2.out.bel
        · have HN : Hid (NamedP ⟨1, seq, name, length, group, row, rows, data, delta⟩) := fun _ => hyes
          clear hyes
          obtain ⟨t3, h3⟩ := exB (ItemP s ⟨1, seq, name, length, group, row, rows, data, delta⟩)
          have CI := det_b (l5Item_any s HOK.out ⟨1, seq, name, length, group, row, rows, data, delta⟩ _ hi W2 (layRec.rd_below HRD.out HT2.out.bel hhi) (Nat.le_trans hhi HT2.out.bel.size)) h3
          unfold shapeV at CI
          go_wp2_with fail
          refine CI.mono ?_
          rintro e w3 ⟨rfl, b3⟩
          have X3 : Box w3 w1.heap.size #[.int .i64 1, .int .i64 seq, .string name, .int .i64 length, .int .i64 group, .int .i64 row, .slice ao6 rows.1 cap6, .slice ao7 data.1 cap7, .slice ao8 delta.1 cap8] 45 := HX2.out.call b3
          have HB3 : Hid (Below w.heap.size w w3) := (HT2.out.call b3).bel
          have z3_0 : w3.cell? ⟨w1.heap.size, 0, none⟩ = some (.int .i64 1) := X3.cell 0
          have f3_0 : w3.frozen? ⟨w1.heap.size, 0, none⟩ = false := X3.frozen 0
          have z3_1 : w3.cell? ⟨w1.heap.size, 1, none⟩ = some (.int .i64 seq) := X3.cell 1
          have f3_1 : w3.frozen? ⟨w1.heap.size, 1, none⟩ = false := X3.frozen 1
          have z3_2 : w3.cell? ⟨w1.heap.size, 2, none⟩ = some (.string name) := X3.cell 2
          have f3_2 : w3.frozen? ⟨w1.heap.size, 2, none⟩ = false := X3.frozen 2
          have z3_3 : w3.cell? ⟨w1.heap.size, 3, none⟩ = some (.int .i64 length) := X3.cell 3
          have f3_3 : w3.frozen? ⟨w1.heap.size, 3, none⟩ = false := X3.frozen 3
          have z3_4 : w3.cell? ⟨w1.heap.size, 4, none⟩ = some (.int .i64 group) := X3.cell 4
          have f3_4 : w3.frozen? ⟨w1.heap.size, 4, none⟩ = false := X3.frozen 4
          have z3_5 : w3.cell? ⟨w1.heap.size, 5, none⟩ = some (.int .i64 row) := X3.cell 5
          have f3_5 : w3.frozen? ⟨w1.heap.size, 5, none⟩ = false := X3.frozen 5
          have z3_6 : w3.cell? ⟨w1.heap.size, 6, none⟩ = some (.slice ao6 rows.1 cap6) := X3.cell 6
          have f3_6 : w3.frozen? ⟨w1.heap.size, 6, none⟩ = false := X3.frozen 6
          have z3_7 : w3.cell? ⟨w1.heap.size, 7, none⟩ = some (.slice ao7 data.1 cap7) := X3.cell 7
          have f3_7 : w3.frozen? ⟨w1.heap.size, 7, none⟩ = false := X3.frozen 7
          have z3_8 : w3.cell? ⟨w1.heap.size, 8, none⟩ = some (.slice ao8 delta.1 cap8) := X3.cell 8
          have f3_8 : w3.frozen? ⟨w1.heap.size, 8, none⟩ = false := X3.frozen 8
          clear X3 b3
          clear x2_0 kx2_0 y2_0 ky2_0 z2_0 f2_0 x2_1 kx2_1 y2_1 ky2_1 z2_1 f2_1 x2_2 kx2_2 y2_2 ky2_2 z2_2 f2_2 x2_3 kx2_3 y2_3 ky2_3 z2_3 f2_3 x2_4 kx2_4 y2_4 ky2_4 z2_4 f2_4 x2_5 kx2_5 y2_5 ky2_5 z2_5 f2_5 x2_6 kx2_6 y2_6 ky2_6 z2_6 f2_6 x2_7 kx2_7 y2_7 ky2_7 z2_7 f2_7 x2_8 kx2_8 y2_8 ky2_8 z2_8 f2_8 CI
          have H3 : Hid (t3 = true ↔ ItemP s ⟨1, seq, name, length, group, row, rows, data, delta⟩) := h3
          clear h3
          cases t3 with
          | false =>
            go_wp2
            go_ret
            exact recP rfl (Stair.pass HOK.out (Stair.pass HK.out (Stair.pass HQ.out (Stair.pass HN.out (Stair.fall (fun h => by
              have : ItemP s ⟨1, seq, name, length, group, row, rows, data, delta⟩ := by
                unfold KindP at h
                simpa using h
              have := H3.out.2 this
              simp at this)))))) HB3.out
          | true =>
            have HKP : Hid (KindP s ⟨1, seq, name, length, group, row, rows, data, delta⟩) := .inl ⟨rfl, H3.out.1 (by simp)⟩
            go_wp2_with fail
            refine (l5Empty_any _ _ _ _ _ _ _ _ _ _ _ _ _ _ _ _).mono ?_
            rintro e w9 ⟨t9, rfl, ht9, b9⟩
            have HB9 : Hid (Below w.heap.size w w9) := by
              show Below w.heap.size w w9
              refine Below.trans ?_ (b9.mono ?_)
              · repeat (refine below_set ?_ (by omega))
                exact HB3.out
              · simp
                exact HB3.out.size
            clear b9
            have HT9 : Hid (t9 = true ↔ BlankP ⟨1, seq, name, length, group, row, rows, data, delta⟩) := by
              show t9 = true ↔ BlankP ⟨1, seq, name, length, group, row, rows, data, delta⟩
              rw [ht9]
              unfold EmptyQ BlankP noName
              simp [and_assoc]
              try (intros; rfl)
            clear ht9
            cases t9 with
            | false =>
              go_wp2
              go_ret
              exact recP rfl (Stair.pass HOK.out (Stair.pass HK.out (Stair.pass HQ.out (Stair.pass HN.out (Stair.pass HKP.out (Stair.fall (fun h => by have := HT9.out.2 h; simp at this))))))) HB9.out
            | true =>
              go_wp2
              go_ret
              exact recP rfl (Stair.pass HOK.out (Stair.pass HK.out (Stair.pass HQ.out (Stair.pass HN.out (Stair.pass HKP.out (Stair.pass (HT9.out.1 (by simp)) (Stair.last rfl))))))) HB9.out
      · have HN : Hid (NamedP ⟨2, seq, name, length, group, row, rows, data, delta⟩) := fun h => by simp at h
        obtain ⟨t1, h1⟩ := exB (InP group 0 (s 0 - 1))
        obtain ⟨t2, h2⟩ := exB (InP row 0 (s 4 - 1))
        obtain ⟨b3', h3⟩ : ∃ b, ((data.1 : Int) != s 2 * 4) = b := ⟨_, rfl⟩
        obtain ⟨b4', h4⟩ : ∃ b, ((delta.1 : Int) != s 2 * 4) = b := ⟨_, rfl⟩
        have cG := q_same (W := W2) (fun w' => l1In_b h1 w')
        have cR := q_same (W := W2) (fun w' => l1In_b h2 w')
        have cW := q_below (W := W2) (fun w' _ => l4Wide_any s (by omega) (by omega) w')
        unfold shapeV at cW
        have HE : Hid (KindP s ⟨2, seq, name, length, group, row, rows, data, delta⟩ ↔ (t1 = true ∧ t2 = true ∧ b3' = false ∧ b4' = false)) := by
          show KindP s ⟨2, seq, name, length, group, row, rows, data, delta⟩ ↔ _
          rw [h1, h2, ← h3, ← h4]
          unfold KindP MoveP
          simp
        have hst : (t1 = false) ∨ (t1 = true ∧ t2 = false) ∨ (t1 = true ∧ t2 = true ∧ b3' = true) ∨ (t1 = true ∧ t2 = true ∧ b3' = false ∧ b4' = true) ∨ (t1 = true ∧ t2 = true ∧ b3' = false ∧ b4' = false) := by
          clear HE h1 h2 h3 h4 cG cR
          cases t1 <;> simp
          cases t2 <;> simp
          cases b3' <;> simp
        clear h1 h2
        go_wp2
        rcases hst with rfl | ⟨rfl, rfl⟩ | ⟨rfl, rfl, rfl⟩ | ⟨rfl, rfl, rfl, rfl⟩ | ⟨rfl, rfl, rfl, rfl⟩
        all_goals
          refine WQ.region (by kernel_rfl) (by kernel_rfl) ?_
          repeat (first | (apply WQ.skip; (case hw => rfl); intro K hK; go_simp; apply hK; clear hK K) | (apply WQ.want; (case hw => rfl); intro K hK; go_simp; first | (apply hK; clear hK K) | (apply Exists.intro; apply And.intro; (case left => intro p; (first | (go_at_call_of 23 (Value.int .i64 group); exact cG _ _) | (go_at_call_of 23 (Value.int .i64 row); exact cR _ _) | (go_at_call 42; exact cW _ _))); apply hK; clear hK K)))
          refine WQ.nil ?_
          intro w3 hw3
          have b3 := below_rg hw3
          have X3 : Box w3 w1.heap.size #[.int .i64 2, .int .i64 seq, .string name, .int .i64 length, .int .i64 group, .int .i64 row, .slice ao6 rows.1 cap6, .slice ao7 data.1 cap7, .slice ao8 delta.1 cap8] 45 := HX2.out.call b3
          have HB3 : Hid (Below w.heap.size w w3) := (HT2.out.call b3).bel
          have z3_0 : w3.cell? ⟨w1.heap.size, 0, none⟩ = some (.int .i64 2) := X3.cell 0
          have f3_0 : w3.frozen? ⟨w1.heap.size, 0, none⟩ = false := X3.frozen 0
          have z3_1 : w3.cell? ⟨w1.heap.size, 1, none⟩ = some (.int .i64 seq) := X3.cell 1
          have f3_1 : w3.frozen? ⟨w1.heap.size, 1, none⟩ = false := X3.frozen 1
          have z3_2 : w3.cell? ⟨w1.heap.size, 2, none⟩ = some (.string name) := X3.cell 2
          have f3_2 : w3.frozen? ⟨w1.heap.size, 2, none⟩ = false := X3.frozen 2
          have z3_3 : w3.cell? ⟨w1.heap.size, 3, none⟩ = some (.int .i64 length) := X3.cell 3
          have f3_3 : w3.frozen? ⟨w1.heap.size, 3, none⟩ = false := X3.frozen 3
          have z3_4 : w3.cell? ⟨w1.heap.size, 4, none⟩ = some (.int .i64 group) := X3.cell 4
          have f3_4 : w3.frozen? ⟨w1.heap.size, 4, none⟩ = false := X3.frozen 4
          have z3_5 : w3.cell? ⟨w1.heap.size, 5, none⟩ = some (.int .i64 row) := X3.cell 5
          have f3_5 : w3.frozen? ⟨w1.heap.size, 5, none⟩ = false := X3.frozen 5
          have z3_6 : w3.cell? ⟨w1.heap.size, 6, none⟩ = some (.slice ao6 rows.1 cap6) := X3.cell 6
          have f3_6 : w3.frozen? ⟨w1.heap.size, 6, none⟩ = false := X3.frozen 6
          have z3_7 : w3.cell? ⟨w1.heap.size, 7, none⟩ = some (.slice ao7 data.1 cap7) := X3.cell 7
          have f3_7 : w3.frozen? ⟨w1.heap.size, 7, none⟩ = false := X3.frozen 7
          have z3_8 : w3.cell? ⟨w1.heap.size, 8, none⟩ = some (.slice ao8 delta.1 cap8) := X3.cell 8
          have f3_8 : w3.frozen? ⟨w1.heap.size, 8, none⟩ = false := X3.frozen 8
          clear X3 b3
          clear hw3 x2_0 kx2_0 y2_0 ky2_0 z2_0 f2_0 x2_1 kx2_1 y2_1 ky2_1 z2_1 f2_1 x2_2 kx2_2 y2_2 ky2_2 z2_2 f2_2 x2_3 kx2_3 y2_3 ky2_3 z2_3 f2_3 x2_4 kx2_4 y2_4 ky2_4 z2_4 f2_4 x2_5 kx2_5 y2_5 ky2_5 z2_5 f2_5 x2_6 kx2_6 y2_6 ky2_6 z2_6 f2_6 x2_7 kx2_7 y2_7 ky2_7 z2_7 f2_7 x2_8 kx2_8 y2_8 ky2_8 z2_8 f2_8
        · go_wp2
          go_ret
          exact recP rfl (Stair.pass HOK.out (Stair.pass HK.out (Stair.pass HQ.out (Stair.pass HN.out (Stair.fall (fun h => by have := HE.out.1 h; simp at this)))))) HB3.out
        · go_wp2
          go_ret
          exact recP rfl (Stair.pass HOK.out (Stair.pass HK.out (Stair.pass HQ.out (Stair.pass HN.out (Stair.fall (fun h => by have := HE.out.1 h; simp at this)))))) HB3.out
        · go_wp2
          go_ret
          exact recP rfl (Stair.pass HOK.out (Stair.pass HK.out (Stair.pass HQ.out (Stair.pass HN.out (Stair.fall (fun h => by have := HE.out.1 h; simp at this)))))) HB3.out
        · go_wp2
          go_ret
          exact recP rfl (Stair.pass HOK.out (Stair.pass HK.out (Stair.pass HQ.out (Stair.pass HN.out (Stair.fall (fun h => by have := HE.out.1 h; simp at this)))))) HB3.out
        · have HKP : Hid (KindP s ⟨2, seq, name, length, group, row, rows, data, delta⟩) := HE.out.2 (by simp)
          go_wp2_with fail
          refine (l5Empty_any _ _ _ _ _ _ _ _ _ _ _ _ _ _ _ _).mono ?_
          rintro e w9 ⟨t9, rfl, ht9, b9⟩
          have HB9 : Hid (Below w.heap.size w w9) := by
            show Below w.heap.size w w9
            refine Below.trans ?_ (b9.mono ?_)
            · repeat (refine below_set ?_ (by omega))
              exact HB3.out
            · simp
              exact HB3.out.size
          clear b9
          have HT9 : Hid (t9 = true ↔ BlankP ⟨2, seq, name, length, group, row, rows, data, delta⟩) := by
            show t9 = true ↔ BlankP ⟨2, seq, name, length, group, row, rows, data, delta⟩
            rw [ht9]
            unfold EmptyQ BlankP noName
            simp [and_assoc]
            try (intros; rfl)
          clear ht9
          cases t9 with
          | false =>
            go_wp2
            go_ret
            exact recP rfl (Stair.pass HOK.out (Stair.pass HK.out (Stair.pass HQ.out (Stair.pass HN.out (Stair.pass HKP.out (Stair.fall (fun h => by have := HT9.out.2 h; simp at this))))))) HB9.out
          | true =>
            go_wp2
            go_ret
            exact recP rfl (Stair.pass HOK.out (Stair.pass HK.out (Stair.pass HQ.out (Stair.pass HN.out (Stair.pass HKP.out (Stair.pass (HT9.out.1 (by simp)) (Stair.last rfl))))))) HB9.out
      · have HN : Hid (NamedP ⟨3, seq, name, length, group, row, rows, data, delta⟩) := fun h => by simp at h
        obtain ⟨t1, h1⟩ := exB (InP group 0 (s 0 + s 1 - 1))
        have cG := q_same (W := W2) (fun w' => l1In_b h1 w')
        have cA := q_below (W := W2) (fun w' _ => l5All_any s HOK.out w')
        unfold shapeV at cA
        have HE : Hid (KindP s ⟨3, seq, name, length, group, row, rows, data, delta⟩ ↔ (t1 = true)) := by
          show KindP s ⟨3, seq, name, length, group, row, rows, data, delta⟩ ↔ _
          rw [h1]
          unfold KindP DoneP
          simp
        have hst : (t1 = false) ∨ (t1 = true) := by
          clear HE h1 cG
          cases t1 <;> simp
        clear h1
        go_wp2
        rcases hst with rfl | rfl
        all_goals
          refine WQ.region (by kernel_rfl) (by kernel_rfl) ?_
          repeat (first | (apply WQ.skip; (case hw => rfl); intro K hK; go_simp; apply hK; clear hK K) | (apply WQ.want; (case hw => rfl); intro K hK; go_simp; first | (apply hK; clear hK K) | (apply Exists.intro; apply And.intro; (case left => intro p; (first | (go_at_call 23; exact cG _ _) | (go_at_call 22; exact cA _ _))); apply hK; clear hK K)))
          refine WQ.nil ?_
          intro w3 hw3
          have b3 := below_rg hw3
          have X3 : Box w3 w1.heap.size #[.int .i64 3, .int .i64 seq, .string name, .int .i64 length, .int .i64 group, .int .i64 row, .slice ao6 rows.1 cap6, .slice ao7 data.1 cap7, .slice ao8 delta.1 cap8] 45 := HX2.out.call b3
          have HB3 : Hid (Below w.heap.size w w3) := (HT2.out.call b3).bel
          have z3_0 : w3.cell? ⟨w1.heap.size, 0, none⟩ = some (.int .i64 3) := X3.cell 0
          have f3_0 : w3.frozen? ⟨w1.heap.size, 0, none⟩ = false := X3.frozen 0
          have z3_1 : w3.cell? ⟨w1.heap.size, 1, none⟩ = some (.int .i64 seq) := X3.cell 1
          have f3_1 : w3.frozen? ⟨w1.heap.size, 1, none⟩ = false := X3.frozen 1
          have z3_2 : w3.cell? ⟨w1.heap.size, 2, none⟩ = some (.string name) := X3.cell 2
          have f3_2 : w3.frozen? ⟨w1.heap.size, 2, none⟩ = false := X3.frozen 2
          have z3_3 : w3.cell? ⟨w1.heap.size, 3, none⟩ = some (.int .i64 length) := X3.cell 3
          have f3_3 : w3.frozen? ⟨w1.heap.size, 3, none⟩ = false := X3.frozen 3
          have z3_4 : w3.cell? ⟨w1.heap.size, 4, none⟩ = some (.int .i64 group) := X3.cell 4
          have f3_4 : w3.frozen? ⟨w1.heap.size, 4, none⟩ = false := X3.frozen 4
          have z3_5 : w3.cell? ⟨w1.heap.size, 5, none⟩ = some (.int .i64 row) := X3.cell 5
          have f3_5 : w3.frozen? ⟨w1.heap.size, 5, none⟩ = false := X3.frozen 5
          have z3_6 : w3.cell? ⟨w1.heap.size, 6, none⟩ = some (.slice ao6 rows.1 cap6) := X3.cell 6
          have f3_6 : w3.frozen? ⟨w1.heap.size, 6, none⟩ = false := X3.frozen 6
          have z3_7 : w3.cell? ⟨w1.heap.size, 7, none⟩ = some (.slice ao7 data.1 cap7) := X3.cell 7
          have f3_7 : w3.frozen? ⟨w1.heap.size, 7, none⟩ = false := X3.frozen 7
          have z3_8 : w3.cell? ⟨w1.heap.size, 8, none⟩ = some (.slice ao8 delta.1 cap8) := X3.cell 8
          have f3_8 : w3.frozen? ⟨w1.heap.size, 8, none⟩ = false := X3.frozen 8
          clear X3 b3
          clear hw3 x2_0 kx2_0 y2_0 ky2_0 z2_0 f2_0 x2_1 kx2_1 y2_1 ky2_1 z2_1 f2_1 x2_2 kx2_2 y2_2 ky2_2 z2_2 f2_2 x2_3 kx2_3 y2_3 ky2_3 z2_3 f2_3 x2_4 kx2_4 y2_4 ky2_4 z2_4 f2_4 x2_5 kx2_5 y2_5 ky2_5 z2_5 f2_5 x2_6 kx2_6 y2_6 ky2_6 z2_6 f2_6 x2_7 kx2_7 y2_7 ky2_7 z2_7 f2_7 x2_8 kx2_8 y2_8 ky2_8 z2_8 f2_8
        · go_wp2
          go_ret
          exact recP rfl (Stair.pass HOK.out (Stair.pass HK.out (Stair.pass HQ.out (Stair.pass HN.out (Stair.fall (fun h => by have := HE.out.1 h; simp at this)))))) HB3.out
        · have HKP : Hid (KindP s ⟨3, seq, name, length, group, row, rows, data, delta⟩) := HE.out.2 (by simp)
          go_wp2_with fail
          refine (l5Empty_any _ _ _ _ _ _ _ _ _ _ _ _ _ _ _ _).mono ?_
          rintro e w9 ⟨t9, rfl, ht9, b9⟩
          have HB9 : Hid (Below w.heap.size w w9) := by
            show Below w.heap.size w w9
            refine Below.trans ?_ (b9.mono ?_)
            · repeat (refine below_set ?_ (by omega))
              exact HB3.out
            · simp
              exact HB3.out.size
          clear b9
          have HT9 : Hid (t9 = true ↔ BlankP ⟨3, seq, name, length, group, row, rows, data, delta⟩) := by
            show t9 = true ↔ BlankP ⟨3, seq, name, length, group, row, rows, data, delta⟩
            rw [ht9]
            unfold EmptyQ BlankP noName
            simp [and_assoc]
            try (intros; rfl)
          clear ht9
          cases t9 with
          | false =>
            go_wp2
            go_ret
            exact recP rfl (Stair.pass HOK.out (Stair.pass HK.out (Stair.pass HQ.out (Stair.pass HN.out (Stair.pass HKP.out (Stair.fall (fun h => by have := HT9.out.2 h; simp at this))))))) HB9.out
          | true =>
            go_wp2
            go_ret
            exact recP rfl (Stair.pass HOK.out (Stair.pass HK.out (Stair.pass HQ.out (Stair.pass HN.out (Stair.pass HKP.out (Stair.pass (HT9.out.1 (by simp)) (Stair.last rfl))))))) HB9.out
      · have HN : Hid (NamedP ⟨4, seq, name, length, group, row, rows, data, delta⟩) := fun h => by simp at h
        obtain ⟨t1, h1⟩ := exB (InP group 0 (s 0 + s 1 - 1))
        obtain ⟨t2, h2⟩ := exB (InP row 0 (s 4 - 1))
        obtain ⟨t3, h3⟩ := exB (RiseP rows.1 rows.2 (s 0 + s 1 - 1))
        obtain ⟨b4', h4⟩ : ∃ b, ((data.1 : Int) != s 2 * 4) = b := ⟨_, rfl⟩
        obtain ⟨t5, h5⟩ := exB (WeightsP s ⟨4, seq, name, length, group, row, rows, data, delta⟩)
        have cG := q_same (W := W2) (fun w' => l1In_b h1 w')
        have cR := q_same (W := W2) (fun w' => l1In_b h2 w')
        have cA := q_below (W := W2) (fun w' _ => l5All_any s HOK.out w')
        have cW := q_below (W := W2) (fun w' _ => l4Wide_any s (by omega) (by omega) w')
        have cS := q_below (W := W2) (fun w' hw' => det_b (l2Rise_any _ rows.1 rows.2 hi (s 0 + s 1 - 1) w' ((H6.out.below HT2.out.bel hhi).below hw' (Nat.le_trans hhi HT2.out.bel.size))) h3)
        have cX : t1 = true → t3 = true → ∀ d os, Calls Try.prog 44 #[shapeV s, .agg #[.int .i64 4, .int .i64 seq, .string name, .int .i64 length, .int .i64 group, .int .i64 row, .slice ao6 rows.1 cap6, .slice ao7 data.1 cap7, .slice ao8 delta.1 cap8]] (Go.Sort.grow (redrawn W2 d) os) fun e w'' => e = .returned (.bool t5) ∧ ∃ p : Regrown, w'' = Go.Sort.grow (redrawn W2 p.d) p.os := fun e1 e3 => q_below (W := W2) (fun w' hw' => det_b (l5Weights_any s HOK.out ⟨4, seq, name, length, group, row, rows, data, delta⟩ _ hi w' (layRec.rd_below (layRec.rd_below HRD.out HT2.out.bel hhi) hw' (Nat.le_trans hhi HT2.out.bel.size)) (Nat.le_trans hhi (Nat.le_trans HT2.out.bel.size hw'.size)) (h1.1 e1) (h3.1 e3)) h5)
        unfold shapeV at cW cA cX
        have HE : Hid (KindP s ⟨4, seq, name, length, group, row, rows, data, delta⟩ ↔ (t1 = true ∧ t2 = true ∧ t3 = true ∧ b4' = false ∧ t5 = true)) := by
          show KindP s ⟨4, seq, name, length, group, row, rows, data, delta⟩ ↔ _
          rw [h1, h2, h3, ← h4, h5]
          unfold KindP ShareP
          simp
        have hst : (t1 = false) ∨ (t1 = true ∧ t2 = false) ∨ (t1 = true ∧ t2 = true ∧ t3 = false) ∨ (t1 = true ∧ t2 = true ∧ t3 = true ∧ b4' = true) ∨ (t1 = true ∧ t2 = true ∧ t3 = true ∧ b4' = false ∧ t5 = false) ∨ (t1 = true ∧ t2 = true ∧ t3 = true ∧ b4' = false ∧ t5 = true) := by
          clear HE h1 h2 h3 h4 h5 cG cR cS cX
          cases t1 <;> simp
          cases t2 <;> simp
          cases t3 <;> simp
          cases b4' <;> simp
        clear h1 h2 h3 h5
        go_wp2
        rcases hst with rfl | ⟨rfl, rfl⟩ | ⟨rfl, rfl, rfl⟩ | ⟨rfl, rfl, rfl, rfl⟩ | ⟨rfl, rfl, rfl, rfl, rfl⟩ | ⟨rfl, rfl, rfl, rfl, rfl⟩
        all_goals
          refine WQ.region (by kernel_rfl) (by kernel_rfl) ?_
          repeat (first | (apply WQ.skip; (case hw => rfl); intro K hK; go_simp; apply hK; clear hK K) | (apply WQ.want; (case hw => rfl); intro K hK; go_simp; first | (apply hK; clear hK K) | (apply Exists.intro; apply And.intro; (case left => intro p; (first | (go_at_call_of 23 (Value.int .i64 group); exact cG _ _) | (go_at_call_of 23 (Value.int .i64 row); exact cR _ _) | (go_at_call 42; exact cW _ _) | (go_at_call 22; exact cA _ _) | (go_at_call 43; exact cS _ _) | (go_at_call 44; exact cX rfl rfl _ _))); apply hK; clear hK K)))
          refine WQ.nil ?_
          intro w3 hw3
          have b3 := below_rg hw3
          have X3 : Box w3 w1.heap.size #[.int .i64 4, .int .i64 seq, .string name, .int .i64 length, .int .i64 group, .int .i64 row, .slice ao6 rows.1 cap6, .slice ao7 data.1 cap7, .slice ao8 delta.1 cap8] 45 := HX2.out.call b3
          have HB3 : Hid (Below w.heap.size w w3) := (HT2.out.call b3).bel
          have z3_0 : w3.cell? ⟨w1.heap.size, 0, none⟩ = some (.int .i64 4) := X3.cell 0
          have f3_0 : w3.frozen? ⟨w1.heap.size, 0, none⟩ = false := X3.frozen 0
          have z3_1 : w3.cell? ⟨w1.heap.size, 1, none⟩ = some (.int .i64 seq) := X3.cell 1
          have f3_1 : w3.frozen? ⟨w1.heap.size, 1, none⟩ = false := X3.frozen 1
          have z3_2 : w3.cell? ⟨w1.heap.size, 2, none⟩ = some (.string name) := X3.cell 2
          have f3_2 : w3.frozen? ⟨w1.heap.size, 2, none⟩ = false := X3.frozen 2
          have z3_3 : w3.cell? ⟨w1.heap.size, 3, none⟩ = some (.int .i64 length) := X3.cell 3
          have f3_3 : w3.frozen? ⟨w1.heap.size, 3, none⟩ = false := X3.frozen 3
          have z3_4 : w3.cell? ⟨w1.heap.size, 4, none⟩ = some (.int .i64 group) := X3.cell 4
          have f3_4 : w3.frozen? ⟨w1.heap.size, 4, none⟩ = false := X3.frozen 4
          have z3_5 : w3.cell? ⟨w1.heap.size, 5, none⟩ = some (.int .i64 row) := X3.cell 5
          have f3_5 : w3.frozen? ⟨w1.heap.size, 5, none⟩ = false := X3.frozen 5
          have z3_6 : w3.cell? ⟨w1.heap.size, 6, none⟩ = some (.slice ao6 rows.1 cap6) := X3.cell 6
          have f3_6 : w3.frozen? ⟨w1.heap.size, 6, none⟩ = false := X3.frozen 6
          have z3_7 : w3.cell? ⟨w1.heap.size, 7, none⟩ = some (.slice ao7 data.1 cap7) := X3.cell 7
          have f3_7 : w3.frozen? ⟨w1.heap.size, 7, none⟩ = false := X3.frozen 7
          have z3_8 : w3.cell? ⟨w1.heap.size, 8, none⟩ = some (.slice ao8 delta.1 cap8) := X3.cell 8
          have f3_8 : w3.frozen? ⟨w1.heap.size, 8, none⟩ = false := X3.frozen 8
          clear X3 b3
          clear hw3 x2_0 kx2_0 y2_0 ky2_0 z2_0 f2_0 x2_1 kx2_1 y2_1 ky2_1 z2_1 f2_1 x2_2 kx2_2 y2_2 ky2_2 z2_2 f2_2 x2_3 kx2_3 y2_3 ky2_3 z2_3 f2_3 x2_4 kx2_4 y2_4 ky2_4 z2_4 f2_4 x2_5 kx2_5 y2_5 ky2_5 z2_5 f2_5 x2_6 kx2_6 y2_6 ky2_6 z2_6 f2_6 x2_7 kx2_7 y2_7 ky2_7 z2_7 f2_7 x2_8 kx2_8 y2_8 ky2_8 z2_8 f2_8
        · go_wp2
          go_ret
          exact recP rfl (Stair.pass HOK.out (Stair.pass HK.out (Stair.pass HQ.out (Stair.pass HN.out (Stair.fall (fun h => by have := HE.out.1 h; simp at this)))))) HB3.out
        · go_wp2
          go_ret
          exact recP rfl (Stair.pass HOK.out (Stair.pass HK.out (Stair.pass HQ.out (Stair.pass HN.out (Stair.fall (fun h => by have := HE.out.1 h; simp at this)))))) HB3.out
        · go_wp2
          go_ret
          exact recP rfl (Stair.pass HOK.out (Stair.pass HK.out (Stair.pass HQ.out (Stair.pass HN.out (Stair.fall (fun h => by have := HE.out.1 h; simp at this)))))) HB3.out
        · go_wp2
          go_ret
          exact recP rfl (Stair.pass HOK.out (Stair.pass HK.out (Stair.pass HQ.out (Stair.pass HN.out (Stair.fall (fun h => by have := HE.out.1 h; simp at this)))))) HB3.out
        · go_wp2
          go_ret
          exact recP rfl (Stair.pass HOK.out (Stair.pass HK.out (Stair.pass HQ.out (Stair.pass HN.out (Stair.fall (fun h => by have := HE.out.1 h; simp at this)))))) HB3.out
        · have HKP : Hid (KindP s ⟨4, seq, name, length, group, row, rows, data, delta⟩) := HE.out.2 (by simp)
          go_wp2_with fail
          refine (l5Empty_any _ _ _ _ _ _ _ _ _ _ _ _ _ _ _ _).mono ?_
          rintro e w9 ⟨t9, rfl, ht9, b9⟩
          have HB9 : Hid (Below w.heap.size w w9) := by
            show Below w.heap.size w w9
            refine Below.trans ?_ (b9.mono ?_)
            · repeat (refine below_set ?_ (by omega))
              exact HB3.out
            · simp
              exact HB3.out.size
          clear b9
          have HT9 : Hid (t9 = true ↔ BlankP ⟨4, seq, name, length, group, row, rows, data, delta⟩) := by
            show t9 = true ↔ BlankP ⟨4, seq, name, length, group, row, rows, data, delta⟩
            rw [ht9]
            unfold EmptyQ BlankP noName
            simp [and_assoc]
            try (intros; rfl)
          clear ht9
          cases t9 with
          | false =>
            go_wp2
            go_ret
            exact recP rfl (Stair.pass HOK.out (Stair.pass HK.out (Stair.pass HQ.out (Stair.pass HN.out (Stair.pass HKP.out (Stair.fall (fun h => by have := HT9.out.2 h; simp at this))))))) HB9.out
          | true =>
            go_wp2
            go_ret
            exact recP rfl (Stair.pass HOK.out (Stair.pass HK.out (Stair.pass HQ.out (Stair.pass HN.out (Stair.pass HKP.out (Stair.pass (HT9.out.1 (by simp)) (Stair.last rfl))))))) HB9.out
    · go_wp2_with fail
      refine (l1In_b (t := false) (exBF hq) _).mono ?_
      rintro e w' ⟨rfl, hw'⟩
      obtain rfl := hw'.symm
      go_wp2
      go_ret
      exact recP rfl (Stair.pass HOK.out (Stair.pass hk (Stair.fall hq))) HT1.out.bel
  · go_wp2_with fail
    refine (l1In_b (t := false) (exBF hk) _).mono ?_
    rintro e w' ⟨rfl, hw'⟩
    obtain rfl := hw'.symm
    go_wp2
    go_ret
    exact recP rfl (Stair.pass HOK.out (Stair.fall hk)) HT1.out.bel
end Go.Proofs.Ytgpglgchbimmaaa

namespace Go.Proofs.Ytgpglgchbimmaaa
open Go.RowKit F256
set_option linter.unusedVariables false

theorem stair_ex {K : Int → Prop} (hK : ∃ x, K x) : ∀ l : List (Prop × Int), ∃ x, Stair l K x
  | [] => hK
  | (p, c) :: l => by
    by_cases h : p
    · obtain ⟨x, hx⟩ := stair_ex hK l
      exact ⟨x, .inr ⟨h, hx⟩⟩
    · exact ⟨c, .inl ⟨h, rfl⟩⟩
theorem rec_det {s : Nat → Int} {d : RecD} {X : Int} {w : World} {f : Nat} {args : Array Value} (hX : RecAns s d X) (h : Calls Try.prog f args w (RecPost s d w)) : Calls Try.prog f args w fun e w' => e = .returned (.int .i64 X) ∧ Below w.heap.size w w' :=
  h.mono fun e w' ⟨x, h1, h2, h3⟩ => ⟨by rw [h1, h2.one hX], h3⟩
/-- WorldFault has told what is to be told -/
def WldPost (d : WorldD) (w : World) (e : Ending) (w' : World) : Prop := ∃ x, e = .returned (.int .i64 x) ∧ WldAns d x ∧ Below w.heap.size w w'
theorem wldP {d : WorldD} {w : World} {e : Ending} {w' : World} {x : Int} (he : e = .returned (.int .i64 x)) (h : WldAns d x) (hb : Below w.heap.size w w') : WldPost d w e w' := ⟨x, he, h, hb⟩

/-- recsFault has told what is to be told -/
def RcsPost (s : Nat → Int) (p : Nat × (Nat → TapeD)) (w : World) (e : Ending) (w' : World) : Prop := ∃ x, e = .returned (.int .i64 x) ∧ RecsAns s p.1 p.2 x ∧ Below w.heap.size w w'
/-- an operation without a guard -/
theorem WQ.free {P : Program} {ops : Array Oper} {C : World → Prop} {Q : Act → Prop} {a : Act} {o : Oper} {rest : List Oper} (hw : o.guard = none)
    (h : ∀ K : Act → Prop, (∀ a, WQ P ops C Q rest a → K a) → o.quiet P a C K) : WQ P ops C Q (o :: rest) a := WQ.want (by simp [Region.wanted, hw]) h
end Go.Proofs.Ytgpglgchbimmaaa

namespace Go.Proofs.Ytgpglgchbimmaaa
open Go.RowKit F256
set_option linter.unusedVariables false
set_option linter.unusedSimpArgs false

set_option maxHeartbeats 16000000 in
set_option maxRecDepth 20000 in
theorem specWorld_A (d : WorldD) (cs : List Value) (hi : Nat) (w : World) (h : layWorld.rd w hi d cs) (hhi : hi ≤ w.heap.size) (hnm : ∀ t, t < d.tapes.1 → ∀ i, i < (d.tapes.2 t).recs.1 → ((d.tapes.2 t).recs.2 i).name.size ≤ 1048576) (hok' : OkShape d.shape) (hsel : ¬ (BuiltP d ∧ ApartP d.on.1 d.on.2 (d.shape 0 + d.shape 1 - 1))) :
    Calls Try.prog 6 #[.agg cs.toArray] w (WldPost d w) := by
  obtain ⟨ao1, cap1, ao2, cap2, ao3, cap3, rfl, g1, g2, g3, -⟩ := World_rd h
  have HRD : Hid (layWorld.rd w hi d [.int .i64 (d.shape 0), .int .i64 (d.shape 1), .int .i64 (d.shape 2), .int .i64 (d.shape 3), .int .i64 (d.shape 4), .int .i64 (d.shape 5), .int .i64 (d.shape 6), .int .i64 (d.shape 7), .int .i64 (d.shape 8), .slice ao1 d.groups.1 cap1, .slice ao2 d.on.1 cap2, .slice ao3 d.tapes.1 cap3, .int .i64 d.writes, .int .i64 d.stop, .bool d.down]) := h
  obtain ⟨v2, e2, ⟨h2, hcp2⟩, _⟩ := g2
  cases e2
  have H2 : Hid (RdI w hi (.slice ao2 d.on.1 cap2) d.on.1 d.on.2) := h2
  have HCP : Hid (CapP (.slice ao2 d.on.1 cap2) d.on.1) := hcp2
  have hm2 := h2.mx
  obtain ⟨_, _, e3, hm3, hc3⟩ := g3
  cases e3
  unfold maxLen at hm2 hm3
  have HC3 : Hid (d.tapes.1 ≠ 0 → ∃ b off, ao3 = some ⟨b, off, none⟩ ∧ b < hi ∧ ∀ i, i < d.tapes.1 → ∃ ce, layTape.rd w hi (d.tapes.2 i) ce ∧ ∀ j, j < layTape.sz → w.cell? ⟨b, off + (i * layTape.sz + j), none⟩ = ce[j]?) := hc3
  have HNM : Hid (∀ t, t < d.tapes.1 → ∀ i, i < (d.tapes.2 t).recs.1 → ((d.tapes.2 t).recs.2 i).name.size ≤ 1048576) := hnm
  clear h h2 hcp2 hc3 g1 hnm
  have T0 := one_new w #[.int .i64 (d.shape 0), .int .i64 (d.shape 1), .int .i64 (d.shape 2), .int .i64 (d.shape 3), .int .i64 (d.shape 4), .int .i64 (d.shape 5), .int .i64 (d.shape 6), .int .i64 (d.shape 7), .int .i64 (d.shape 8), .slice ao1 d.groups.1 cap1, .slice ao2 d.on.1 cap2, .slice ao3 d.tapes.1 cap3, .int .i64 d.writes, .int .i64 d.stop, .bool d.down] 35
  have CSh := fun w' => specShape_any d.shape w'
  unfold shapeV at CSh
  go_enter Try.func6, Try.ntmps6
  go_wp2_with fail
  refine (CSh _).mono ?_
  rintro e w1 ⟨x, rfl, hx, b1⟩
  have T1 : One w w1 #[.int .i64 (d.shape 0), .int .i64 (d.shape 1), .int .i64 (d.shape 2), .int .i64 (d.shape 3), .int .i64 (d.shape 4), .int .i64 (d.shape 5), .int .i64 (d.shape 6), .int .i64 (d.shape 7), .int .i64 (d.shape 8), .slice ao1 d.groups.1 cap1, .slice ao2 d.on.1 cap2, .slice ao3 d.tapes.1 cap3, .int .i64 d.writes, .int .i64 d.stop, .bool d.down] 35 := T0.call b1
  have HT1 : Hid (One w w1 #[.int .i64 (d.shape 0), .int .i64 (d.shape 1), .int .i64 (d.shape 2), .int .i64 (d.shape 3), .int .i64 (d.shape 4), .int .i64 (d.shape 5), .int .i64 (d.shape 6), .int .i64 (d.shape 7), .int .i64 (d.shape 8), .slice ao1 d.groups.1 cap1, .slice ao2 d.on.1 cap2, .slice ao3 d.tapes.1 cap3, .int .i64 d.writes, .int .i64 d.stop, .bool d.down] 35) := T1
  clear b1 T0 CSh
  have x1_0 : w1.cell? ⟨w.heap.size, 0, none⟩ = some (.int .i64 (d.shape 0)) := T1.b1.cell 0
  have kx1_0 := cell_regrown x1_0
  have x1_1 : w1.cell? ⟨w.heap.size, 1, none⟩ = some (.int .i64 (d.shape 1)) := T1.b1.cell 1
  have kx1_1 := cell_regrown x1_1
  have x1_2 : w1.cell? ⟨w.heap.size, 2, none⟩ = some (.int .i64 (d.shape 2)) := T1.b1.cell 2
  have kx1_2 := cell_regrown x1_2
  have x1_3 : w1.cell? ⟨w.heap.size, 3, none⟩ = some (.int .i64 (d.shape 3)) := T1.b1.cell 3
  have kx1_3 := cell_regrown x1_3
  have x1_4 : w1.cell? ⟨w.heap.size, 4, none⟩ = some (.int .i64 (d.shape 4)) := T1.b1.cell 4
  have kx1_4 := cell_regrown x1_4
  have x1_5 : w1.cell? ⟨w.heap.size, 5, none⟩ = some (.int .i64 (d.shape 5)) := T1.b1.cell 5
  have kx1_5 := cell_regrown x1_5
  have x1_6 : w1.cell? ⟨w.heap.size, 6, none⟩ = some (.int .i64 (d.shape 6)) := T1.b1.cell 6
  have kx1_6 := cell_regrown x1_6
  have x1_7 : w1.cell? ⟨w.heap.size, 7, none⟩ = some (.int .i64 (d.shape 7)) := T1.b1.cell 7
  have kx1_7 := cell_regrown x1_7
  have x1_8 : w1.cell? ⟨w.heap.size, 8, none⟩ = some (.int .i64 (d.shape 8)) := T1.b1.cell 8
  have kx1_8 := cell_regrown x1_8
  have x1_9 : w1.cell? ⟨w.heap.size, 9, none⟩ = some (.slice ao1 d.groups.1 cap1) := T1.b1.cell 9
  have kx1_9 := cell_regrown x1_9
  have x1_10 : w1.cell? ⟨w.heap.size, 10, none⟩ = some (.slice ao2 d.on.1 cap2) := T1.b1.cell 10
  have kx1_10 := cell_regrown x1_10
  have x1_11 : w1.cell? ⟨w.heap.size, 11, none⟩ = some (.slice ao3 d.tapes.1 cap3) := T1.b1.cell 11
  have kx1_11 := cell_regrown x1_11
  have x1_12 : w1.cell? ⟨w.heap.size, 12, none⟩ = some (.int .i64 d.writes) := T1.b1.cell 12
  have kx1_12 := cell_regrown x1_12
  have x1_13 : w1.cell? ⟨w.heap.size, 13, none⟩ = some (.int .i64 d.stop) := T1.b1.cell 13
  have kx1_13 := cell_regrown x1_13
  have x1_14 : w1.cell? ⟨w.heap.size, 14, none⟩ = some (.bool d.down) := T1.b1.cell 14
  have kx1_14 := cell_regrown x1_14
  clear T1
  rcases hx with ⟨rfl, hno⟩ | ⟨rfl, hok⟩
  · go_wp2
    go_ret
    exact wldP rfl (Stair.fall hno) HT1.out.bel
  have HOK : Hid (OkShape d.shape) := hok
  have hsb : 1 ≤ d.shape 0 ∧ d.shape 0 ≤ 4 ∧ 0 ≤ d.shape 1 ∧ d.shape 1 ≤ 2 := by
    obtain ⟨h1, _⟩ := hok
    unfold Shp3 at h1
    omega
  clear hok
  obtain ⟨t1, h1⟩ := exB (BuiltP d)
  obtain ⟨t2, h2⟩ := exB (ApartP d.on.1 d.on.2 (d.shape 0 + d.shape 1 - 1))
  obtain ⟨b3', h3⟩ : ∃ b, decide (d.shape 5 < (d.on.1 : Int)) = b := ⟨_, rfl⟩
  obtain ⟨g', h4⟩ : ∃ b, decide (0 < d.on.1) = b := ⟨_, rfl⟩
  obtain ⟨b5', h5⟩ : ∃ b, ((d.tapes.1 : Int) != 2) = b := ⟨_, rfl⟩
  have c1 := q_below (W := w1) (fun w' hw' => det_b (l5Built_any d HOK.out _ hi w' (layWorld.rd_below (layWorld.rd_below HRD.out HT1.out.bel hhi) hw' (Nat.le_trans hhi HT1.out.bel.size)) (Nat.le_trans hhi (Nat.le_trans HT1.out.bel.size hw'.size))) h1)
  have c2 := q_below (W := w1) (fun w' hw' => det_b (l5Apart_any _ d.on.1 d.on.2 hi (d.shape 0 + d.shape 1 - 1) w' ((H2.out.below HT1.out.bel hhi).below hw' (Nat.le_trans hhi HT1.out.bel.size)) HCP.out (Nat.le_trans hhi (Nat.le_trans HT1.out.bel.size hw'.size))) h2)
  have cA := q_below (W := w1) (fun w' _ => l5All_any d.shape HOK.out w')
  unfold shapeV at cA
  have wsA : IntKind.i64.wrap (d.shape 0 + d.shape 1 - 1) = d.shape 0 + d.shape 1 - 1 := by rw [IntKind.wrap_i64]; omega
  have h4' : decide (0 < (d.on.1 : Int)) = g' := by rw [← h4]; simp
  obtain ⟨dn, hdn⟩ : ∃ x, x = d.down := ⟨_, rfl⟩
  have HE : Hid (FormP d ↔ (t1 = true ∧ t2 = true ∧ b3' = false ∧ (dn = true → g' = false) ∧ b5' = false)) := by
    show FormP d ↔ _
    have e3 : (decide (d.shape 5 < (d.on.1 : Int)) = false) ↔ (d.on.1 : Int) ≤ d.shape 5 := by simp
    have e4 : (decide (0 < d.on.1) = false) ↔ d.on.1 = 0 := by simp
    have e5 : (((d.tapes.1 : Int) != 2) = false) ↔ d.tapes.1 = 2 := by simp; omega
    rw [h1, h2, ← h3, ← h4, ← h5, hdn, e3, e4, e5]
    unfold FormP OnP
    constructor
    · rintro ⟨a, ⟨b, c, e⟩, f⟩
      exact ⟨a, b, c, e, f⟩
    · rintro ⟨a, b, c, e, f⟩
      exact ⟨a, ⟨b, c, e⟩, f⟩
  have hst : t1 = false ∨ (t1 = true ∧ t2 = false) := by
    clear HE c1 c2
    cases t1 with
    | false => exact .inl rfl
    | true =>
      cases t2 with
      | false => exact .inr ⟨rfl, rfl⟩
      | true => exact absurd ⟨h1.1 rfl, h2.1 rfl⟩ hsel
  have HNF : Hid (¬ FormP d) := fun h => by
    obtain ⟨a, ⟨b, c, e⟩, f⟩ := h
    exact hsel ⟨a, b⟩
  rw [← hdn] at x1_14 kx1_14 c1
  clear h1 h2 hsel hok'
  go_upto_region 4 with fail
  clear hdn
  rcases hst with rfl | ⟨rfl, rfl⟩
  all_goals
    refine WQ.region (by kernel_rfl) (by kernel_rfl) ?_
    repeat (first | (apply WQ.free; (case hw => rfl); intro K hK; go_simp; first | (apply hK; clear hK K) | (apply Exists.intro; apply And.intro; (case left => intro p; (first | (go_at_call 20; exact c1 _ _) | (go_at_call 21; exact c2 _ _) | (go_at_call 22; exact cA _ _))); apply hK; clear hK K)) | (apply WQ.skip; (case hw => rfl); intro K hK; go_simp; apply hK; clear hK K) | (apply WQ.want; (case hw => rfl); intro K hK; go_simp; first | (apply hK; clear hK K) | (apply Exists.intro; apply And.intro; (case left => intro p; (first | (go_at_call 20; exact c1 _ _) | (go_at_call 21; exact c2 _ _) | (go_at_call 22; exact cA _ _))); apply hK; clear hK K)))
    refine WQ.nil ?_
    intro w2 hw2
    have HB2 : Hid (Below w.heap.size w w2) := (HT1.out.call (below_rg hw2)).bel
    clear hw2
    go_wp2
    go_ret
    exact wldP rfl (Stair.pass HOK.out (Stair.fall HNF.out)) HB2.out
set_option maxHeartbeats 16000000 in
set_option maxRecDepth 20000 in
theorem specWorld_B (d : WorldD) (cs : List Value) (hi : Nat) (w : World) (h : layWorld.rd w hi d cs) (hhi : hi ≤ w.heap.size) (hnm : ∀ t, t < d.tapes.1 → ∀ i, i < (d.tapes.2 t).recs.1 → ((d.tapes.2 t).recs.2 i).name.size ≤ 1048576) (hok' : OkShape d.shape) (hsel : BuiltP d ∧ ApartP d.on.1 d.on.2 (d.shape 0 + d.shape 1 - 1) ∧ ¬ ((d.on.1 : Int) ≤ d.shape 5 ∧ (d.down = true → d.on.1 = 0))) :
    Calls Try.prog 6 #[.agg cs.toArray] w (WldPost d w) := by
  obtain ⟨ao1, cap1, ao2, cap2, ao3, cap3, rfl, g1, g2, g3, -⟩ := World_rd h
  have HRD : Hid (layWorld.rd w hi d [.int .i64 (d.shape 0), .int .i64 (d.shape 1), .int .i64 (d.shape 2), .int .i64 (d.shape 3), .int .i64 (d.shape 4), .int .i64 (d.shape 5), .int .i64 (d.shape 6), .int .i64 (d.shape 7), .int .i64 (d.shape 8), .slice ao1 d.groups.1 cap1, .slice ao2 d.on.1 cap2, .slice ao3 d.tapes.1 cap3, .int .i64 d.writes, .int .i64 d.stop, .bool d.down]) := h
  obtain ⟨v2, e2, ⟨h2, hcp2⟩, _⟩ := g2
  cases e2
  have H2 : Hid (RdI w hi (.slice ao2 d.on.1 cap2) d.on.1 d.on.2) := h2
  have HCP : Hid (CapP (.slice ao2 d.on.1 cap2) d.on.1) := hcp2
  have hm2 := h2.mx
  obtain ⟨_, _, e3, hm3, hc3⟩ := g3
  cases e3
  unfold maxLen at hm2 hm3
  have HC3 : Hid (d.tapes.1 ≠ 0 → ∃ b off, ao3 = some ⟨b, off, none⟩ ∧ b < hi ∧ ∀ i, i < d.tapes.1 → ∃ ce, layTape.rd w hi (d.tapes.2 i) ce ∧ ∀ j, j < layTape.sz → w.cell? ⟨b, off + (i * layTape.sz + j), none⟩ = ce[j]?) := hc3
  have HNM : Hid (∀ t, t < d.tapes.1 → ∀ i, i < (d.tapes.2 t).recs.1 → ((d.tapes.2 t).recs.2 i).name.size ≤ 1048576) := hnm
  clear h h2 hcp2 hc3 g1 hnm
  have T0 := one_new w #[.int .i64 (d.shape 0), .int .i64 (d.shape 1), .int .i64 (d.shape 2), .int .i64 (d.shape 3), .int .i64 (d.shape 4), .int .i64 (d.shape 5), .int .i64 (d.shape 6), .int .i64 (d.shape 7), .int .i64 (d.shape 8), .slice ao1 d.groups.1 cap1, .slice ao2 d.on.1 cap2, .slice ao3 d.tapes.1 cap3, .int .i64 d.writes, .int .i64 d.stop, .bool d.down] 35
  have CSh := fun w' => specShape_any d.shape w'
  unfold shapeV at CSh
  go_enter Try.func6, Try.ntmps6
  go_wp2_with fail
  refine (CSh _).mono ?_
  rintro e w1 ⟨x, rfl, hx, b1⟩
  have T1 : One w w1 #[.int .i64 (d.shape 0), .int .i64 (d.shape 1), .int .i64 (d.shape 2), .int .i64 (d.shape 3), .int .i64 (d.shape 4), .int .i64 (d.shape 5), .int .i64 (d.shape 6), .int .i64 (d.shape 7), .int .i64 (d.shape 8), .slice ao1 d.groups.1 cap1, .slice ao2 d.on.1 cap2, .slice ao3 d.tapes.1 cap3, .int .i64 d.writes, .int .i64 d.stop, .bool d.down] 35 := T0.call b1
  have HT1 : Hid (One w w1 #[.int .i64 (d.shape 0), .int .i64 (d.shape 1), .int .i64 (d.shape 2), .int .i64 (d.shape 3), .int .i64 (d.shape 4), .int .i64 (d.shape 5), .int .i64 (d.shape 6), .int .i64 (d.shape 7), .int .i64 (d.shape 8), .slice ao1 d.groups.1 cap1, .slice ao2 d.on.1 cap2, .slice ao3 d.tapes.1 cap3, .int .i64 d.writes, .int .i64 d.stop, .bool d.down] 35) := T1
  clear b1 T0 CSh
  have x1_0 : w1.cell? ⟨w.heap.size, 0, none⟩ = some (.int .i64 (d.shape 0)) := T1.b1.cell 0
  have kx1_0 := cell_regrown x1_0
  have x1_1 : w1.cell? ⟨w.heap.size, 1, none⟩ = some (.int .i64 (d.shape 1)) := T1.b1.cell 1
  have kx1_1 := cell_regrown x1_1
  have x1_2 : w1.cell? ⟨w.heap.size, 2, none⟩ = some (.int .i64 (d.shape 2)) := T1.b1.cell 2
  have kx1_2 := cell_regrown x1_2
  have x1_3 : w1.cell? ⟨w.heap.size, 3, none⟩ = some (.int .i64 (d.shape 3)) := T1.b1.cell 3
  have kx1_3 := cell_regrown x1_3
  have x1_4 : w1.cell? ⟨w.heap.size, 4, none⟩ = some (.int .i64 (d.shape 4)) := T1.b1.cell 4
  have kx1_4 := cell_regrown x1_4
  have x1_5 : w1.cell? ⟨w.heap.size, 5, none⟩ = some (.int .i64 (d.shape 5)) := T1.b1.cell 5
  have kx1_5 := cell_regrown x1_5
  have x1_6 : w1.cell? ⟨w.heap.size, 6, none⟩ = some (.int .i64 (d.shape 6)) := T1.b1.cell 6
  have kx1_6 := cell_regrown x1_6
  have x1_7 : w1.cell? ⟨w.heap.size, 7, none⟩ = some (.int .i64 (d.shape 7)) := T1.b1.cell 7
  have kx1_7 := cell_regrown x1_7
  have x1_8 : w1.cell? ⟨w.heap.size, 8, none⟩ = some (.int .i64 (d.shape 8)) := T1.b1.cell 8
  have kx1_8 := cell_regrown x1_8
  have x1_9 : w1.cell? ⟨w.heap.size, 9, none⟩ = some (.slice ao1 d.groups.1 cap1) := T1.b1.cell 9
  have kx1_9 := cell_regrown x1_9
  have x1_10 : w1.cell? ⟨w.heap.size, 10, none⟩ = some (.slice ao2 d.on.1 cap2) := T1.b1.cell 10
  have kx1_10 := cell_regrown x1_10
  have x1_11 : w1.cell? ⟨w.heap.size, 11, none⟩ = some (.slice ao3 d.tapes.1 cap3) := T1.b1.cell 11
  have kx1_11 := cell_regrown x1_11
  have x1_12 : w1.cell? ⟨w.heap.size, 12, none⟩ = some (.int .i64 d.writes) := T1.b1.cell 12
  have kx1_12 := cell_regrown x1_12
  have x1_13 : w1.cell? ⟨w.heap.size, 13, none⟩ = some (.int .i64 d.stop) := T1.b1.cell 13
  have kx1_13 := cell_regrown x1_13
  have x1_14 : w1.cell? ⟨w.heap.size, 14, none⟩ = some (.bool d.down) := T1.b1.cell 14
  have kx1_14 := cell_regrown x1_14
  clear T1
  rcases hx with ⟨rfl, hno⟩ | ⟨rfl, hok⟩
  · go_wp2
    go_ret
    exact wldP rfl (Stair.fall hno) HT1.out.bel
  have HOK : Hid (OkShape d.shape) := hok
  have hsb : 1 ≤ d.shape 0 ∧ d.shape 0 ≤ 4 ∧ 0 ≤ d.shape 1 ∧ d.shape 1 ≤ 2 := by
    obtain ⟨h1, _⟩ := hok
    unfold Shp3 at h1
    omega
  clear hok
  obtain ⟨t1, h1⟩ := exB (BuiltP d)
  obtain ⟨t2, h2⟩ := exB (ApartP d.on.1 d.on.2 (d.shape 0 + d.shape 1 - 1))
  obtain ⟨b3', h3⟩ : ∃ b, decide (d.shape 5 < (d.on.1 : Int)) = b := ⟨_, rfl⟩
  obtain ⟨g', h4⟩ : ∃ b, decide (0 < d.on.1) = b := ⟨_, rfl⟩
  obtain ⟨b5', h5⟩ : ∃ b, ((d.tapes.1 : Int) != 2) = b := ⟨_, rfl⟩
  have c1 := q_below (W := w1) (fun w' hw' => det_b (l5Built_any d HOK.out _ hi w' (layWorld.rd_below (layWorld.rd_below HRD.out HT1.out.bel hhi) hw' (Nat.le_trans hhi HT1.out.bel.size)) (Nat.le_trans hhi (Nat.le_trans HT1.out.bel.size hw'.size))) h1)
  have c2 := q_below (W := w1) (fun w' hw' => det_b (l5Apart_any _ d.on.1 d.on.2 hi (d.shape 0 + d.shape 1 - 1) w' ((H2.out.below HT1.out.bel hhi).below hw' (Nat.le_trans hhi HT1.out.bel.size)) HCP.out (Nat.le_trans hhi (Nat.le_trans HT1.out.bel.size hw'.size))) h2)
  have cA := q_below (W := w1) (fun w' _ => l5All_any d.shape HOK.out w')
  unfold shapeV at cA
  have wsA : IntKind.i64.wrap (d.shape 0 + d.shape 1 - 1) = d.shape 0 + d.shape 1 - 1 := by rw [IntKind.wrap_i64]; omega
  have h4' : decide (0 < (d.on.1 : Int)) = g' := by rw [← h4]; simp
  obtain ⟨dn, hdn⟩ : ∃ x, x = d.down := ⟨_, rfl⟩
  have HE : Hid (FormP d ↔ (t1 = true ∧ t2 = true ∧ b3' = false ∧ (dn = true → g' = false) ∧ b5' = false)) := by
    show FormP d ↔ _
    have e3 : (decide (d.shape 5 < (d.on.1 : Int)) = false) ↔ (d.on.1 : Int) ≤ d.shape 5 := by simp
    have e4 : (decide (0 < d.on.1) = false) ↔ d.on.1 = 0 := by simp
    have e5 : (((d.tapes.1 : Int) != 2) = false) ↔ d.tapes.1 = 2 := by simp; omega
    rw [h1, h2, ← h3, ← h4, ← h5, hdn, e3, e4, e5]
    unfold FormP OnP
    constructor
    · rintro ⟨a, ⟨b, c, e⟩, f⟩
      exact ⟨a, b, c, e, f⟩
    · rintro ⟨a, b, c, e, f⟩
      exact ⟨a, ⟨b, c, e⟩, f⟩
  have hst : (t1 = true ∧ t2 = true ∧ b3' = true) ∨ (t1 = true ∧ t2 = true ∧ b3' = false ∧ dn = true ∧ g' = true) := by
    clear HE c1 c2
    have e1 := h1.2 hsel.1
    have e2 := h2.2 hsel.2.1
    cases b3' with
    | true => exact .inl ⟨e1, e2, rfl⟩
    | false =>
      have hc : (d.on.1 : Int) ≤ d.shape 5 := by simpa using h3
      have hd : dn = true := by
        cases dn with
        | true => rfl
        | false => exact absurd ⟨hc, fun h => by rw [← hdn] at h; cases h⟩ hsel.2.2
      have hg : g' = true := by
        cases g' with
        | true => rfl
        | false => exact absurd ⟨hc, fun _ => by simpa using h4⟩ hsel.2.2
      exact .inr ⟨e1, e2, rfl, hd, hg⟩
  have HNF : Hid (¬ FormP d) := fun h => by
    obtain ⟨a, ⟨b, c, e⟩, f⟩ := h
    exact hsel.2.2 ⟨c, e⟩
  rw [← hdn] at x1_14 kx1_14 c1
  clear h1 h2 hsel hok'
  go_upto_region 4 with fail
  clear hdn
  rcases hst with ⟨rfl, rfl, rfl⟩ | ⟨rfl, rfl, rfl, rfl, rfl⟩
  all_goals
    refine WQ.region (by kernel_rfl) (by kernel_rfl) ?_
    repeat (first | (apply WQ.free; (case hw => rfl); intro K hK; go_simp; first | (apply hK; clear hK K) | (apply Exists.intro; apply And.intro; (case left => intro p; (first | (go_at_call 20; exact c1 _ _) | (go_at_call 21; exact c2 _ _) | (go_at_call 22; exact cA _ _))); apply hK; clear hK K)) | (apply WQ.skip; (case hw => rfl); intro K hK; go_simp; apply hK; clear hK K) | (apply WQ.want; (case hw => rfl); intro K hK; go_simp; first | (apply hK; clear hK K) | (apply Exists.intro; apply And.intro; (case left => intro p; (first | (go_at_call 20; exact c1 _ _) | (go_at_call 21; exact c2 _ _) | (go_at_call 22; exact cA _ _))); apply hK; clear hK K)))
    refine WQ.nil ?_
    intro w2 hw2
    have HB2 : Hid (Below w.heap.size w w2) := (HT1.out.call (below_rg hw2)).bel
    clear hw2
    go_wp2
    go_ret
    exact wldP rfl (Stair.pass HOK.out (Stair.fall HNF.out)) HB2.out
set_option maxHeartbeats 16000000 in
set_option maxRecDepth 20000 in
theorem specWorld_C (d : WorldD) (cs : List Value) (hi : Nat) (w : World) (h : layWorld.rd w hi d cs) (hhi : hi ≤ w.heap.size) (hnm : ∀ t, t < d.tapes.1 → ∀ i, i < (d.tapes.2 t).recs.1 → ((d.tapes.2 t).recs.2 i).name.size ≤ 1048576) (hok' : OkShape d.shape) (hsel : BuiltP d ∧ ApartP d.on.1 d.on.2 (d.shape 0 + d.shape 1 - 1) ∧ ((d.on.1 : Int) ≤ d.shape 5 ∧ (d.down = true → d.on.1 = 0)) ∧ d.tapes.1 ≠ 2) :
    Calls Try.prog 6 #[.agg cs.toArray] w (WldPost d w) := by
  obtain ⟨ao1, cap1, ao2, cap2, ao3, cap3, rfl, g1, g2, g3, -⟩ := World_rd h
  have HRD : Hid (layWorld.rd w hi d [.int .i64 (d.shape 0), .int .i64 (d.shape 1), .int .i64 (d.shape 2), .int .i64 (d.shape 3), .int .i64 (d.shape 4), .int .i64 (d.shape 5), .int .i64 (d.shape 6), .int .i64 (d.shape 7), .int .i64 (d.shape 8), .slice ao1 d.groups.1 cap1, .slice ao2 d.on.1 cap2, .slice ao3 d.tapes.1 cap3, .int .i64 d.writes, .int .i64 d.stop, .bool d.down]) := h
  obtain ⟨v2, e2, ⟨h2, hcp2⟩, _⟩ := g2
  cases e2
  have H2 : Hid (RdI w hi (.slice ao2 d.on.1 cap2) d.on.1 d.on.2) := h2
  have HCP : Hid (CapP (.slice ao2 d.on.1 cap2) d.on.1) := hcp2
  have hm2 := h2.mx
  obtain ⟨_, _, e3, hm3, hc3⟩ := g3
  cases e3
  unfold maxLen at hm2 hm3
  have HC3 : Hid (d.tapes.1 ≠ 0 → ∃ b off, ao3 = some ⟨b, off, none⟩ ∧ b < hi ∧ ∀ i, i < d.tapes.1 → ∃ ce, layTape.rd w hi (d.tapes.2 i) ce ∧ ∀ j, j < layTape.sz → w.cell? ⟨b, off + (i * layTape.sz + j), none⟩ = ce[j]?) := hc3
  have HNM : Hid (∀ t, t < d.tapes.1 → ∀ i, i < (d.tapes.2 t).recs.1 → ((d.tapes.2 t).recs.2 i).name.size ≤ 1048576) := hnm
  clear h h2 hcp2 hc3 g1 hnm
  have T0 := one_new w #[.int .i64 (d.shape 0), .int .i64 (d.shape 1), .int .i64 (d.shape 2), .int .i64 (d.shape 3), .int .i64 (d.shape 4), .int .i64 (d.shape 5), .int .i64 (d.shape 6), .int .i64 (d.shape 7), .int .i64 (d.shape 8), .slice ao1 d.groups.1 cap1, .slice ao2 d.on.1 cap2, .slice ao3 d.tapes.1 cap3, .int .i64 d.writes, .int .i64 d.stop, .bool d.down] 35
  have CSh := fun w' => specShape_any d.shape w'
  unfold shapeV at CSh
  go_enter Try.func6, Try.ntmps6
  go_wp2_with fail
  refine (CSh _).mono ?_
  rintro e w1 ⟨x, rfl, hx, b1⟩
  have T1 : One w w1 #[.int .i64 (d.shape 0), .int .i64 (d.shape 1), .int .i64 (d.shape 2), .int .i64 (d.shape 3), .int .i64 (d.shape 4), .int .i64 (d.shape 5), .int .i64 (d.shape 6), .int .i64 (d.shape 7), .int .i64 (d.shape 8), .slice ao1 d.groups.1 cap1, .slice ao2 d.on.1 cap2, .slice ao3 d.tapes.1 cap3, .int .i64 d.writes, .int .i64 d.stop, .bool d.down] 35 := T0.call b1
  have HT1 : Hid (One w w1 #[.int .i64 (d.shape 0), .int .i64 (d.shape 1), .int .i64 (d.shape 2), .int .i64 (d.shape 3), .int .i64 (d.shape 4), .int .i64 (d.shape 5), .int .i64 (d.shape 6), .int .i64 (d.shape 7), .int .i64 (d.shape 8), .slice ao1 d.groups.1 cap1, .slice ao2 d.on.1 cap2, .slice ao3 d.tapes.1 cap3, .int .i64 d.writes, .int .i64 d.stop, .bool d.down] 35) := T1
  clear b1 T0 CSh
  have x1_0 : w1.cell? ⟨w.heap.size, 0, none⟩ = some (.int .i64 (d.shape 0)) := T1.b1.cell 0
  have kx1_0 := cell_regrown x1_0
  have x1_1 : w1.cell? ⟨w.heap.size, 1, none⟩ = some (.int .i64 (d.shape 1)) := T1.b1.cell 1
  have kx1_1 := cell_regrown x1_1
  have x1_2 : w1.cell? ⟨w.heap.size, 2, none⟩ = some (.int .i64 (d.shape 2)) := T1.b1.cell 2
  have kx1_2 := cell_regrown x1_2
  have x1_3 : w1.cell? ⟨w.heap.size, 3, none⟩ = some (.int .i64 (d.shape 3)) := T1.b1.cell 3
  have kx1_3 := cell_regrown x1_3
  have x1_4 : w1.cell? ⟨w.heap.size, 4, none⟩ = some (.int .i64 (d.shape 4)) := T1.b1.cell 4
  have kx1_4 := cell_regrown x1_4
  have x1_5 : w1.cell? ⟨w.heap.size, 5, none⟩ = some (.int .i64 (d.shape 5)) := T1.b1.cell 5
  have kx1_5 := cell_regrown x1_5
  have x1_6 : w1.cell? ⟨w.heap.size, 6, none⟩ = some (.int .i64 (d.shape 6)) := T1.b1.cell 6
  have kx1_6 := cell_regrown x1_6
  have x1_7 : w1.cell? ⟨w.heap.size, 7, none⟩ = some (.int .i64 (d.shape 7)) := T1.b1.cell 7
  have kx1_7 := cell_regrown x1_7
  have x1_8 : w1.cell? ⟨w.heap.size, 8, none⟩ = some (.int .i64 (d.shape 8)) := T1.b1.cell 8
  have kx1_8 := cell_regrown x1_8
  have x1_9 : w1.cell? ⟨w.heap.size, 9, none⟩ = some (.slice ao1 d.groups.1 cap1) := T1.b1.cell 9
  have kx1_9 := cell_regrown x1_9
  have x1_10 : w1.cell? ⟨w.heap.size, 10, none⟩ = some (.slice ao2 d.on.1 cap2) := T1.b1.cell 10
  have kx1_10 := cell_regrown x1_10
  have x1_11 : w1.cell? ⟨w.heap.size, 11, none⟩ = some (.slice ao3 d.tapes.1 cap3) := T1.b1.cell 11
  have kx1_11 := cell_regrown x1_11
  have x1_12 : w1.cell? ⟨w.heap.size, 12, none⟩ = some (.int .i64 d.writes) := T1.b1.cell 12
  have kx1_12 := cell_regrown x1_12
  have x1_13 : w1.cell? ⟨w.heap.size, 13, none⟩ = some (.int .i64 d.stop) := T1.b1.cell 13
  have kx1_13 := cell_regrown x1_13
  have x1_14 : w1.cell? ⟨w.heap.size, 14, none⟩ = some (.bool d.down) := T1.b1.cell 14
  have kx1_14 := cell_regrown x1_14
  clear T1
  rcases hx with ⟨rfl, hno⟩ | ⟨rfl, hok⟩
  · go_wp2
    go_ret
    exact wldP rfl (Stair.fall hno) HT1.out.bel
  have HOK : Hid (OkShape d.shape) := hok
  have hsb : 1 ≤ d.shape 0 ∧ d.shape 0 ≤ 4 ∧ 0 ≤ d.shape 1 ∧ d.shape 1 ≤ 2 := by
    obtain ⟨h1, _⟩ := hok
    unfold Shp3 at h1
    omega
  clear hok
  obtain ⟨t1, h1⟩ := exB (BuiltP d)
  obtain ⟨t2, h2⟩ := exB (ApartP d.on.1 d.on.2 (d.shape 0 + d.shape 1 - 1))
  obtain ⟨b3', h3⟩ : ∃ b, decide (d.shape 5 < (d.on.1 : Int)) = b := ⟨_, rfl⟩
  obtain ⟨g', h4⟩ : ∃ b, decide (0 < d.on.1) = b := ⟨_, rfl⟩
  obtain ⟨b5', h5⟩ : ∃ b, ((d.tapes.1 : Int) != 2) = b := ⟨_, rfl⟩
  have c1 := q_below (W := w1) (fun w' hw' => det_b (l5Built_any d HOK.out _ hi w' (layWorld.rd_below (layWorld.rd_below HRD.out HT1.out.bel hhi) hw' (Nat.le_trans hhi HT1.out.bel.size)) (Nat.le_trans hhi (Nat.le_trans HT1.out.bel.size hw'.size))) h1)
  have c2 := q_below (W := w1) (fun w' hw' => det_b (l5Apart_any _ d.on.1 d.on.2 hi (d.shape 0 + d.shape 1 - 1) w' ((H2.out.below HT1.out.bel hhi).below hw' (Nat.le_trans hhi HT1.out.bel.size)) HCP.out (Nat.le_trans hhi (Nat.le_trans HT1.out.bel.size hw'.size))) h2)
  have cA := q_below (W := w1) (fun w' _ => l5All_any d.shape HOK.out w')
  unfold shapeV at cA
  have wsA : IntKind.i64.wrap (d.shape 0 + d.shape 1 - 1) = d.shape 0 + d.shape 1 - 1 := by rw [IntKind.wrap_i64]; omega
  have h4' : decide (0 < (d.on.1 : Int)) = g' := by rw [← h4]; simp
  obtain ⟨dn, hdn⟩ : ∃ x, x = d.down := ⟨_, rfl⟩
  have HE : Hid (FormP d ↔ (t1 = true ∧ t2 = true ∧ b3' = false ∧ (dn = true → g' = false) ∧ b5' = false)) := by
    show FormP d ↔ _
    have e3 : (decide (d.shape 5 < (d.on.1 : Int)) = false) ↔ (d.on.1 : Int) ≤ d.shape 5 := by simp
    have e4 : (decide (0 < d.on.1) = false) ↔ d.on.1 = 0 := by simp
    have e5 : (((d.tapes.1 : Int) != 2) = false) ↔ d.tapes.1 = 2 := by simp; omega
    rw [h1, h2, ← h3, ← h4, ← h5, hdn, e3, e4, e5]
    unfold FormP OnP
    constructor
    · rintro ⟨a, ⟨b, c, e⟩, f⟩
      exact ⟨a, b, c, e, f⟩
    · rintro ⟨a, b, c, e, f⟩
      exact ⟨a, ⟨b, c, e⟩, f⟩
  have hst : (t1 = true ∧ t2 = true ∧ b3' = false ∧ dn = true ∧ g' = false ∧ b5' = true) ∨ (t1 = true ∧ t2 = true ∧ b3' = false ∧ dn = false ∧ b5' = true) := by
    clear HE c1 c2
    have e1 := h1.2 hsel.1
    have e2 := h2.2 hsel.2.1
    have e3 : b3' = false := by rw [← h3]; simpa using hsel.2.2.1.1
    have e5 : b5' = true := by rw [← h5]; have := hsel.2.2.2; simp; omega
    cases dn with
    | false => exact .inr ⟨e1, e2, e3, rfl, e5⟩
    | true => exact .inl ⟨e1, e2, e3, rfl, by rw [← h4]; have := hsel.2.2.1.2 hdn.symm; simp; omega, e5⟩
  have HNF : Hid (¬ FormP d) := fun h => by
    obtain ⟨a, ⟨b, c, e⟩, f⟩ := h
    exact hsel.2.2.2 f
  rw [← hdn] at x1_14 kx1_14 c1
  clear h1 h2 hsel hok'
  go_upto_region 4 with fail
  clear hdn
  rcases hst with ⟨rfl, rfl, rfl, rfl, rfl, rfl⟩ | ⟨rfl, rfl, rfl, rfl, rfl⟩
  all_goals
    refine WQ.region (by kernel_rfl) (by kernel_rfl) ?_
    repeat (first | (apply WQ.free; (case hw => rfl); intro K hK; go_simp; first | (apply hK; clear hK K) | (apply Exists.intro; apply And.intro; (case left => intro p; (first | (go_at_call 20; exact c1 _ _) | (go_at_call 21; exact c2 _ _) | (go_at_call 22; exact cA _ _))); apply hK; clear hK K)) | (apply WQ.skip; (case hw => rfl); intro K hK; go_simp; apply hK; clear hK K) | (apply WQ.want; (case hw => rfl); intro K hK; go_simp; first | (apply hK; clear hK K) | (apply Exists.intro; apply And.intro; (case left => intro p; (first | (go_at_call 20; exact c1 _ _) | (go_at_call 21; exact c2 _ _) | (go_at_call 22; exact cA _ _))); apply hK; clear hK K)))
    refine WQ.nil ?_
    intro w2 hw2
    have HB2 : Hid (Below w.heap.size w w2) := (HT1.out.call (below_rg hw2)).bel
    clear hw2
    go_wp2
    go_ret
    exact wldP rfl (Stair.pass HOK.out (Stair.fall HNF.out)) HB2.out
end Go.Proofs.Ytgpglgchbimmaaa

namespace Go.Proofs.Ytgpglgchbimmaaa
open Go.RowKit F256
set_option linter.unusedVariables false
set_option linter.unusedSimpArgs false

set_option maxHeartbeats 16000000 in
set_option maxRecDepth 20000 in
theorem specWorld_D (d : WorldD) (cs : List Value) (hi : Nat) (w : World) (h : layWorld.rd w hi d cs) (hhi : hi ≤ w.heap.size) (hnm : ∀ t, t < d.tapes.1 → ∀ i, i < (d.tapes.2 t).recs.1 → ((d.tapes.2 t).recs.2 i).name.size ≤ 1048576) (hok' : OkShape d.shape) (hsel : FormP d) :
    Calls Try.prog 6 #[.agg cs.toArray] w (WldPost d w) := by
  obtain ⟨ao1, cap1, ao2, cap2, ao3, cap3, rfl, g1, g2, g3, -⟩ := World_rd h
  have HRD : Hid (layWorld.rd w hi d [.int .i64 (d.shape 0), .int .i64 (d.shape 1), .int .i64 (d.shape 2), .int .i64 (d.shape 3), .int .i64 (d.shape 4), .int .i64 (d.shape 5), .int .i64 (d.shape 6), .int .i64 (d.shape 7), .int .i64 (d.shape 8), .slice ao1 d.groups.1 cap1, .slice ao2 d.on.1 cap2, .slice ao3 d.tapes.1 cap3, .int .i64 d.writes, .int .i64 d.stop, .bool d.down]) := h
  obtain ⟨v2, e2, ⟨h2, hcp2⟩, _⟩ := g2
  cases e2
  have H2 : Hid (RdI w hi (.slice ao2 d.on.1 cap2) d.on.1 d.on.2) := h2
  have HCP : Hid (CapP (.slice ao2 d.on.1 cap2) d.on.1) := hcp2
  have hm2 := h2.mx
  obtain ⟨_, _, e3, hm3, hc3⟩ := g3
  cases e3
  unfold maxLen at hm2 hm3
  have HC3 : Hid (d.tapes.1 ≠ 0 → ∃ b off, ao3 = some ⟨b, off, none⟩ ∧ b < hi ∧ ∀ i, i < d.tapes.1 → ∃ ce, layTape.rd w hi (d.tapes.2 i) ce ∧ ∀ j, j < layTape.sz → w.cell? ⟨b, off + (i * layTape.sz + j), none⟩ = ce[j]?) := hc3
  have HNM : Hid (∀ t, t < d.tapes.1 → ∀ i, i < (d.tapes.2 t).recs.1 → ((d.tapes.2 t).recs.2 i).name.size ≤ 1048576) := hnm
  clear h h2 hcp2 hc3 g1 hnm
  have T0 := one_new w #[.int .i64 (d.shape 0), .int .i64 (d.shape 1), .int .i64 (d.shape 2), .int .i64 (d.shape 3), .int .i64 (d.shape 4), .int .i64 (d.shape 5), .int .i64 (d.shape 6), .int .i64 (d.shape 7), .int .i64 (d.shape 8), .slice ao1 d.groups.1 cap1, .slice ao2 d.on.1 cap2, .slice ao3 d.tapes.1 cap3, .int .i64 d.writes, .int .i64 d.stop, .bool d.down] 35
  have CSh := fun w' => specShape_any d.shape w'
  unfold shapeV at CSh
  go_enter Try.func6, Try.ntmps6
  go_wp2_with fail
  refine (CSh _).mono ?_
  rintro e w1 ⟨x, rfl, hx, b1⟩
  have T1 : One w w1 #[.int .i64 (d.shape 0), .int .i64 (d.shape 1), .int .i64 (d.shape 2), .int .i64 (d.shape 3), .int .i64 (d.shape 4), .int .i64 (d.shape 5), .int .i64 (d.shape 6), .int .i64 (d.shape 7), .int .i64 (d.shape 8), .slice ao1 d.groups.1 cap1, .slice ao2 d.on.1 cap2, .slice ao3 d.tapes.1 cap3, .int .i64 d.writes, .int .i64 d.stop, .bool d.down] 35 := T0.call b1
  have HT1 : Hid (One w w1 #[.int .i64 (d.shape 0), .int .i64 (d.shape 1), .int .i64 (d.shape 2), .int .i64 (d.shape 3), .int .i64 (d.shape 4), .int .i64 (d.shape 5), .int .i64 (d.shape 6), .int .i64 (d.shape 7), .int .i64 (d.shape 8), .slice ao1 d.groups.1 cap1, .slice ao2 d.on.1 cap2, .slice ao3 d.tapes.1 cap3, .int .i64 d.writes, .int .i64 d.stop, .bool d.down] 35) := T1
  clear b1 T0 CSh
  have x1_0 : w1.cell? ⟨w.heap.size, 0, none⟩ = some (.int .i64 (d.shape 0)) := T1.b1.cell 0
  have kx1_0 := cell_regrown x1_0
  have x1_1 : w1.cell? ⟨w.heap.size, 1, none⟩ = some (.int .i64 (d.shape 1)) := T1.b1.cell 1
  have kx1_1 := cell_regrown x1_1
  have x1_2 : w1.cell? ⟨w.heap.size, 2, none⟩ = some (.int .i64 (d.shape 2)) := T1.b1.cell 2
  have kx1_2 := cell_regrown x1_2
  have x1_3 : w1.cell? ⟨w.heap.size, 3, none⟩ = some (.int .i64 (d.shape 3)) := T1.b1.cell 3
  have kx1_3 := cell_regrown x1_3
  have x1_4 : w1.cell? ⟨w.heap.size, 4, none⟩ = some (.int .i64 (d.shape 4)) := T1.b1.cell 4
  have kx1_4 := cell_regrown x1_4
  have x1_5 : w1.cell? ⟨w.heap.size, 5, none⟩ = some (.int .i64 (d.shape 5)) := T1.b1.cell 5
  have kx1_5 := cell_regrown x1_5
  have x1_6 : w1.cell? ⟨w.heap.size, 6, none⟩ = some (.int .i64 (d.shape 6)) := T1.b1.cell 6
  have kx1_6 := cell_regrown x1_6
  have x1_7 : w1.cell? ⟨w.heap.size, 7, none⟩ = some (.int .i64 (d.shape 7)) := T1.b1.cell 7
  have kx1_7 := cell_regrown x1_7
  have x1_8 : w1.cell? ⟨w.heap.size, 8, none⟩ = some (.int .i64 (d.shape 8)) := T1.b1.cell 8
  have kx1_8 := cell_regrown x1_8
  have x1_9 : w1.cell? ⟨w.heap.size, 9, none⟩ = some (.slice ao1 d.groups.1 cap1) := T1.b1.cell 9
  have kx1_9 := cell_regrown x1_9
  have x1_10 : w1.cell? ⟨w.heap.size, 10, none⟩ = some (.slice ao2 d.on.1 cap2) := T1.b1.cell 10
  have kx1_10 := cell_regrown x1_10
  have x1_11 : w1.cell? ⟨w.heap.size, 11, none⟩ = some (.slice ao3 d.tapes.1 cap3) := T1.b1.cell 11
  have kx1_11 := cell_regrown x1_11
  have x1_12 : w1.cell? ⟨w.heap.size, 12, none⟩ = some (.int .i64 d.writes) := T1.b1.cell 12
  have kx1_12 := cell_regrown x1_12
  have x1_13 : w1.cell? ⟨w.heap.size, 13, none⟩ = some (.int .i64 d.stop) := T1.b1.cell 13
  have kx1_13 := cell_regrown x1_13
  have x1_14 : w1.cell? ⟨w.heap.size, 14, none⟩ = some (.bool d.down) := T1.b1.cell 14
  have kx1_14 := cell_regrown x1_14
  clear T1
  rcases hx with ⟨rfl, hno⟩ | ⟨rfl, hok⟩
  · go_wp2
    go_ret
    exact wldP rfl (Stair.fall hno) HT1.out.bel
  have HOK : Hid (OkShape d.shape) := hok
  have hsb : 1 ≤ d.shape 0 ∧ d.shape 0 ≤ 4 ∧ 0 ≤ d.shape 1 ∧ d.shape 1 ≤ 2 := by
    obtain ⟨h1, _⟩ := hok
    unfold Shp3 at h1
    omega
  clear hok
  obtain ⟨t1, h1⟩ := exB (BuiltP d)
  obtain ⟨t2, h2⟩ := exB (ApartP d.on.1 d.on.2 (d.shape 0 + d.shape 1 - 1))
  obtain ⟨b3', h3⟩ : ∃ b, decide (d.shape 5 < (d.on.1 : Int)) = b := ⟨_, rfl⟩
  obtain ⟨g', h4⟩ : ∃ b, decide (0 < d.on.1) = b := ⟨_, rfl⟩
  obtain ⟨b5', h5⟩ : ∃ b, ((d.tapes.1 : Int) != 2) = b := ⟨_, rfl⟩
  have c1 := q_below (W := w1) (fun w' hw' => det_b (l5Built_any d HOK.out _ hi w' (layWorld.rd_below (layWorld.rd_below HRD.out HT1.out.bel hhi) hw' (Nat.le_trans hhi HT1.out.bel.size)) (Nat.le_trans hhi (Nat.le_trans HT1.out.bel.size hw'.size))) h1)
  have c2 := q_below (W := w1) (fun w' hw' => det_b (l5Apart_any _ d.on.1 d.on.2 hi (d.shape 0 + d.shape 1 - 1) w' ((H2.out.below HT1.out.bel hhi).below hw' (Nat.le_trans hhi HT1.out.bel.size)) HCP.out (Nat.le_trans hhi (Nat.le_trans HT1.out.bel.size hw'.size))) h2)
  have cA := q_below (W := w1) (fun w' _ => l5All_any d.shape HOK.out w')
  unfold shapeV at cA
  have wsA : IntKind.i64.wrap (d.shape 0 + d.shape 1 - 1) = d.shape 0 + d.shape 1 - 1 := by rw [IntKind.wrap_i64]; omega
  have h4' : decide (0 < (d.on.1 : Int)) = g' := by rw [← h4]; simp
  obtain ⟨dn, hdn⟩ : ∃ x, x = d.down := ⟨_, rfl⟩
  have HE : Hid (FormP d ↔ (t1 = true ∧ t2 = true ∧ b3' = false ∧ (dn = true → g' = false) ∧ b5' = false)) := by
    show FormP d ↔ _
    have e3 : (decide (d.shape 5 < (d.on.1 : Int)) = false) ↔ (d.on.1 : Int) ≤ d.shape 5 := by simp
    have e4 : (decide (0 < d.on.1) = false) ↔ d.on.1 = 0 := by simp
    have e5 : (((d.tapes.1 : Int) != 2) = false) ↔ d.tapes.1 = 2 := by simp; omega
    rw [h1, h2, ← h3, ← h4, ← h5, hdn, e3, e4, e5]
    unfold FormP OnP
    constructor
    · rintro ⟨a, ⟨b, c, e⟩, f⟩
      exact ⟨a, b, c, e, f⟩
    · rintro ⟨a, b, c, e, f⟩
      exact ⟨a, ⟨b, c, e⟩, f⟩
  have hst : (t1 = true ∧ t2 = true ∧ b3' = false ∧ dn = true ∧ g' = false ∧ b5' = false) ∨ (t1 = true ∧ t2 = true ∧ b3' = false ∧ dn = false ∧ b5' = false) := by
    obtain ⟨a1, a2, a3, a4, a5⟩ := HE.out.1 hsel
    cases dn with
    | true => exact .inl ⟨a1, a2, a3, rfl, a4 rfl, a5⟩
    | false => exact .inr ⟨a1, a2, a3, rfl, a5⟩
  have HFM : Hid (FormP d) := hsel
  have htp : d.tapes.1 = 2 := hsel.2.2
  have HTP : Hid (d.tapes.1 = 2) := htp
  rw [← hdn] at x1_14 kx1_14 c1
  clear h1 h2 hsel hok' htp HE
  go_upto_region 4 with fail
  go_cut [51] (fun v wx => v = .bool false ∧ Below w1.heap.size w1 wx)
  case first =>
    clear hdn
    rcases hst with ⟨rfl, rfl, rfl, rfl, rfl, rfl⟩ | ⟨rfl, rfl, rfl, rfl, rfl⟩
    all_goals
      refine WQ.region (by kernel_rfl) (by kernel_rfl) ?_
      repeat (first | (apply WQ.free; (case hw => rfl); intro K hK; go_simp; first | (apply hK; clear hK K) | (apply Exists.intro; apply And.intro; (case left => intro p; (first | (go_at_call 20; exact c1 _ _) | (go_at_call 21; exact c2 _ _) | (go_at_call 22; exact cA _ _))); apply hK; clear hK K)) | (apply WQ.skip; (case hw => rfl); intro K hK; go_simp; apply hK; clear hK K) | (apply WQ.want; (case hw => rfl); intro K hK; go_simp; first | (apply hK; clear hK K) | (apply Exists.intro; apply And.intro; (case left => intro p; (first | (go_at_call 20; exact c1 _ _) | (go_at_call 21; exact c2 _ _) | (go_at_call 22; exact cA _ _))); apply hK; clear hK K)))
      refine WQ.nil ?_
      intro w2 hw2
      have HB2 : Hid (Below w1.heap.size w1 w2) := below_rg hw2
      clear hw2
      go_wp2
      go_meet
      exact ⟨rfl, HB2.out⟩
  case rest =>
    obtain ⟨rfl, b2⟩ := hcut
    obtain ⟨w2, rfl⟩ : ∃ x, x = wc := ⟨_, rfl⟩
    have T2 : One w w2 #[.int .i64 (d.shape 0), .int .i64 (d.shape 1), .int .i64 (d.shape 2), .int .i64 (d.shape 3), .int .i64 (d.shape 4), .int .i64 (d.shape 5), .int .i64 (d.shape 6), .int .i64 (d.shape 7), .int .i64 (d.shape 8), .slice ao1 d.groups.1 cap1, .slice ao2 d.on.1 cap2, .slice ao3 d.tapes.1 cap3, .int .i64 d.writes, .int .i64 d.stop, .bool d.down] 35 := HT1.out.call b2
    rw [hdn] at *
    clear x1_0 kx1_0 x1_1 kx1_1 x1_2 kx1_2 x1_3 kx1_3 x1_4 kx1_4 x1_5 kx1_5 x1_6 kx1_6 x1_7 kx1_7 x1_8 kx1_8 x1_9 kx1_9 x1_10 kx1_10 x1_11 kx1_11 x1_12 kx1_12 x1_13 kx1_13 x1_14 kx1_14 c1 c2 cA hst h3 h4 h4' h5 b2 HT1 wsA hdn
    obtain ⟨b3, off3, he3, hb3, hel3⟩ := HC3.out (by have := HTP.out; omega)
    subst he3
    have HT2 : Hid (One w w2 #[.int .i64 (d.shape 0), .int .i64 (d.shape 1), .int .i64 (d.shape 2), .int .i64 (d.shape 3), .int .i64 (d.shape 4), .int .i64 (d.shape 5), .int .i64 (d.shape 6), .int .i64 (d.shape 7), .int .i64 (d.shape 8), .slice ao1 d.groups.1 cap1, .slice ao2 d.on.1 cap2, .slice (some ⟨b3, off3, none⟩) d.tapes.1 cap3, .int .i64 d.writes, .int .i64 d.stop, .bool d.down] 35) := T2
    have HEL : Hid (∀ i, i < d.tapes.1 → ∃ ce, layTape.rd w hi (d.tapes.2 i) ce ∧ ∀ j, j < layTape.sz → w.cell? ⟨b3, off3 + (i * layTape.sz + j), none⟩ = ce[j]?) := hel3
    obtain ⟨ce0, hr0, hce0⟩ := elem_rd (t := 0) hel3 T2.bel hhi hb3 (show 0 < d.tapes.1 by have := HTP.out; omega)
    obtain ⟨ce1, hr1, hce1⟩ := elem_rd (t := 0) hel3 T2.bel hhi hb3 (show 1 < d.tapes.1 by have := HTP.out; omega)
    obtain ⟨ap0, cp0, rfl, gt0⟩ := Tape_rd hr0
    obtain ⟨ap1, cp1, rfl, gt1⟩ := Tape_rd hr1
    have hl0 : (d.tapes.2 0).recs.1 ≤ maxLen := by obtain ⟨_, _, _, h, _⟩ := gt0; exact h
    have hl1 : (d.tapes.2 1).recs.1 ≤ maxLen := by obtain ⟨_, _, _, h, _⟩ := gt1; exact h
    unfold maxLen at hl0 hl1
    have q0 : w2.cell? ⟨b3, off3 + 1, none⟩ = some (.slice ap0 (d.tapes.2 0).recs.1 cp0) := by
      have := hce0 1 (by decide)
      simpa using this
    have q1 : w2.cell? ⟨b3, off3 + 2 + 1, none⟩ = some (.slice ap1 (d.tapes.2 1).recs.1 cp1) := hce1 1 (by decide)
    have q1' : w2.cell? ⟨b3, off3 + 3, none⟩ = some (.slice ap1 (d.tapes.2 1).recs.1 cp1) := hce1 1 (by decide)
    have x2_11 : w2.cell? ⟨w.heap.size, 11, none⟩ = some (.slice (some ⟨b3, off3, none⟩) d.tapes.1 cap3) := T2.b1.cell 11
    obtain ⟨f0, k0⟩ : ∃ b, decide (200 < (d.tapes.2 0).recs.1) = b := ⟨_, rfl⟩
    obtain ⟨f1, k1⟩ : ∃ b, decide (200 < (d.tapes.2 1).recs.1) = b := ⟨_, rfl⟩
    have k0' : decide (200 < ((d.tapes.2 0).recs.1 : Int)) = f0 := by rw [← k0]; congr 1; apply propext; omega
    have k1' : decide (200 < ((d.tapes.2 1).recs.1 : Int)) = f1 := by rw [← k1]; congr 1; apply propext; omega
    clear hce0 hce1 hr0 hr1 gt0 gt1 hel3 T2
    have hge : 2 ≤ d.tapes.1 := by have := HTP.out; omega
    have hle : d.tapes.1 ≤ 2 := by have := HTP.out; omega
    have HF0 : Hid (f0 = false → (d.tapes.2 0).recs.1 ≤ 200) := fun e => by rw [← k0] at e; simpa using e
    have HF1 : Hid (f1 = false → (d.tapes.2 1).recs.1 ≤ 200) := fun e => by rw [← k1] at e; simpa using e
    have HG0 : Hid (f0 = true → ¬ (d.tapes.2 0).recs.1 ≤ 200) := fun e => by rw [← k0] at e; simpa using e
    have HG1 : Hid (f1 = true → ¬ (d.tapes.2 1).recs.1 ≤ 200) := fun e => by rw [← k1] at e; simpa using e
    cases f0 with
    | true =>
      go_wp2
      go_ret
      exact wldP rfl (Stair.pass HOK.out (Stair.pass HFM.out (Stair.fall (fun h => HG0.out (by simp) (h 0 (by omega)))))) HT2.out.bel
    | false =>
    cases f1 with
    | true =>
      go_wp2
      go_ret
      exact wldP rfl (Stair.pass HOK.out (Stair.pass HFM.out (Stair.fall (fun h => HG1.out (by simp) (h 1 (by omega)))))) HT2.out.bel
    | false =>
    have HFW : Hid (FewP d) := fun t ht => by
      by_cases c : t = 0
      · subst c; exact HF0.out (by simp)
      · obtain rfl : t = 1 := by omega
        exact HF1.out (by simp)
    go_wp2
    clear k0 k1 k0' k1' HF0 HF1 HG0 HG1 q0 q1 q1' x2_11 hl0 hl1
    go_loopw [4] (fun v wr => ∃ t : Nat, t ≤ d.tapes.1 ∧ v = .int .i64 t ∧ (∀ u, u < t → ∀ k, k < (d.tapes.2 u).recs.1 → RecAns d.shape ((d.tapes.2 u).recs.2 k) 0) ∧ One w wr #[.int .i64 (d.shape 0), .int .i64 (d.shape 1), .int .i64 (d.shape 2), .int .i64 (d.shape 3), .int .i64 (d.shape 4), .int .i64 (d.shape 5), .int .i64 (d.shape 6), .int .i64 (d.shape 7), .int .i64 (d.shape 8), .slice ao1 d.groups.1 cap1, .slice ao2 d.on.1 cap2, .slice (some ⟨b3, off3, none⟩) d.tapes.1 cap3, .int .i64 d.writes, .int .i64 d.stop, .bool d.down] 35) (fun v _ => d.tapes.1 - (intOf v).toNat)
    case atStart => exact ⟨0, Nat.zero_le _, rfl, fun i hi => by omega, HT2.out⟩
    case round =>
      clear HT2
      obtain ⟨t, ht, rfl, hal, T3⟩ := hrel
      obtain ⟨wo, rfl⟩ : ∃ x, x = wr := ⟨_, rfl⟩
      have HAL : Hid (∀ u, u < t → ∀ k, k < (d.tapes.2 u).recs.1 → RecAns d.shape ((d.tapes.2 u).recs.2 k) 0) := hal
      have HT3 : Hid (One w wo #[.int .i64 (d.shape 0), .int .i64 (d.shape 1), .int .i64 (d.shape 2), .int .i64 (d.shape 3), .int .i64 (d.shape 4), .int .i64 (d.shape 5), .int .i64 (d.shape 6), .int .i64 (d.shape 7), .int .i64 (d.shape 8), .slice ao1 d.groups.1 cap1, .slice ao2 d.on.1 cap2, .slice (some ⟨b3, off3, none⟩) d.tapes.1 cap3, .int .i64 d.writes, .int .i64 d.stop, .bool d.down] 35) := T3
      clear hal
      by_cases hlt : t < d.tapes.1
      · have zo : w.heap.size < wo.heap.size := T3.b1.lt
        have hd2 : decide ((t : Int) < 2) = true := decide_eq_true (by omega)
        clear T3
        go_wp2
        go_loopw [5] (fun v wx => ∃ i : Nat, i ≤ (d.tapes.2 t).recs.1 ∧ v = .int .i64 i ∧ (∀ k, k < i → RecAns d.shape ((d.tapes.2 t).recs.2 k) 0) ∧ One w wx #[.int .i64 (d.shape 0), .int .i64 (d.shape 1), .int .i64 (d.shape 2), .int .i64 (d.shape 3), .int .i64 (d.shape 4), .int .i64 (d.shape 5), .int .i64 (d.shape 6), .int .i64 (d.shape 7), .int .i64 (d.shape 8), .slice ao1 d.groups.1 cap1, .slice ao2 d.on.1 cap2, .slice (some ⟨b3, off3, none⟩) d.tapes.1 cap3, .int .i64 d.writes, .int .i64 d.stop, .bool d.down] 35) (fun v _ => (d.tapes.2 t).recs.1 - (intOf v).toNat)
        case atStart => exact ⟨0, Nat.zero_le _, rfl, fun i hi => by omega, HT3.out⟩
        case round =>
          clear HT3
          obtain ⟨i, hi', rfl, hal2, T4⟩ := hrel
          obtain ⟨wx, rfl⟩ : ∃ x, x = wr := ⟨_, rfl⟩
          have HAL2 : Hid (∀ k, k < i → RecAns d.shape ((d.tapes.2 t).recs.2 k) 0) := hal2
          have HT4 : Hid (One w wx #[.int .i64 (d.shape 0), .int .i64 (d.shape 1), .int .i64 (d.shape 2), .int .i64 (d.shape 3), .int .i64 (d.shape 4), .int .i64 (d.shape 5), .int .i64 (d.shape 6), .int .i64 (d.shape 7), .int .i64 (d.shape 8), .slice ao1 d.groups.1 cap1, .slice ao2 d.on.1 cap2, .slice (some ⟨b3, off3, none⟩) d.tapes.1 cap3, .int .i64 d.writes, .int .i64 d.stop, .bool d.down] 35) := T4
          have zx : w.heap.size < wx.heap.size := T4.b1.lt
          clear hal2
          obtain ⟨ct, hrt, hct⟩ := elem_rd (t := 0) HEL.out T4.bel hhi hb3 hlt
          obtain ⟨ap, cp, rfl, gt⟩ := Tape_rd hrt
          have c1 : wx.cell? ⟨b3, off3 + t * 2 + 1, none⟩ = some (.slice ap (d.tapes.2 t).recs.1 cp) := hct 1 (by decide)
          obtain ⟨_, _, et, hmt, hct'⟩ := gt
          cases et
          unfold maxLen at hmt
          have HCT : Hid ((d.tapes.2 t).recs.1 ≠ 0 → ∃ b off, ap = some ⟨b, off, none⟩ ∧ b < hi ∧ ∀ i, i < (d.tapes.2 t).recs.1 → ∃ ce, layRec.rd wx hi ((d.tapes.2 t).recs.2 i) ce ∧ ∀ j, j < layRec.sz → wx.cell? ⟨b, off + (i * layRec.sz + j), none⟩ = ce[j]?) := hct'
          have x5_11 : wx.cell? ⟨w.heap.size, 11, none⟩ = some (.slice (some ⟨b3, off3, none⟩) d.tapes.1 cap3) := T4.b1.cell 11
          clear hct hrt hct'
          by_cases hli : i < (d.tapes.2 t).recs.1
          · obtain ⟨b6, off6, he6, hb6, hel6⟩ := HCT.out (by omega)
            subst he6
            obtain ⟨cr, hrr, hcr⟩ := hel6 i hli
            obtain ⟨ro6, rc6, ro7, rc7, ro8, rc8, rfl, -⟩ := Rec_rd hrr
            have r0 : wx.cell? ⟨b6, off6 + i * 9, none⟩ = some (.int .i64 ((d.tapes.2 t).recs.2 i).kind) := hcr 0 (by decide)
            have kr0 := cell_regrown r0
            have r1 : wx.cell? ⟨b6, off6 + i * 9 + 1, none⟩ = some (.int .i64 ((d.tapes.2 t).recs.2 i).seq) := hcr 1 (by decide)
            have kr1 := cell_regrown r1
            have r2 : wx.cell? ⟨b6, off6 + i * 9 + 2, none⟩ = some (.string ((d.tapes.2 t).recs.2 i).name) := hcr 2 (by decide)
            have kr2 := cell_regrown r2
            have r3 : wx.cell? ⟨b6, off6 + i * 9 + 3, none⟩ = some (.int .i64 ((d.tapes.2 t).recs.2 i).length) := hcr 3 (by decide)
            have kr3 := cell_regrown r3
            have r4 : wx.cell? ⟨b6, off6 + i * 9 + 4, none⟩ = some (.int .i64 ((d.tapes.2 t).recs.2 i).group) := hcr 4 (by decide)
            have kr4 := cell_regrown r4
            have r5 : wx.cell? ⟨b6, off6 + i * 9 + 5, none⟩ = some (.int .i64 ((d.tapes.2 t).recs.2 i).row) := hcr 5 (by decide)
            have kr5 := cell_regrown r5
            have r6 : wx.cell? ⟨b6, off6 + i * 9 + 6, none⟩ = some (.slice ro6 ((d.tapes.2 t).recs.2 i).rows.1 rc6) := hcr 6 (by decide)
            have kr6 := cell_regrown r6
            have r7 : wx.cell? ⟨b6, off6 + i * 9 + 7, none⟩ = some (.slice ro7 ((d.tapes.2 t).recs.2 i).data.1 rc7) := hcr 7 (by decide)
            have kr7 := cell_regrown r7
            have r8 : wx.cell? ⟨b6, off6 + i * 9 + 8, none⟩ = some (.slice ro8 ((d.tapes.2 t).recs.2 i).delta.1 rc8) := hcr 8 (by decide)
            have kr8 := cell_regrown r8
            have HRR : Hid (layRec.rd wx hi ((d.tapes.2 t).recs.2 i) [.int .i64 ((d.tapes.2 t).recs.2 i).kind, .int .i64 ((d.tapes.2 t).recs.2 i).seq, .string ((d.tapes.2 t).recs.2 i).name, .int .i64 ((d.tapes.2 t).recs.2 i).length, .int .i64 ((d.tapes.2 t).recs.2 i).group, .int .i64 ((d.tapes.2 t).recs.2 i).row, .slice ro6 ((d.tapes.2 t).recs.2 i).rows.1 rc6, .slice ro7 ((d.tapes.2 t).recs.2 i).data.1 rc7, .slice ro8 ((d.tapes.2 t).recs.2 i).delta.1 rc8]) := hrr
            obtain ⟨X, hX⟩ : ∃ X, RecAns d.shape ((d.tapes.2 t).recs.2 i) X := stair_ex (K := isZ) ⟨0, rfl⟩ _
            have HX : Hid (RecAns d.shape ((d.tapes.2 t).recs.2 i) X) := hX
            have kx5_11 := cell_regrown x5_11
            have kc1 := cell_regrown c1
            have x5_0 : wx.cell? ⟨w.heap.size, 0, none⟩ = some (.int .i64 (d.shape 0)) := T4.b1.cell 0
            have kx5_0 := cell_regrown x5_0
            have x5_1 : wx.cell? ⟨w.heap.size, 1, none⟩ = some (.int .i64 (d.shape 1)) := T4.b1.cell 1
            have kx5_1 := cell_regrown x5_1
            have x5_2 : wx.cell? ⟨w.heap.size, 2, none⟩ = some (.int .i64 (d.shape 2)) := T4.b1.cell 2
            have kx5_2 := cell_regrown x5_2
            have x5_3 : wx.cell? ⟨w.heap.size, 3, none⟩ = some (.int .i64 (d.shape 3)) := T4.b1.cell 3
            have kx5_3 := cell_regrown x5_3
            have x5_4 : wx.cell? ⟨w.heap.size, 4, none⟩ = some (.int .i64 (d.shape 4)) := T4.b1.cell 4
            have kx5_4 := cell_regrown x5_4
            have x5_5 : wx.cell? ⟨w.heap.size, 5, none⟩ = some (.int .i64 (d.shape 5)) := T4.b1.cell 5
            have kx5_5 := cell_regrown x5_5
            have x5_6 : wx.cell? ⟨w.heap.size, 6, none⟩ = some (.int .i64 (d.shape 6)) := T4.b1.cell 6
            have kx5_6 := cell_regrown x5_6
            have x5_7 : wx.cell? ⟨w.heap.size, 7, none⟩ = some (.int .i64 (d.shape 7)) := T4.b1.cell 7
            have kx5_7 := cell_regrown x5_7
            have x5_8 : wx.cell? ⟨w.heap.size, 8, none⟩ = some (.int .i64 (d.shape 8)) := T4.b1.cell 8
            have kx5_8 := cell_regrown x5_8
            have CR := q_below (W := wx) (fun w' hw' => rec_det HX.out (specRec_any d.shape ((d.tapes.2 t).recs.2 i) _ hi w' (layRec.rd_below HRR.out hw' (by omega)) (Nat.le_trans (by omega) hw'.size) (HNM.out t hlt i hli)))
            unfold shapeV at CR
            clear hel6 hcr hrr T4 hX
            go_upto_region 14 with fail
            refine WQ.region (by kernel_rfl) (by kernel_rfl) ?_
            repeat (first | (apply WQ.skip; (case hw => rfl); intro K hK; go_simp; apply hK; clear hK K) | (apply WQ.want; (case hw => rfl); intro K hK; go_simp; first | (apply hK; clear hK K) | (apply Exists.intro; apply And.intro; (case left => intro p; (first | (go_at_call 11; exact CR _ _))); apply hK; clear hK K)))
            refine WQ.nil ?_
            intro w6 hw6
            have HT6 : Hid (One w w6 #[.int .i64 (d.shape 0), .int .i64 (d.shape 1), .int .i64 (d.shape 2), .int .i64 (d.shape 3), .int .i64 (d.shape 4), .int .i64 (d.shape 5), .int .i64 (d.shape 6), .int .i64 (d.shape 7), .int .i64 (d.shape 8), .slice ao1 d.groups.1 cap1, .slice ao2 d.on.1 cap2, .slice (some ⟨b3, off3, none⟩) d.tapes.1 cap3, .int .i64 d.writes, .int .i64 d.stop, .bool d.down] 35) := HT4.out.call (below_rg hw6)
            clear hw6 CR r0 kr0 x5_0 kx5_0 r1 kr1 x5_1 kx5_1 r2 kr2 x5_2 kx5_2 r3 kr3 x5_3 kx5_3 r4 kr4 x5_4 kx5_4 r5 kr5 x5_5 kx5_5 r6 kr6 x5_6 kx5_6 r7 kr7 x5_7 kx5_7 r8 kr8 x5_8 kx5_8 x5_11 kx5_11 c1 kc1
            by_cases hx0 : X = 0
            · subst hx0
              go_wp2
              go_roundw
              case rel => exact ⟨i + 1, by omega, by go_num, fun k hk => by
                            by_cases c : k = i
                            · subst c; exact HX.out
                            · exact HAL2.out k (by omega), HT6.out⟩
              case measure => simp [intOf]; omega
            · have hne : (X != 0) = true := by simp [hx0]
              go_wp2
              go_ret
              exact wldP rfl (Stair.pass HOK.out (Stair.pass HFM.out (Stair.pass HFW.out (Stair.last (.inl ⟨hx0, .inr ⟨hx0, t, i, hlt, hli, HX.out, HAL2.out, HAL.out⟩⟩))))) HT6.out.bel
          · obtain rfl : i = (d.tapes.2 t).recs.1 := by omega
            clear T4
            go_wp2
            go_roundw
            case rel => exact ⟨t + 1, by omega, by go_num, fun u hu => by
                          by_cases c : u = t
                          · subst c; exact HAL2.out
                          · exact HAL.out u (by omega), HT4.out⟩
            case measure => simp [intOf]; omega
      · obtain rfl : t = d.tapes.1 := by omega
        clear T3
        have HRA : Hid (RecsAns d.shape d.tapes.1 d.tapes.2 0) := .inl ⟨rfl, HAL.out⟩
        go_wp2
        go_loop [7] (fun v => ∃ t : Nat, t ≤ d.tapes.1 ∧ v = .int .i64 t ∧ ∀ u, u < t → (d.tapes.2 u).wiped = true → (d.tapes.2 u).recs.1 = 0) (fun v => d.tapes.1 - (intOf v).toNat)
        case atStart => exact ⟨0, Nat.zero_le _, rfl, fun i hi => by omega⟩
        case round =>
          obtain ⟨t, ht, rfl, hal⟩ := hrel
          have HAL3 : Hid (∀ u, u < t → (d.tapes.2 u).wiped = true → (d.tapes.2 u).recs.1 = 0) := hal
          clear hal
          by_cases hlt : t < d.tapes.1
          · obtain ⟨ct, hrt, hct⟩ := elem_rd (t := 0) HEL.out HT3.out.bel hhi hb3 hlt
            obtain ⟨ap, cp, rfl, gt⟩ := Tape_rd hrt
            have c0 : wo.cell? ⟨b3, off3 + t * 2, none⟩ = some (.bool (d.tapes.2 t).wiped) := hct 0 (by decide)
            have c1 : wo.cell? ⟨b3, off3 + t * 2 + 1, none⟩ = some (.slice ap (d.tapes.2 t).recs.1 cp) := hct 1 (by decide)
            have x5_11 : wo.cell? ⟨w.heap.size, 11, none⟩ = some (.slice (some ⟨b3, off3, none⟩) d.tapes.1 cap3) := HT3.out.b1.cell 11
            obtain ⟨u, hu⟩ : ∃ u, u = (d.tapes.2 t).wiped := ⟨_, rfl⟩
            obtain ⟨g, hg⟩ : ∃ b, decide (0 < (d.tapes.2 t).recs.1) = b := ⟨_, rfl⟩
            have hg' : decide (0 < ((d.tapes.2 t).recs.1 : Int)) = g := by rw [← hg]; simp
            rw [← hu] at c0
            have HE3 : Hid (((d.tapes.2 t).wiped = true → (d.tapes.2 t).recs.1 = 0) ↔ (u = true → g = false)) := by
              show _ ↔ _
              rw [← hu, ← hg]
              simp
            clear hct hrt gt hu
            cases u with
            | false =>
              go_wp2
              go_round
              case rel => exact ⟨t + 1, by omega, by go_num, fun u hu => by
                            by_cases c : u = t
                            · subst c; exact HE3.out.2 (by simp)
                            · exact HAL3.out u (by omega)⟩
              case measure => simp [intOf]; omega
            | true =>
              cases g with
              | false =>
                go_wp2
                go_round
                case rel => exact ⟨t + 1, by omega, by go_num, fun u hu => by
                              by_cases c : u = t
                              · subst c; exact HE3.out.2 (by simp)
                              · exact HAL3.out u (by omega)⟩
                case measure => simp [intOf]; omega
              | true =>
                go_wp2
                go_ret
                exact wldP rfl (Stair.pass HOK.out (Stair.pass HFM.out (Stair.pass HFW.out (Stair.last (.inr ⟨HRA.out, Stair.fall (fun h => by have := HE3.out.1 (h t hlt); simp at this)⟩))))) HT3.out.bel
          · obtain rfl : t = d.tapes.1 := by omega
            have HCL : Hid (CleanP d) := HAL3.out
            have x5_12 : wo.cell? ⟨w.heap.size, 12, none⟩ = some (.int .i64 d.writes) := HT3.out.b1.cell 12
            have x5_13 : wo.cell? ⟨w.heap.size, 13, none⟩ = some (.int .i64 d.stop) := HT3.out.b1.cell 13
            obtain ⟨t1, h1⟩ := exB (InP d.writes 0 1000000000)
            obtain ⟨t2, h2⟩ := exB (InP d.stop (-1) 1000000000)
            have C1 := fun w' => l1In_b (w := w') h1
            have C2 := fun w' => l1In_b (w := w') h2
            have HE4 : Hid (CountP d ↔ (t1 = true ∧ t2 = true)) := by
              show CountP d ↔ _
              rw [h1, h2]
              exact Iff.rfl
            clear h1 h2
            go_wp2_with fail
            refine (C1 _).mono ?_
            rintro e w' ⟨rfl, hw'⟩
            obtain rfl := hw'.symm
            clear C1
            cases t1 with
            | false =>
              go_wp2
              go_ret
              exact wldP rfl (Stair.pass HOK.out (Stair.pass HFM.out (Stair.pass HFW.out (Stair.last (.inr ⟨HRA.out, Stair.pass HCL.out (Stair.fall (fun h => by have := HE4.out.1 h; simp at this))⟩))))) HT3.out.bel
            | true =>
              go_wp2_with fail
              refine (C2 _).mono ?_
              rintro e w' ⟨rfl, hw'⟩
              obtain rfl := hw'.symm
              clear C2
              cases t2 with
              | false =>
                go_wp2
                go_ret
                exact wldP rfl (Stair.pass HOK.out (Stair.pass HFM.out (Stair.pass HFW.out (Stair.last (.inr ⟨HRA.out, Stair.pass HCL.out (Stair.fall (fun h => by have := HE4.out.1 h; simp at this))⟩))))) HT3.out.bel
              | true =>
                go_wp2
                go_ret
                exact wldP rfl (Stair.pass HOK.out (Stair.pass HFM.out (Stair.pass HFW.out (Stair.last (.inr ⟨HRA.out, Stair.pass HCL.out (Stair.pass (HE4.out.2 (by simp)) (Stair.last rfl))⟩))))) HT3.out.bel
set_option maxHeartbeats 16000000 in
set_option maxRecDepth 20000 in
theorem specWorld_E (d : WorldD) (cs : List Value) (hi : Nat) (w : World) (h : layWorld.rd w hi d cs) (hhi : hi ≤ w.heap.size) (hnm : ∀ t, t < d.tapes.1 → ∀ i, i < (d.tapes.2 t).recs.1 → ((d.tapes.2 t).recs.2 i).name.size ≤ 1048576) (hok' : ¬ OkShape d.shape) :
    Calls Try.prog 6 #[.agg cs.toArray] w (WldPost d w) := by
  obtain ⟨ao1, cap1, ao2, cap2, ao3, cap3, rfl, g1, g2, g3, -⟩ := World_rd h
  have HRD : Hid (layWorld.rd w hi d [.int .i64 (d.shape 0), .int .i64 (d.shape 1), .int .i64 (d.shape 2), .int .i64 (d.shape 3), .int .i64 (d.shape 4), .int .i64 (d.shape 5), .int .i64 (d.shape 6), .int .i64 (d.shape 7), .int .i64 (d.shape 8), .slice ao1 d.groups.1 cap1, .slice ao2 d.on.1 cap2, .slice ao3 d.tapes.1 cap3, .int .i64 d.writes, .int .i64 d.stop, .bool d.down]) := h
  obtain ⟨v2, e2, ⟨h2, hcp2⟩, _⟩ := g2
  cases e2
  have H2 : Hid (RdI w hi (.slice ao2 d.on.1 cap2) d.on.1 d.on.2) := h2
  have HCP : Hid (CapP (.slice ao2 d.on.1 cap2) d.on.1) := hcp2
  have hm2 := h2.mx
  obtain ⟨_, _, e3, hm3, hc3⟩ := g3
  cases e3
  unfold maxLen at hm2 hm3
  have HC3 : Hid (d.tapes.1 ≠ 0 → ∃ b off, ao3 = some ⟨b, off, none⟩ ∧ b < hi ∧ ∀ i, i < d.tapes.1 → ∃ ce, layTape.rd w hi (d.tapes.2 i) ce ∧ ∀ j, j < layTape.sz → w.cell? ⟨b, off + (i * layTape.sz + j), none⟩ = ce[j]?) := hc3
  have HNM : Hid (∀ t, t < d.tapes.1 → ∀ i, i < (d.tapes.2 t).recs.1 → ((d.tapes.2 t).recs.2 i).name.size ≤ 1048576) := hnm
  clear h h2 hcp2 hc3 g1 hnm
  have T0 := one_new w #[.int .i64 (d.shape 0), .int .i64 (d.shape 1), .int .i64 (d.shape 2), .int .i64 (d.shape 3), .int .i64 (d.shape 4), .int .i64 (d.shape 5), .int .i64 (d.shape 6), .int .i64 (d.shape 7), .int .i64 (d.shape 8), .slice ao1 d.groups.1 cap1, .slice ao2 d.on.1 cap2, .slice ao3 d.tapes.1 cap3, .int .i64 d.writes, .int .i64 d.stop, .bool d.down] 35
  have CSh := fun w' => specShape_any d.shape w'
  unfold shapeV at CSh
  go_enter Try.func6, Try.ntmps6
  go_wp2_with fail
  refine (CSh _).mono ?_
  rintro e w1 ⟨x, rfl, hx, b1⟩
  have T1 : One w w1 #[.int .i64 (d.shape 0), .int .i64 (d.shape 1), .int .i64 (d.shape 2), .int .i64 (d.shape 3), .int .i64 (d.shape 4), .int .i64 (d.shape 5), .int .i64 (d.shape 6), .int .i64 (d.shape 7), .int .i64 (d.shape 8), .slice ao1 d.groups.1 cap1, .slice ao2 d.on.1 cap2, .slice ao3 d.tapes.1 cap3, .int .i64 d.writes, .int .i64 d.stop, .bool d.down] 35 := T0.call b1
  have HT1 : Hid (One w w1 #[.int .i64 (d.shape 0), .int .i64 (d.shape 1), .int .i64 (d.shape 2), .int .i64 (d.shape 3), .int .i64 (d.shape 4), .int .i64 (d.shape 5), .int .i64 (d.shape 6), .int .i64 (d.shape 7), .int .i64 (d.shape 8), .slice ao1 d.groups.1 cap1, .slice ao2 d.on.1 cap2, .slice ao3 d.tapes.1 cap3, .int .i64 d.writes, .int .i64 d.stop, .bool d.down] 35) := T1
  clear b1 T0 CSh
  have x1_0 : w1.cell? ⟨w.heap.size, 0, none⟩ = some (.int .i64 (d.shape 0)) := T1.b1.cell 0
  have kx1_0 := cell_regrown x1_0
  have x1_1 : w1.cell? ⟨w.heap.size, 1, none⟩ = some (.int .i64 (d.shape 1)) := T1.b1.cell 1
  have kx1_1 := cell_regrown x1_1
  have x1_2 : w1.cell? ⟨w.heap.size, 2, none⟩ = some (.int .i64 (d.shape 2)) := T1.b1.cell 2
  have kx1_2 := cell_regrown x1_2
  have x1_3 : w1.cell? ⟨w.heap.size, 3, none⟩ = some (.int .i64 (d.shape 3)) := T1.b1.cell 3
  have kx1_3 := cell_regrown x1_3
  have x1_4 : w1.cell? ⟨w.heap.size, 4, none⟩ = some (.int .i64 (d.shape 4)) := T1.b1.cell 4
  have kx1_4 := cell_regrown x1_4
  have x1_5 : w1.cell? ⟨w.heap.size, 5, none⟩ = some (.int .i64 (d.shape 5)) := T1.b1.cell 5
  have kx1_5 := cell_regrown x1_5
  have x1_6 : w1.cell? ⟨w.heap.size, 6, none⟩ = some (.int .i64 (d.shape 6)) := T1.b1.cell 6
  have kx1_6 := cell_regrown x1_6
  have x1_7 : w1.cell? ⟨w.heap.size, 7, none⟩ = some (.int .i64 (d.shape 7)) := T1.b1.cell 7
  have kx1_7 := cell_regrown x1_7
  have x1_8 : w1.cell? ⟨w.heap.size, 8, none⟩ = some (.int .i64 (d.shape 8)) := T1.b1.cell 8
  have kx1_8 := cell_regrown x1_8
  have x1_9 : w1.cell? ⟨w.heap.size, 9, none⟩ = some (.slice ao1 d.groups.1 cap1) := T1.b1.cell 9
  have kx1_9 := cell_regrown x1_9
  have x1_10 : w1.cell? ⟨w.heap.size, 10, none⟩ = some (.slice ao2 d.on.1 cap2) := T1.b1.cell 10
  have kx1_10 := cell_regrown x1_10
  have x1_11 : w1.cell? ⟨w.heap.size, 11, none⟩ = some (.slice ao3 d.tapes.1 cap3) := T1.b1.cell 11
  have kx1_11 := cell_regrown x1_11
  have x1_12 : w1.cell? ⟨w.heap.size, 12, none⟩ = some (.int .i64 d.writes) := T1.b1.cell 12
  have kx1_12 := cell_regrown x1_12
  have x1_13 : w1.cell? ⟨w.heap.size, 13, none⟩ = some (.int .i64 d.stop) := T1.b1.cell 13
  have kx1_13 := cell_regrown x1_13
  have x1_14 : w1.cell? ⟨w.heap.size, 14, none⟩ = some (.bool d.down) := T1.b1.cell 14
  have kx1_14 := cell_regrown x1_14
  clear T1
  rcases hx with ⟨rfl, hno⟩ | ⟨rfl, hok⟩
  · go_wp2
    go_ret
    exact wldP rfl (Stair.fall hno) HT1.out.bel
  exact absurd hok hok'
theorem specWorld_any (d : WorldD) (cs : List Value) (hi : Nat) (w : World) (h : layWorld.rd w hi d cs) (hhi : hi ≤ w.heap.size) (hnm : ∀ t, t < d.tapes.1 → ∀ i, i < (d.tapes.2 t).recs.1 → ((d.tapes.2 t).recs.2 i).name.size ≤ 1048576) :
    Calls Try.prog 6 #[.agg cs.toArray] w (WldPost d w) := by
  by_cases h0 : OkShape d.shape
  · by_cases h1 : BuiltP d ∧ ApartP d.on.1 d.on.2 (d.shape 0 + d.shape 1 - 1)
    · by_cases h2 : (d.on.1 : Int) ≤ d.shape 5 ∧ (d.down = true → d.on.1 = 0)
      · by_cases h3 : d.tapes.1 = 2
        · exact specWorld_D d cs hi w h hhi hnm h0 ⟨h1.1, ⟨h1.2, h2.1, h2.2⟩, h3⟩
        · exact specWorld_C d cs hi w h hhi hnm h0 ⟨h1.1, h1.2, h2, h3⟩
      · exact specWorld_B d cs hi w h hhi hnm h0 ⟨h1.1, h1.2, h2⟩
    · exact specWorld_A d cs hi w h hhi hnm h0 h1
  · exact specWorld_E d cs hi w h hhi hnm h0
end Go.Proofs.Ytgpglgchbimmaaa

namespace Go.Proofs.Ytgpglgchbimmaaa
open Go.RowKit F256
set_option linter.unusedVariables false
set_option linter.unusedSimpArgs false

set_option maxHeartbeats 1000000 in
theorem index_any (v : Value) (n : Nat) (g : Nat → Int) (hi : Nat) (x : Int) (w : World) (r : RdI w hi v n g) :
    Calls Try.prog 92 #[v, .int .i64 x] w fun e w' => ∃ z : Int, e = .returned (.int .i64 z) ∧ (0 ≤ z ↔ ∃ t, t < n ∧ g t = x) ∧ w' = w := by
  obtain ⟨ao, cap, rfl, hm, hc⟩ := r
  unfold maxLen at hm
  go_enter Try.func92, Try.ntmps92
  go_wp2
  go_loop [8] (fun i => ∃ k : Nat, k ≤ n ∧ i = .int .i64 k ∧ ∀ i, i < k → g i ≠ x) (fun i => n - (intOf i).toNat)
  case atStart => exact ⟨0, Nat.zero_le _, rfl, fun i hi => by omega⟩
  case round =>
    obtain ⟨k, hk, rfl, hall⟩ := hrel
    have HALL : Hid (∀ i, i < k → g i ≠ x) := hall
    clear hall
    by_cases hlt : k < n
    · obtain ⟨b, off, rfl, hblt, hcell⟩ := hc (by omega)
      have hck : w.cell? ⟨b, off + k, none⟩ = some (.int .i64 (g k)) := hcell k hlt
      obtain ⟨y, hy⟩ : ∃ y, y = g k := ⟨_, rfl⟩
      have HY : Hid (y = g k) := hy
      rw [← hy] at hck
      clear hc hcell hy
      by_cases heq : x = y
      · have HP : Hid (0 ≤ (k : Int) ↔ ∃ t, t < n ∧ g t = x) := ⟨fun _ => ⟨k, hlt, by rw [← HY.out, heq]⟩, fun _ => by omega⟩
        have te : (x == y) = true := by simp [heq]
        clear heq
        go_wp2
        go_ret
        exact ⟨_, rfl, HP.out, rfl⟩
      · have te : (x == y) = false := by simp [heq]
        have HN : Hid (g k ≠ x) := by show g k ≠ x; rw [← HY.out]; exact fun h => heq h.symm
        clear heq
        go_wp2
        go_round
        case rel => exact ⟨k + 1, by omega, by go_num, fun i hi => by
                      by_cases c : i = k
                      · rw [c]; exact HN.out
                      · exact HALL.out i (by omega)⟩
        case measure => simp [intOf]; omega
    · obtain rfl : k = n := by omega
      have HP : Hid (0 ≤ (-1 : Int) ↔ ∃ t, t < k ∧ g t = x) := ⟨fun h => by omega, fun ⟨t, ht, he⟩ => absurd he (HALL.out t ht)⟩
      clear hc
      go_wp2
      go_ret
      exact ⟨-1, rfl, HP.out, rfl⟩

theorem contains_any (v : Value) (n : Nat) (g : Nat → Int) (hi : Nat) (x : Int) (w : World) (r : RdI w hi v n g) :
    Calls Try.prog 84 #[v, .int .i64 x] w (BoolP (∃ t, t < n ∧ g t = x) w) := by
  have C := index_any v n g hi x w r
  obtain ⟨ao, cap, rfl, hm, hc⟩ := r
  clear hc hm
  have HI : Hid (Calls Try.prog 92 #[.slice ao n cap, .int .i64 x] w fun e w' => ∃ z : Int, e = .returned (.int .i64 z) ∧ (0 ≤ z ↔ ∃ t, t < n ∧ g t = x) ∧ w' = w) := C
  clear C
  obtain ⟨P, hP⟩ : ∃ P : Prop, P = ∃ t, t < n ∧ g t = x := ⟨_, rfl⟩
  rw [← hP] at HI ⊢
  clear hP
  go_enter Try.func84, Try.ntmps84
  go_wp2_with fail
  refine HI.out.mono ?_
  rintro e w1 ⟨z, rfl, hz, hw1⟩
  obtain rfl := hw1.symm
  have HZ : Hid (0 ≤ z ↔ P) := hz
  clear hz HI
  by_cases h0 : 0 ≤ z
  · have HP : Hid P := HZ.out.mp h0
    go_wp2
    go_ret
    exact boolYes rfl HP.out (Below.refl _ _)
  · have HP : Hid (¬ P) := fun h => h0 (HZ.out.mpr h)
    have td : decide (0 ≤ z) = false := by simp; omega
    clear h0
    go_wp2
    go_ret
    exact boolNo rfl HP.out (Below.refl _ _)
end Go.Proofs.Ytgpglgchbimmaaa

namespace Go.Proofs.Ytgpglgchbimmaaa
open Go.RowKit

theorem Box.allocd {w : World} {b : Nat} {cs : Array Value} {t : TypeId} (h : Box w b cs t) (o : Obj) : Box (w.alloc o) b cs t := (Below.heap_alloc w o b h.lt).trans h
theorem box_first {w w1 : World} {cs : Array Value} {t : TypeId} (h : Below (w.alloc (.cells cs t)).heap.size (w.alloc (.cells cs t)) w1) : Box w1 w.heap.size cs t ∧ Below w.heap.size w w1 :=
  ⟨(box_new w cs t).below h (by simp), bnew h⟩
theorem box_on {B : Nat} {w w1 : World} {cs : Array Value} {t : TypeId} {o : Obj} (hX : Box w B cs t) (h : Below (w.alloc o).heap.size (w.alloc o) w1) : Box w1 B cs t := (hX.allocd o).below h (hX.allocd o).lt
end Go.Proofs.Ytgpglgchbimmaaa

namespace Go.Proofs.Ytgpglgchbimmaaa
open Go.RowKit F256
set_option linter.unusedVariables false
set_option linter.unusedSimpArgs false

theorem nearest_any (x a b : Int) (w : World) :
    Calls Try.prog 82 #[.int .i64 x, .int .i64 a, .int .i64 b] w fun e w' => e = .returned (.int .i64 (max a (min x b))) ∧ w' = w := by
  go_enter Try.func82, Try.ntmps82
  go_wp2
  go_ret
  exact ⟨rfl, rfl⟩

/-- x moved to the nearest number from a to b -/
def nearZ (x a b : Int) : Int := max a (min x b)
theorem nearZ_iff (x a b : Int) (h : a ≤ b) : x = nearZ x a b ↔ a ≤ x ∧ x ≤ b := by
  unfold nearZ
  omega
theorem nearest_z (x a b : Int) (w : World) :
    Calls Try.prog 82 #[.int .i64 x, .int .i64 a, .int .i64 b] w fun e w' => e = .returned (.int .i64 (nearZ x a b)) ∧ w' = w := nearest_any x a b w

set_option maxRecDepth 20000 in
set_option maxHeartbeats 8000000 in
theorem nearestShape_any (a0 a1 a2 a3 a4 a5 a6 a7 a8 : Int) (w : World) :
    Calls Try.prog 60 #[.agg #[.int .i64 a0, .int .i64 a1, .int .i64 a2, .int .i64 a3, .int .i64 a4, .int .i64 a5, .int .i64 a6, .int .i64 a7, .int .i64 a8]] w fun e w' => e = .returned (.agg #[.int .i64 (nearZ a0 1 4), .int .i64 (nearZ a1 0 2), .int .i64 (nearZ a2 1 3), .int .i64 (nearZ a3 0 2), .int .i64 (nearZ a4 1 6), .int .i64 (nearZ a5 1 6), .int .i64 (nearZ a6 1 4), .int .i64 (nearZ a7 1 6), .int .i64 (nearZ a8 0 400)]) ∧ Below w.heap.size w w' := by
  go_enter Try.func60, Try.ntmps60
  go_wp2_with fail
  have XA := (box_new w #[.int .i64 a0, .int .i64 a1, .int .i64 a2, .int .i64 a3, .int .i64 a4, .int .i64 a5, .int .i64 a6, .int .i64 a7, .int .i64 a8] 31).allocd (.cells #[.int .i64 0, .int .i64 0, .int .i64 0, .int .i64 0, .int .i64 0, .int .i64 0, .int .i64 0, .int .i64 0, .int .i64 0] 31)
  have XZ := box_new (w.alloc (.cells #[.int .i64 a0, .int .i64 a1, .int .i64 a2, .int .i64 a3, .int .i64 a4, .int .i64 a5, .int .i64 a6, .int .i64 a7, .int .i64 a8] 31)) #[.int .i64 0, .int .i64 0, .int .i64 0, .int .i64 0, .int .i64 0, .int .i64 0, .int .i64 0, .int .i64 0, .int .i64 0] 31
  have hz : (w.alloc (.cells #[.int .i64 a0, .int .i64 a1, .int .i64 a2, .int .i64 a3, .int .i64 a4, .int .i64 a5, .int .i64 a6, .int .i64 a7, .int .i64 a8] 31)).heap.size = w.heap.size + 1 := by simp
  rw [hz] at XZ
  have BA : Below w.heap.size w ((w.alloc (.cells #[.int .i64 a0, .int .i64 a1, .int .i64 a2, .int .i64 a3, .int .i64 a4, .int .i64 a5, .int .i64 a6, .int .i64 a7, .int .i64 a8] 31)).alloc (.cells #[.int .i64 0, .int .i64 0, .int .i64 0, .int .i64 0, .int .i64 0, .int .i64 0, .int .i64 0, .int .i64 0, .int .i64 0] 31)) := ((Below.refl _ _).alloc (Nat.le_refl _) _).alloc (by simp) _
  obtain ⟨wA, hwA⟩ : ∃ x, x = (w.alloc (.cells #[.int .i64 a0, .int .i64 a1, .int .i64 a2, .int .i64 a3, .int .i64 a4, .int .i64 a5, .int .i64 a6, .int .i64 a7, .int .i64 a8] 31)).alloc (.cells #[.int .i64 0, .int .i64 0, .int .i64 0, .int .i64 0, .int .i64 0, .int .i64 0, .int .i64 0, .int .i64 0, .int .i64 0] 31) := ⟨_, rfl⟩
  rw [← hwA] at XA XZ BA ⊢
  clear hwA hz
  refine wp_region_still_tail 28 (by kernel_rfl) (by kernel_rfl) ?_
  have XA' : Box { wA with drawn := wA.drawn + 1 } w.heap.size #[.int .i64 a0, .int .i64 a1, .int .i64 a2, .int .i64 a3, .int .i64 a4, .int .i64 a5, .int .i64 a6, .int .i64 a7, .int .i64 a8] 31 := XA
  have XZ' : Box { wA with drawn := wA.drawn + 1 } (w.heap.size + 1) #[.int .i64 0, .int .i64 0, .int .i64 0, .int .i64 0, .int .i64 0, .int .i64 0, .int .i64 0, .int .i64 0, .int .i64 0] 31 := XZ
  have BA' : Below w.heap.size w { wA with drawn := wA.drawn + 1 } := ⟨BA.os, BA.tape, BA.output, BA.size, BA.block⟩
  obtain ⟨wB, hwB⟩ : ∃ x : World, x = { wA with drawn := wA.drawn + 1 } := ⟨_, rfl⟩
  rw [← hwB] at XA' XZ' BA' ⊢
  clear XA XZ BA hwB
  obtain ⟨x0, x1, x2, x3, x4, x5, x6, x7, x8⟩ := box9 XA'
  obtain ⟨y0, y1, y2, y3, y4, y5, y6, y7, y8⟩ := box9 XZ'
  simp only [List.take_succ_cons, List.take_zero, List.drop_succ_cons, List.drop_zero]
  still_step
  still_step
  still_call (nearest_z _ _ _ _)
  still_step
  still_step
  still_call (nearest_z _ _ _ _)
  still_step
  still_step
  still_call (nearest_z _ _ _ _)
  still_step
  still_step
  still_call (nearest_z _ _ _ _)
  still_step
  still_step
  still_call (nearest_z _ _ _ _)
  still_step
  still_step
  still_call (nearest_z _ _ _ _)
  still_step
  still_step
  still_call (nearest_z _ _ _ _)
  still_step
  still_step
  still_call (nearest_z _ _ _ _)
  still_step
  still_step
  still_call (nearest_z _ _ _ _)
  still_step
  refine wpStill_nil ?_
  have z0 : wB.frozen? ⟨w.heap.size + 1, 0, none⟩ = false := XZ'.frozen 0
  have z1 : wB.frozen? ⟨w.heap.size + 1, 1, none⟩ = false := XZ'.frozen 1
  have z2 : wB.frozen? ⟨w.heap.size + 1, 2, none⟩ = false := XZ'.frozen 2
  have z3 : wB.frozen? ⟨w.heap.size + 1, 3, none⟩ = false := XZ'.frozen 3
  have z4 : wB.frozen? ⟨w.heap.size + 1, 4, none⟩ = false := XZ'.frozen 4
  have z5 : wB.frozen? ⟨w.heap.size + 1, 5, none⟩ = false := XZ'.frozen 5
  have z6 : wB.frozen? ⟨w.heap.size + 1, 6, none⟩ = false := XZ'.frozen 6
  have z7 : wB.frozen? ⟨w.heap.size + 1, 7, none⟩ = false := XZ'.frozen 7
  have z8 : wB.frozen? ⟨w.heap.size + 1, 8, none⟩ = false := XZ'.frozen 8
  go_wp2
  refine bodyPost_ret (v := .agg #[.int .i64 (nearZ a0 1 4), .int .i64 (nearZ a1 0 2), .int .i64 (nearZ a2 1 3), .int .i64 (nearZ a3 0 2), .int .i64 (nearZ a4 1 6), .int .i64 (nearZ a5 1 6), .int .i64 (nearZ a6 1 4), .int .i64 (nearZ a7 1 6), .int .i64 (nearZ a8 0 400)]) (by simp [results, Try.results60, go_sem, y0, y1, y2, y3, y4, y5, y6, y7, y8]) rfl ⟨rfl, ?_⟩
  exact (((((((((BA'.setCell (Nat.le_succ _) _).setCell (Nat.le_succ _) _).setCell (Nat.le_succ _) _).setCell (Nat.le_succ _) _).setCell (Nat.le_succ _) _).setCell (Nat.le_succ _) _).setCell (Nat.le_succ _) _).setCell (Nat.le_succ _) _).setCell (Nat.le_succ _) _)

end Go.Proofs.Ytgpglgchbimmaaa

namespace Go.Proofs.Ytgpglgchbimmaaa
open Go.RowKit F256
set_option linter.unusedVariables false
set_option linter.unusedSimpArgs false

theorem shape_eq_yes (a0 a1 a2 a3 a4 a5 a6 a7 a8 : Int) (w : World) : (Op.equalIn 10000 31 (.agg #[.int .i64 a0, .int .i64 a1, .int .i64 a2, .int .i64 a3, .int .i64 a4, .int .i64 a5, .int .i64 a6, .int .i64 a7, .int .i64 a8]) (.agg #[.int .i64 a0, .int .i64 a1, .int .i64 a2, .int .i64 a3, .int .i64 a4, .int .i64 a5, .int .i64 a6, .int .i64 a7, .int .i64 a8])).run Try.prog w = .ok true w := by
  have u3 := Try.underlying2
  rw [show (10000 : Nat) = 9999 + 1 from rfl, run_equalIn_agg w 9999 31 _ _ (by kernel_rfl) (by kernel_rfl)]
  simp only [Program.fieldsOf, Try.underlying31]
  go_simp
theorem shape_eq_no (a0 a1 a2 a3 a4 a5 a6 a7 a8 b0 b1 b2 b3 b4 b5 b6 b7 b8 : Int) (h : ¬ (a0 = b0 ∧ a1 = b1 ∧ a2 = b2 ∧ a3 = b3 ∧ a4 = b4 ∧ a5 = b5 ∧ a6 = b6 ∧ a7 = b7 ∧ a8 = b8)) (w : World) : (Op.equalIn 10000 31 (.agg #[.int .i64 a0, .int .i64 a1, .int .i64 a2, .int .i64 a3, .int .i64 a4, .int .i64 a5, .int .i64 a6, .int .i64 a7, .int .i64 a8]) (.agg #[.int .i64 b0, .int .i64 b1, .int .i64 b2, .int .i64 b3, .int .i64 b4, .int .i64 b5, .int .i64 b6, .int .i64 b7, .int .i64 b8])).run Try.prog w = .ok false w := by
  have u3 := Try.underlying2
  rw [show (10000 : Nat) = 9999 + 1 from rfl, run_equalIn_agg w 9999 31 _ _ (by kernel_rfl) (by kernel_rfl)]
  simp only [Program.fieldsOf, Try.underlying31]
  have H : Hid (¬ (a0 = b0 ∧ a1 = b1 ∧ a2 = b2 ∧ a3 = b3 ∧ a4 = b4 ∧ a5 = b5 ∧ a6 = b6 ∧ a7 = b7 ∧ a8 = b8)) := h
  clear h
  go_simp
  exact fun h0 h1 h2 h3 h4 h5 h6 h7 h8 => H.out ⟨h0, h1, h2, h3, h4, h5, h6, h7, h8⟩
theorem ok_near (s : Nat → Int) : OkShape s ↔ s 0 = nearZ (s 0) 1 4 ∧ s 1 = nearZ (s 1) 0 2 ∧ s 2 = nearZ (s 2) 1 3 ∧ s 3 = nearZ (s 3) 0 2 ∧ s 4 = nearZ (s 4) 1 6 ∧ s 5 = nearZ (s 5) 1 6 ∧ s 6 = nearZ (s 6) 1 4 ∧ s 7 = nearZ (s 7) 1 6 ∧ s 8 = nearZ (s 8) 0 400 := by
  unfold OkShape Shp3 Shp
  rw [nearZ_iff (s 0) 1 4 (by omega), nearZ_iff (s 1) 0 2 (by omega), nearZ_iff (s 2) 1 3 (by omega), nearZ_iff (s 3) 0 2 (by omega), nearZ_iff (s 4) 1 6 (by omega), nearZ_iff (s 5) 1 6 (by omega), nearZ_iff (s 6) 1 4 (by omega), nearZ_iff (s 7) 1 6 (by omega), nearZ_iff (s 8) 0 400 (by omega)]
  omega

set_option maxHeartbeats 4000000 in
theorem implShape_any (s : Nat → Int) (w : World) :
    Calls Try.prog 27 #[shapeV s] w fun e w' => ∃ x, e = .returned (.int .i64 x) ∧ ShFAns s x ∧ Below w.heap.size w w' := by
  have HK : Hid (OkShape s ↔ s 0 = nearZ (s 0) 1 4 ∧ s 1 = nearZ (s 1) 0 2 ∧ s 2 = nearZ (s 2) 1 3 ∧ s 3 = nearZ (s 3) 0 2 ∧ s 4 = nearZ (s 4) 1 6 ∧ s 5 = nearZ (s 5) 1 6 ∧ s 6 = nearZ (s 6) 1 4 ∧ s 7 = nearZ (s 7) 1 6 ∧ s 8 = nearZ (s 8) 0 400) := ok_near s
  unfold shapeV
  obtain ⟨a0, h0⟩ : ∃ a, a = s 0 := ⟨_, rfl⟩
  obtain ⟨a1, h1⟩ : ∃ a, a = s 1 := ⟨_, rfl⟩
  obtain ⟨a2, h2⟩ : ∃ a, a = s 2 := ⟨_, rfl⟩
  obtain ⟨a3, h3⟩ : ∃ a, a = s 3 := ⟨_, rfl⟩
  obtain ⟨a4, h4⟩ : ∃ a, a = s 4 := ⟨_, rfl⟩
  obtain ⟨a5, h5⟩ : ∃ a, a = s 5 := ⟨_, rfl⟩
  obtain ⟨a6, h6⟩ : ∃ a, a = s 6 := ⟨_, rfl⟩
  obtain ⟨a7, h7⟩ : ∃ a, a = s 7 := ⟨_, rfl⟩
  obtain ⟨a8, h8⟩ : ∃ a, a = s 8 := ⟨_, rfl⟩
  rw [← h0, ← h1, ← h2, ← h3, ← h4, ← h5, ← h6, ← h7, ← h8]
  have HK2 : Hid (OkShape s ↔ a0 = nearZ a0 1 4 ∧ a1 = nearZ a1 0 2 ∧ a2 = nearZ a2 1 3 ∧ a3 = nearZ a3 0 2 ∧ a4 = nearZ a4 1 6 ∧ a5 = nearZ a5 1 6 ∧ a6 = nearZ a6 1 4 ∧ a7 = nearZ a7 1 6 ∧ a8 = nearZ a8 0 400) := by
    show OkShape s ↔ _
    rw [h0, h1, h2, h3, h4, h5, h6, h7, h8]
    exact HK.out
  clear HK h0 h1 h2 h3 h4 h5 h6 h7 h8
  have CN := nearestShape_any a0 a1 a2 a3 a4 a5 a6 a7 a8
  have XA := box_new w #[.int .i64 a0, .int .i64 a1, .int .i64 a2, .int .i64 a3, .int .i64 a4, .int .i64 a5, .int .i64 a6, .int .i64 a7, .int .i64 a8] 31
  obtain ⟨x0, x1, x2, x3, x4, x5, x6, x7, x8⟩ := box9 XA
  have HX : Hid (Box (w.alloc (.cells #[.int .i64 a0, .int .i64 a1, .int .i64 a2, .int .i64 a3, .int .i64 a4, .int .i64 a5, .int .i64 a6, .int .i64 a7, .int .i64 a8] 31)) w.heap.size #[.int .i64 a0, .int .i64 a1, .int .i64 a2, .int .i64 a3, .int .i64 a4, .int .i64 a5, .int .i64 a6, .int .i64 a7, .int .i64 a8] 31) := XA
  have HB : Hid (Below w.heap.size w (w.alloc (.cells #[.int .i64 a0, .int .i64 a1, .int .i64 a2, .int .i64 a3, .int .i64 a4, .int .i64 a5, .int .i64 a6, .int .i64 a7, .int .i64 a8] 31))) := bnew (Below.refl _ _)
  obtain ⟨wA, hwA⟩ : ∃ x, x = w.alloc (.cells #[.int .i64 a0, .int .i64 a1, .int .i64 a2, .int .i64 a3, .int .i64 a4, .int .i64 a5, .int .i64 a6, .int .i64 a7, .int .i64 a8] 31) := ⟨_, rfl⟩
  rw [← hwA] at x0 x1 x2 x3 x4 x5 x6 x7 x8 HX HB
  clear XA
  by_cases ok : OkShape s
  · have HO : Hid (OkShape s) := ok
    obtain ⟨e0, e1, e2, e3, e4, e5, e6, e7, e8⟩ := HK2.out.mp ok
    rw [← e0, ← e1, ← e2, ← e3, ← e4, ← e5, ← e6, ← e7, ← e8] at CN
    have heq := shape_eq_yes a0 a1 a2 a3 a4 a5 a6 a7 a8
    clear e0 e1 e2 e3 e4 e5 e6 e7 e8 ok
    go_enter Try.func27, Try.ntmps27
    go_wp2_with fail
    rw [← hwA]
    clear hwA
    go_region_with (go_at_call 60; refine (CN _).mono ?_; rintro ee w2 ⟨rfl, hb2⟩; have hB2 : Below wA.heap.size wA w2 := ⟨hb2.os, hb2.tape, hb2.output, hb2.size, hb2.block⟩; obtain ⟨y0, y1, y2, y3, y4, y5, y6, y7, y8⟩ := box9 (HX.out.below hB2 HX.out.lt))
    all_goals
      go_wp2
      go_ret
      exact ⟨0, rfl, .inr ⟨rfl, HO.out⟩, HB.out.trans (hB2.mono HB.out.size)⟩
  · have HO : Hid (¬ OkShape s) := ok
    have hno : ¬ (a0 = nearZ a0 1 4 ∧ a1 = nearZ a1 0 2 ∧ a2 = nearZ a2 1 3 ∧ a3 = nearZ a3 0 2 ∧ a4 = nearZ a4 1 6 ∧ a5 = nearZ a5 1 6 ∧ a6 = nearZ a6 1 4 ∧ a7 = nearZ a7 1 6 ∧ a8 = nearZ a8 0 400) := fun h => ok (HK2.out.mpr h)
    have heq := shape_eq_no a0 a1 a2 a3 a4 a5 a6 a7 a8 (nearZ a0 1 4) (nearZ a1 0 2) (nearZ a2 1 3) (nearZ a3 0 2) (nearZ a4 1 6) (nearZ a5 1 6) (nearZ a6 1 4) (nearZ a7 1 6) (nearZ a8 0 400) hno
    clear hno ok
    go_enter Try.func27, Try.ntmps27
    go_wp2_with fail
    rw [← hwA]
    clear hwA
    go_region_with (go_at_call 60; refine (CN _).mono ?_; rintro ee w2 ⟨rfl, hb2⟩; have hB2 : Below wA.heap.size wA w2 := ⟨hb2.os, hb2.tape, hb2.output, hb2.size, hb2.block⟩; obtain ⟨y0, y1, y2, y3, y4, y5, y6, y7, y8⟩ := box9 (HX.out.below hB2 HX.out.lt))
    all_goals
      go_wp2
      go_ret
      exact ⟨3, rfl, .inl ⟨rfl, HO.out⟩, HB.out.trans (hB2.mono HB.out.size)⟩
end Go.Proofs.Ytgpglgchbimmaaa
