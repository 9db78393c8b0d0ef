/- For every shape and every record the program's RecFault answers as the specification's does and writes into nothing that it is handed: the law FnExactRecFault returns true at every input, and changes nothing that was there. No condition. -/
import Derived.Test.YtgpglgchbimmaaaZFnExactRecFaultB
import Derived.Test.YtgpglgchbimmaaaRows
import Derived.Test.YtgpglgchbimmaaaOpensD
import Derived.Test.YtgpglgchbimmaaaWTo2
import Derived.Test.YtgpglgchbimmaaaWEq2
import Derived.Test.YtgpglgchbimmaaaZFnExactRecFaultA
import Derived.Deep.DeepCutAuto
import Derived.Deep.RegionLaw
namespace Go.Proofs.Ytgpglgchbimmaaa
open Go.RowKit F256
set_option linter.unusedVariables false
set_option linter.unusedSimpArgs false
set_option maxHeartbeats 16000000 in
theorem recIn_any (s : Nat → Int) (hs : OkShape s) (r : RecD) (cs : List Value) (hi : Nat) (w : World) (h : layRec.rd w hi r cs) (hhi : hi ≤ w.heap.size) (hk : InP r.kind 1 4) :
    Calls Try.prog 48 #[shapeV s, .agg cs.toArray] w (BoolP (KindP s r) w) := by
  obtain ⟨kind, seq, name, length, group, row, rows, data, delta⟩ := r
  obtain ⟨ao6, cap6, ao7, cap7, ao8, cap8, rfl, g6, g7, g8, k0, k1, k2, k3, k4, k5⟩ := Rec_rd h
  have HRD : Hid (layRec.rd w hi ⟨kind, seq, name, length, group, row, rows, data, delta⟩ [.int .i64 kind, .int .i64 seq, .string name, .int .i64 length, .int .i64 group, .int .i64 row, .slice ao6 rows.1 cap6, .slice ao7 data.1 cap7, .slice ao8 delta.1 cap8]) := h
  obtain ⟨v7, e7, ⟨_, _, e7', hm7, _⟩, _⟩ := g7
  cases e7
  cases e7'
  obtain ⟨v8, e8, ⟨_, _, e8', hm8, _⟩, _⟩ := g8
  cases e8
  cases e8'
  unfold maxLen at hm7 hm8
  simp only at hk hm7 hm8
  have HS : Hid (OkShape s) := hs
  have hk4 : kind = 1 ∨ kind = 2 ∨ kind = 3 ∨ kind = 4 := by unfold InP at hk; omega
  clear h g6 k0 k1 k2 k3 k4 k5 hk hs
  rcases hk4 with rfl | rfl | rfl | rfl
  · have T0 := two_newb w #[.int .i64 (s 0), .int .i64 (s 1), .int .i64 (s 2), .int .i64 (s 3), .int .i64 (s 4), .int .i64 (s 5), .int .i64 (s 6), .int .i64 (s 7), .int .i64 (s 8)] #[.int .i64 1, .int .i64 seq, .string name, .int .i64 length, .int .i64 group, .int .i64 row, .slice ao6 rows.1 cap6, .slice ao7 data.1 cap7, .slice ao8 delta.1 cap8] 31 45
    obtain ⟨t1, h1⟩ := exB (ItemP s ⟨1, seq, name, length, group, row, rows, data, delta⟩)
    have C := det_b (itemIn_any s HS.out ⟨1, seq, name, length, group, row, rows, data, delta⟩ _ hi _ (layRec.rd_below HRD.out T0.bel hhi) (Nat.le_trans hhi T0.bel.size)) h1
    have HE : Hid (KindP s ⟨1, seq, name, length, group, row, rows, data, delta⟩ ↔ t1 = true) := by
      show KindP s ⟨1, seq, name, length, group, row, rows, data, delta⟩ ↔ _
      rw [h1]
      unfold KindP
      simp
    clear h1
    unfold shapeV at C ⊢
    go_enter Try.func48, Try.ntmps48
    go_wp2_with fail
    refine C.mono ?_
    rintro e w1 ⟨rfl, b1⟩
    have HB : Hid (Below w.heap.size w w1) := (T0.call b1).bel
    clear b1 C T0
    go_wp2
    go_ret
    cases t1 with
    | true => exact boolYes rfl (HE.out.2 (by simp)) HB.out
    | false => exact boolNo rfl (fun h => by have := HE.out.1 h; simp at this) HB.out
  · have T0 := two_newb w #[.int .i64 (s 0), .int .i64 (s 1), .int .i64 (s 2), .int .i64 (s 3), .int .i64 (s 4), .int .i64 (s 5), .int .i64 (s 6), .int .i64 (s 7), .int .i64 (s 8)] #[.int .i64 2, .int .i64 seq, .string name, .int .i64 length, .int .i64 group, .int .i64 row, .slice ao6 rows.1 cap6, .slice ao7 data.1 cap7, .slice ao8 delta.1 cap8] 31 45
    obtain ⟨t1, h1⟩ := exB (InP group 0 (s 0 - 1))
    obtain ⟨t2, h2⟩ := exB (InP row 0 (s 4 - 1))
    obtain ⟨t3, h3⟩ : ∃ b, ((data.1 : Int) == s 2 * 4) = b := ⟨_, rfl⟩
    obtain ⟨t4, h4⟩ : ∃ b, ((delta.1 : Int) == s 2 * 4) = b := ⟨_, rfl⟩
    have C1 := fun w' => isDataGroup_b HS.out h1 w'
    have C2 := fun w' => isRow_b HS.out h2 w'
    have C3 := fun w' => rowLong_b HS.out (ao := ao7) (cap := cap7) (by omega) h3 w'
    have C4 := fun w' => rowLong_b HS.out (ao := ao8) (cap := cap8) (by omega) h4 w'
    have HE : Hid (KindP s ⟨2, seq, name, length, group, row, rows, data, delta⟩ ↔ (t1 = true ∧ t2 = true ∧ t3 = true ∧ t4 = true)) := by
      show KindP s ⟨2, seq, name, length, group, row, rows, data, delta⟩ ↔ _
      rw [h1, h2, ← h3, ← h4]
      unfold KindP MoveP
      simp
    clear h1 h2 h3 h4
    unfold shapeV at C1 C2 C3 C4 ⊢
    go_enter Try.func48, Try.ntmps48
    go_wp2_with fail
    refine (C1 _).mono ?_
    rintro e w1 ⟨rfl, b1⟩
    have T1 : Two w w1 #[.int .i64 (s 0), .int .i64 (s 1), .int .i64 (s 2), .int .i64 (s 3), .int .i64 (s 4), .int .i64 (s 5), .int .i64 (s 6), .int .i64 (s 7), .int .i64 (s 8)] #[.int .i64 2, .int .i64 seq, .string name, .int .i64 length, .int .i64 group, .int .i64 row, .slice ao6 rows.1 cap6, .slice ao7 data.1 cap7, .slice ao8 delta.1 cap8] 31 45 := T0.call b1
    have HB1 : Hid (Below w.heap.size w w1) := T1.bel
    clear b1
    have x1_0 : w1.cell? ⟨w.heap.size, 0, none⟩ = some (.int .i64 (s 0)) := T1.b1.cell 0
    have y1_0 : w1.cell? ⟨w.heap.size + 1, 0, none⟩ = some (.int .i64 2) := T1.b2.cell 0
    have x1_1 : w1.cell? ⟨w.heap.size, 1, none⟩ = some (.int .i64 (s 1)) := T1.b1.cell 1
    have y1_1 : w1.cell? ⟨w.heap.size + 1, 1, none⟩ = some (.int .i64 seq) := T1.b2.cell 1
    have x1_2 : w1.cell? ⟨w.heap.size, 2, none⟩ = some (.int .i64 (s 2)) := T1.b1.cell 2
    have y1_2 : w1.cell? ⟨w.heap.size + 1, 2, none⟩ = some (.string name) := T1.b2.cell 2
    have x1_3 : w1.cell? ⟨w.heap.size, 3, none⟩ = some (.int .i64 (s 3)) := T1.b1.cell 3
    have y1_3 : w1.cell? ⟨w.heap.size + 1, 3, none⟩ = some (.int .i64 length) := T1.b2.cell 3
    have x1_4 : w1.cell? ⟨w.heap.size, 4, none⟩ = some (.int .i64 (s 4)) := T1.b1.cell 4
    have y1_4 : w1.cell? ⟨w.heap.size + 1, 4, none⟩ = some (.int .i64 group) := T1.b2.cell 4
    have x1_5 : w1.cell? ⟨w.heap.size, 5, none⟩ = some (.int .i64 (s 5)) := T1.b1.cell 5
    have y1_5 : w1.cell? ⟨w.heap.size + 1, 5, none⟩ = some (.int .i64 row) := T1.b2.cell 5
    have x1_6 : w1.cell? ⟨w.heap.size, 6, none⟩ = some (.int .i64 (s 6)) := T1.b1.cell 6
    have y1_6 : w1.cell? ⟨w.heap.size + 1, 6, none⟩ = some (.slice ao6 rows.1 cap6) := T1.b2.cell 6
    have x1_7 : w1.cell? ⟨w.heap.size, 7, none⟩ = some (.int .i64 (s 7)) := T1.b1.cell 7
    have y1_7 : w1.cell? ⟨w.heap.size + 1, 7, none⟩ = some (.slice ao7 data.1 cap7) := T1.b2.cell 7
    have x1_8 : w1.cell? ⟨w.heap.size, 8, none⟩ = some (.int .i64 (s 8)) := T1.b1.cell 8
    have y1_8 : w1.cell? ⟨w.heap.size + 1, 8, none⟩ = some (.slice ao8 delta.1 cap8) := T1.b2.cell 8
    cases t1 with
    | false =>
      clear T1
      go_wp2
      go_ret
      exact boolNo rfl (fun h => by have := HE.out.1 h; simp at this) HB1.out
    | true =>
      go_wp2_with fail
      refine (C2 _).mono ?_
      rintro e w2 ⟨rfl, b2⟩
      have T2 : Two w w2 #[.int .i64 (s 0), .int .i64 (s 1), .int .i64 (s 2), .int .i64 (s 3), .int .i64 (s 4), .int .i64 (s 5), .int .i64 (s 6), .int .i64 (s 7), .int .i64 (s 8)] #[.int .i64 2, .int .i64 seq, .string name, .int .i64 length, .int .i64 group, .int .i64 row, .slice ao6 rows.1 cap6, .slice ao7 data.1 cap7, .slice ao8 delta.1 cap8] 31 45 := T1.call b2
      have HB2 : Hid (Below w.heap.size w w2) := T2.bel
      clear b2
      have x2_0 : w2.cell? ⟨w.heap.size, 0, none⟩ = some (.int .i64 (s 0)) := T2.b1.cell 0
      have y2_0 : w2.cell? ⟨w.heap.size + 1, 0, none⟩ = some (.int .i64 2) := T2.b2.cell 0
      have x2_1 : w2.cell? ⟨w.heap.size, 1, none⟩ = some (.int .i64 (s 1)) := T2.b1.cell 1
      have y2_1 : w2.cell? ⟨w.heap.size + 1, 1, none⟩ = some (.int .i64 seq) := T2.b2.cell 1
      have x2_2 : w2.cell? ⟨w.heap.size, 2, none⟩ = some (.int .i64 (s 2)) := T2.b1.cell 2
      have y2_2 : w2.cell? ⟨w.heap.size + 1, 2, none⟩ = some (.string name) := T2.b2.cell 2
      have x2_3 : w2.cell? ⟨w.heap.size, 3, none⟩ = some (.int .i64 (s 3)) := T2.b1.cell 3
      have y2_3 : w2.cell? ⟨w.heap.size + 1, 3, none⟩ = some (.int .i64 length) := T2.b2.cell 3
      have x2_4 : w2.cell? ⟨w.heap.size, 4, none⟩ = some (.int .i64 (s 4)) := T2.b1.cell 4
      have y2_4 : w2.cell? ⟨w.heap.size + 1, 4, none⟩ = some (.int .i64 group) := T2.b2.cell 4
      have x2_5 : w2.cell? ⟨w.heap.size, 5, none⟩ = some (.int .i64 (s 5)) := T2.b1.cell 5
      have y2_5 : w2.cell? ⟨w.heap.size + 1, 5, none⟩ = some (.int .i64 row) := T2.b2.cell 5
      have x2_6 : w2.cell? ⟨w.heap.size, 6, none⟩ = some (.int .i64 (s 6)) := T2.b1.cell 6
      have y2_6 : w2.cell? ⟨w.heap.size + 1, 6, none⟩ = some (.slice ao6 rows.1 cap6) := T2.b2.cell 6
      have x2_7 : w2.cell? ⟨w.heap.size, 7, none⟩ = some (.int .i64 (s 7)) := T2.b1.cell 7
      have y2_7 : w2.cell? ⟨w.heap.size + 1, 7, none⟩ = some (.slice ao7 data.1 cap7) := T2.b2.cell 7
      have x2_8 : w2.cell? ⟨w.heap.size, 8, none⟩ = some (.int .i64 (s 8)) := T2.b1.cell 8
      have y2_8 : w2.cell? ⟨w.heap.size + 1, 8, none⟩ = some (.slice ao8 delta.1 cap8) := T2.b2.cell 8
      cases t2 with
      | false =>
        clear T2
        go_wp2
        go_ret
        exact boolNo rfl (fun h => by have := HE.out.1 h; simp at this) HB2.out
      | true =>
        go_wp2_with fail
        refine (C3 _).mono ?_
        rintro e w3 ⟨rfl, b3⟩
        have T3 : Two w w3 #[.int .i64 (s 0), .int .i64 (s 1), .int .i64 (s 2), .int .i64 (s 3), .int .i64 (s 4), .int .i64 (s 5), .int .i64 (s 6), .int .i64 (s 7), .int .i64 (s 8)] #[.int .i64 2, .int .i64 seq, .string name, .int .i64 length, .int .i64 group, .int .i64 row, .slice ao6 rows.1 cap6, .slice ao7 data.1 cap7, .slice ao8 delta.1 cap8] 31 45 := T2.call b3
        have HB3 : Hid (Below w.heap.size w w3) := T3.bel
        clear b3
        have x3_0 : w3.cell? ⟨w.heap.size, 0, none⟩ = some (.int .i64 (s 0)) := T3.b1.cell 0
        have y3_0 : w3.cell? ⟨w.heap.size + 1, 0, none⟩ = some (.int .i64 2) := T3.b2.cell 0
        have x3_1 : w3.cell? ⟨w.heap.size, 1, none⟩ = some (.int .i64 (s 1)) := T3.b1.cell 1
        have y3_1 : w3.cell? ⟨w.heap.size + 1, 1, none⟩ = some (.int .i64 seq) := T3.b2.cell 1
        have x3_2 : w3.cell? ⟨w.heap.size, 2, none⟩ = some (.int .i64 (s 2)) := T3.b1.cell 2
        have y3_2 : w3.cell? ⟨w.heap.size + 1, 2, none⟩ = some (.string name) := T3.b2.cell 2
        have x3_3 : w3.cell? ⟨w.heap.size, 3, none⟩ = some (.int .i64 (s 3)) := T3.b1.cell 3
        have y3_3 : w3.cell? ⟨w.heap.size + 1, 3, none⟩ = some (.int .i64 length) := T3.b2.cell 3
        have x3_4 : w3.cell? ⟨w.heap.size, 4, none⟩ = some (.int .i64 (s 4)) := T3.b1.cell 4
        have y3_4 : w3.cell? ⟨w.heap.size + 1, 4, none⟩ = some (.int .i64 group) := T3.b2.cell 4
        have x3_5 : w3.cell? ⟨w.heap.size, 5, none⟩ = some (.int .i64 (s 5)) := T3.b1.cell 5
        have y3_5 : w3.cell? ⟨w.heap.size + 1, 5, none⟩ = some (.int .i64 row) := T3.b2.cell 5
        have x3_6 : w3.cell? ⟨w.heap.size, 6, none⟩ = some (.int .i64 (s 6)) := T3.b1.cell 6
        have y3_6 : w3.cell? ⟨w.heap.size + 1, 6, none⟩ = some (.slice ao6 rows.1 cap6) := T3.b2.cell 6
        have x3_7 : w3.cell? ⟨w.heap.size, 7, none⟩ = some (.int .i64 (s 7)) := T3.b1.cell 7
        have y3_7 : w3.cell? ⟨w.heap.size + 1, 7, none⟩ = some (.slice ao7 data.1 cap7) := T3.b2.cell 7
        have x3_8 : w3.cell? ⟨w.heap.size, 8, none⟩ = some (.int .i64 (s 8)) := T3.b1.cell 8
        have y3_8 : w3.cell? ⟨w.heap.size + 1, 8, none⟩ = some (.slice ao8 delta.1 cap8) := T3.b2.cell 8
        cases t3 with
        | false =>
          clear T3
          go_wp2
          go_ret
          exact boolNo rfl (fun h => by have := HE.out.1 h; simp at this) HB3.out
        | true =>
          go_wp2_with fail
          refine (C4 _).mono ?_
          rintro e w4 ⟨rfl, b4⟩
          have T4 : Two w w4 #[.int .i64 (s 0), .int .i64 (s 1), .int .i64 (s 2), .int .i64 (s 3), .int .i64 (s 4), .int .i64 (s 5), .int .i64 (s 6), .int .i64 (s 7), .int .i64 (s 8)] #[.int .i64 2, .int .i64 seq, .string name, .int .i64 length, .int .i64 group, .int .i64 row, .slice ao6 rows.1 cap6, .slice ao7 data.1 cap7, .slice ao8 delta.1 cap8] 31 45 := T3.call b4
          have HB4 : Hid (Below w.heap.size w w4) := T4.bel
          clear b4
          cases t4 with
          | false =>
            clear T4
            go_wp2
            go_ret
            exact boolNo rfl (fun h => by have := HE.out.1 h; simp at this) HB4.out
          | true =>
            clear T4
            go_wp2
            go_ret
            exact boolYes rfl (HE.out.2 (by simp)) HB4.out
  · have T0 := two_newb w #[.int .i64 (s 0), .int .i64 (s 1), .int .i64 (s 2), .int .i64 (s 3), .int .i64 (s 4), .int .i64 (s 5), .int .i64 (s 6), .int .i64 (s 7), .int .i64 (s 8)] #[.int .i64 3, .int .i64 seq, .string name, .int .i64 length, .int .i64 group, .int .i64 row, .slice ao6 rows.1 cap6, .slice ao7 data.1 cap7, .slice ao8 delta.1 cap8] 31 45
    obtain ⟨t1, h1⟩ := exB (InP group 0 (s 0 + s 1 - 1))
    have C := fun w' => isGroup_b HS.out h1 w'
    have HE : Hid (KindP s ⟨3, seq, name, length, group, row, rows, data, delta⟩ ↔ t1 = true) := by
      show KindP s ⟨3, seq, name, length, group, row, rows, data, delta⟩ ↔ _
      rw [h1]
      unfold KindP DoneP
      simp
    clear h1
    unfold shapeV at C ⊢
    go_enter Try.func48, Try.ntmps48
    go_wp2_with fail
    refine (C _).mono ?_
    rintro e w1 ⟨rfl, b1⟩
    have HB : Hid (Below w.heap.size w w1) := (T0.call b1).bel
    clear b1 C T0
    go_wp2
    go_ret
    cases t1 with
    | true => exact boolYes rfl (HE.out.2 (by simp)) HB.out
    | false => exact boolNo rfl (fun h => by have := HE.out.1 h; simp at this) HB.out
  · have T0 := two_newb w #[.int .i64 (s 0), .int .i64 (s 1), .int .i64 (s 2), .int .i64 (s 3), .int .i64 (s 4), .int .i64 (s 5), .int .i64 (s 6), .int .i64 (s 7), .int .i64 (s 8)] #[.int .i64 4, .int .i64 seq, .string name, .int .i64 length, .int .i64 group, .int .i64 row, .slice ao6 rows.1 cap6, .slice ao7 data.1 cap7, .slice ao8 delta.1 cap8] 31 45
    obtain ⟨t1, h1⟩ := exB (ShareP s ⟨4, seq, name, length, group, row, rows, data, delta⟩)
    have C := det_b (shareIn_any s HS.out ⟨4, seq, name, length, group, row, rows, data, delta⟩ _ hi _ (layRec.rd_below HRD.out T0.bel hhi) (Nat.le_trans hhi T0.bel.size)) h1
    have HE : Hid (KindP s ⟨4, seq, name, length, group, row, rows, data, delta⟩ ↔ t1 = true) := by
      show KindP s ⟨4, seq, name, length, group, row, rows, data, delta⟩ ↔ _
      rw [h1]
      unfold KindP
      simp
    clear h1
    unfold shapeV at C ⊢
    go_enter Try.func48, Try.ntmps48
    go_wp2_with fail
    refine C.mono ?_
    rintro e w1 ⟨rfl, b1⟩
    have HB : Hid (Below w.heap.size w w1) := (T0.call b1).bel
    clear b1 C T0
    go_wp2
    go_ret
    cases t1 with
    | true => exact boolYes rfl (HE.out.2 (by simp)) HB.out
    | false => exact boolNo rfl (fun h => by have := HE.out.1 h; simp at this) HB.out

set_option maxHeartbeats 16000000 in
set_option maxRecDepth 20000 in
theorem implRec_any (s : Nat → Int) (r : RecD) (cs : List Value) (hi : Nat) (w : World) (h : layRec.rd w hi r cs) (hhi : hi ≤ w.heap.size) (hnm : r.name.size ≤ 1048576) :
    Calls Try.prog 14 #[shapeV s, .agg cs.toArray] w (RecPost s r w) := by
  obtain ⟨kind, seq, name, length, group, row, rows, data, delta⟩ := r
  obtain ⟨ao6, cap6, ao7, cap7, ao8, cap8, rfl, -⟩ := Rec_rd h
  have HRD : Hid (layRec.rd w hi ⟨kind, seq, name, length, group, row, rows, data, delta⟩ [.int .i64 kind, .int .i64 seq, .string name, .int .i64 length, .int .i64 group, .int .i64 row, .slice ao6 rows.1 cap6, .slice ao7 data.1 cap7, .slice ao8 delta.1 cap8]) := h
  simp only at hnm
  clear h
  have T0 := two_newb w #[.int .i64 (s 0), .int .i64 (s 1), .int .i64 (s 2), .int .i64 (s 3), .int .i64 (s 4), .int .i64 (s 5), .int .i64 (s 6), .int .i64 (s 7), .int .i64 (s 8)] #[.int .i64 kind, .int .i64 seq, .string name, .int .i64 length, .int .i64 group, .int .i64 row, .slice ao6 rows.1 cap6, .slice ao7 data.1 cap7, .slice ao8 delta.1 cap8] 31 45
  have CSh := fun w' => implShape_any s w'
  unfold shapeV at CSh ⊢
  go_enter Try.func14, Try.ntmps14
  go_wp2_with fail
  refine (CSh _).mono ?_
  rintro e w1 ⟨x, rfl, hx, b1⟩
  have T1 : Two w w1 #[.int .i64 (s 0), .int .i64 (s 1), .int .i64 (s 2), .int .i64 (s 3), .int .i64 (s 4), .int .i64 (s 5), .int .i64 (s 6), .int .i64 (s 7), .int .i64 (s 8)] #[.int .i64 kind, .int .i64 seq, .string name, .int .i64 length, .int .i64 group, .int .i64 row, .slice ao6 rows.1 cap6, .slice ao7 data.1 cap7, .slice ao8 delta.1 cap8] 31 45 := T0.call b1
  have HT1 : Hid (Two w w1 #[.int .i64 (s 0), .int .i64 (s 1), .int .i64 (s 2), .int .i64 (s 3), .int .i64 (s 4), .int .i64 (s 5), .int .i64 (s 6), .int .i64 (s 7), .int .i64 (s 8)] #[.int .i64 kind, .int .i64 seq, .string name, .int .i64 length, .int .i64 group, .int .i64 row, .slice ao6 rows.1 cap6, .slice ao7 data.1 cap7, .slice ao8 delta.1 cap8] 31 45) := T1
  clear b1 T0 CSh
  have x1_0 : w1.cell? ⟨w.heap.size, 0, none⟩ = some (.int .i64 (s 0)) := T1.b1.cell 0
  have y1_0 : w1.cell? ⟨w.heap.size + 1, 0, none⟩ = some (.int .i64 kind) := T1.b2.cell 0
  have x1_1 : w1.cell? ⟨w.heap.size, 1, none⟩ = some (.int .i64 (s 1)) := T1.b1.cell 1
  have y1_1 : w1.cell? ⟨w.heap.size + 1, 1, none⟩ = some (.int .i64 seq) := T1.b2.cell 1
  have x1_2 : w1.cell? ⟨w.heap.size, 2, none⟩ = some (.int .i64 (s 2)) := T1.b1.cell 2
  have y1_2 : w1.cell? ⟨w.heap.size + 1, 2, none⟩ = some (.string name) := T1.b2.cell 2
  have x1_3 : w1.cell? ⟨w.heap.size, 3, none⟩ = some (.int .i64 (s 3)) := T1.b1.cell 3
  have y1_3 : w1.cell? ⟨w.heap.size + 1, 3, none⟩ = some (.int .i64 length) := T1.b2.cell 3
  have x1_4 : w1.cell? ⟨w.heap.size, 4, none⟩ = some (.int .i64 (s 4)) := T1.b1.cell 4
  have y1_4 : w1.cell? ⟨w.heap.size + 1, 4, none⟩ = some (.int .i64 group) := T1.b2.cell 4
  have x1_5 : w1.cell? ⟨w.heap.size, 5, none⟩ = some (.int .i64 (s 5)) := T1.b1.cell 5
  have y1_5 : w1.cell? ⟨w.heap.size + 1, 5, none⟩ = some (.int .i64 row) := T1.b2.cell 5
  have x1_6 : w1.cell? ⟨w.heap.size, 6, none⟩ = some (.int .i64 (s 6)) := T1.b1.cell 6
  have y1_6 : w1.cell? ⟨w.heap.size + 1, 6, none⟩ = some (.slice ao6 rows.1 cap6) := T1.b2.cell 6
  have x1_7 : w1.cell? ⟨w.heap.size, 7, none⟩ = some (.int .i64 (s 7)) := T1.b1.cell 7
  have y1_7 : w1.cell? ⟨w.heap.size + 1, 7, none⟩ = some (.slice ao7 data.1 cap7) := T1.b2.cell 7
  have x1_8 : w1.cell? ⟨w.heap.size, 8, none⟩ = some (.int .i64 (s 8)) := T1.b1.cell 8
  have y1_8 : w1.cell? ⟨w.heap.size + 1, 8, none⟩ = some (.slice ao8 delta.1 cap8) := T1.b2.cell 8
  clear T1
  rcases hx with ⟨rfl, hno⟩ | ⟨rfl, hok⟩
  · go_wp2
    go_ret
    exact recP rfl (Stair.fall hno) HT1.out.bel
  have HOK : Hid (OkShape s) := hok
  clear hok
  by_cases hk : InP kind 1 4
  · go_wp2_with fail
    refine (inBounds_b (t := true) (by omega) (exBT hk) _).mono ?_
    rintro e w' ⟨rfl, hw'⟩
    obtain rfl := hw'.symm
    by_cases hq : InP seq 1 1000000000
    · go_wp2_with fail
      refine (inBounds_b (t := true) (by omega) (exBT hq) _).mono ?_
      rintro e w' ⟨rfl, hw'⟩
      obtain rfl := hw'.symm
      have HK : Hid (InP kind 1 4) := hk
      have HQ : Hid (InP seq 1 1000000000) := hq
      have hk4 : kind = 1 ∨ kind = 2 ∨ kind = 3 ∨ kind = 4 := by unfold InP at hk; omega
      clear hk hq
      rcases hk4 with rfl | rfl | rfl | rfl
      · go_wp2_with fail
        refine (implName_any name hnm _).mono ?_
        rintro e w' ⟨x, rfl, hx, hw'⟩
        obtain rfl := hw'.symm
        rcases hx with ⟨rfl, hno⟩ | ⟨rfl, hyes⟩
        · go_wp2
          go_ret
          exact recP rfl (Stair.pass HOK.out (Stair.pass HK.out (Stair.pass HQ.out (Stair.fall (fun h => hno (h rfl)))))) HT1.out.bel
        have HN : Hid (NamedP ⟨1, seq, name, length, group, row, rows, data, delta⟩) := fun _ => hyes
        clear hyes
        obtain ⟨t5, h5⟩ := exB (KindP s ⟨1, seq, name, length, group, row, rows, data, delta⟩)
        have C5 := det_b (recIn_any s HOK.out ⟨1, seq, name, length, group, row, rows, data, delta⟩ _ hi w1 (layRec.rd_below HRD.out HT1.out.bel hhi) (Nat.le_trans hhi HT1.out.bel.size) HK.out) h5
        have H5 : Hid (t5 = true ↔ KindP s ⟨1, seq, name, length, group, row, rows, data, delta⟩) := h5
        unfold shapeV at C5
        clear h5
        go_wp2_with fail
        refine C5.mono ?_
        rintro e w5 ⟨rfl, b5⟩
        have T5 : Two w w5 #[.int .i64 (s 0), .int .i64 (s 1), .int .i64 (s 2), .int .i64 (s 3), .int .i64 (s 4), .int .i64 (s 5), .int .i64 (s 6), .int .i64 (s 7), .int .i64 (s 8)] #[.int .i64 1, .int .i64 seq, .string name, .int .i64 length, .int .i64 group, .int .i64 row, .slice ao6 rows.1 cap6, .slice ao7 data.1 cap7, .slice ao8 delta.1 cap8] 31 45 := HT1.out.call b5
        have HB5 : Hid (Below w.heap.size w w5) := T5.bel
        clear b5 C5
        have x5_0 : w5.cell? ⟨w.heap.size, 0, none⟩ = some (.int .i64 (s 0)) := T5.b1.cell 0
        have y5_0 : w5.cell? ⟨w.heap.size + 1, 0, none⟩ = some (.int .i64 1) := T5.b2.cell 0
        have x5_1 : w5.cell? ⟨w.heap.size, 1, none⟩ = some (.int .i64 (s 1)) := T5.b1.cell 1
        have y5_1 : w5.cell? ⟨w.heap.size + 1, 1, none⟩ = some (.int .i64 seq) := T5.b2.cell 1
        have x5_2 : w5.cell? ⟨w.heap.size, 2, none⟩ = some (.int .i64 (s 2)) := T5.b1.cell 2
        have y5_2 : w5.cell? ⟨w.heap.size + 1, 2, none⟩ = some (.string name) := T5.b2.cell 2
        have x5_3 : w5.cell? ⟨w.heap.size, 3, none⟩ = some (.int .i64 (s 3)) := T5.b1.cell 3
        have y5_3 : w5.cell? ⟨w.heap.size + 1, 3, none⟩ = some (.int .i64 length) := T5.b2.cell 3
        have x5_4 : w5.cell? ⟨w.heap.size, 4, none⟩ = some (.int .i64 (s 4)) := T5.b1.cell 4
        have y5_4 : w5.cell? ⟨w.heap.size + 1, 4, none⟩ = some (.int .i64 group) := T5.b2.cell 4
        have x5_5 : w5.cell? ⟨w.heap.size, 5, none⟩ = some (.int .i64 (s 5)) := T5.b1.cell 5
        have y5_5 : w5.cell? ⟨w.heap.size + 1, 5, none⟩ = some (.int .i64 row) := T5.b2.cell 5
        have x5_6 : w5.cell? ⟨w.heap.size, 6, none⟩ = some (.int .i64 (s 6)) := T5.b1.cell 6
        have y5_6 : w5.cell? ⟨w.heap.size + 1, 6, none⟩ = some (.slice ao6 rows.1 cap6) := T5.b2.cell 6
        have x5_7 : w5.cell? ⟨w.heap.size, 7, none⟩ = some (.int .i64 (s 7)) := T5.b1.cell 7
        have y5_7 : w5.cell? ⟨w.heap.size + 1, 7, none⟩ = some (.slice ao7 data.1 cap7) := T5.b2.cell 7
        have x5_8 : w5.cell? ⟨w.heap.size, 8, none⟩ = some (.int .i64 (s 8)) := T5.b1.cell 8
        have y5_8 : w5.cell? ⟨w.heap.size + 1, 8, none⟩ = some (.slice ao8 delta.1 cap8) := T5.b2.cell 8
        clear T5
        cases t5 with
        | false =>
          go_wp2
          go_ret
          exact recP rfl (Stair.pass HOK.out (Stair.pass HK.out (Stair.pass HQ.out (Stair.pass HN.out (Stair.fall (fun h => by have := H5.out.2 h; simp at this)))))) HB5.out
        | true =>
          have HKP : Hid (KindP s ⟨1, seq, name, length, group, row, rows, data, delta⟩) := H5.out.1 (by simp)
          go_wp2_with fail
          refine (unnamed1 seq name length group row rows data delta ao6 ao7 ao8 cap6 cap7 cap8 _).mono ?_
          rintro e w6 ⟨rfl, b6⟩
          have HB6 : Hid (Below w.heap.size w w6) := HB5.out.trans (b6.mono HB5.out.size)
          clear b6
          go_wp2_with fail
          refine (isBlank_any _ _ _ _ _ _ _ _ _ _ _ _ _ _ _ _).mono ?_
          rintro e w7 ⟨t9, rfl, ht9, b7⟩
          have HB7 : Hid (Below w.heap.size w w7) := HB6.out.trans (b7.mono HB6.out.size)
          clear b7
          have HT9 : Hid (t9 = true ↔ BlankP ⟨1, seq, name, length, group, row, rows, data, delta⟩) := by
            show t9 = true ↔ BlankP ⟨1, seq, name, length, group, row, rows, data, delta⟩
            rw [ht9]
            unfold BlankQ EmptyQ BlankP noName
            simp [and_assoc]
            try (intros; rfl)
          clear ht9
          cases t9 with
          | false =>
            go_wp2
            go_ret
            exact recP rfl (Stair.pass HOK.out (Stair.pass HK.out (Stair.pass HQ.out (Stair.pass HN.out (Stair.pass HKP.out (Stair.fall (fun h => by have := HT9.out.2 h; simp at this))))))) HB7.out
          | true =>
            go_wp2
            go_ret
            exact recP rfl (Stair.pass HOK.out (Stair.pass HK.out (Stair.pass HQ.out (Stair.pass HN.out (Stair.pass HKP.out (Stair.pass (HT9.out.1 (by simp)) (Stair.last rfl))))))) HB7.out
      · have HN : Hid (NamedP ⟨2, seq, name, length, group, row, rows, data, delta⟩) := fun h => by simp at h
        obtain ⟨t5, h5⟩ := exB (KindP s ⟨2, seq, name, length, group, row, rows, data, delta⟩)
        have C5 := det_b (recIn_any s HOK.out ⟨2, seq, name, length, group, row, rows, data, delta⟩ _ hi w1 (layRec.rd_below HRD.out HT1.out.bel hhi) (Nat.le_trans hhi HT1.out.bel.size) HK.out) h5
        have H5 : Hid (t5 = true ↔ KindP s ⟨2, seq, name, length, group, row, rows, data, delta⟩) := h5
        unfold shapeV at C5
        clear h5
        go_wp2_with fail
        refine C5.mono ?_
        rintro e w5 ⟨rfl, b5⟩
        have T5 : Two w w5 #[.int .i64 (s 0), .int .i64 (s 1), .int .i64 (s 2), .int .i64 (s 3), .int .i64 (s 4), .int .i64 (s 5), .int .i64 (s 6), .int .i64 (s 7), .int .i64 (s 8)] #[.int .i64 2, .int .i64 seq, .string name, .int .i64 length, .int .i64 group, .int .i64 row, .slice ao6 rows.1 cap6, .slice ao7 data.1 cap7, .slice ao8 delta.1 cap8] 31 45 := HT1.out.call b5
        have HB5 : Hid (Below w.heap.size w w5) := T5.bel
        clear b5 C5
        have x5_0 : w5.cell? ⟨w.heap.size, 0, none⟩ = some (.int .i64 (s 0)) := T5.b1.cell 0
        have y5_0 : w5.cell? ⟨w.heap.size + 1, 0, none⟩ = some (.int .i64 2) := T5.b2.cell 0
        have x5_1 : w5.cell? ⟨w.heap.size, 1, none⟩ = some (.int .i64 (s 1)) := T5.b1.cell 1
        have y5_1 : w5.cell? ⟨w.heap.size + 1, 1, none⟩ = some (.int .i64 seq) := T5.b2.cell 1
        have x5_2 : w5.cell? ⟨w.heap.size, 2, none⟩ = some (.int .i64 (s 2)) := T5.b1.cell 2
        have y5_2 : w5.cell? ⟨w.heap.size + 1, 2, none⟩ = some (.string name) := T5.b2.cell 2
        have x5_3 : w5.cell? ⟨w.heap.size, 3, none⟩ = some (.int .i64 (s 3)) := T5.b1.cell 3
        have y5_3 : w5.cell? ⟨w.heap.size + 1, 3, none⟩ = some (.int .i64 length) := T5.b2.cell 3
        have x5_4 : w5.cell? ⟨w.heap.size, 4, none⟩ = some (.int .i64 (s 4)) := T5.b1.cell 4
        have y5_4 : w5.cell? ⟨w.heap.size + 1, 4, none⟩ = some (.int .i64 group) := T5.b2.cell 4
        have x5_5 : w5.cell? ⟨w.heap.size, 5, none⟩ = some (.int .i64 (s 5)) := T5.b1.cell 5
        have y5_5 : w5.cell? ⟨w.heap.size + 1, 5, none⟩ = some (.int .i64 row) := T5.b2.cell 5
        have x5_6 : w5.cell? ⟨w.heap.size, 6, none⟩ = some (.int .i64 (s 6)) := T5.b1.cell 6
        have y5_6 : w5.cell? ⟨w.heap.size + 1, 6, none⟩ = some (.slice ao6 rows.1 cap6) := T5.b2.cell 6
        have x5_7 : w5.cell? ⟨w.heap.size, 7, none⟩ = some (.int .i64 (s 7)) := T5.b1.cell 7
        have y5_7 : w5.cell? ⟨w.heap.size + 1, 7, none⟩ = some (.slice ao7 data.1 cap7) := T5.b2.cell 7
        have x5_8 : w5.cell? ⟨w.heap.size, 8, none⟩ = some (.int .i64 (s 8)) := T5.b1.cell 8
        have y5_8 : w5.cell? ⟨w.heap.size + 1, 8, none⟩ = some (.slice ao8 delta.1 cap8) := T5.b2.cell 8
        clear T5
        cases t5 with
        | false =>
          go_wp2
          go_ret
          exact recP rfl (Stair.pass HOK.out (Stair.pass HK.out (Stair.pass HQ.out (Stair.pass HN.out (Stair.fall (fun h => by have := H5.out.2 h; simp at this)))))) HB5.out
        | true =>
          have HKP : Hid (KindP s ⟨2, seq, name, length, group, row, rows, data, delta⟩) := H5.out.1 (by simp)
          go_wp2_with fail
          refine (unnamed2 seq name length group row rows data delta ao6 ao7 ao8 cap6 cap7 cap8 _).mono ?_
          rintro e w6 ⟨rfl, b6⟩
          have HB6 : Hid (Below w.heap.size w w6) := HB5.out.trans (b6.mono HB5.out.size)
          clear b6
          go_wp2_with fail
          refine (isBlank_any _ _ _ _ _ _ _ _ _ _ _ _ _ _ _ _).mono ?_
          rintro e w7 ⟨t9, rfl, ht9, b7⟩
          have HB7 : Hid (Below w.heap.size w w7) := HB6.out.trans (b7.mono HB6.out.size)
          clear b7
          have HT9 : Hid (t9 = true ↔ BlankP ⟨2, seq, name, length, group, row, rows, data, delta⟩) := by
            show t9 = true ↔ BlankP ⟨2, seq, name, length, group, row, rows, data, delta⟩
            rw [ht9]
            unfold BlankQ EmptyQ BlankP noName
            simp [and_assoc]
            try (intros; rfl)
          clear ht9
          cases t9 with
          | false =>
            go_wp2
            go_ret
            exact recP rfl (Stair.pass HOK.out (Stair.pass HK.out (Stair.pass HQ.out (Stair.pass HN.out (Stair.pass HKP.out (Stair.fall (fun h => by have := HT9.out.2 h; simp at this))))))) HB7.out
          | true =>
            go_wp2
            go_ret
            exact recP rfl (Stair.pass HOK.out (Stair.pass HK.out (Stair.pass HQ.out (Stair.pass HN.out (Stair.pass HKP.out (Stair.pass (HT9.out.1 (by simp)) (Stair.last rfl))))))) HB7.out
      · have HN : Hid (NamedP ⟨3, seq, name, length, group, row, rows, data, delta⟩) := fun h => by simp at h
        obtain ⟨t5, h5⟩ := exB (KindP s ⟨3, seq, name, length, group, row, rows, data, delta⟩)
        have C5 := det_b (recIn_any s HOK.out ⟨3, seq, name, length, group, row, rows, data, delta⟩ _ hi w1 (layRec.rd_below HRD.out HT1.out.bel hhi) (Nat.le_trans hhi HT1.out.bel.size) HK.out) h5
        have H5 : Hid (t5 = true ↔ KindP s ⟨3, seq, name, length, group, row, rows, data, delta⟩) := h5
        unfold shapeV at C5
        clear h5
        go_wp2_with fail
        refine C5.mono ?_
        rintro e w5 ⟨rfl, b5⟩
        have T5 : Two w w5 #[.int .i64 (s 0), .int .i64 (s 1), .int .i64 (s 2), .int .i64 (s 3), .int .i64 (s 4), .int .i64 (s 5), .int .i64 (s 6), .int .i64 (s 7), .int .i64 (s 8)] #[.int .i64 3, .int .i64 seq, .string name, .int .i64 length, .int .i64 group, .int .i64 row, .slice ao6 rows.1 cap6, .slice ao7 data.1 cap7, .slice ao8 delta.1 cap8] 31 45 := HT1.out.call b5
        have HB5 : Hid (Below w.heap.size w w5) := T5.bel
        clear b5 C5
        have x5_0 : w5.cell? ⟨w.heap.size, 0, none⟩ = some (.int .i64 (s 0)) := T5.b1.cell 0
        have y5_0 : w5.cell? ⟨w.heap.size + 1, 0, none⟩ = some (.int .i64 3) := T5.b2.cell 0
        have x5_1 : w5.cell? ⟨w.heap.size, 1, none⟩ = some (.int .i64 (s 1)) := T5.b1.cell 1
        have y5_1 : w5.cell? ⟨w.heap.size + 1, 1, none⟩ = some (.int .i64 seq) := T5.b2.cell 1
        have x5_2 : w5.cell? ⟨w.heap.size, 2, none⟩ = some (.int .i64 (s 2)) := T5.b1.cell 2
        have y5_2 : w5.cell? ⟨w.heap.size + 1, 2, none⟩ = some (.string name) := T5.b2.cell 2
        have x5_3 : w5.cell? ⟨w.heap.size, 3, none⟩ = some (.int .i64 (s 3)) := T5.b1.cell 3
        have y5_3 : w5.cell? ⟨w.heap.size + 1, 3, none⟩ = some (.int .i64 length) := T5.b2.cell 3
        have x5_4 : w5.cell? ⟨w.heap.size, 4, none⟩ = some (.int .i64 (s 4)) := T5.b1.cell 4
        have y5_4 : w5.cell? ⟨w.heap.size + 1, 4, none⟩ = some (.int .i64 group) := T5.b2.cell 4
        have x5_5 : w5.cell? ⟨w.heap.size, 5, none⟩ = some (.int .i64 (s 5)) := T5.b1.cell 5
        have y5_5 : w5.cell? ⟨w.heap.size + 1, 5, none⟩ = some (.int .i64 row) := T5.b2.cell 5
        have x5_6 : w5.cell? ⟨w.heap.size, 6, none⟩ = some (.int .i64 (s 6)) := T5.b1.cell 6
        have y5_6 : w5.cell? ⟨w.heap.size + 1, 6, none⟩ = some (.slice ao6 rows.1 cap6) := T5.b2.cell 6
        have x5_7 : w5.cell? ⟨w.heap.size, 7, none⟩ = some (.int .i64 (s 7)) := T5.b1.cell 7
        have y5_7 : w5.cell? ⟨w.heap.size + 1, 7, none⟩ = some (.slice ao7 data.1 cap7) := T5.b2.cell 7
        have x5_8 : w5.cell? ⟨w.heap.size, 8, none⟩ = some (.int .i64 (s 8)) := T5.b1.cell 8
        have y5_8 : w5.cell? ⟨w.heap.size + 1, 8, none⟩ = some (.slice ao8 delta.1 cap8) := T5.b2.cell 8
        clear T5
        cases t5 with
        | false =>
          go_wp2
          go_ret
          exact recP rfl (Stair.pass HOK.out (Stair.pass HK.out (Stair.pass HQ.out (Stair.pass HN.out (Stair.fall (fun h => by have := H5.out.2 h; simp at this)))))) HB5.out
        | true =>
          have HKP : Hid (KindP s ⟨3, seq, name, length, group, row, rows, data, delta⟩) := H5.out.1 (by simp)
          go_wp2_with fail
          refine (unnamed3 seq name length group row rows data delta ao6 ao7 ao8 cap6 cap7 cap8 _).mono ?_
          rintro e w6 ⟨rfl, b6⟩
          have HB6 : Hid (Below w.heap.size w w6) := HB5.out.trans (b6.mono HB5.out.size)
          clear b6
          go_wp2_with fail
          refine (isBlank_any _ _ _ _ _ _ _ _ _ _ _ _ _ _ _ _).mono ?_
          rintro e w7 ⟨t9, rfl, ht9, b7⟩
          have HB7 : Hid (Below w.heap.size w w7) := HB6.out.trans (b7.mono HB6.out.size)
          clear b7
          have HT9 : Hid (t9 = true ↔ BlankP ⟨3, seq, name, length, group, row, rows, data, delta⟩) := by
            show t9 = true ↔ BlankP ⟨3, seq, name, length, group, row, rows, data, delta⟩
            rw [ht9]
            unfold BlankQ EmptyQ BlankP noName
            simp [and_assoc]
            try (intros; rfl)
          clear ht9
          cases t9 with
          | false =>
            go_wp2
            go_ret
            exact recP rfl (Stair.pass HOK.out (Stair.pass HK.out (Stair.pass HQ.out (Stair.pass HN.out (Stair.pass HKP.out (Stair.fall (fun h => by have := HT9.out.2 h; simp at this))))))) HB7.out
          | true =>
            go_wp2
            go_ret
            exact recP rfl (Stair.pass HOK.out (Stair.pass HK.out (Stair.pass HQ.out (Stair.pass HN.out (Stair.pass HKP.out (Stair.pass (HT9.out.1 (by simp)) (Stair.last rfl))))))) HB7.out
      · have HN : Hid (NamedP ⟨4, seq, name, length, group, row, rows, data, delta⟩) := fun h => by simp at h
        obtain ⟨t5, h5⟩ := exB (KindP s ⟨4, seq, name, length, group, row, rows, data, delta⟩)
        have C5 := det_b (recIn_any s HOK.out ⟨4, seq, name, length, group, row, rows, data, delta⟩ _ hi w1 (layRec.rd_below HRD.out HT1.out.bel hhi) (Nat.le_trans hhi HT1.out.bel.size) HK.out) h5
        have H5 : Hid (t5 = true ↔ KindP s ⟨4, seq, name, length, group, row, rows, data, delta⟩) := h5
        unfold shapeV at C5
        clear h5
        go_wp2_with fail
        refine C5.mono ?_
        rintro e w5 ⟨rfl, b5⟩
        have T5 : Two w w5 #[.int .i64 (s 0), .int .i64 (s 1), .int .i64 (s 2), .int .i64 (s 3), .int .i64 (s 4), .int .i64 (s 5), .int .i64 (s 6), .int .i64 (s 7), .int .i64 (s 8)] #[.int .i64 4, .int .i64 seq, .string name, .int .i64 length, .int .i64 group, .int .i64 row, .slice ao6 rows.1 cap6, .slice ao7 data.1 cap7, .slice ao8 delta.1 cap8] 31 45 := HT1.out.call b5
        have HB5 : Hid (Below w.heap.size w w5) := T5.bel
        clear b5 C5
        have x5_0 : w5.cell? ⟨w.heap.size, 0, none⟩ = some (.int .i64 (s 0)) := T5.b1.cell 0
        have y5_0 : w5.cell? ⟨w.heap.size + 1, 0, none⟩ = some (.int .i64 4) := T5.b2.cell 0
        have x5_1 : w5.cell? ⟨w.heap.size, 1, none⟩ = some (.int .i64 (s 1)) := T5.b1.cell 1
        have y5_1 : w5.cell? ⟨w.heap.size + 1, 1, none⟩ = some (.int .i64 seq) := T5.b2.cell 1
        have x5_2 : w5.cell? ⟨w.heap.size, 2, none⟩ = some (.int .i64 (s 2)) := T5.b1.cell 2
        have y5_2 : w5.cell? ⟨w.heap.size + 1, 2, none⟩ = some (.string name) := T5.b2.cell 2
        have x5_3 : w5.cell? ⟨w.heap.size, 3, none⟩ = some (.int .i64 (s 3)) := T5.b1.cell 3
        have y5_3 : w5.cell? ⟨w.heap.size + 1, 3, none⟩ = some (.int .i64 length) := T5.b2.cell 3
        have x5_4 : w5.cell? ⟨w.heap.size, 4, none⟩ = some (.int .i64 (s 4)) := T5.b1.cell 4
        have y5_4 : w5.cell? ⟨w.heap.size + 1, 4, none⟩ = some (.int .i64 group) := T5.b2.cell 4
        have x5_5 : w5.cell? ⟨w.heap.size, 5, none⟩ = some (.int .i64 (s 5)) := T5.b1.cell 5
        have y5_5 : w5.cell? ⟨w.heap.size + 1, 5, none⟩ = some (.int .i64 row) := T5.b2.cell 5
        have x5_6 : w5.cell? ⟨w.heap.size, 6, none⟩ = some (.int .i64 (s 6)) := T5.b1.cell 6
        have y5_6 : w5.cell? ⟨w.heap.size + 1, 6, none⟩ = some (.slice ao6 rows.1 cap6) := T5.b2.cell 6
        have x5_7 : w5.cell? ⟨w.heap.size, 7, none⟩ = some (.int .i64 (s 7)) := T5.b1.cell 7
        have y5_7 : w5.cell? ⟨w.heap.size + 1, 7, none⟩ = some (.slice ao7 data.1 cap7) := T5.b2.cell 7
        have x5_8 : w5.cell? ⟨w.heap.size, 8, none⟩ = some (.int .i64 (s 8)) := T5.b1.cell 8
        have y5_8 : w5.cell? ⟨w.heap.size + 1, 8, none⟩ = some (.slice ao8 delta.1 cap8) := T5.b2.cell 8
        clear T5
        cases t5 with
        | false =>
          go_wp2
          go_ret
          exact recP rfl (Stair.pass HOK.out (Stair.pass HK.out (Stair.pass HQ.out (Stair.pass HN.out (Stair.fall (fun h => by have := H5.out.2 h; simp at this)))))) HB5.out
        | true =>
          have HKP : Hid (KindP s ⟨4, seq, name, length, group, row, rows, data, delta⟩) := H5.out.1 (by simp)
          go_wp2_with fail
          refine (unnamed4 seq name length group row rows data delta ao6 ao7 ao8 cap6 cap7 cap8 _).mono ?_
          rintro e w6 ⟨rfl, b6⟩
          have HB6 : Hid (Below w.heap.size w w6) := HB5.out.trans (b6.mono HB5.out.size)
          clear b6
          go_wp2_with fail
          refine (isBlank_any _ _ _ _ _ _ _ _ _ _ _ _ _ _ _ _).mono ?_
          rintro e w7 ⟨t9, rfl, ht9, b7⟩
          have HB7 : Hid (Below w.heap.size w w7) := HB6.out.trans (b7.mono HB6.out.size)
          clear b7
          have HT9 : Hid (t9 = true ↔ BlankP ⟨4, seq, name, length, group, row, rows, data, delta⟩) := by
            show t9 = true ↔ BlankP ⟨4, seq, name, length, group, row, rows, data, delta⟩
            rw [ht9]
            unfold BlankQ EmptyQ BlankP noName
            simp [and_assoc]
            try (intros; rfl)
          clear ht9
          cases t9 with
          | false =>
            go_wp2
            go_ret
            exact recP rfl (Stair.pass HOK.out (Stair.pass HK.out (Stair.pass HQ.out (Stair.pass HN.out (Stair.pass HKP.out (Stair.fall (fun h => by have := HT9.out.2 h; simp at this))))))) HB7.out
          | true =>
            go_wp2
            go_ret
            exact recP rfl (Stair.pass HOK.out (Stair.pass HK.out (Stair.pass HQ.out (Stair.pass HN.out (Stair.pass HKP.out (Stair.pass (HT9.out.1 (by simp)) (Stair.last rfl))))))) HB7.out
    · go_wp2_with fail
      refine (inBounds_b (t := false) (by omega) (exBF hq) _).mono ?_
      rintro e w' ⟨rfl, hw'⟩
      obtain rfl := hw'.symm
      go_wp2
      go_ret
      exact recP rfl (Stair.pass HOK.out (Stair.pass hk (Stair.fall hq))) HT1.out.bel
  · go_wp2_with fail
    refine (inBounds_b (t := false) (by omega) (exBF hk) _).mono ?_
    rintro e w' ⟨rfl, hw'⟩
    obtain rfl := hw'.symm
    go_wp2
    go_ret
    exact recP rfl (Stair.pass HOK.out (Stair.fall hk)) HT1.out.bel
end Go.Proofs.Ytgpglgchbimmaaa

namespace Go.Proofs.Ytgpglgchbimmaaa
open Go.ChangeShapes Go.WideShapes Go.ChangeAt Go.RowKit F256
set_option linter.unusedVariables false
set_option linter.unusedSimpArgs false

theorem Stair.ex {K : Int → Prop} (hK : ∃ x, K x) : ∀ l : List (Prop × Int), ∃ x, Stair l K x
  | [] => hK
  | (p, c) :: l => by
    by_cases h : p
    · obtain ⟨x, hx⟩ := Stair.ex hK l
      exact ⟨x, .inr ⟨h, hx⟩⟩
    · exact ⟨c, .inl ⟨h, rfl⟩⟩
theorem recFault_det {s : Nat → Int} {d : RecD} {X : Int} {w : World} {f : Nat} {args : Array Value} (hX : RecAns s d X) (h : Calls Try.prog f args w (RecPost s d w)) : Calls Try.prog f args w fun e w' => e = .returned (.int .i64 X) ∧ Below w.heap.size w w' :=
  h.mono fun e w' ⟨x, h1, h2, h3⟩ => ⟨by rw [h1, h2.one hX], h3⟩

set_option maxHeartbeats 16000000 in
set_option maxRecDepth 20000 in
theorem fnExactRecFault_walk (s : Nat → Int) (d : RecD) (cs : List Value) (w : World) (r : layRec.rd w w.heap.size d cs) :
    Calls Try.prog 4 #[shapeV s, .agg cs.toArray] w fun e w' => e = .returned (.bool true) ∧ Below w.heap.size w w' := by
  obtain ⟨ao6, cap6, ao7, cap7, ao8, cap8, rfl, -⟩ := Rec_rd r
  obtain ⟨X, hX⟩ : ∃ X, RecAns s d X := Stair.ex (K := isZ) ⟨0, rfl⟩ _
  have HR : Hid (layRec.rd w w.heap.size d [.int .i64 d.kind, .int .i64 d.seq, .string d.name, .int .i64 d.length, .int .i64 d.group, .int .i64 d.row, .slice ao6 d.rows.1 cap6, .slice ao7 d.data.1 cap7, .slice ao8 d.delta.1 cap8]) := r
  clear r
  have CT := toShape_any s
  have T0 := two_newb w #[.int .i64 (s 0), .int .i64 (s 1), .int .i64 (s 2), .int .i64 (s 3), .int .i64 (s 4), .int .i64 (s 5), .int .i64 (s 6), .int .i64 (s 7), .int .i64 (s 8)] #[.int .i64 d.kind, .int .i64 d.seq, .string d.name, .int .i64 d.length, .int .i64 d.group, .int .i64 d.row, .slice ao6 d.rows.1 cap6, .slice ao7 d.data.1 cap7, .slice ao8 d.delta.1 cap8] 23 41
  unfold shapeV at CT ⊢
  go_enter Try.func4, Try.ntmps4
  go_wp2_with fail
  refine (szRec_is _ d w.heap.size 1048576 _ (layRec.rd_below HR.out T0.bel (Nat.le_refl _)) T0.bel.size (by omega)).mono ?_
  rintro e w1 ⟨x, rfl, hx, b1⟩
  have T1 : Two w w1 #[.int .i64 (s 0), .int .i64 (s 1), .int .i64 (s 2), .int .i64 (s 3), .int .i64 (s 4), .int .i64 (s 5), .int .i64 (s 6), .int .i64 (s 7), .int .i64 (s 8)] #[.int .i64 d.kind, .int .i64 d.seq, .string d.name, .int .i64 d.length, .int .i64 d.group, .int .i64 d.row, .slice ao6 d.rows.1 cap6, .slice ao7 d.data.1 cap7, .slice ao8 d.delta.1 cap8] 23 41 := T0.call b1
  have HT1 : Hid (Two w w1 #[.int .i64 (s 0), .int .i64 (s 1), .int .i64 (s 2), .int .i64 (s 3), .int .i64 (s 4), .int .i64 (s 5), .int .i64 (s 6), .int .i64 (s 7), .int .i64 (s 8)] #[.int .i64 d.kind, .int .i64 d.seq, .string d.name, .int .i64 d.length, .int .i64 d.group, .int .i64 d.row, .slice ao6 d.rows.1 cap6, .slice ao7 d.data.1 cap7, .slice ao8 d.delta.1 cap8] 23 41) := T1
  clear b1 T0
  have x1_0 : w1.cell? ⟨w.heap.size, 0, none⟩ = some (.int .i64 (s 0)) := T1.b1.cell 0
  have y1_0 : w1.cell? ⟨w.heap.size + 1, 0, none⟩ = some (.int .i64 d.kind) := T1.b2.cell 0
  have x1_1 : w1.cell? ⟨w.heap.size, 1, none⟩ = some (.int .i64 (s 1)) := T1.b1.cell 1
  have y1_1 : w1.cell? ⟨w.heap.size + 1, 1, none⟩ = some (.int .i64 d.seq) := T1.b2.cell 1
  have x1_2 : w1.cell? ⟨w.heap.size, 2, none⟩ = some (.int .i64 (s 2)) := T1.b1.cell 2
  have y1_2 : w1.cell? ⟨w.heap.size + 1, 2, none⟩ = some (.string d.name) := T1.b2.cell 2
  have x1_3 : w1.cell? ⟨w.heap.size, 3, none⟩ = some (.int .i64 (s 3)) := T1.b1.cell 3
  have y1_3 : w1.cell? ⟨w.heap.size + 1, 3, none⟩ = some (.int .i64 d.length) := T1.b2.cell 3
  have x1_4 : w1.cell? ⟨w.heap.size, 4, none⟩ = some (.int .i64 (s 4)) := T1.b1.cell 4
  have y1_4 : w1.cell? ⟨w.heap.size + 1, 4, none⟩ = some (.int .i64 d.group) := T1.b2.cell 4
  have x1_5 : w1.cell? ⟨w.heap.size, 5, none⟩ = some (.int .i64 (s 5)) := T1.b1.cell 5
  have y1_5 : w1.cell? ⟨w.heap.size + 1, 5, none⟩ = some (.int .i64 d.row) := T1.b2.cell 5
  have x1_6 : w1.cell? ⟨w.heap.size, 6, none⟩ = some (.int .i64 (s 6)) := T1.b1.cell 6
  have y1_6 : w1.cell? ⟨w.heap.size + 1, 6, none⟩ = some (.slice ao6 d.rows.1 cap6) := T1.b2.cell 6
  have x1_7 : w1.cell? ⟨w.heap.size, 7, none⟩ = some (.int .i64 (s 7)) := T1.b1.cell 7
  have y1_7 : w1.cell? ⟨w.heap.size + 1, 7, none⟩ = some (.slice ao7 d.data.1 cap7) := T1.b2.cell 7
  have x1_8 : w1.cell? ⟨w.heap.size, 8, none⟩ = some (.int .i64 (s 8)) := T1.b1.cell 8
  have y1_8 : w1.cell? ⟨w.heap.size + 1, 8, none⟩ = some (.slice ao8 d.delta.1 cap8) := T1.b2.cell 8
  clear T1
  rcases hx with rfl | ⟨hsz, hx⟩
  · go_wp2
    go_ret
    exact ⟨rfl, HT1.out.bel⟩
  have hx0 : ¬ x < 0 := by omega
  have hnm : d.name.size ≤ 1048576 := by unfold szRecD at hsz; omega
  clear hx
  have CR : ∀ w', Below w1.heap.size w1 w' → Calls Try.prog 13 #[.agg #[.int .i64 d.kind, .int .i64 d.seq, .string d.name, .int .i64 d.length, .int .i64 d.group, .int .i64 d.row, .slice ao6 d.rows.1 cap6, .slice ao7 d.data.1 cap7, .slice ao8 d.delta.1 cap8]] w' fun e w'' => ∃ cs', e = .returned (.agg cs'.toArray) ∧ OwnT layRec w'' w'.heap.size w''.heap.size d cs' ∧ Below w'.heap.size w' w'' := fun w' hb =>
    toRec_is _ d w.heap.size w' (layRec.rd_below (layRec.rd_below HR.out HT1.out.bel (Nat.le_refl _)) hb HT1.out.bel.size) (Nat.le_trans HT1.out.bel.size hb.size) hsz
  have CS : ∀ (cs' : List Value) (hi : Nat) (w' : World), layRec.rd w' hi d cs' → hi ≤ w'.heap.size → Calls Try.prog 11 #[shapeV s, .agg cs'.toArray] w' fun e w'' => e = .returned (.int .i64 X) ∧ Below w'.heap.size w' w'' := fun cs' hi w' h1 h2 => recFault_det hX (specRec_any s d cs' hi w' h1 h2 hnm)
  have CI : ∀ (cs' : List Value) (hi : Nat) (w' : World), layRec.rd w' hi d cs' → hi ≤ w'.heap.size → Calls Try.prog 14 #[shapeV s, .agg cs'.toArray] w' fun e w'' => e = .returned (.int .i64 X) ∧ Below w'.heap.size w' w'' := fun cs' hi w' h1 h2 => recFault_det hX (implRec_any s d cs' hi w' h1 h2 hnm)
  unfold shapeV at CS CI
  clear hX hsz
  go_upto_region 5 with fail
  go_cut [6] (fun v wx => v = .int .i64 X ∧ Below w1.heap.size w1 wx)
  case first =>
    go_region_with (first | (go_at_call 12; refine (CT _).mono ?_; rintro ee wa ⟨rfl, ba⟩; first | (have bS : Below w1.heap.size w1 wa := (below_drewN (Below.refl _ _) 1).trans ba; obtain ⟨qa0, qa1, qa2, qa3, qa4, qa5, qa6, qa7, qa8⟩ := box9 (HT1.out.call bS).b2) | (have bS : Below w1.heap.size w1 wa := bR.trans (ba.mono bR.size))) | (go_at_call 13; first | (refine (CR _ (below_drewN (Below.refl _ _) 1)).mono ?_; rintro ee wb ⟨cs', rfl, oR, bb⟩; have bR : Below w1.heap.size w1 wb := (below_drewN (Below.refl _ _) 1).trans bb; obtain ⟨qb0, qb1, qb2, qb3, qb4, qb5, qb6, qb7, qb8⟩ := box9 (HT1.out.call bR).b1) | (refine (CR _ bS).mono ?_; rintro ee wb ⟨cs', rfl, oR, bb⟩; have bR : Below w1.heap.size w1 wb := bS.trans (bb.mono bS.size))) | (go_at_call 11; first | (refine (CS cs' _ _ oR.rd (Nat.le_refl _)).mono ?_; rintro ee wc' ⟨rfl, bc⟩; have bC : Below w1.heap.size w1 wc' := bR.trans (bc.mono bR.size)) | (refine (CS cs' _ _ (oR.call ba).rd ba.size).mono ?_; rintro ee wc' ⟨rfl, bc⟩; have bC : Below w1.heap.size w1 wc' := bS.trans (bc.mono bS.size))))
    all_goals
      go_wp2
      go_meet
      exact ⟨rfl, bC⟩
  case rest =>
    obtain ⟨rfl, bc⟩ := hcut
    obtain ⟨w5, rfl⟩ : ∃ x, x = wc := ⟨_, rfl⟩
    have T5 : Two w w5 #[.int .i64 (s 0), .int .i64 (s 1), .int .i64 (s 2), .int .i64 (s 3), .int .i64 (s 4), .int .i64 (s 5), .int .i64 (s 6), .int .i64 (s 7), .int .i64 (s 8)] #[.int .i64 d.kind, .int .i64 d.seq, .string d.name, .int .i64 d.length, .int .i64 d.group, .int .i64 d.row, .slice ao6 d.rows.1 cap6, .slice ao7 d.data.1 cap7, .slice ao8 d.delta.1 cap8] 23 41 := HT1.out.call bc
    have BC : Hid (Below w1.heap.size w1 w5) := bc
    clear x1_0 y1_0 x1_1 y1_1 x1_2 y1_2 x1_3 y1_3 x1_4 y1_4 x1_5 y1_5 x1_6 y1_6 x1_7 y1_7 x1_8 y1_8 bc
    have x5_0 : w5.cell? ⟨w.heap.size, 0, none⟩ = some (.int .i64 (s 0)) := T5.b1.cell 0
    have y5_0 : w5.cell? ⟨w.heap.size + 1, 0, none⟩ = some (.int .i64 d.kind) := T5.b2.cell 0
    have x5_1 : w5.cell? ⟨w.heap.size, 1, none⟩ = some (.int .i64 (s 1)) := T5.b1.cell 1
    have y5_1 : w5.cell? ⟨w.heap.size + 1, 1, none⟩ = some (.int .i64 d.seq) := T5.b2.cell 1
    have x5_2 : w5.cell? ⟨w.heap.size, 2, none⟩ = some (.int .i64 (s 2)) := T5.b1.cell 2
    have y5_2 : w5.cell? ⟨w.heap.size + 1, 2, none⟩ = some (.string d.name) := T5.b2.cell 2
    have x5_3 : w5.cell? ⟨w.heap.size, 3, none⟩ = some (.int .i64 (s 3)) := T5.b1.cell 3
    have y5_3 : w5.cell? ⟨w.heap.size + 1, 3, none⟩ = some (.int .i64 d.length) := T5.b2.cell 3
    have x5_4 : w5.cell? ⟨w.heap.size, 4, none⟩ = some (.int .i64 (s 4)) := T5.b1.cell 4
    have y5_4 : w5.cell? ⟨w.heap.size + 1, 4, none⟩ = some (.int .i64 d.group) := T5.b2.cell 4
    have x5_5 : w5.cell? ⟨w.heap.size, 5, none⟩ = some (.int .i64 (s 5)) := T5.b1.cell 5
    have y5_5 : w5.cell? ⟨w.heap.size + 1, 5, none⟩ = some (.int .i64 d.row) := T5.b2.cell 5
    have x5_6 : w5.cell? ⟨w.heap.size, 6, none⟩ = some (.int .i64 (s 6)) := T5.b1.cell 6
    have y5_6 : w5.cell? ⟨w.heap.size + 1, 6, none⟩ = some (.slice ao6 d.rows.1 cap6) := T5.b2.cell 6
    have x5_7 : w5.cell? ⟨w.heap.size, 7, none⟩ = some (.int .i64 (s 7)) := T5.b1.cell 7
    have y5_7 : w5.cell? ⟨w.heap.size + 1, 7, none⟩ = some (.slice ao7 d.data.1 cap7) := T5.b2.cell 7
    have x5_8 : w5.cell? ⟨w.heap.size, 8, none⟩ = some (.int .i64 (s 8)) := T5.b1.cell 8
    have y5_8 : w5.cell? ⟨w.heap.size + 1, 8, none⟩ = some (.slice ao8 d.delta.1 cap8) := T5.b2.cell 8
    clear T5
    go_wp2_with fail
    refine (CR _ BC.out).mono ?_
    rintro e w6 ⟨cs6, rfl, o6, b6⟩
    obtain ⟨xo6, xc6, xo7, xc7, xo8, xc8, rfl⟩ := Rec_cells o6
    have B6 : Hid (Below w1.heap.size w1 w6) := BC.out.trans (b6.mono BC.out.size)
    clear x5_0 y5_0 x5_1 y5_1 x5_2 y5_2 x5_3 y5_3 x5_4 y5_4 x5_5 y5_5 x5_6 y5_6 x5_7 y5_7 x5_8 y5_8 b6
    go_upto_region 7 with fail
    have bA : Below w6.heap.size w6 (w6.alloc (.cells #[.int .i64 d.kind, .int .i64 d.seq, .string d.name, .int .i64 d.length, .int .i64 d.group, .int .i64 d.row, .slice xo6 d.rows.1 xc6, .slice xo7 d.data.1 xc7, .slice xo8 d.delta.1 xc8] 45)) := (Below.refl _ _).alloc (Nat.le_refl _) _
    have T7 : Two w (w6.alloc (.cells #[.int .i64 d.kind, .int .i64 d.seq, .string d.name, .int .i64 d.length, .int .i64 d.group, .int .i64 d.row, .slice xo6 d.rows.1 xc6, .slice xo7 d.data.1 xc7, .slice xo8 d.delta.1 xc8] 45)) #[.int .i64 (s 0), .int .i64 (s 1), .int .i64 (s 2), .int .i64 (s 3), .int .i64 (s 4), .int .i64 (s 5), .int .i64 (s 6), .int .i64 (s 7), .int .i64 (s 8)] #[.int .i64 d.kind, .int .i64 d.seq, .string d.name, .int .i64 d.length, .int .i64 d.group, .int .i64 d.row, .slice ao6 d.rows.1 cap6, .slice ao7 d.data.1 cap7, .slice ao8 d.delta.1 cap8] 23 41 := (HT1.out.call B6.out).call bA
    have X7 : Box (w6.alloc (.cells #[.int .i64 d.kind, .int .i64 d.seq, .string d.name, .int .i64 d.length, .int .i64 d.group, .int .i64 d.row, .slice xo6 d.rows.1 xc6, .slice xo7 d.data.1 xc7, .slice xo8 d.delta.1 xc8] 45)) w6.heap.size #[.int .i64 d.kind, .int .i64 d.seq, .string d.name, .int .i64 d.length, .int .i64 d.group, .int .i64 d.row, .slice xo6 d.rows.1 xc6, .slice xo7 d.data.1 xc7, .slice xo8 d.delta.1 xc8] 45 := box_new _ _ _
    have O7 := o6.call bA
    have B7 : Below w1.heap.size w1 (w6.alloc (.cells #[.int .i64 d.kind, .int .i64 d.seq, .string d.name, .int .i64 d.length, .int .i64 d.group, .int .i64 d.row, .slice xo6 d.rows.1 xc6, .slice xo7 d.data.1 xc7, .slice xo8 d.delta.1 xc8] 45)) := B6.out.trans (bA.mono B6.out.size)
    obtain ⟨W7, hW7⟩ : ∃ W7, W7 = w6.alloc (.cells #[.int .i64 d.kind, .int .i64 d.seq, .string d.name, .int .i64 d.length, .int .i64 d.group, .int .i64 d.row, .slice xo6 d.rows.1 xc6, .slice xo7 d.data.1 xc7, .slice xo8 d.delta.1 xc8] 45) := ⟨_, rfl⟩
    rw [← hW7] at T7 X7 O7 B7 ⊢
    have HT7 : Hid (Two w W7 #[.int .i64 (s 0), .int .i64 (s 1), .int .i64 (s 2), .int .i64 (s 3), .int .i64 (s 4), .int .i64 (s 5), .int .i64 (s 6), .int .i64 (s 7), .int .i64 (s 8)] #[.int .i64 d.kind, .int .i64 d.seq, .string d.name, .int .i64 d.length, .int .i64 d.group, .int .i64 d.row, .slice ao6 d.rows.1 cap6, .slice ao7 d.data.1 cap7, .slice ao8 d.delta.1 cap8] 23 41) := T7
    have HX7 : Hid (Box W7 w6.heap.size #[.int .i64 d.kind, .int .i64 d.seq, .string d.name, .int .i64 d.length, .int .i64 d.group, .int .i64 d.row, .slice xo6 d.rows.1 xc6, .slice xo7 d.data.1 xc7, .slice xo8 d.delta.1 xc8] 45) := X7
    have HO7 : Hid (OwnT layRec W7 w5.heap.size w6.heap.size d [.int .i64 d.kind, .int .i64 d.seq, .string d.name, .int .i64 d.length, .int .i64 d.group, .int .i64 d.row, .slice xo6 d.rows.1 xc6, .slice xo7 d.data.1 xc7, .slice xo8 d.delta.1 xc8]) := O7
    have HB7 : Hid (Below w1.heap.size w1 W7) := B7
    have z67 : w6.heap.size < W7.heap.size := X7.lt
    obtain ⟨z0, z1, z2, z3, z4, z5, z6, z7, z8⟩ := box9 X7
    have x7_0 : W7.cell? ⟨w.heap.size, 0, none⟩ = some (.int .i64 (s 0)) := T7.b1.cell 0
    have y7_0 : W7.cell? ⟨w.heap.size + 1, 0, none⟩ = some (.int .i64 d.kind) := T7.b2.cell 0
    have x7_1 : W7.cell? ⟨w.heap.size, 1, none⟩ = some (.int .i64 (s 1)) := T7.b1.cell 1
    have y7_1 : W7.cell? ⟨w.heap.size + 1, 1, none⟩ = some (.int .i64 d.seq) := T7.b2.cell 1
    have x7_2 : W7.cell? ⟨w.heap.size, 2, none⟩ = some (.int .i64 (s 2)) := T7.b1.cell 2
    have y7_2 : W7.cell? ⟨w.heap.size + 1, 2, none⟩ = some (.string d.name) := T7.b2.cell 2
    have x7_3 : W7.cell? ⟨w.heap.size, 3, none⟩ = some (.int .i64 (s 3)) := T7.b1.cell 3
    have y7_3 : W7.cell? ⟨w.heap.size + 1, 3, none⟩ = some (.int .i64 d.length) := T7.b2.cell 3
    have x7_4 : W7.cell? ⟨w.heap.size, 4, none⟩ = some (.int .i64 (s 4)) := T7.b1.cell 4
    have y7_4 : W7.cell? ⟨w.heap.size + 1, 4, none⟩ = some (.int .i64 d.group) := T7.b2.cell 4
    have x7_5 : W7.cell? ⟨w.heap.size, 5, none⟩ = some (.int .i64 (s 5)) := T7.b1.cell 5
    have y7_5 : W7.cell? ⟨w.heap.size + 1, 5, none⟩ = some (.int .i64 d.row) := T7.b2.cell 5
    have x7_6 : W7.cell? ⟨w.heap.size, 6, none⟩ = some (.int .i64 (s 6)) := T7.b1.cell 6
    have y7_6 : W7.cell? ⟨w.heap.size + 1, 6, none⟩ = some (.slice ao6 d.rows.1 cap6) := T7.b2.cell 6
    have x7_7 : W7.cell? ⟨w.heap.size, 7, none⟩ = some (.int .i64 (s 7)) := T7.b1.cell 7
    have y7_7 : W7.cell? ⟨w.heap.size + 1, 7, none⟩ = some (.slice ao7 d.data.1 cap7) := T7.b2.cell 7
    have x7_8 : W7.cell? ⟨w.heap.size, 8, none⟩ = some (.int .i64 (s 8)) := T7.b1.cell 8
    have y7_8 : W7.cell? ⟨w.heap.size + 1, 8, none⟩ = some (.slice ao8 d.delta.1 cap8) := T7.b2.cell 8
    clear T7 X7 O7 B7 bA hW7 o6
    go_cut [8] (fun v wx => v = .int .i64 X ∧ Below W7.heap.size W7 wx)
    case first =>
      go_region_with (first | (go_at_call 12; refine (CT _).mono ?_; rintro ee wa ⟨rfl, ba⟩; have bS : Below W7.heap.size W7 wa := (below_drewN (Below.refl _ _) 1).trans ba; obtain ⟨qa0, qa1, qa2, qa3, qa4, qa5, qa6, qa7, qa8⟩ := box9 (HX7.out.call bS)) | (go_at_call 14; refine (CI _ _ _ (HO7.out.call bS).rd (Nat.le_trans (Nat.le_of_lt z67) bS.size)).mono ?_; rintro ee wc' ⟨rfl, bc⟩; have bC : Below W7.heap.size W7 wc' := bS.trans (bc.mono bS.size)))
      all_goals
        go_wp2
        go_meet
        exact ⟨rfl, bC⟩
    case rest =>
      obtain ⟨rfl, b8⟩ := hcut
      obtain ⟨w8, rfl⟩ : ∃ x, x = wc := ⟨_, rfl⟩
      have T8 : Two w w8 #[.int .i64 (s 0), .int .i64 (s 1), .int .i64 (s 2), .int .i64 (s 3), .int .i64 (s 4), .int .i64 (s 5), .int .i64 (s 6), .int .i64 (s 7), .int .i64 (s 8)] #[.int .i64 d.kind, .int .i64 d.seq, .string d.name, .int .i64 d.length, .int .i64 d.group, .int .i64 d.row, .slice ao6 d.rows.1 cap6, .slice ao7 d.data.1 cap7, .slice ao8 d.delta.1 cap8] 23 41 := HT7.out.call b8
      have X8 := HX7.out.call b8
      have O8 := HO7.out.call b8
      have B8 : Hid (Below W7.heap.size W7 w8) := b8
      have HB8 : Hid (Below w1.heap.size w1 w8) := HB7.out.trans (b8.mono HB7.out.size)
      have HX8 : Hid (Box w8 w6.heap.size #[.int .i64 d.kind, .int .i64 d.seq, .string d.name, .int .i64 d.length, .int .i64 d.group, .int .i64 d.row, .slice xo6 d.rows.1 xc6, .slice xo7 d.data.1 xc7, .slice xo8 d.delta.1 xc8] 45) := X8
      have HO8 : Hid (OwnT layRec w8 w5.heap.size w6.heap.size d [.int .i64 d.kind, .int .i64 d.seq, .string d.name, .int .i64 d.length, .int .i64 d.group, .int .i64 d.row, .slice xo6 d.rows.1 xc6, .slice xo7 d.data.1 xc7, .slice xo8 d.delta.1 xc8]) := O8
      have HT8 : Hid (Two w w8 #[.int .i64 (s 0), .int .i64 (s 1), .int .i64 (s 2), .int .i64 (s 3), .int .i64 (s 4), .int .i64 (s 5), .int .i64 (s 6), .int .i64 (s 7), .int .i64 (s 8)] #[.int .i64 d.kind, .int .i64 d.seq, .string d.name, .int .i64 d.length, .int .i64 d.group, .int .i64 d.row, .slice ao6 d.rows.1 cap6, .slice ao7 d.data.1 cap7, .slice ao8 d.delta.1 cap8] 23 41) := T8
      have z68 : w6.heap.size < w8.heap.size := X8.lt
      clear x7_0 y7_0 x7_1 y7_1 x7_2 y7_2 x7_3 y7_3 x7_4 y7_4 x7_5 y7_5 x7_6 y7_6 x7_7 y7_7 x7_8 y7_8 z0 z1 z2 z3 z4 z5 z6 z7 z8 b8
      obtain ⟨z0, z1, z2, z3, z4, z5, z6, z7, z8⟩ := box9 X8
      have x8_0 : w8.cell? ⟨w.heap.size, 0, none⟩ = some (.int .i64 (s 0)) := T8.b1.cell 0
      have y8_0 : w8.cell? ⟨w.heap.size + 1, 0, none⟩ = some (.int .i64 d.kind) := T8.b2.cell 0
      have x8_1 : w8.cell? ⟨w.heap.size, 1, none⟩ = some (.int .i64 (s 1)) := T8.b1.cell 1
      have y8_1 : w8.cell? ⟨w.heap.size + 1, 1, none⟩ = some (.int .i64 d.seq) := T8.b2.cell 1
      have x8_2 : w8.cell? ⟨w.heap.size, 2, none⟩ = some (.int .i64 (s 2)) := T8.b1.cell 2
      have y8_2 : w8.cell? ⟨w.heap.size + 1, 2, none⟩ = some (.string d.name) := T8.b2.cell 2
      have x8_3 : w8.cell? ⟨w.heap.size, 3, none⟩ = some (.int .i64 (s 3)) := T8.b1.cell 3
      have y8_3 : w8.cell? ⟨w.heap.size + 1, 3, none⟩ = some (.int .i64 d.length) := T8.b2.cell 3
      have x8_4 : w8.cell? ⟨w.heap.size, 4, none⟩ = some (.int .i64 (s 4)) := T8.b1.cell 4
      have y8_4 : w8.cell? ⟨w.heap.size + 1, 4, none⟩ = some (.int .i64 d.group) := T8.b2.cell 4
      have x8_5 : w8.cell? ⟨w.heap.size, 5, none⟩ = some (.int .i64 (s 5)) := T8.b1.cell 5
      have y8_5 : w8.cell? ⟨w.heap.size + 1, 5, none⟩ = some (.int .i64 d.row) := T8.b2.cell 5
      have x8_6 : w8.cell? ⟨w.heap.size, 6, none⟩ = some (.int .i64 (s 6)) := T8.b1.cell 6
      have y8_6 : w8.cell? ⟨w.heap.size + 1, 6, none⟩ = some (.slice ao6 d.rows.1 cap6) := T8.b2.cell 6
      have x8_7 : w8.cell? ⟨w.heap.size, 7, none⟩ = some (.int .i64 (s 7)) := T8.b1.cell 7
      have y8_7 : w8.cell? ⟨w.heap.size + 1, 7, none⟩ = some (.slice ao7 d.data.1 cap7) := T8.b2.cell 7
      have x8_8 : w8.cell? ⟨w.heap.size, 8, none⟩ = some (.int .i64 (s 8)) := T8.b1.cell 8
      have y8_8 : w8.cell? ⟨w.heap.size + 1, 8, none⟩ = some (.slice ao8 d.delta.1 cap8) := T8.b2.cell 8
      clear T8 X8 O8
      go_upto_region 10 with fail
      go_cut [32] (fun v wx => v = .bool false ∧ Below w8.heap.size w8 wx)
      case first =>
        go_region_with (first | (go_at_call 13; refine (CR _ (HB8.out.trans ((below_drewN (Below.refl _ _) 1).mono HB8.out.size))).mono ?_; rintro ee wb ⟨cs', rfl, oR, bb⟩; have bR : Below w8.heap.size w8 wb := (below_drewN (Below.refl _ _) 1).trans bb; obtain ⟨qb0, qb1, qb2, qb3, qb4, qb5, qb6, qb7, qb8⟩ := box9 (HX8.out.call bR)) | (go_at_call 15; refine (eqRec_is _ _ d _ _ _ (HO8.out.call bR).rd oR.rd (Nat.le_trans (Nat.le_of_lt z68) bR.size) (Nat.le_refl _)).mono ?_; rintro ee wc' ⟨rfl, bc⟩; have bC : Below w8.heap.size w8 wc' := bR.trans (bc.mono bR.size)))
        all_goals
          go_wp2
          go_meet
          exact ⟨rfl, bC⟩
      case rest =>
        obtain ⟨rfl, b9⟩ := hcut
        have HB9 : Hid (Below w.heap.size w wc) := (HT8.out.call b9).bel
        clear b9
        go_wp2
        go_ret
        exact ⟨rfl, HB9.out⟩

set_option maxRecDepth 100000 in
theorem fnExactRecFault_lifted (os : Os) (started : os.Started) (H : Type) (enc : TypeId × Value → H) :
    ReturnsInHanded {} Try.checked os 4 .any (Rows.fnExactRecFaultSpec.pre6 enc Try.prog Try.f4 Rows.fnExactRecFaultRow.domain false) (Rows.fnExactRecFaultSpec.post enc Try.prog Try.f4 false true false false) := by
  refine returnsInHanded_of_change (C := Try.checked) frame_own started (by kernel_rfl) Try.func4
    (ChangeSpec.witness6 (enc := enc) (C := Try.checked) false ⟨#[], #[.agg #[.int .i64 0, .int .i64 0, .int .i64 0, .int .i64 0, .int .i64 0, .int .i64 0, .int .i64 0, .int .i64 0, .int .i64 0], .agg #[.int .i64 0, .int .i64 0, .string ByteArray.empty, .int .i64 0, .int .i64 0, .int .i64 0, .slice none 0 0, .slice none 0 0, .slice none 0 0]], []⟩ 8 (by kernel_rfl) (by kernel_rfl) (by kernel_rfl) (by kernel_rfl)) ?_
  intro W base args ds gs before hval0 hW hcnd _
  have hval : ∀ (j : Nat) t v, Try.f4.params[j]? = some t → args[j]? = some v → Value.okWide Try.prog W .any base t v := hval0
  have hW' := hW
  obtain ⟨p, q, hA0, hV, rfl, hfz, hnd⟩ := hW
  have hA : DataW.TrodAll enc Try.prog W 0 (fun _ => true) true Try.f4.params.toList args.toList ds p := hA0
  rw [Try.params4] at hA hval
  obtain ⟨v0, vs0, d0, ds0, p0, q0, hargs, rfl, rfl, h0, r0⟩ := trodAll_cons hA
  obtain ⟨v1, vs1, d1, ds1, p1, q1, rfl, rfl, rfl, h1, r1⟩ := trodAll_cons r0
  obtain ⟨rfl, rfl, rfl⟩ := trodAll_nil r1
  obtain rfl : args = #[v0, v1] := by cases args; simp_all
  obtain ⟨rfl, rfl⟩ := trodVars_none hV
  have k0 := h0
  have lt0 : ∀ x ∈ p0, x.block < W.heap.size := by obtain ⟨m, hm⟩ := k0; exact DataW.trod_lt m _ _ _ hm
  have k1 := h1
  have lt1 : ∀ x ∈ p1, x.block < W.heap.size := by obtain ⟨m, hm⟩ := k1; exact DataW.trod_lt m _ _ _ hm
  obtain ⟨s0, rfl, hs0⟩ := shape_of_trod Try.underlying23 Try.underlying2 (by kernel_rfl) (by kernel_rfl) (fun i hi => by
    match i, hi with
    | 0, _ => exact ⟨_, rfl, rfl, rfl⟩
    | 1, _ => exact ⟨_, rfl, rfl, rfl⟩
    | 2, _ => exact ⟨_, rfl, rfl, rfl⟩
    | 3, _ => exact ⟨_, rfl, rfl, rfl⟩
    | 4, _ => exact ⟨_, rfl, rfl, rfl⟩
    | 5, _ => exact ⟨_, rfl, rfl, rfl⟩
    | 6, _ => exact ⟨_, rfl, rfl, rfl⟩
    | 7, _ => exact ⟨_, rfl, rfl, rfl⟩
    | 8, _ => exact ⟨_, rfl, rfl, rfl⟩) (hval 0 23 v0 rfl rfl) h0
  obtain ⟨cs1, a1, rfl, rd1⟩ := struct_of_trod opensRec Try.underlying41 (hval 1 41 v1 rfl rfl) h1
  clear hA0 hval0
  refine (fnExactRecFault_walk s0 a1 cs1 W rd1).mono fun e W' ⟨he, bel⟩ => ?_
  subst he
  exact ⟨_, rfl, _, _, _, [], _, [], hW', trodAll_mk1 (shut_bool Try.underlying4 _), (trodAll_cons_mk (Below.trod frame_laid (by kernel_rfl) (of_decide_eq_true (by kernel_rfl)) k0 bel lt0) (trodAll_cons_mk (Below.trod frame_laid (by kernel_rfl) (of_decide_eq_true (by kernel_rfl)) k1 bel lt1) trodAll_mk0)), rfl, bel.frame _, fun h => by cases h⟩

theorem fnExactRecFault_proved : Rows.FnExactRecFaultSaid :=
  OpenClaim.holds_of_wide 4 Try.f4 rfl rfl rfl rfl rfl rfl rfl ⟨rfl, rfl, rfl, rfl, rfl⟩ rfl rfl rfl rfl rfl (by kernel_rfl) Try.func4 (by kernel_rfl)
    (of_decide_eq_true (by kernel_rfl)) (by unfold Func.isWrapper; first | (rw [if_pos (by decide +kernel)]; kernel_rfl) | (rw [if_neg (by decide +kernel)]; exact ⟨rfl, rfl⟩))
    (fun os started H enc _ => fnExactRecFault_lifted os started H enc)
#print axioms fnExactRecFault_proved
end Go.Proofs.Ytgpglgchbimmaaa
