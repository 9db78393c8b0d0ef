/- For every world the program's WorldFault answers as the specification's does and writes into nothing that it is handed: the law FnExactWorldFault returns true at every input, and changes nothing that was there. No condition. -/
import Derived.Test.YtgpglgchbimmaaaZFnExactWorldFaultD
import Derived.Test.YtgpglgchbimmaaaZFnExactWorldFaultC
import Derived.Test.YtgpglgchbimmaaaRows
import Derived.Test.YtgpglgchbimmaaaOpensW
import Derived.Test.YtgpglgchbimmaaaZFnExactWorldFaultA
import Derived.Test.YtgpglgchbimmaaaZFnExactWorldFaultB
import Derived.Deep.DeepCutAuto
import Derived.Deep.RegionLaw
namespace Go.Proofs.Ytgpglgchbimmaaa
open Go.RowKit F256
set_option linter.unusedVariables false
set_option linter.unusedSimpArgs false
set_option maxHeartbeats 16000000 in
theorem recIn_any (s : Nat → Int) (hs : OkShape s) (r : RecD) (cs : List Value) (hi : Nat) (w : World) (h : layRec.rd w hi r cs) (hhi : hi ≤ w.heap.size) (hk : InP r.kind 1 4) :
    Calls Try.prog 48 #[shapeV s, .agg cs.toArray] w (BoolP (KindP s r) w) := by
  obtain ⟨kind, seq, name, length, group, row, rows, data, delta⟩ := r
  obtain ⟨ao6, cap6, ao7, cap7, ao8, cap8, rfl, g6, g7, g8, k0, k1, k2, k3, k4, k5⟩ := Rec_rd h
  have HRD : Hid (layRec.rd w hi ⟨kind, seq, name, length, group, row, rows, data, delta⟩ [.int .i64 kind, .int .i64 seq, .string name, .int .i64 length, .int .i64 group, .int .i64 row, .slice ao6 rows.1 cap6, .slice ao7 data.1 cap7, .slice ao8 delta.1 cap8]) := h
  obtain ⟨v7, e7, ⟨_, _, e7', hm7, _⟩, _⟩ := g7
  cases e7
  cases e7'
  obtain ⟨v8, e8, ⟨_, _, e8', hm8, _⟩, _⟩ := g8
  cases e8
  cases e8'
  unfold maxLen at hm7 hm8
  simp only at hk hm7 hm8
  have HS : Hid (OkShape s) := hs
  have hk4 : kind = 1 ∨ kind = 2 ∨ kind = 3 ∨ kind = 4 := by unfold InP at hk; omega
  clear h g6 k0 k1 k2 k3 k4 k5 hk hs
  rcases hk4 with rfl | rfl | rfl | rfl
  · have T0 := two_newb w #[.int .i64 (s 0), .int .i64 (s 1), .int .i64 (s 2), .int .i64 (s 3), .int .i64 (s 4), .int .i64 (s 5), .int .i64 (s 6), .int .i64 (s 7), .int .i64 (s 8)] #[.int .i64 1, .int .i64 seq, .string name, .int .i64 length, .int .i64 group, .int .i64 row, .slice ao6 rows.1 cap6, .slice ao7 data.1 cap7, .slice ao8 delta.1 cap8] 31 45
    obtain ⟨t1, h1⟩ := exB (ItemP s ⟨1, seq, name, length, group, row, rows, data, delta⟩)
    have C := det_b (itemIn_any s HS.out ⟨1, seq, name, length, group, row, rows, data, delta⟩ _ hi _ (layRec.rd_below HRD.out T0.bel hhi) (Nat.le_trans hhi T0.bel.size)) h1
    have HE : Hid (KindP s ⟨1, seq, name, length, group, row, rows, data, delta⟩ ↔ t1 = true) := by
      show KindP s ⟨1, seq, name, length, group, row, rows, data, delta⟩ ↔ _
      rw [h1]
      unfold KindP
      simp
    clear h1
    unfold shapeV at C ⊢
    go_enter Try.func48, Try.ntmps48
    go_wp2_with fail
    refine C.mono ?_
    rintro e w1 ⟨rfl, b1⟩
    have HB : Hid (Below w.heap.size w w1) := (T0.call b1).bel
    clear b1 C T0
    go_wp2
    go_ret
    cases t1 with
    | true => exact boolYes rfl (HE.out.2 (by simp)) HB.out
    | false => exact boolNo rfl (fun h => by have := HE.out.1 h; simp at this) HB.out
  · have T0 := two_newb w #[.int .i64 (s 0), .int .i64 (s 1), .int .i64 (s 2), .int .i64 (s 3), .int .i64 (s 4), .int .i64 (s 5), .int .i64 (s 6), .int .i64 (s 7), .int .i64 (s 8)] #[.int .i64 2, .int .i64 seq, .string name, .int .i64 length, .int .i64 group, .int .i64 row, .slice ao6 rows.1 cap6, .slice ao7 data.1 cap7, .slice ao8 delta.1 cap8] 31 45
    obtain ⟨t1, h1⟩ := exB (InP group 0 (s 0 - 1))
    obtain ⟨t2, h2⟩ := exB (InP row 0 (s 4 - 1))
    obtain ⟨t3, h3⟩ : ∃ b, ((data.1 : Int) == s 2 * 4) = b := ⟨_, rfl⟩
    obtain ⟨t4, h4⟩ : ∃ b, ((delta.1 : Int) == s 2 * 4) = b := ⟨_, rfl⟩
    have C1 := fun w' => isDataGroup_b HS.out h1 w'
    have C2 := fun w' => isRow_b HS.out h2 w'
    have C3 := fun w' => rowLong_b HS.out (ao := ao7) (cap := cap7) (by omega) h3 w'
    have C4 := fun w' => rowLong_b HS.out (ao := ao8) (cap := cap8) (by omega) h4 w'
    have HE : Hid (KindP s ⟨2, seq, name, length, group, row, rows, data, delta⟩ ↔ (t1 = true ∧ t2 = true ∧ t3 = true ∧ t4 = true)) := by
      show KindP s ⟨2, seq, name, length, group, row, rows, data, delta⟩ ↔ _
      rw [h1, h2, ← h3, ← h4]
      unfold KindP MoveP
      simp
    clear h1 h2 h3 h4
    unfold shapeV at C1 C2 C3 C4 ⊢
    go_enter Try.func48, Try.ntmps48
    go_wp2_with fail
    refine (C1 _).mono ?_
    rintro e w1 ⟨rfl, b1⟩
    have T1 : Two w w1 #[.int .i64 (s 0), .int .i64 (s 1), .int .i64 (s 2), .int .i64 (s 3), .int .i64 (s 4), .int .i64 (s 5), .int .i64 (s 6), .int .i64 (s 7), .int .i64 (s 8)] #[.int .i64 2, .int .i64 seq, .string name, .int .i64 length, .int .i64 group, .int .i64 row, .slice ao6 rows.1 cap6, .slice ao7 data.1 cap7, .slice ao8 delta.1 cap8] 31 45 := T0.call b1
    have HB1 : Hid (Below w.heap.size w w1) := T1.bel
    clear b1
    have x1_0 : w1.cell? ⟨w.heap.size, 0, none⟩ = some (.int .i64 (s 0)) := T1.b1.cell 0
    have y1_0 : w1.cell? ⟨w.heap.size + 1, 0, none⟩ = some (.int .i64 2) := T1.b2.cell 0
    have x1_1 : w1.cell? ⟨w.heap.size, 1, none⟩ = some (.int .i64 (s 1)) := T1.b1.cell 1
    have y1_1 : w1.cell? ⟨w.heap.size + 1, 1, none⟩ = some (.int .i64 seq) := T1.b2.cell 1
    have x1_2 : w1.cell? ⟨w.heap.size, 2, none⟩ = some (.int .i64 (s 2)) := T1.b1.cell 2
    have y1_2 : w1.cell? ⟨w.heap.size + 1, 2, none⟩ = some (.string name) := T1.b2.cell 2
    have x1_3 : w1.cell? ⟨w.heap.size, 3, none⟩ = some (.int .i64 (s 3)) := T1.b1.cell 3
    have y1_3 : w1.cell? ⟨w.heap.size + 1, 3, none⟩ = some (.int .i64 length) := T1.b2.cell 3
    have x1_4 : w1.cell? ⟨w.heap.size, 4, none⟩ = some (.int .i64 (s 4)) := T1.b1.cell 4
    have y1_4 : w1.cell? ⟨w.heap.size + 1, 4, none⟩ = some (.int .i64 group) := T1.b2.cell 4
    have x1_5 : w1.cell? ⟨w.heap.size, 5, none⟩ = some (.int .i64 (s 5)) := T1.b1.cell 5
    have y1_5 : w1.cell? ⟨w.heap.size + 1, 5, none⟩ = some (.int .i64 row) := T1.b2.cell 5
    have x1_6 : w1.cell? ⟨w.heap.size, 6, none⟩ = some (.int .i64 (s 6)) := T1.b1.cell 6
    have y1_6 : w1.cell? ⟨w.heap.size + 1, 6, none⟩ = some (.slice ao6 rows.1 cap6) := T1.b2.cell 6
    have x1_7 : w1.cell? ⟨w.heap.size, 7, none⟩ = some (.int .i64 (s 7)) := T1.b1.cell 7
    have y1_7 : w1.cell? ⟨w.heap.size + 1, 7, none⟩ = some (.slice ao7 data.1 cap7) := T1.b2.cell 7
    have x1_8 : w1.cell? ⟨w.heap.size, 8, none⟩ = some (.int .i64 (s 8)) := T1.b1.cell 8
    have y1_8 : w1.cell? ⟨w.heap.size + 1, 8, none⟩ = some (.slice ao8 delta.1 cap8) := T1.b2.cell 8
    cases t1 with
    | false =>
      clear T1
      go_wp2
      go_ret
      exact boolNo rfl (fun h => by have := HE.out.1 h; simp at this) HB1.out
    | true =>
      go_wp2_with fail
      refine (C2 _).mono ?_
      rintro e w2 ⟨rfl, b2⟩
      have T2 : Two w w2 #[.int .i64 (s 0), .int .i64 (s 1), .int .i64 (s 2), .int .i64 (s 3), .int .i64 (s 4), .int .i64 (s 5), .int .i64 (s 6), .int .i64 (s 7), .int .i64 (s 8)] #[.int .i64 2, .int .i64 seq, .string name, .int .i64 length, .int .i64 group, .int .i64 row, .slice ao6 rows.1 cap6, .slice ao7 data.1 cap7, .slice ao8 delta.1 cap8] 31 45 := T1.call b2
      have HB2 : Hid (Below w.heap.size w w2) := T2.bel
      clear b2
      have x2_0 : w2.cell? ⟨w.heap.size, 0, none⟩ = some (.int .i64 (s 0)) := T2.b1.cell 0
      have y2_0 : w2.cell? ⟨w.heap.size + 1, 0, none⟩ = some (.int .i64 2) := T2.b2.cell 0
      have x2_1 : w2.cell? ⟨w.heap.size, 1, none⟩ = some (.int .i64 (s 1)) := T2.b1.cell 1
      have y2_1 : w2.cell? ⟨w.heap.size + 1, 1, none⟩ = some (.int .i64 seq) := T2.b2.cell 1
      have x2_2 : w2.cell? ⟨w.heap.size, 2, none⟩ = some (.int .i64 (s 2)) := T2.b1.cell 2
      have y2_2 : w2.cell? ⟨w.heap.size + 1, 2, none⟩ = some (.string name) := T2.b2.cell 2
      have x2_3 : w2.cell? ⟨w.heap.size, 3, none⟩ = some (.int .i64 (s 3)) := T2.b1.cell 3
      have y2_3 : w2.cell? ⟨w.heap.size + 1, 3, none⟩ = some (.int .i64 length) := T2.b2.cell 3
      have x2_4 : w2.cell? ⟨w.heap.size, 4, none⟩ = some (.int .i64 (s 4)) := T2.b1.cell 4
      have y2_4 : w2.cell? ⟨w.heap.size + 1, 4, none⟩ = some (.int .i64 group) := T2.b2.cell 4
      have x2_5 : w2.cell? ⟨w.heap.size, 5, none⟩ = some (.int .i64 (s 5)) := T2.b1.cell 5
      have y2_5 : w2.cell? ⟨w.heap.size + 1, 5, none⟩ = some (.int .i64 row) := T2.b2.cell 5
      have x2_6 : w2.cell? ⟨w.heap.size, 6, none⟩ = some (.int .i64 (s 6)) := T2.b1.cell 6
      have y2_6 : w2.cell? ⟨w.heap.size + 1, 6, none⟩ = some (.slice ao6 rows.1 cap6) := T2.b2.cell 6
      have x2_7 : w2.cell? ⟨w.heap.size, 7, none⟩ = some (.int .i64 (s 7)) := T2.b1.cell 7
      have y2_7 : w2.cell? ⟨w.heap.size + 1, 7, none⟩ = some (.slice ao7 data.1 cap7) := T2.b2.cell 7
      have x2_8 : w2.cell? ⟨w.heap.size, 8, none⟩ = some (.int .i64 (s 8)) := T2.b1.cell 8
      have y2_8 : w2.cell? ⟨w.heap.size + 1, 8, none⟩ = some (.slice ao8 delta.1 cap8) := T2.b2.cell 8
      cases t2 with
      | false =>
        clear T2
        go_wp2
        go_ret
        exact boolNo rfl (fun h => by have := HE.out.1 h; simp at this) HB2.out
      | true =>
        go_wp2_with fail
        refine (C3 _).mono ?_
        rintro e w3 ⟨rfl, b3⟩
        have T3 : Two w w3 #[.int .i64 (s 0), .int .i64 (s 1), .int .i64 (s 2), .int .i64 (s 3), .int .i64 (s 4), .int .i64 (s 5), .int .i64 (s 6), .int .i64 (s 7), .int .i64 (s 8)] #[.int .i64 2, .int .i64 seq, .string name, .int .i64 length, .int .i64 group, .int .i64 row, .slice ao6 rows.1 cap6, .slice ao7 data.1 cap7, .slice ao8 delta.1 cap8] 31 45 := T2.call b3
        have HB3 : Hid (Below w.heap.size w w3) := T3.bel
        clear b3
        have x3_0 : w3.cell? ⟨w.heap.size, 0, none⟩ = some (.int .i64 (s 0)) := T3.b1.cell 0
        have y3_0 : w3.cell? ⟨w.heap.size + 1, 0, none⟩ = some (.int .i64 2) := T3.b2.cell 0
        have x3_1 : w3.cell? ⟨w.heap.size, 1, none⟩ = some (.int .i64 (s 1)) := T3.b1.cell 1
        have y3_1 : w3.cell? ⟨w.heap.size + 1, 1, none⟩ = some (.int .i64 seq) := T3.b2.cell 1
        have x3_2 : w3.cell? ⟨w.heap.size, 2, none⟩ = some (.int .i64 (s 2)) := T3.b1.cell 2
        have y3_2 : w3.cell? ⟨w.heap.size + 1, 2, none⟩ = some (.string name) := T3.b2.cell 2
        have x3_3 : w3.cell? ⟨w.heap.size, 3, none⟩ = some (.int .i64 (s 3)) := T3.b1.cell 3
        have y3_3 : w3.cell? ⟨w.heap.size + 1, 3, none⟩ = some (.int .i64 length) := T3.b2.cell 3
        have x3_4 : w3.cell? ⟨w.heap.size, 4, none⟩ = some (.int .i64 (s 4)) := T3.b1.cell 4
        have y3_4 : w3.cell? ⟨w.heap.size + 1, 4, none⟩ = some (.int .i64 group) := T3.b2.cell 4
        have x3_5 : w3.cell? ⟨w.heap.size, 5, none⟩ = some (.int .i64 (s 5)) := T3.b1.cell 5
        have y3_5 : w3.cell? ⟨w.heap.size + 1, 5, none⟩ = some (.int .i64 row) := T3.b2.cell 5
        have x3_6 : w3.cell? ⟨w.heap.size, 6, none⟩ = some (.int .i64 (s 6)) := T3.b1.cell 6
        have y3_6 : w3.cell? ⟨w.heap.size + 1, 6, none⟩ = some (.slice ao6 rows.1 cap6) := T3.b2.cell 6
        have x3_7 : w3.cell? ⟨w.heap.size, 7, none⟩ = some (.int .i64 (s 7)) := T3.b1.cell 7
        have y3_7 : w3.cell? ⟨w.heap.size + 1, 7, none⟩ = some (.slice ao7 data.1 cap7) := T3.b2.cell 7
        have x3_8 : w3.cell? ⟨w.heap.size, 8, none⟩ = some (.int .i64 (s 8)) := T3.b1.cell 8
        have y3_8 : w3.cell? ⟨w.heap.size + 1, 8, none⟩ = some (.slice ao8 delta.1 cap8) := T3.b2.cell 8
        cases t3 with
        | false =>
          clear T3
          go_wp2
          go_ret
          exact boolNo rfl (fun h => by have := HE.out.1 h; simp at this) HB3.out
        | true =>
          go_wp2_with fail
          refine (C4 _).mono ?_
          rintro e w4 ⟨rfl, b4⟩
          have T4 : Two w w4 #[.int .i64 (s 0), .int .i64 (s 1), .int .i64 (s 2), .int .i64 (s 3), .int .i64 (s 4), .int .i64 (s 5), .int .i64 (s 6), .int .i64 (s 7), .int .i64 (s 8)] #[.int .i64 2, .int .i64 seq, .string name, .int .i64 length, .int .i64 group, .int .i64 row, .slice ao6 rows.1 cap6, .slice ao7 data.1 cap7, .slice ao8 delta.1 cap8] 31 45 := T3.call b4
          have HB4 : Hid (Below w.heap.size w w4) := T4.bel
          clear b4
          cases t4 with
          | false =>
            clear T4
            go_wp2
            go_ret
            exact boolNo rfl (fun h => by have := HE.out.1 h; simp at this) HB4.out
          | true =>
            clear T4
            go_wp2
            go_ret
            exact boolYes rfl (HE.out.2 (by simp)) HB4.out
  · have T0 := two_newb w #[.int .i64 (s 0), .int .i64 (s 1), .int .i64 (s 2), .int .i64 (s 3), .int .i64 (s 4), .int .i64 (s 5), .int .i64 (s 6), .int .i64 (s 7), .int .i64 (s 8)] #[.int .i64 3, .int .i64 seq, .string name, .int .i64 length, .int .i64 group, .int .i64 row, .slice ao6 rows.1 cap6, .slice ao7 data.1 cap7, .slice ao8 delta.1 cap8] 31 45
    obtain ⟨t1, h1⟩ := exB (InP group 0 (s 0 + s 1 - 1))
    have C := fun w' => isGroup_b HS.out h1 w'
    have HE : Hid (KindP s ⟨3, seq, name, length, group, row, rows, data, delta⟩ ↔ t1 = true) := by
      show KindP s ⟨3, seq, name, length, group, row, rows, data, delta⟩ ↔ _
      rw [h1]
      unfold KindP DoneP
      simp
    clear h1
    unfold shapeV at C ⊢
    go_enter Try.func48, Try.ntmps48
    go_wp2_with fail
    refine (C _).mono ?_
    rintro e w1 ⟨rfl, b1⟩
    have HB : Hid (Below w.heap.size w w1) := (T0.call b1).bel
    clear b1 C T0
    go_wp2
    go_ret
    cases t1 with
    | true => exact boolYes rfl (HE.out.2 (by simp)) HB.out
    | false => exact boolNo rfl (fun h => by have := HE.out.1 h; simp at this) HB.out
  · have T0 := two_newb w #[.int .i64 (s 0), .int .i64 (s 1), .int .i64 (s 2), .int .i64 (s 3), .int .i64 (s 4), .int .i64 (s 5), .int .i64 (s 6), .int .i64 (s 7), .int .i64 (s 8)] #[.int .i64 4, .int .i64 seq, .string name, .int .i64 length, .int .i64 group, .int .i64 row, .slice ao6 rows.1 cap6, .slice ao7 data.1 cap7, .slice ao8 delta.1 cap8] 31 45
    obtain ⟨t1, h1⟩ := exB (ShareP s ⟨4, seq, name, length, group, row, rows, data, delta⟩)
    have C := det_b (shareIn_any s HS.out ⟨4, seq, name, length, group, row, rows, data, delta⟩ _ hi _ (layRec.rd_below HRD.out T0.bel hhi) (Nat.le_trans hhi T0.bel.size)) h1
    have HE : Hid (KindP s ⟨4, seq, name, length, group, row, rows, data, delta⟩ ↔ t1 = true) := by
      show KindP s ⟨4, seq, name, length, group, row, rows, data, delta⟩ ↔ _
      rw [h1]
      unfold KindP
      simp
    clear h1
    unfold shapeV at C ⊢
    go_enter Try.func48, Try.ntmps48
    go_wp2_with fail
    refine C.mono ?_
    rintro e w1 ⟨rfl, b1⟩
    have HB : Hid (Below w.heap.size w w1) := (T0.call b1).bel
    clear b1 C T0
    go_wp2
    go_ret
    cases t1 with
    | true => exact boolYes rfl (HE.out.2 (by simp)) HB.out
    | false => exact boolNo rfl (fun h => by have := HE.out.1 h; simp at this) HB.out

set_option maxHeartbeats 16000000 in
set_option maxRecDepth 20000 in
theorem implRec_any (s : Nat → Int) (r : RecD) (cs : List Value) (hi : Nat) (w : World) (h : layRec.rd w hi r cs) (hhi : hi ≤ w.heap.size) (hnm : r.name.size ≤ 1048576) :
    Calls Try.prog 14 #[shapeV s, .agg cs.toArray] w (RecPost s r w) := by
  obtain ⟨kind, seq, name, length, group, row, rows, data, delta⟩ := r
  obtain ⟨ao6, cap6, ao7, cap7, ao8, cap8, rfl, -⟩ := Rec_rd h
  have HRD : Hid (layRec.rd w hi ⟨kind, seq, name, length, group, row, rows, data, delta⟩ [.int .i64 kind, .int .i64 seq, .string name, .int .i64 length, .int .i64 group, .int .i64 row, .slice ao6 rows.1 cap6, .slice ao7 data.1 cap7, .slice ao8 delta.1 cap8]) := h
  simp only at hnm
  clear h
  have T0 := two_newb w #[.int .i64 (s 0), .int .i64 (s 1), .int .i64 (s 2), .int .i64 (s 3), .int .i64 (s 4), .int .i64 (s 5), .int .i64 (s 6), .int .i64 (s 7), .int .i64 (s 8)] #[.int .i64 kind, .int .i64 seq, .string name, .int .i64 length, .int .i64 group, .int .i64 row, .slice ao6 rows.1 cap6, .slice ao7 data.1 cap7, .slice ao8 delta.1 cap8] 31 45
  have CSh := fun w' => implShape_any s w'
  unfold shapeV at CSh ⊢
  go_enter Try.func14, Try.ntmps14
  go_wp2_with fail
  refine (CSh _).mono ?_
  rintro e w1 ⟨x, rfl, hx, b1⟩
  have T1 : Two w w1 #[.int .i64 (s 0), .int .i64 (s 1), .int .i64 (s 2), .int .i64 (s 3), .int .i64 (s 4), .int .i64 (s 5), .int .i64 (s 6), .int .i64 (s 7), .int .i64 (s 8)] #[.int .i64 kind, .int .i64 seq, .string name, .int .i64 length, .int .i64 group, .int .i64 row, .slice ao6 rows.1 cap6, .slice ao7 data.1 cap7, .slice ao8 delta.1 cap8] 31 45 := T0.call b1
  have HT1 : Hid (Two w w1 #[.int .i64 (s 0), .int .i64 (s 1), .int .i64 (s 2), .int .i64 (s 3), .int .i64 (s 4), .int .i64 (s 5), .int .i64 (s 6), .int .i64 (s 7), .int .i64 (s 8)] #[.int .i64 kind, .int .i64 seq, .string name, .int .i64 length, .int .i64 group, .int .i64 row, .slice ao6 rows.1 cap6, .slice ao7 data.1 cap7, .slice ao8 delta.1 cap8] 31 45) := T1
  clear b1 T0 CSh
  have x1_0 : w1.cell? ⟨w.heap.size, 0, none⟩ = some (.int .i64 (s 0)) := T1.b1.cell 0
  have y1_0 : w1.cell? ⟨w.heap.size + 1, 0, none⟩ = some (.int .i64 kind) := T1.b2.cell 0
  have x1_1 : w1.cell? ⟨w.heap.size, 1, none⟩ = some (.int .i64 (s 1)) := T1.b1.cell 1
  have y1_1 : w1.cell? ⟨w.heap.size + 1, 1, none⟩ = some (.int .i64 seq) := T1.b2.cell 1
  have x1_2 : w1.cell? ⟨w.heap.size, 2, none⟩ = some (.int .i64 (s 2)) := T1.b1.cell 2
  have y1_2 : w1.cell? ⟨w.heap.size + 1, 2, none⟩ = some (.string name) := T1.b2.cell 2
  have x1_3 : w1.cell? ⟨w.heap.size, 3, none⟩ = some (.int .i64 (s 3)) := T1.b1.cell 3
  have y1_3 : w1.cell? ⟨w.heap.size + 1, 3, none⟩ = some (.int .i64 length) := T1.b2.cell 3
  have x1_4 : w1.cell? ⟨w.heap.size, 4, none⟩ = some (.int .i64 (s 4)) := T1.b1.cell 4
  have y1_4 : w1.cell? ⟨w.heap.size + 1, 4, none⟩ = some (.int .i64 group) := T1.b2.cell 4
  have x1_5 : w1.cell? ⟨w.heap.size, 5, none⟩ = some (.int .i64 (s 5)) := T1.b1.cell 5
  have y1_5 : w1.cell? ⟨w.heap.size + 1, 5, none⟩ = some (.int .i64 row) := T1.b2.cell 5
  have x1_6 : w1.cell? ⟨w.heap.size, 6, none⟩ = some (.int .i64 (s 6)) := T1.b1.cell 6
  have y1_6 : w1.cell? ⟨w.heap.size + 1, 6, none⟩ = some (.slice ao6 rows.1 cap6) := T1.b2.cell 6
  have x1_7 : w1.cell? ⟨w.heap.size, 7, none⟩ = some (.int .i64 (s 7)) := T1.b1.cell 7
  have y1_7 : w1.cell? ⟨w.heap.size + 1, 7, none⟩ = some (.slice ao7 data.1 cap7) := T1.b2.cell 7
  have x1_8 : w1.cell? ⟨w.heap.size, 8, none⟩ = some (.int .i64 (s 8)) := T1.b1.cell 8
  have y1_8 : w1.cell? ⟨w.heap.size + 1, 8, none⟩ = some (.slice ao8 delta.1 cap8) := T1.b2.cell 8
  clear T1
  rcases hx with ⟨rfl, hno⟩ | ⟨rfl, hok⟩
  · go_wp2
    go_ret
    exact recP rfl (Stair.fall hno) HT1.out.bel
  have HOK : Hid (OkShape s) := hok
  clear hok
  by_cases hk : InP kind 1 4
  · go_wp2_with fail
    refine (inBounds_b (t := true) (by omega) (exBT hk) _).mono ?_
    rintro e w' ⟨rfl, hw'⟩
    obtain rfl := hw'.symm
    by_cases hq : InP seq 1 1000000000
    · go_wp2_with fail
      refine (inBounds_b (t := true) (by omega) (exBT hq) _).mono ?_
      rintro e w' ⟨rfl, hw'⟩
      obtain rfl := hw'.symm
      have HK : Hid (InP kind 1 4) := hk
      have HQ : Hid (InP seq 1 1000000000) := hq
      have hk4 : kind = 1 ∨ kind = 2 ∨ kind = 3 ∨ kind = 4 := by unfold InP at hk; omega
      clear hk hq
      rcases hk4 with rfl | rfl | rfl | rfl
      · go_wp2_with fail
        refine (implName_any name hnm _).mono ?_
        rintro e w' ⟨x, rfl, hx, hw'⟩
        obtain rfl := hw'.symm
        rcases hx with ⟨rfl, hno⟩ | ⟨rfl, hyes⟩
        · go_wp2
          go_ret
          exact recP rfl (Stair.pass HOK.out (Stair.pass HK.out (Stair.pass HQ.out (Stair.fall (fun h => hno (h rfl)))))) HT1.out.bel
        have HN : Hid (NamedP ⟨1, seq, name, length, group, row, rows, data, delta⟩) := fun _ => hyes
        clear hyes
        obtain ⟨t5, h5⟩ := exB (KindP s ⟨1, seq, name, length, group, row, rows, data, delta⟩)
        have C5 := det_b (recIn_any s HOK.out ⟨1, seq, name, length, group, row, rows, data, delta⟩ _ hi w1 (layRec.rd_below HRD.out HT1.out.bel hhi) (Nat.le_trans hhi HT1.out.bel.size) HK.out) h5
        have H5 : Hid (t5 = true ↔ KindP s ⟨1, seq, name, length, group, row, rows, data, delta⟩) := h5
        unfold shapeV at C5
        clear h5
        go_wp2_with fail
        refine C5.mono ?_
        rintro e w5 ⟨rfl, b5⟩
        have T5 : Two w w5 #[.int .i64 (s 0), .int .i64 (s 1), .int .i64 (s 2), .int .i64 (s 3), .int .i64 (s 4), .int .i64 (s 5), .int .i64 (s 6), .int .i64 (s 7), .int .i64 (s 8)] #[.int .i64 1, .int .i64 seq, .string name, .int .i64 length, .int .i64 group, .int .i64 row, .slice ao6 rows.1 cap6, .slice ao7 data.1 cap7, .slice ao8 delta.1 cap8] 31 45 := HT1.out.call b5
        have HB5 : Hid (Below w.heap.size w w5) := T5.bel
        clear b5 C5
        have x5_0 : w5.cell? ⟨w.heap.size, 0, none⟩ = some (.int .i64 (s 0)) := T5.b1.cell 0
        have y5_0 : w5.cell? ⟨w.heap.size + 1, 0, none⟩ = some (.int .i64 1) := T5.b2.cell 0
        have x5_1 : w5.cell? ⟨w.heap.size, 1, none⟩ = some (.int .i64 (s 1)) := T5.b1.cell 1
        have y5_1 : w5.cell? ⟨w.heap.size + 1, 1, none⟩ = some (.int .i64 seq) := T5.b2.cell 1
        have x5_2 : w5.cell? ⟨w.heap.size, 2, none⟩ = some (.int .i64 (s 2)) := T5.b1.cell 2
        have y5_2 : w5.cell? ⟨w.heap.size + 1, 2, none⟩ = some (.string name) := T5.b2.cell 2
        have x5_3 : w5.cell? ⟨w.heap.size, 3, none⟩ = some (.int .i64 (s 3)) := T5.b1.cell 3
        have y5_3 : w5.cell? ⟨w.heap.size + 1, 3, none⟩ = some (.int .i64 length) := T5.b2.cell 3
        have x5_4 : w5.cell? ⟨w.heap.size, 4, none⟩ = some (.int .i64 (s 4)) := T5.b1.cell 4
        have y5_4 : w5.cell? ⟨w.heap.size + 1, 4, none⟩ = some (.int .i64 group) := T5.b2.cell 4
        have x5_5 : w5.cell? ⟨w.heap.size, 5, none⟩ = some (.int .i64 (s 5)) := T5.b1.cell 5
        have y5_5 : w5.cell? ⟨w.heap.size + 1, 5, none⟩ = some (.int .i64 row) := T5.b2.cell 5
        have x5_6 : w5.cell? ⟨w.heap.size, 6, none⟩ = some (.int .i64 (s 6)) := T5.b1.cell 6
        have y5_6 : w5.cell? ⟨w.heap.size + 1, 6, none⟩ = some (.slice ao6 rows.1 cap6) := T5.b2.cell 6
        have x5_7 : w5.cell? ⟨w.heap.size, 7, none⟩ = some (.int .i64 (s 7)) := T5.b1.cell 7
        have y5_7 : w5.cell? ⟨w.heap.size + 1, 7, none⟩ = some (.slice ao7 data.1 cap7) := T5.b2.cell 7
        have x5_8 : w5.cell? ⟨w.heap.size, 8, none⟩ = some (.int .i64 (s 8)) := T5.b1.cell 8
        have y5_8 : w5.cell? ⟨w.heap.size + 1, 8, none⟩ = some (.slice ao8 delta.1 cap8) := T5.b2.cell 8
        clear T5
        cases t5 with
        | false =>
          go_wp2
          go_ret
          exact recP rfl (Stair.pass HOK.out (Stair.pass HK.out (Stair.pass HQ.out (Stair.pass HN.out (Stair.fall (fun h => by have := H5.out.2 h; simp at this)))))) HB5.out
        | true =>
          have HKP : Hid (KindP s ⟨1, seq, name, length, group, row, rows, data, delta⟩) := H5.out.1 (by simp)
          go_wp2_with fail
          refine (unnamed1 seq name length group row rows data delta ao6 ao7 ao8 cap6 cap7 cap8 _).mono ?_
          rintro e w6 ⟨rfl, b6⟩
          have HB6 : Hid (Below w.heap.size w w6) := HB5.out.trans (b6.mono HB5.out.size)
          clear b6
          go_wp2_with fail
          refine (isBlank_any _ _ _ _ _ _ _ _ _ _ _ _ _ _ _ _).mono ?_
          rintro e w7 ⟨t9, rfl, ht9, b7⟩
          have HB7 : Hid (Below w.heap.size w w7) := HB6.out.trans (b7.mono HB6.out.size)
          clear b7
          have HT9 : Hid (t9 = true ↔ BlankP ⟨1, seq, name, length, group, row, rows, data, delta⟩) := by
            show t9 = true ↔ BlankP ⟨1, seq, name, length, group, row, rows, data, delta⟩
            rw [ht9]
            unfold BlankQ EmptyQ BlankP noName
            simp [and_assoc]
            try (intros; rfl)
          clear ht9
          cases t9 with
          | false =>
            go_wp2
            go_ret
            exact recP rfl (Stair.pass HOK.out (Stair.pass HK.out (Stair.pass HQ.out (Stair.pass HN.out (Stair.pass HKP.out (Stair.fall (fun h => by have := HT9.out.2 h; simp at this))))))) HB7.out
          | true =>
            go_wp2
            go_ret
            exact recP rfl (Stair.pass HOK.out (Stair.pass HK.out (Stair.pass HQ.out (Stair.pass HN.out (Stair.pass HKP.out (Stair.pass (HT9.out.1 (by simp)) (Stair.last rfl))))))) HB7.out
      · have HN : Hid (NamedP ⟨2, seq, name, length, group, row, rows, data, delta⟩) := fun h => by simp at h
        obtain ⟨t5, h5⟩ := exB (KindP s ⟨2, seq, name, length, group, row, rows, data, delta⟩)
        have C5 := det_b (recIn_any s HOK.out ⟨2, seq, name, length, group, row, rows, data, delta⟩ _ hi w1 (layRec.rd_below HRD.out HT1.out.bel hhi) (Nat.le_trans hhi HT1.out.bel.size) HK.out) h5
        have H5 : Hid (t5 = true ↔ KindP s ⟨2, seq, name, length, group, row, rows, data, delta⟩) := h5
        unfold shapeV at C5
        clear h5
        go_wp2_with fail
        refine C5.mono ?_
        rintro e w5 ⟨rfl, b5⟩
        have T5 : Two w w5 #[.int .i64 (s 0), .int .i64 (s 1), .int .i64 (s 2), .int .i64 (s 3), .int .i64 (s 4), .int .i64 (s 5), .int .i64 (s 6), .int .i64 (s 7), .int .i64 (s 8)] #[.int .i64 2, .int .i64 seq, .string name, .int .i64 length, .int .i64 group, .int .i64 row, .slice ao6 rows.1 cap6, .slice ao7 data.1 cap7, .slice ao8 delta.1 cap8] 31 45 := HT1.out.call b5
        have HB5 : Hid (Below w.heap.size w w5) := T5.bel
        clear b5 C5
        have x5_0 : w5.cell? ⟨w.heap.size, 0, none⟩ = some (.int .i64 (s 0)) := T5.b1.cell 0
        have y5_0 : w5.cell? ⟨w.heap.size + 1, 0, none⟩ = some (.int .i64 2) := T5.b2.cell 0
        have x5_1 : w5.cell? ⟨w.heap.size, 1, none⟩ = some (.int .i64 (s 1)) := T5.b1.cell 1
        have y5_1 : w5.cell? ⟨w.heap.size + 1, 1, none⟩ = some (.int .i64 seq) := T5.b2.cell 1
        have x5_2 : w5.cell? ⟨w.heap.size, 2, none⟩ = some (.int .i64 (s 2)) := T5.b1.cell 2
        have y5_2 : w5.cell? ⟨w.heap.size + 1, 2, none⟩ = some (.string name) := T5.b2.cell 2
        have x5_3 : w5.cell? ⟨w.heap.size, 3, none⟩ = some (.int .i64 (s 3)) := T5.b1.cell 3
        have y5_3 : w5.cell? ⟨w.heap.size + 1, 3, none⟩ = some (.int .i64 length) := T5.b2.cell 3
        have x5_4 : w5.cell? ⟨w.heap.size, 4, none⟩ = some (.int .i64 (s 4)) := T5.b1.cell 4
        have y5_4 : w5.cell? ⟨w.heap.size + 1, 4, none⟩ = some (.int .i64 group) := T5.b2.cell 4
        have x5_5 : w5.cell? ⟨w.heap.size, 5, none⟩ = some (.int .i64 (s 5)) := T5.b1.cell 5
        have y5_5 : w5.cell? ⟨w.heap.size + 1, 5, none⟩ = some (.int .i64 row) := T5.b2.cell 5
        have x5_6 : w5.cell? ⟨w.heap.size, 6, none⟩ = some (.int .i64 (s 6)) := T5.b1.cell 6
        have y5_6 : w5.cell? ⟨w.heap.size + 1, 6, none⟩ = some (.slice ao6 rows.1 cap6) := T5.b2.cell 6
        have x5_7 : w5.cell? ⟨w.heap.size, 7, none⟩ = some (.int .i64 (s 7)) := T5.b1.cell 7
        have y5_7 : w5.cell? ⟨w.heap.size + 1, 7, none⟩ = some (.slice ao7 data.1 cap7) := T5.b2.cell 7
        have x5_8 : w5.cell? ⟨w.heap.size, 8, none⟩ = some (.int .i64 (s 8)) := T5.b1.cell 8
        have y5_8 : w5.cell? ⟨w.heap.size + 1, 8, none⟩ = some (.slice ao8 delta.1 cap8) := T5.b2.cell 8
        clear T5
        cases t5 with
        | false =>
          go_wp2
          go_ret
          exact recP rfl (Stair.pass HOK.out (Stair.pass HK.out (Stair.pass HQ.out (Stair.pass HN.out (Stair.fall (fun h => by have := H5.out.2 h; simp at this)))))) HB5.out
        | true =>
          have HKP : Hid (KindP s ⟨2, seq, name, length, group, row, rows, data, delta⟩) := H5.out.1 (by simp)
          go_wp2_with fail
          refine (unnamed2 seq name length group row rows data delta ao6 ao7 ao8 cap6 cap7 cap8 _).mono ?_
          rintro e w6 ⟨rfl, b6⟩
          have HB6 : Hid (Below w.heap.size w w6) := HB5.out.trans (b6.mono HB5.out.size)
          clear b6
          go_wp2_with fail
          refine (isBlank_any _ _ _ _ _ _ _ _ _ _ _ _ _ _ _ _).mono ?_
          rintro e w7 ⟨t9, rfl, ht9, b7⟩
          have HB7 : Hid (Below w.heap.size w w7) := HB6.out.trans (b7.mono HB6.out.size)
          clear b7
          have HT9 : Hid (t9 = true ↔ BlankP ⟨2, seq, name, length, group, row, rows, data, delta⟩) := by
            show t9 = true ↔ BlankP ⟨2, seq, name, length, group, row, rows, data, delta⟩
            rw [ht9]
            unfold BlankQ EmptyQ BlankP noName
            simp [and_assoc]
            try (intros; rfl)
          clear ht9
          cases t9 with
          | false =>
            go_wp2
            go_ret
            exact recP rfl (Stair.pass HOK.out (Stair.pass HK.out (Stair.pass HQ.out (Stair.pass HN.out (Stair.pass HKP.out (Stair.fall (fun h => by have := HT9.out.2 h; simp at this))))))) HB7.out
          | true =>
            go_wp2
            go_ret
            exact recP rfl (Stair.pass HOK.out (Stair.pass HK.out (Stair.pass HQ.out (Stair.pass HN.out (Stair.pass HKP.out (Stair.pass (HT9.out.1 (by simp)) (Stair.last rfl))))))) HB7.out
      · have HN : Hid (NamedP ⟨3, seq, name, length, group, row, rows, data, delta⟩) := fun h => by simp at h
        obtain ⟨t5, h5⟩ := exB (KindP s ⟨3, seq, name, length, group, row, rows, data, delta⟩)
        have C5 := det_b (recIn_any s HOK.out ⟨3, seq, name, length, group, row, rows, data, delta⟩ _ hi w1 (layRec.rd_below HRD.out HT1.out.bel hhi) (Nat.le_trans hhi HT1.out.bel.size) HK.out) h5
        have H5 : Hid (t5 = true ↔ KindP s ⟨3, seq, name, length, group, row, rows, data, delta⟩) := h5
        unfold shapeV at C5
        clear h5
        go_wp2_with fail
        refine C5.mono ?_
        rintro e w5 ⟨rfl, b5⟩
        have T5 : Two w w5 #[.int .i64 (s 0), .int .i64 (s 1), .int .i64 (s 2), .int .i64 (s 3), .int .i64 (s 4), .int .i64 (s 5), .int .i64 (s 6), .int .i64 (s 7), .int .i64 (s 8)] #[.int .i64 3, .int .i64 seq, .string name, .int .i64 length, .int .i64 group, .int .i64 row, .slice ao6 rows.1 cap6, .slice ao7 data.1 cap7, .slice ao8 delta.1 cap8] 31 45 := HT1.out.call b5
        have HB5 : Hid (Below w.heap.size w w5) := T5.bel
        clear b5 C5
        have x5_0 : w5.cell? ⟨w.heap.size, 0, none⟩ = some (.int .i64 (s 0)) := T5.b1.cell 0
        have y5_0 : w5.cell? ⟨w.heap.size + 1, 0, none⟩ = some (.int .i64 3) := T5.b2.cell 0
        have x5_1 : w5.cell? ⟨w.heap.size, 1, none⟩ = some (.int .i64 (s 1)) := T5.b1.cell 1
        have y5_1 : w5.cell? ⟨w.heap.size + 1, 1, none⟩ = some (.int .i64 seq) := T5.b2.cell 1
        have x5_2 : w5.cell? ⟨w.heap.size, 2, none⟩ = some (.int .i64 (s 2)) := T5.b1.cell 2
        have y5_2 : w5.cell? ⟨w.heap.size + 1, 2, none⟩ = some (.string name) := T5.b2.cell 2
        have x5_3 : w5.cell? ⟨w.heap.size, 3, none⟩ = some (.int .i64 (s 3)) := T5.b1.cell 3
        have y5_3 : w5.cell? ⟨w.heap.size + 1, 3, none⟩ = some (.int .i64 length) := T5.b2.cell 3
        have x5_4 : w5.cell? ⟨w.heap.size, 4, none⟩ = some (.int .i64 (s 4)) := T5.b1.cell 4
        have y5_4 : w5.cell? ⟨w.heap.size + 1, 4, none⟩ = some (.int .i64 group) := T5.b2.cell 4
        have x5_5 : w5.cell? ⟨w.heap.size, 5, none⟩ = some (.int .i64 (s 5)) := T5.b1.cell 5
        have y5_5 : w5.cell? ⟨w.heap.size + 1, 5, none⟩ = some (.int .i64 row) := T5.b2.cell 5
        have x5_6 : w5.cell? ⟨w.heap.size, 6, none⟩ = some (.int .i64 (s 6)) := T5.b1.cell 6
        have y5_6 : w5.cell? ⟨w.heap.size + 1, 6, none⟩ = some (.slice ao6 rows.1 cap6) := T5.b2.cell 6
        have x5_7 : w5.cell? ⟨w.heap.size, 7, none⟩ = some (.int .i64 (s 7)) := T5.b1.cell 7
        have y5_7 : w5.cell? ⟨w.heap.size + 1, 7, none⟩ = some (.slice ao7 data.1 cap7) := T5.b2.cell 7
        have x5_8 : w5.cell? ⟨w.heap.size, 8, none⟩ = some (.int .i64 (s 8)) := T5.b1.cell 8
        have y5_8 : w5.cell? ⟨w.heap.size + 1, 8, none⟩ = some (.slice ao8 delta.1 cap8) := T5.b2.cell 8
        clear T5
        cases t5 with
        | false =>
          go_wp2
          go_ret
          exact recP rfl (Stair.pass HOK.out (Stair.pass HK.out (Stair.pass HQ.out (Stair.pass HN.out (Stair.fall (fun h => by have := H5.out.2 h; simp at this)))))) HB5.out
        | true =>
          have HKP : Hid (KindP s ⟨3, seq, name, length, group, row, rows, data, delta⟩) := H5.out.1 (by simp)
          go_wp2_with fail
          refine (unnamed3 seq name length group row rows data delta ao6 ao7 ao8 cap6 cap7 cap8 _).mono ?_
          rintro e w6 ⟨rfl, b6⟩
          have HB6 : Hid (Below w.heap.size w w6) := HB5.out.trans (b6.mono HB5.out.size)
          clear b6
          go_wp2_with fail
          refine (isBlank_any _ _ _ _ _ _ _ _ _ _ _ _ _ _ _ _).mono ?_
          rintro e w7 ⟨t9, rfl, ht9, b7⟩
          have HB7 : Hid (Below w.heap.size w w7) := HB6.out.trans (b7.mono HB6.out.size)
          clear b7
          have HT9 : Hid (t9 = true ↔ BlankP ⟨3, seq, name, length, group, row, rows, data, delta⟩) := by
            show t9 = true ↔ BlankP ⟨3, seq, name, length, group, row, rows, data, delta⟩
            rw [ht9]
            unfold BlankQ EmptyQ BlankP noName
            simp [and_assoc]
            try (intros; rfl)
          clear ht9
          cases t9 with
          | false =>
            go_wp2
            go_ret
            exact recP rfl (Stair.pass HOK.out (Stair.pass HK.out (Stair.pass HQ.out (Stair.pass HN.out (Stair.pass HKP.out (Stair.fall (fun h => by have := HT9.out.2 h; simp at this))))))) HB7.out
          | true =>
            go_wp2
            go_ret
            exact recP rfl (Stair.pass HOK.out (Stair.pass HK.out (Stair.pass HQ.out (Stair.pass HN.out (Stair.pass HKP.out (Stair.pass (HT9.out.1 (by simp)) (Stair.last rfl))))))) HB7.out
      · have HN : Hid (NamedP ⟨4, seq, name, length, group, row, rows, data, delta⟩) := fun h => by simp at h
        obtain ⟨t5, h5⟩ := exB (KindP s ⟨4, seq, name, length, group, row, rows, data, delta⟩)
        have C5 := det_b (recIn_any s HOK.out ⟨4, seq, name, length, group, row, rows, data, delta⟩ _ hi w1 (layRec.rd_below HRD.out HT1.out.bel hhi) (Nat.le_trans hhi HT1.out.bel.size) HK.out) h5
        have H5 : Hid (t5 = true ↔ KindP s ⟨4, seq, name, length, group, row, rows, data, delta⟩) := h5
        unfold shapeV at C5
        clear h5
        go_wp2_with fail
        refine C5.mono ?_
        rintro e w5 ⟨rfl, b5⟩
        have T5 : Two w w5 #[.int .i64 (s 0), .int .i64 (s 1), .int .i64 (s 2), .int .i64 (s 3), .int .i64 (s 4), .int .i64 (s 5), .int .i64 (s 6), .int .i64 (s 7), .int .i64 (s 8)] #[.int .i64 4, .int .i64 seq, .string name, .int .i64 length, .int .i64 group, .int .i64 row, .slice ao6 rows.1 cap6, .slice ao7 data.1 cap7, .slice ao8 delta.1 cap8] 31 45 := HT1.out.call b5
        have HB5 : Hid (Below w.heap.size w w5) := T5.bel
        clear b5 C5
        have x5_0 : w5.cell? ⟨w.heap.size, 0, none⟩ = some (.int .i64 (s 0)) := T5.b1.cell 0
        have y5_0 : w5.cell? ⟨w.heap.size + 1, 0, none⟩ = some (.int .i64 4) := T5.b2.cell 0
        have x5_1 : w5.cell? ⟨w.heap.size, 1, none⟩ = some (.int .i64 (s 1)) := T5.b1.cell 1
        have y5_1 : w5.cell? ⟨w.heap.size + 1, 1, none⟩ = some (.int .i64 seq) := T5.b2.cell 1
        have x5_2 : w5.cell? ⟨w.heap.size, 2, none⟩ = some (.int .i64 (s 2)) := T5.b1.cell 2
        have y5_2 : w5.cell? ⟨w.heap.size + 1, 2, none⟩ = some (.string name) := T5.b2.cell 2
        have x5_3 : w5.cell? ⟨w.heap.size, 3, none⟩ = some (.int .i64 (s 3)) := T5.b1.cell 3
        have y5_3 : w5.cell? ⟨w.heap.size + 1, 3, none⟩ = some (.int .i64 length) := T5.b2.cell 3
        have x5_4 : w5.cell? ⟨w.heap.size, 4, none⟩ = some (.int .i64 (s 4)) := T5.b1.cell 4
        have y5_4 : w5.cell? ⟨w.heap.size + 1, 4, none⟩ = some (.int .i64 group) := T5.b2.cell 4
        have x5_5 : w5.cell? ⟨w.heap.size, 5, none⟩ = some (.int .i64 (s 5)) := T5.b1.cell 5
        have y5_5 : w5.cell? ⟨w.heap.size + 1, 5, none⟩ = some (.int .i64 row) := T5.b2.cell 5
        have x5_6 : w5.cell? ⟨w.heap.size, 6, none⟩ = some (.int .i64 (s 6)) := T5.b1.cell 6
        have y5_6 : w5.cell? ⟨w.heap.size + 1, 6, none⟩ = some (.slice ao6 rows.1 cap6) := T5.b2.cell 6
        have x5_7 : w5.cell? ⟨w.heap.size, 7, none⟩ = some (.int .i64 (s 7)) := T5.b1.cell 7
        have y5_7 : w5.cell? ⟨w.heap.size + 1, 7, none⟩ = some (.slice ao7 data.1 cap7) := T5.b2.cell 7
        have x5_8 : w5.cell? ⟨w.heap.size, 8, none⟩ = some (.int .i64 (s 8)) := T5.b1.cell 8
        have y5_8 : w5.cell? ⟨w.heap.size + 1, 8, none⟩ = some (.slice ao8 delta.1 cap8) := T5.b2.cell 8
        clear T5
        cases t5 with
        | false =>
          go_wp2
          go_ret
          exact recP rfl (Stair.pass HOK.out (Stair.pass HK.out (Stair.pass HQ.out (Stair.pass HN.out (Stair.fall (fun h => by have := H5.out.2 h; simp at this)))))) HB5.out
        | true =>
          have HKP : Hid (KindP s ⟨4, seq, name, length, group, row, rows, data, delta⟩) := H5.out.1 (by simp)
          go_wp2_with fail
          refine (unnamed4 seq name length group row rows data delta ao6 ao7 ao8 cap6 cap7 cap8 _).mono ?_
          rintro e w6 ⟨rfl, b6⟩
          have HB6 : Hid (Below w.heap.size w w6) := HB5.out.trans (b6.mono HB5.out.size)
          clear b6
          go_wp2_with fail
          refine (isBlank_any _ _ _ _ _ _ _ _ _ _ _ _ _ _ _ _).mono ?_
          rintro e w7 ⟨t9, rfl, ht9, b7⟩
          have HB7 : Hid (Below w.heap.size w w7) := HB6.out.trans (b7.mono HB6.out.size)
          clear b7
          have HT9 : Hid (t9 = true ↔ BlankP ⟨4, seq, name, length, group, row, rows, data, delta⟩) := by
            show t9 = true ↔ BlankP ⟨4, seq, name, length, group, row, rows, data, delta⟩
            rw [ht9]
            unfold BlankQ EmptyQ BlankP noName
            simp [and_assoc]
            try (intros; rfl)
          clear ht9
          cases t9 with
          | false =>
            go_wp2
            go_ret
            exact recP rfl (Stair.pass HOK.out (Stair.pass HK.out (Stair.pass HQ.out (Stair.pass HN.out (Stair.pass HKP.out (Stair.fall (fun h => by have := HT9.out.2 h; simp at this))))))) HB7.out
          | true =>
            go_wp2
            go_ret
            exact recP rfl (Stair.pass HOK.out (Stair.pass HK.out (Stair.pass HQ.out (Stair.pass HN.out (Stair.pass HKP.out (Stair.pass (HT9.out.1 (by simp)) (Stair.last rfl))))))) HB7.out
    · go_wp2_with fail
      refine (inBounds_b (t := false) (by omega) (exBF hq) _).mono ?_
      rintro e w' ⟨rfl, hw'⟩
      obtain rfl := hw'.symm
      go_wp2
      go_ret
      exact recP rfl (Stair.pass HOK.out (Stair.pass hk (Stair.fall hq))) HT1.out.bel
  · go_wp2_with fail
    refine (inBounds_b (t := false) (by omega) (exBF hk) _).mono ?_
    rintro e w' ⟨rfl, hw'⟩
    obtain rfl := hw'.symm
    go_wp2
    go_ret
    exact recP rfl (Stair.pass HOK.out (Stair.fall hk)) HT1.out.bel
end Go.Proofs.Ytgpglgchbimmaaa

namespace Go.Proofs.Ytgpglgchbimmaaa
open Go.RowKit F256
set_option linter.unusedVariables false
set_option linter.unusedSimpArgs false
set_option maxHeartbeats 8000000 in
theorem onFits_any (d : WorldD) (hs : OkShape d.shape) (cs : List Value) (hi : Nat) (w : World) (h : layWorld.rd w hi d cs) (hhi : hi ≤ w.heap.size) :
    Calls Try.prog 29 #[.agg cs.toArray] w (BoolP (OnP d) w) := by
  obtain ⟨ao1, cap1, ao2, cap2, ao3, cap3, rfl, g1, g2, g3, -⟩ := World_rd h
  obtain ⟨v2, e2, ⟨h2, hcp2⟩, _⟩ := g2
  cases e2
  have H2 : Hid (RdI w hi (.slice ao2 d.on.1 cap2) d.on.1 d.on.2) := h2
  have HCP : Hid (CapP (.slice ao2 d.on.1 cap2) d.on.1) := hcp2
  have hm2 := h2.mx
  unfold maxLen at hm2
  have hb := okB hs
  have HS : Hid (OkShape d.shape) := hs
  clear h h2 hcp2 g1 g3 hs
  have T0 := one_new w #[.int .i64 (d.shape 0), .int .i64 (d.shape 1), .int .i64 (d.shape 2), .int .i64 (d.shape 3), .int .i64 (d.shape 4), .int .i64 (d.shape 5), .int .i64 (d.shape 6), .int .i64 (d.shape 7), .int .i64 (d.shape 8), .slice ao1 d.groups.1 cap1, .slice ao2 d.on.1 cap2, .slice ao3 d.tapes.1 cap3, .int .i64 d.writes, .int .i64 d.stop, .bool d.down] 35
  go_enter Try.func29, Try.ntmps29
  cases hd : d.down with
  | true =>
    obtain ⟨b0, h0⟩ : ∃ b, ((d.on.1 : Int) == 0) = b := ⟨_, rfl⟩
    have HE : Hid (OnP d ↔ b0 = true) := by
      show OnP d ↔ _
      rw [← h0]
      unfold OnP
      simp [hd]
      constructor
      · exact fun h => h.2.2
      · intro h
        refine ⟨fun i hi => by omega, by omega, h⟩
    have HB : Hid (Below w.heap.size w (w.alloc (.cells #[.int .i64 (d.shape 0), .int .i64 (d.shape 1), .int .i64 (d.shape 2), .int .i64 (d.shape 3), .int .i64 (d.shape 4), .int .i64 (d.shape 5), .int .i64 (d.shape 6), .int .i64 (d.shape 7), .int .i64 (d.shape 8), .slice ao1 d.groups.1 cap1, .slice ao2 d.on.1 cap2, .slice ao3 d.tapes.1 cap3, .int .i64 d.writes, .int .i64 d.stop, .bool true] 35))) := by
      have := T0.bel
      rw [hd] at this
      exact this
    clear T0
    cases b0 with
    | true =>
      go_wp2
      go_ret
      exact boolYes (by simp [h0]) (HE.out.2 (by simp)) HB.out
    | false =>
      go_wp2
      go_ret
      exact boolNo (by simp [h0]) (fun h => by have := HE.out.1 h; simp at this) HB.out
  | false =>
    have T1 := T0
    rw [hd] at T1
    clear T0
    go_upto_region 3 with fail
    obtain ⟨W, hW⟩ : ∃ W, W = w.alloc (.cells #[.int .i64 (d.shape 0), .int .i64 (d.shape 1), .int .i64 (d.shape 2), .int .i64 (d.shape 3), .int .i64 (d.shape 4), .int .i64 (d.shape 5), .int .i64 (d.shape 6), .int .i64 (d.shape 7), .int .i64 (d.shape 8), .slice ao1 d.groups.1 cap1, .slice ao2 d.on.1 cap2, .slice ao3 d.tapes.1 cap3, .int .i64 d.writes, .int .i64 d.stop, .bool false] 35) := ⟨_, rfl⟩
    rw [← hW] at T1 ⊢
    have HT : Hid (One w W #[.int .i64 (d.shape 0), .int .i64 (d.shape 1), .int .i64 (d.shape 2), .int .i64 (d.shape 3), .int .i64 (d.shape 4), .int .i64 (d.shape 5), .int .i64 (d.shape 6), .int .i64 (d.shape 7), .int .i64 (d.shape 8), .slice ao1 d.groups.1 cap1, .slice ao2 d.on.1 cap2, .slice ao3 d.tapes.1 cap3, .int .i64 d.writes, .int .i64 d.stop, .bool false] 35) := T1
    have x1_0 : W.cell? ⟨w.heap.size, 0, none⟩ = some (.int .i64 (d.shape 0)) := T1.b1.cell 0
    have kx1_0 := cell_regrown x1_0
    have x1_1 : W.cell? ⟨w.heap.size, 1, none⟩ = some (.int .i64 (d.shape 1)) := T1.b1.cell 1
    have kx1_1 := cell_regrown x1_1
    have x1_2 : W.cell? ⟨w.heap.size, 2, none⟩ = some (.int .i64 (d.shape 2)) := T1.b1.cell 2
    have kx1_2 := cell_regrown x1_2
    have x1_3 : W.cell? ⟨w.heap.size, 3, none⟩ = some (.int .i64 (d.shape 3)) := T1.b1.cell 3
    have kx1_3 := cell_regrown x1_3
    have x1_4 : W.cell? ⟨w.heap.size, 4, none⟩ = some (.int .i64 (d.shape 4)) := T1.b1.cell 4
    have kx1_4 := cell_regrown x1_4
    have x1_5 : W.cell? ⟨w.heap.size, 5, none⟩ = some (.int .i64 (d.shape 5)) := T1.b1.cell 5
    have kx1_5 := cell_regrown x1_5
    have x1_6 : W.cell? ⟨w.heap.size, 6, none⟩ = some (.int .i64 (d.shape 6)) := T1.b1.cell 6
    have kx1_6 := cell_regrown x1_6
    have x1_7 : W.cell? ⟨w.heap.size, 7, none⟩ = some (.int .i64 (d.shape 7)) := T1.b1.cell 7
    have kx1_7 := cell_regrown x1_7
    have x1_8 : W.cell? ⟨w.heap.size, 8, none⟩ = some (.int .i64 (d.shape 8)) := T1.b1.cell 8
    have kx1_8 := cell_regrown x1_8
    have x1_10 : W.cell? ⟨w.heap.size, 10, none⟩ = some (.slice ao2 d.on.1 cap2) := T1.b1.cell 10
    have kx1_10 := cell_regrown x1_10
    obtain ⟨b0, h0⟩ : ∃ b, decide ((d.on.1 : Int) ≤ d.shape 5) = b := ⟨_, rfl⟩
    obtain ⟨t2, h2⟩ := exB (ApartP d.on.1 d.on.2 (d.shape 0 + d.shape 1 - 1))
    have cG := q_below (W := W) (fun w' _ => groupCount_any d.shape HS.out w')
    have cD := q_below (W := W) (fun w' hw' => det_b (differWithin_any _ d.on.1 d.on.2 hi (d.shape 0 + d.shape 1) (by omega) (by omega) w' ((H2.out.below T1.bel hhi).below hw' (Nat.le_trans hhi T1.bel.size)) HCP.out (Nat.le_trans hhi (Nat.le_trans T1.bel.size hw'.size))) h2)
    unfold shapeV at cG
    have HE : Hid (OnP d ↔ (b0 = true ∧ t2 = true)) := by
      show OnP d ↔ _
      rw [← h0, h2]
      unfold OnP
      simp [hd]
      exact ⟨fun h => ⟨h.2, h.1⟩, fun h => ⟨h.2, h.1⟩⟩
    have hst : b0 = false ∨ (b0 = true ∧ t2 = false) ∨ (b0 = true ∧ t2 = true) := by
      clear HE h0 h2 cD
      cases b0 <;> simp
    clear h2 hW T1
    rcases hst with rfl | ⟨rfl, rfl⟩ | ⟨rfl, rfl⟩
    all_goals
      refine WQ.region (by kernel_rfl) (by kernel_rfl) ?_
      repeat (first | (apply WQ.skip; (case hw => rfl); intro K hK; go_simp; apply hK; clear hK K) | (apply WQ.want; (case hw => rfl); intro K hK; go_simp; first | (apply hK; clear hK K) | (apply Exists.intro; apply And.intro; (case left => intro p; (first | (go_at_call 61; exact cG _ _) | (go_at_call 64; exact cD _ _))); apply hK; clear hK K)))
      refine WQ.nil ?_
      intro w2 hw2
      have HB2 : Hid (Below w.heap.size w w2) := (HT.out.call (below_rg hw2)).bel
      clear hw2
      go_wp2
      go_ret
      first
        | exact boolNo rfl (fun h => by have := HE.out.1 h; simp at this) HB2.out
        | exact boolYes rfl (HE.out.2 (by simp)) HB2.out
end Go.Proofs.Ytgpglgchbimmaaa

namespace Go.Proofs.Ytgpglgchbimmaaa
open Go.RowKit F256
set_option linter.unusedVariables false
set_option linter.unusedSimpArgs false
set_option maxHeartbeats 8000000 in
set_option maxRecDepth 20000 in
theorem recsFault_any (d : WorldD) (cs : List Value) (hi : Nat) (w : World) (h : layWorld.rd w hi d cs) (hhi : hi ≤ w.heap.size) (hnm : ∀ t, t < d.tapes.1 → ∀ i, i < (d.tapes.2 t).recs.1 → ((d.tapes.2 t).recs.2 i).name.size ≤ 1048576) :
    Calls Try.prog 32 #[.agg cs.toArray] w (RcsPost d.shape d.tapes w) := by
  obtain ⟨ao1, cap1, ao2, cap2, ao3, cap3, rfl, g1, g2, g3, -⟩ := World_rd h
  obtain ⟨_, _, e3, hm3, hc3⟩ := g3
  cases e3
  unfold maxLen at hm3
  have HC3 : Hid (d.tapes.1 ≠ 0 → ∃ b off, ao3 = some ⟨b, off, none⟩ ∧ b < hi ∧ ∀ i, i < d.tapes.1 → ∃ ce, layTape.rd w hi (d.tapes.2 i) ce ∧ ∀ j, j < layTape.sz → w.cell? ⟨b, off + (i * layTape.sz + j), none⟩ = ce[j]?) := hc3
  have HNM : Hid (∀ t, t < d.tapes.1 → ∀ i, i < (d.tapes.2 t).recs.1 → ((d.tapes.2 t).recs.2 i).name.size ≤ 1048576) := hnm
  have HT0 : Hid (One w (w.alloc (.cells #[.int .i64 (d.shape 0), .int .i64 (d.shape 1), .int .i64 (d.shape 2), .int .i64 (d.shape 3), .int .i64 (d.shape 4), .int .i64 (d.shape 5), .int .i64 (d.shape 6), .int .i64 (d.shape 7), .int .i64 (d.shape 8), .slice ao1 d.groups.1 cap1, .slice ao2 d.on.1 cap2, .slice ao3 d.tapes.1 cap3, .int .i64 d.writes, .int .i64 d.stop, .bool d.down] 35)) #[.int .i64 (d.shape 0), .int .i64 (d.shape 1), .int .i64 (d.shape 2), .int .i64 (d.shape 3), .int .i64 (d.shape 4), .int .i64 (d.shape 5), .int .i64 (d.shape 6), .int .i64 (d.shape 7), .int .i64 (d.shape 8), .slice ao1 d.groups.1 cap1, .slice ao2 d.on.1 cap2, .slice ao3 d.tapes.1 cap3, .int .i64 d.writes, .int .i64 d.stop, .bool d.down] 35) := one_new w #[.int .i64 (d.shape 0), .int .i64 (d.shape 1), .int .i64 (d.shape 2), .int .i64 (d.shape 3), .int .i64 (d.shape 4), .int .i64 (d.shape 5), .int .i64 (d.shape 6), .int .i64 (d.shape 7), .int .i64 (d.shape 8), .slice ao1 d.groups.1 cap1, .slice ao2 d.on.1 cap2, .slice ao3 d.tapes.1 cap3, .int .i64 d.writes, .int .i64 d.stop, .bool d.down] 35
  clear h g1 g2 hc3 hnm
  go_enter Try.func32, Try.ntmps32
  go_wp2
  go_loopw [11] (fun v wr => ∃ t : Nat, t ≤ d.tapes.1 ∧ v = .int .i64 t ∧ (∀ u, u < t → ∀ k, k < (d.tapes.2 u).recs.1 → RecAns d.shape ((d.tapes.2 u).recs.2 k) 0) ∧ One w wr #[.int .i64 (d.shape 0), .int .i64 (d.shape 1), .int .i64 (d.shape 2), .int .i64 (d.shape 3), .int .i64 (d.shape 4), .int .i64 (d.shape 5), .int .i64 (d.shape 6), .int .i64 (d.shape 7), .int .i64 (d.shape 8), .slice ao1 d.groups.1 cap1, .slice ao2 d.on.1 cap2, .slice ao3 d.tapes.1 cap3, .int .i64 d.writes, .int .i64 d.stop, .bool d.down] 35) (fun v _ => d.tapes.1 - (intOf v).toNat)
  case atStart => exact ⟨0, Nat.zero_le _, rfl, fun i hi => by omega, HT0.out⟩
  case round =>
    clear HT0
    obtain ⟨t, ht, rfl, hal, T1⟩ := hrel
    obtain ⟨wo, rfl⟩ : ∃ x, x = wr := ⟨_, rfl⟩
    have HAL : Hid (∀ u, u < t → ∀ k, k < (d.tapes.2 u).recs.1 → RecAns d.shape ((d.tapes.2 u).recs.2 k) 0) := hal
    have HT1 : Hid (One w wo #[.int .i64 (d.shape 0), .int .i64 (d.shape 1), .int .i64 (d.shape 2), .int .i64 (d.shape 3), .int .i64 (d.shape 4), .int .i64 (d.shape 5), .int .i64 (d.shape 6), .int .i64 (d.shape 7), .int .i64 (d.shape 8), .slice ao1 d.groups.1 cap1, .slice ao2 d.on.1 cap2, .slice ao3 d.tapes.1 cap3, .int .i64 d.writes, .int .i64 d.stop, .bool d.down] 35) := T1
    clear hal
    by_cases hlt : t < d.tapes.1
    · obtain ⟨b3, off3, he3, hb3, hel3⟩ := HC3.out (by omega)
      subst he3
      obtain ⟨ct, hrt, hct⟩ := elem_rd (t := 0) hel3 T1.bel hhi hb3 hlt
      obtain ⟨ap, cp, rfl, gt⟩ := Tape_rd hrt
      have c0 : wo.cell? ⟨b3, off3 + t * 2, none⟩ = some (.bool (d.tapes.2 t).wiped) := hct 0 (by decide)
      have c1 : wo.cell? ⟨b3, off3 + t * 2 + 1, none⟩ = some (.slice ap (d.tapes.2 t).recs.1 cp) := hct 1 (by decide)
      obtain ⟨_, _, et, hmt, hct'⟩ := gt
      cases et
      unfold maxLen at hmt
      have HCT : Hid ((d.tapes.2 t).recs.1 ≠ 0 → ∃ b off, ap = some ⟨b, off, none⟩ ∧ b < hi ∧ ∀ i, i < (d.tapes.2 t).recs.1 → ∃ ce, layRec.rd wo hi ((d.tapes.2 t).recs.2 i) ce ∧ ∀ j, j < layRec.sz → wo.cell? ⟨b, off + (i * layRec.sz + j), none⟩ = ce[j]?) := hct'
      have zo : w.heap.size < wo.heap.size := T1.b1.lt
      clear hel3 hct hrt hct' T1
      go_upto_region 4 with fail
      have bA : Below wo.heap.size wo (wo.alloc (.cells #[.bool (d.tapes.2 t).wiped, .slice ap (d.tapes.2 t).recs.1 cp] 57)) := (Below.refl _ _).alloc (Nat.le_refl _) _
      have X2 : Box (wo.alloc (.cells #[.bool (d.tapes.2 t).wiped, .slice ap (d.tapes.2 t).recs.1 cp] 57)) wo.heap.size #[.bool (d.tapes.2 t).wiped, .slice ap (d.tapes.2 t).recs.1 cp] 57 := box_new _ _ _
      obtain ⟨W2, hW2⟩ : ∃ x, x = wo.alloc (.cells #[.bool (d.tapes.2 t).wiped, .slice ap (d.tapes.2 t).recs.1 cp] 57) := ⟨_, rfl⟩
      rw [← hW2] at bA X2 ⊢
      have y2_1 : W2.cell? ⟨wo.heap.size, 1, none⟩ = some (.slice ap (d.tapes.2 t).recs.1 cp) := X2.cell 1
      have HB2 : Hid (Below wo.heap.size wo W2) := bA
      clear c0 c1 X2 bA hW2
      go_wp2
      go_loopw [18] (fun v wx => ∃ i : Nat, i ≤ (d.tapes.2 t).recs.1 ∧ v = .int .i64 i ∧ (∀ k, k < i → RecAns d.shape ((d.tapes.2 t).recs.2 k) 0) ∧ Below wo.heap.size wo wx) (fun v _ => (d.tapes.2 t).recs.1 - (intOf v).toNat)
      case atStart => exact ⟨0, Nat.zero_le _, rfl, fun i hi => by omega, HB2.out⟩
      case round =>
        clear HB2 y2_1
        obtain ⟨i, hi', rfl, hal2, hb4⟩ := hrel
        obtain ⟨wx, rfl⟩ : ∃ x, x = wr := ⟨_, rfl⟩
        have HAL2 : Hid (∀ k, k < i → RecAns d.shape ((d.tapes.2 t).recs.2 k) 0) := hal2
        have HB4 : Hid (Below wo.heap.size wo wx) := hb4
        clear hal2
        by_cases hli : i < (d.tapes.2 t).recs.1
        · obtain ⟨b6, off6, he6, hb6, hel6⟩ := HCT.out (by omega)
          subst he6
          obtain ⟨cr, hrr, hcr⟩ := elem_rd (t := 0) hel6 hb4 (by omega) hb6 hli
          obtain ⟨ro6, rc6, ro7, rc7, ro8, rc8, rfl, -⟩ := Rec_rd hrr
          have r0 : wx.cell? ⟨b6, off6 + i * 9, none⟩ = some (.int .i64 ((d.tapes.2 t).recs.2 i).kind) := hcr 0 (by decide)
          have r1 : wx.cell? ⟨b6, off6 + i * 9 + 1, none⟩ = some (.int .i64 ((d.tapes.2 t).recs.2 i).seq) := hcr 1 (by decide)
          have r2 : wx.cell? ⟨b6, off6 + i * 9 + 2, none⟩ = some (.string ((d.tapes.2 t).recs.2 i).name) := hcr 2 (by decide)
          have r3 : wx.cell? ⟨b6, off6 + i * 9 + 3, none⟩ = some (.int .i64 ((d.tapes.2 t).recs.2 i).length) := hcr 3 (by decide)
          have r4 : wx.cell? ⟨b6, off6 + i * 9 + 4, none⟩ = some (.int .i64 ((d.tapes.2 t).recs.2 i).group) := hcr 4 (by decide)
          have r5 : wx.cell? ⟨b6, off6 + i * 9 + 5, none⟩ = some (.int .i64 ((d.tapes.2 t).recs.2 i).row) := hcr 5 (by decide)
          have r6 : wx.cell? ⟨b6, off6 + i * 9 + 6, none⟩ = some (.slice ro6 ((d.tapes.2 t).recs.2 i).rows.1 rc6) := hcr 6 (by decide)
          have r7 : wx.cell? ⟨b6, off6 + i * 9 + 7, none⟩ = some (.slice ro7 ((d.tapes.2 t).recs.2 i).data.1 rc7) := hcr 7 (by decide)
          have r8 : wx.cell? ⟨b6, off6 + i * 9 + 8, none⟩ = some (.slice ro8 ((d.tapes.2 t).recs.2 i).delta.1 rc8) := hcr 8 (by decide)
          have HRR : Hid (layRec.rd wx hi ((d.tapes.2 t).recs.2 i) [.int .i64 ((d.tapes.2 t).recs.2 i).kind, .int .i64 ((d.tapes.2 t).recs.2 i).seq, .string ((d.tapes.2 t).recs.2 i).name, .int .i64 ((d.tapes.2 t).recs.2 i).length, .int .i64 ((d.tapes.2 t).recs.2 i).group, .int .i64 ((d.tapes.2 t).recs.2 i).row, .slice ro6 ((d.tapes.2 t).recs.2 i).rows.1 rc6, .slice ro7 ((d.tapes.2 t).recs.2 i).data.1 rc7, .slice ro8 ((d.tapes.2 t).recs.2 i).delta.1 rc8]) := hrr
          have T4 : One w wx #[.int .i64 (d.shape 0), .int .i64 (d.shape 1), .int .i64 (d.shape 2), .int .i64 (d.shape 3), .int .i64 (d.shape 4), .int .i64 (d.shape 5), .int .i64 (d.shape 6), .int .i64 (d.shape 7), .int .i64 (d.shape 8), .slice ao1 d.groups.1 cap1, .slice ao2 d.on.1 cap2, .slice (some ⟨b3, off3, none⟩) d.tapes.1 cap3, .int .i64 d.writes, .int .i64 d.stop, .bool d.down] 35 := HT1.out.call hb4
          have HT4 : Hid (One w wx #[.int .i64 (d.shape 0), .int .i64 (d.shape 1), .int .i64 (d.shape 2), .int .i64 (d.shape 3), .int .i64 (d.shape 4), .int .i64 (d.shape 5), .int .i64 (d.shape 6), .int .i64 (d.shape 7), .int .i64 (d.shape 8), .slice ao1 d.groups.1 cap1, .slice ao2 d.on.1 cap2, .slice (some ⟨b3, off3, none⟩) d.tapes.1 cap3, .int .i64 d.writes, .int .i64 d.stop, .bool d.down] 35) := T4
          have zx : wo.heap.size ≤ wx.heap.size := hb4.size
          obtain ⟨X, hX⟩ : ∃ X, RecAns d.shape ((d.tapes.2 t).recs.2 i) X := stair_ex (K := isZ) ⟨0, rfl⟩ _
          have HX : Hid (RecAns d.shape ((d.tapes.2 t).recs.2 i) X) := hX
          clear hel6 hcr hrr T4 hb4 hX
          go_upto_region 7 with fail
          have bA : Below wx.heap.size wx (wx.alloc (.cells #[.int .i64 ((d.tapes.2 t).recs.2 i).kind, .int .i64 ((d.tapes.2 t).recs.2 i).seq, .string ((d.tapes.2 t).recs.2 i).name, .int .i64 ((d.tapes.2 t).recs.2 i).length, .int .i64 ((d.tapes.2 t).recs.2 i).group, .int .i64 ((d.tapes.2 t).recs.2 i).row, .slice ro6 ((d.tapes.2 t).recs.2 i).rows.1 rc6, .slice ro7 ((d.tapes.2 t).recs.2 i).data.1 rc7, .slice ro8 ((d.tapes.2 t).recs.2 i).delta.1 rc8] 45)) := (Below.refl _ _).alloc (Nat.le_refl _) _
          have X5 : Box (wx.alloc (.cells #[.int .i64 ((d.tapes.2 t).recs.2 i).kind, .int .i64 ((d.tapes.2 t).recs.2 i).seq, .string ((d.tapes.2 t).recs.2 i).name, .int .i64 ((d.tapes.2 t).recs.2 i).length, .int .i64 ((d.tapes.2 t).recs.2 i).group, .int .i64 ((d.tapes.2 t).recs.2 i).row, .slice ro6 ((d.tapes.2 t).recs.2 i).rows.1 rc6, .slice ro7 ((d.tapes.2 t).recs.2 i).data.1 rc7, .slice ro8 ((d.tapes.2 t).recs.2 i).delta.1 rc8] 45)) wx.heap.size #[.int .i64 ((d.tapes.2 t).recs.2 i).kind, .int .i64 ((d.tapes.2 t).recs.2 i).seq, .string ((d.tapes.2 t).recs.2 i).name, .int .i64 ((d.tapes.2 t).recs.2 i).length, .int .i64 ((d.tapes.2 t).recs.2 i).group, .int .i64 ((d.tapes.2 t).recs.2 i).row, .slice ro6 ((d.tapes.2 t).recs.2 i).rows.1 rc6, .slice ro7 ((d.tapes.2 t).recs.2 i).data.1 rc7, .slice ro8 ((d.tapes.2 t).recs.2 i).delta.1 rc8] 45 := box_new _ _ _
          obtain ⟨W5, hW5⟩ : ∃ x, x = wx.alloc (.cells #[.int .i64 ((d.tapes.2 t).recs.2 i).kind, .int .i64 ((d.tapes.2 t).recs.2 i).seq, .string ((d.tapes.2 t).recs.2 i).name, .int .i64 ((d.tapes.2 t).recs.2 i).length, .int .i64 ((d.tapes.2 t).recs.2 i).group, .int .i64 ((d.tapes.2 t).recs.2 i).row, .slice ro6 ((d.tapes.2 t).recs.2 i).rows.1 rc6, .slice ro7 ((d.tapes.2 t).recs.2 i).data.1 rc7, .slice ro8 ((d.tapes.2 t).recs.2 i).delta.1 rc8] 45) := ⟨_, rfl⟩
          rw [← hW5] at bA X5 ⊢
          have T5 : One w W5 #[.int .i64 (d.shape 0), .int .i64 (d.shape 1), .int .i64 (d.shape 2), .int .i64 (d.shape 3), .int .i64 (d.shape 4), .int .i64 (d.shape 5), .int .i64 (d.shape 6), .int .i64 (d.shape 7), .int .i64 (d.shape 8), .slice ao1 d.groups.1 cap1, .slice ao2 d.on.1 cap2, .slice (some ⟨b3, off3, none⟩) d.tapes.1 cap3, .int .i64 d.writes, .int .i64 d.stop, .bool d.down] 35 := HT4.out.call bA
          have y5_0 : W5.cell? ⟨wx.heap.size, 0, none⟩ = some (.int .i64 ((d.tapes.2 t).recs.2 i).kind) := X5.cell 0
          have y5_1 : W5.cell? ⟨wx.heap.size, 1, none⟩ = some (.int .i64 ((d.tapes.2 t).recs.2 i).seq) := X5.cell 1
          have y5_2 : W5.cell? ⟨wx.heap.size, 2, none⟩ = some (.string ((d.tapes.2 t).recs.2 i).name) := X5.cell 2
          have y5_3 : W5.cell? ⟨wx.heap.size, 3, none⟩ = some (.int .i64 ((d.tapes.2 t).recs.2 i).length) := X5.cell 3
          have y5_4 : W5.cell? ⟨wx.heap.size, 4, none⟩ = some (.int .i64 ((d.tapes.2 t).recs.2 i).group) := X5.cell 4
          have y5_5 : W5.cell? ⟨wx.heap.size, 5, none⟩ = some (.int .i64 ((d.tapes.2 t).recs.2 i).row) := X5.cell 5
          have y5_6 : W5.cell? ⟨wx.heap.size, 6, none⟩ = some (.slice ro6 ((d.tapes.2 t).recs.2 i).rows.1 rc6) := X5.cell 6
          have y5_7 : W5.cell? ⟨wx.heap.size, 7, none⟩ = some (.slice ro7 ((d.tapes.2 t).recs.2 i).data.1 rc7) := X5.cell 7
          have y5_8 : W5.cell? ⟨wx.heap.size, 8, none⟩ = some (.slice ro8 ((d.tapes.2 t).recs.2 i).delta.1 rc8) := X5.cell 8
          have x5_0 : W5.cell? ⟨w.heap.size, 0, none⟩ = some (.int .i64 (d.shape 0)) := T5.b1.cell 0
          have x5_1 : W5.cell? ⟨w.heap.size, 1, none⟩ = some (.int .i64 (d.shape 1)) := T5.b1.cell 1
          have x5_2 : W5.cell? ⟨w.heap.size, 2, none⟩ = some (.int .i64 (d.shape 2)) := T5.b1.cell 2
          have x5_3 : W5.cell? ⟨w.heap.size, 3, none⟩ = some (.int .i64 (d.shape 3)) := T5.b1.cell 3
          have x5_4 : W5.cell? ⟨w.heap.size, 4, none⟩ = some (.int .i64 (d.shape 4)) := T5.b1.cell 4
          have x5_5 : W5.cell? ⟨w.heap.size, 5, none⟩ = some (.int .i64 (d.shape 5)) := T5.b1.cell 5
          have x5_6 : W5.cell? ⟨w.heap.size, 6, none⟩ = some (.int .i64 (d.shape 6)) := T5.b1.cell 6
          have x5_7 : W5.cell? ⟨w.heap.size, 7, none⟩ = some (.int .i64 (d.shape 7)) := T5.b1.cell 7
          have x5_8 : W5.cell? ⟨w.heap.size, 8, none⟩ = some (.int .i64 (d.shape 8)) := T5.b1.cell 8
          have CR := rec_det HX.out (implRec_any d.shape ((d.tapes.2 t).recs.2 i) _ hi W5 (layRec.rd_below HRR.out bA (by omega)) (by have := bA.size; omega) (HNM.out t hlt i hli))
          unfold shapeV at CR
          have HB5 : Hid (Below wx.heap.size wx W5) := bA
          clear r0 r1 r2 r3 r4 r5 r6 r7 r8 bA X5 T5 hW5
          go_wp2_with fail
          refine CR.mono ?_
          rintro e w6 ⟨rfl, b6'⟩
          have HB6 : Hid (Below wo.heap.size wo w6) := HB4.out.trans ((HB5.out.trans (b6'.mono HB5.out.size)).mono HB4.out.size)
          clear b6' CR y5_0 x5_0 y5_1 x5_1 y5_2 x5_2 y5_3 x5_3 y5_4 x5_4 y5_5 x5_5 y5_6 x5_6 y5_7 x5_7 y5_8 x5_8
          by_cases hx0 : X = 0
          · subst hx0
            go_wp2
            go_roundw
            case rel => exact ⟨i + 1, by omega, by go_num, fun k hk => by
                          by_cases c : k = i
                          · subst c; exact HX.out
                          · exact HAL2.out k (by omega), HB6.out⟩
            case measure => simp [intOf]; omega
          · have hne : (X != 0) = true := by simp [hx0]
            go_wp2
            go_ret
            exact ⟨X, rfl, .inr ⟨hx0, t, i, hlt, hli, HX.out, HAL2.out, HAL.out⟩, (HT1.out.call HB6.out).bel⟩
        · obtain rfl : i = (d.tapes.2 t).recs.1 := by omega
          clear hb4
          go_wp2
          go_roundw
          case rel => exact ⟨t + 1, by omega, by go_num, fun u hu => by
                        by_cases c : u = t
                        · subst c; exact HAL2.out
                        · exact HAL.out u (by omega), HT1.out.call HB4.out⟩
          case measure => simp [intOf]; omega
    · obtain rfl : t = d.tapes.1 := by omega
      go_wp2
      go_ret
      exact ⟨0, rfl, .inl ⟨rfl, HAL.out⟩, HT1.out.bel⟩
end Go.Proofs.Ytgpglgchbimmaaa

namespace Go.Proofs.Ytgpglgchbimmaaa
open Go.RowKit F256
set_option linter.unusedVariables false
set_option linter.unusedSimpArgs false
set_option maxHeartbeats 16000000 in
set_option maxRecDepth 20000 in
theorem implWorld_any (d : WorldD) (cs : List Value) (hi : Nat) (w : World) (h : layWorld.rd w hi d cs) (hhi : hi ≤ w.heap.size) (hnm : ∀ t, t < d.tapes.1 → ∀ i, i < (d.tapes.2 t).recs.1 → ((d.tapes.2 t).recs.2 i).name.size ≤ 1048576) :
    Calls Try.prog 8 #[.agg cs.toArray] w (WldPost d w) := by
  obtain ⟨ao1, cap1, ao2, cap2, ao3, cap3, rfl, g1, g2, g3, -⟩ := World_rd h
  have HRD : Hid (layWorld.rd w hi d [.int .i64 (d.shape 0), .int .i64 (d.shape 1), .int .i64 (d.shape 2), .int .i64 (d.shape 3), .int .i64 (d.shape 4), .int .i64 (d.shape 5), .int .i64 (d.shape 6), .int .i64 (d.shape 7), .int .i64 (d.shape 8), .slice ao1 d.groups.1 cap1, .slice ao2 d.on.1 cap2, .slice ao3 d.tapes.1 cap3, .int .i64 d.writes, .int .i64 d.stop, .bool d.down]) := h
  have HG1 : Hid (((layDrive.slice 86).slice 83).rd w hi d.groups [.slice ao1 d.groups.1 cap1]) := g1
  have HG3 : Hid ((layTape.slice 57).rd w hi d.tapes [.slice ao3 d.tapes.1 cap3]) := g3
  have hm3 : d.tapes.1 ≤ maxLen := by obtain ⟨_, _, _, h, _⟩ := g3; exact h
  unfold maxLen at hm3
  have HNM : Hid (∀ t, t < d.tapes.1 → ∀ i, i < (d.tapes.2 t).recs.1 → ((d.tapes.2 t).recs.2 i).name.size ≤ 1048576) := hnm
  clear h g1 g2 g3 hnm
  have T0 := one_new w #[.int .i64 (d.shape 0), .int .i64 (d.shape 1), .int .i64 (d.shape 2), .int .i64 (d.shape 3), .int .i64 (d.shape 4), .int .i64 (d.shape 5), .int .i64 (d.shape 6), .int .i64 (d.shape 7), .int .i64 (d.shape 8), .slice ao1 d.groups.1 cap1, .slice ao2 d.on.1 cap2, .slice ao3 d.tapes.1 cap3, .int .i64 d.writes, .int .i64 d.stop, .bool d.down] 35
  have CSh := fun w' => implShape_any d.shape w'
  unfold shapeV at CSh
  go_enter Try.func8, Try.ntmps8
  go_wp2_with fail
  refine (CSh _).mono ?_
  rintro e w1 ⟨x, rfl, hx, b1⟩
  have T1 : One w w1 #[.int .i64 (d.shape 0), .int .i64 (d.shape 1), .int .i64 (d.shape 2), .int .i64 (d.shape 3), .int .i64 (d.shape 4), .int .i64 (d.shape 5), .int .i64 (d.shape 6), .int .i64 (d.shape 7), .int .i64 (d.shape 8), .slice ao1 d.groups.1 cap1, .slice ao2 d.on.1 cap2, .slice ao3 d.tapes.1 cap3, .int .i64 d.writes, .int .i64 d.stop, .bool d.down] 35 := T0.call b1
  have HT1 : Hid (One w w1 #[.int .i64 (d.shape 0), .int .i64 (d.shape 1), .int .i64 (d.shape 2), .int .i64 (d.shape 3), .int .i64 (d.shape 4), .int .i64 (d.shape 5), .int .i64 (d.shape 6), .int .i64 (d.shape 7), .int .i64 (d.shape 8), .slice ao1 d.groups.1 cap1, .slice ao2 d.on.1 cap2, .slice ao3 d.tapes.1 cap3, .int .i64 d.writes, .int .i64 d.stop, .bool d.down] 35) := T1
  clear b1 T0 CSh
  have x1_0 : w1.cell? ⟨w.heap.size, 0, none⟩ = some (.int .i64 (d.shape 0)) := T1.b1.cell 0
  have x1_1 : w1.cell? ⟨w.heap.size, 1, none⟩ = some (.int .i64 (d.shape 1)) := T1.b1.cell 1
  have x1_2 : w1.cell? ⟨w.heap.size, 2, none⟩ = some (.int .i64 (d.shape 2)) := T1.b1.cell 2
  have x1_3 : w1.cell? ⟨w.heap.size, 3, none⟩ = some (.int .i64 (d.shape 3)) := T1.b1.cell 3
  have x1_4 : w1.cell? ⟨w.heap.size, 4, none⟩ = some (.int .i64 (d.shape 4)) := T1.b1.cell 4
  have x1_5 : w1.cell? ⟨w.heap.size, 5, none⟩ = some (.int .i64 (d.shape 5)) := T1.b1.cell 5
  have x1_6 : w1.cell? ⟨w.heap.size, 6, none⟩ = some (.int .i64 (d.shape 6)) := T1.b1.cell 6
  have x1_7 : w1.cell? ⟨w.heap.size, 7, none⟩ = some (.int .i64 (d.shape 7)) := T1.b1.cell 7
  have x1_8 : w1.cell? ⟨w.heap.size, 8, none⟩ = some (.int .i64 (d.shape 8)) := T1.b1.cell 8
  have x1_9 : w1.cell? ⟨w.heap.size, 9, none⟩ = some (.slice ao1 d.groups.1 cap1) := T1.b1.cell 9
  have x1_10 : w1.cell? ⟨w.heap.size, 10, none⟩ = some (.slice ao2 d.on.1 cap2) := T1.b1.cell 10
  have x1_11 : w1.cell? ⟨w.heap.size, 11, none⟩ = some (.slice ao3 d.tapes.1 cap3) := T1.b1.cell 11
  have x1_12 : w1.cell? ⟨w.heap.size, 12, none⟩ = some (.int .i64 d.writes) := T1.b1.cell 12
  have x1_13 : w1.cell? ⟨w.heap.size, 13, none⟩ = some (.int .i64 d.stop) := T1.b1.cell 13
  have x1_14 : w1.cell? ⟨w.heap.size, 14, none⟩ = some (.bool d.down) := T1.b1.cell 14
  clear T1
  rcases hx with ⟨rfl, hno⟩ | ⟨rfl, hok⟩
  · go_wp2
    go_ret
    exact wldP rfl (Stair.fall hno) HT1.out.bel
  have HOK : Hid (OkShape d.shape) := hok
  clear hok
  obtain ⟨t1, h1⟩ := exB (BuiltP d)
  have C1 := det_b (groupsFit_any d.shape HOK.out d.groups _ hi w1 (((layDrive.slice 86).slice 83).rd_below HG1.out HT1.out.bel hhi) (Nat.le_trans hhi HT1.out.bel.size)) (show t1 = true ↔ GroupsP d.shape d.groups from h1)
  unfold shapeV at C1
  have H1 : Hid (t1 = true ↔ BuiltP d) := h1
  clear h1
  go_wp2_with fail
  refine C1.mono ?_
  rintro e w2 ⟨rfl, b2⟩
  have T2 : One w w2 #[.int .i64 (d.shape 0), .int .i64 (d.shape 1), .int .i64 (d.shape 2), .int .i64 (d.shape 3), .int .i64 (d.shape 4), .int .i64 (d.shape 5), .int .i64 (d.shape 6), .int .i64 (d.shape 7), .int .i64 (d.shape 8), .slice ao1 d.groups.1 cap1, .slice ao2 d.on.1 cap2, .slice ao3 d.tapes.1 cap3, .int .i64 d.writes, .int .i64 d.stop, .bool d.down] 35 := HT1.out.call b2
  have HT2 : Hid (One w w2 #[.int .i64 (d.shape 0), .int .i64 (d.shape 1), .int .i64 (d.shape 2), .int .i64 (d.shape 3), .int .i64 (d.shape 4), .int .i64 (d.shape 5), .int .i64 (d.shape 6), .int .i64 (d.shape 7), .int .i64 (d.shape 8), .slice ao1 d.groups.1 cap1, .slice ao2 d.on.1 cap2, .slice ao3 d.tapes.1 cap3, .int .i64 d.writes, .int .i64 d.stop, .bool d.down] 35) := T2
  clear b2 x1_0 x1_1 x1_2 x1_3 x1_4 x1_5 x1_6 x1_7 x1_8 x1_9 x1_10 x1_11 x1_12 x1_13 x1_14
  have x2_0 : w2.cell? ⟨w.heap.size, 0, none⟩ = some (.int .i64 (d.shape 0)) := T2.b1.cell 0
  have x2_1 : w2.cell? ⟨w.heap.size, 1, none⟩ = some (.int .i64 (d.shape 1)) := T2.b1.cell 1
  have x2_2 : w2.cell? ⟨w.heap.size, 2, none⟩ = some (.int .i64 (d.shape 2)) := T2.b1.cell 2
  have x2_3 : w2.cell? ⟨w.heap.size, 3, none⟩ = some (.int .i64 (d.shape 3)) := T2.b1.cell 3
  have x2_4 : w2.cell? ⟨w.heap.size, 4, none⟩ = some (.int .i64 (d.shape 4)) := T2.b1.cell 4
  have x2_5 : w2.cell? ⟨w.heap.size, 5, none⟩ = some (.int .i64 (d.shape 5)) := T2.b1.cell 5
  have x2_6 : w2.cell? ⟨w.heap.size, 6, none⟩ = some (.int .i64 (d.shape 6)) := T2.b1.cell 6
  have x2_7 : w2.cell? ⟨w.heap.size, 7, none⟩ = some (.int .i64 (d.shape 7)) := T2.b1.cell 7
  have x2_8 : w2.cell? ⟨w.heap.size, 8, none⟩ = some (.int .i64 (d.shape 8)) := T2.b1.cell 8
  have x2_9 : w2.cell? ⟨w.heap.size, 9, none⟩ = some (.slice ao1 d.groups.1 cap1) := T2.b1.cell 9
  have x2_10 : w2.cell? ⟨w.heap.size, 10, none⟩ = some (.slice ao2 d.on.1 cap2) := T2.b1.cell 10
  have x2_11 : w2.cell? ⟨w.heap.size, 11, none⟩ = some (.slice ao3 d.tapes.1 cap3) := T2.b1.cell 11
  have x2_12 : w2.cell? ⟨w.heap.size, 12, none⟩ = some (.int .i64 d.writes) := T2.b1.cell 12
  have x2_13 : w2.cell? ⟨w.heap.size, 13, none⟩ = some (.int .i64 d.stop) := T2.b1.cell 13
  have x2_14 : w2.cell? ⟨w.heap.size, 14, none⟩ = some (.bool d.down) := T2.b1.cell 14
  clear T2
  clear C1
  cases t1 with
  | false =>
    go_wp2
    go_ret
    exact wldP rfl (Stair.pass HOK.out (Stair.fall (fun h => by have := H1.out.2 h.1; simp at this))) HT2.out.bel
  | true =>
  have HB : Hid (BuiltP d) := H1.out.1 rfl
  clear H1
  obtain ⟨t2, h2⟩ := exB (OnP d)
  have C2 := det_b (onFits_any d HOK.out _ hi w2 (layWorld.rd_below HRD.out HT2.out.bel hhi) (Nat.le_trans hhi HT2.out.bel.size)) h2
  have H2 : Hid (t2 = true ↔ OnP d) := h2
  clear h2
  go_wp2_with fail
  refine C2.mono ?_
  rintro e w3 ⟨rfl, b3⟩
  have T3 : One w w3 #[.int .i64 (d.shape 0), .int .i64 (d.shape 1), .int .i64 (d.shape 2), .int .i64 (d.shape 3), .int .i64 (d.shape 4), .int .i64 (d.shape 5), .int .i64 (d.shape 6), .int .i64 (d.shape 7), .int .i64 (d.shape 8), .slice ao1 d.groups.1 cap1, .slice ao2 d.on.1 cap2, .slice ao3 d.tapes.1 cap3, .int .i64 d.writes, .int .i64 d.stop, .bool d.down] 35 := HT2.out.call b3
  have HT3 : Hid (One w w3 #[.int .i64 (d.shape 0), .int .i64 (d.shape 1), .int .i64 (d.shape 2), .int .i64 (d.shape 3), .int .i64 (d.shape 4), .int .i64 (d.shape 5), .int .i64 (d.shape 6), .int .i64 (d.shape 7), .int .i64 (d.shape 8), .slice ao1 d.groups.1 cap1, .slice ao2 d.on.1 cap2, .slice ao3 d.tapes.1 cap3, .int .i64 d.writes, .int .i64 d.stop, .bool d.down] 35) := T3
  clear b3 x2_0 x2_1 x2_2 x2_3 x2_4 x2_5 x2_6 x2_7 x2_8 x2_9 x2_10 x2_11 x2_12 x2_13 x2_14
  have x3_0 : w3.cell? ⟨w.heap.size, 0, none⟩ = some (.int .i64 (d.shape 0)) := T3.b1.cell 0
  have x3_1 : w3.cell? ⟨w.heap.size, 1, none⟩ = some (.int .i64 (d.shape 1)) := T3.b1.cell 1
  have x3_2 : w3.cell? ⟨w.heap.size, 2, none⟩ = some (.int .i64 (d.shape 2)) := T3.b1.cell 2
  have x3_3 : w3.cell? ⟨w.heap.size, 3, none⟩ = some (.int .i64 (d.shape 3)) := T3.b1.cell 3
  have x3_4 : w3.cell? ⟨w.heap.size, 4, none⟩ = some (.int .i64 (d.shape 4)) := T3.b1.cell 4
  have x3_5 : w3.cell? ⟨w.heap.size, 5, none⟩ = some (.int .i64 (d.shape 5)) := T3.b1.cell 5
  have x3_6 : w3.cell? ⟨w.heap.size, 6, none⟩ = some (.int .i64 (d.shape 6)) := T3.b1.cell 6
  have x3_7 : w3.cell? ⟨w.heap.size, 7, none⟩ = some (.int .i64 (d.shape 7)) := T3.b1.cell 7
  have x3_8 : w3.cell? ⟨w.heap.size, 8, none⟩ = some (.int .i64 (d.shape 8)) := T3.b1.cell 8
  have x3_9 : w3.cell? ⟨w.heap.size, 9, none⟩ = some (.slice ao1 d.groups.1 cap1) := T3.b1.cell 9
  have x3_10 : w3.cell? ⟨w.heap.size, 10, none⟩ = some (.slice ao2 d.on.1 cap2) := T3.b1.cell 10
  have x3_11 : w3.cell? ⟨w.heap.size, 11, none⟩ = some (.slice ao3 d.tapes.1 cap3) := T3.b1.cell 11
  have x3_12 : w3.cell? ⟨w.heap.size, 12, none⟩ = some (.int .i64 d.writes) := T3.b1.cell 12
  have x3_13 : w3.cell? ⟨w.heap.size, 13, none⟩ = some (.int .i64 d.stop) := T3.b1.cell 13
  have x3_14 : w3.cell? ⟨w.heap.size, 14, none⟩ = some (.bool d.down) := T3.b1.cell 14
  clear T3
  clear C2
  cases t2 with
  | false =>
    go_wp2
    go_ret
    exact wldP rfl (Stair.pass HOK.out (Stair.fall (fun h => by have := H2.out.2 h.2.1; simp at this))) HT3.out.bel
  | true =>
  have HO : Hid (OnP d) := H2.out.1 rfl
  clear H2
  by_cases h5 : d.tapes.1 = 2
  · have n5 : ((d.tapes.1 : Int) != 2) = false := by simp; omega
    have HFM : Hid (FormP d) := ⟨HB.out, HO.out, h5⟩
    clear h5
    obtain ⟨t4, h4⟩ := exB (Any_overfull d.tapes)
    have C4 := det_b (contains_overfull d.tapes _ _ hi w3 ((layTape.slice 57).rd_below HG3.out HT3.out.bel hhi) (Nat.le_trans hhi HT3.out.bel.size)) h4
    have H4 : Hid (t4 = true ↔ Any_overfull d.tapes) := h4
    clear h4
    go_wp2_with fail
    refine C4.mono ?_
    rintro e w4 ⟨rfl, b4⟩
    have T4 : One w w4 #[.int .i64 (d.shape 0), .int .i64 (d.shape 1), .int .i64 (d.shape 2), .int .i64 (d.shape 3), .int .i64 (d.shape 4), .int .i64 (d.shape 5), .int .i64 (d.shape 6), .int .i64 (d.shape 7), .int .i64 (d.shape 8), .slice ao1 d.groups.1 cap1, .slice ao2 d.on.1 cap2, .slice ao3 d.tapes.1 cap3, .int .i64 d.writes, .int .i64 d.stop, .bool d.down] 35 := HT3.out.call b4
    have HT4 : Hid (One w w4 #[.int .i64 (d.shape 0), .int .i64 (d.shape 1), .int .i64 (d.shape 2), .int .i64 (d.shape 3), .int .i64 (d.shape 4), .int .i64 (d.shape 5), .int .i64 (d.shape 6), .int .i64 (d.shape 7), .int .i64 (d.shape 8), .slice ao1 d.groups.1 cap1, .slice ao2 d.on.1 cap2, .slice ao3 d.tapes.1 cap3, .int .i64 d.writes, .int .i64 d.stop, .bool d.down] 35) := T4
    clear b4 x3_0 x3_1 x3_2 x3_3 x3_4 x3_5 x3_6 x3_7 x3_8 x3_9 x3_10 x3_11 x3_12 x3_13 x3_14
    have x4_0 : w4.cell? ⟨w.heap.size, 0, none⟩ = some (.int .i64 (d.shape 0)) := T4.b1.cell 0
    have x4_1 : w4.cell? ⟨w.heap.size, 1, none⟩ = some (.int .i64 (d.shape 1)) := T4.b1.cell 1
    have x4_2 : w4.cell? ⟨w.heap.size, 2, none⟩ = some (.int .i64 (d.shape 2)) := T4.b1.cell 2
    have x4_3 : w4.cell? ⟨w.heap.size, 3, none⟩ = some (.int .i64 (d.shape 3)) := T4.b1.cell 3
    have x4_4 : w4.cell? ⟨w.heap.size, 4, none⟩ = some (.int .i64 (d.shape 4)) := T4.b1.cell 4
    have x4_5 : w4.cell? ⟨w.heap.size, 5, none⟩ = some (.int .i64 (d.shape 5)) := T4.b1.cell 5
    have x4_6 : w4.cell? ⟨w.heap.size, 6, none⟩ = some (.int .i64 (d.shape 6)) := T4.b1.cell 6
    have x4_7 : w4.cell? ⟨w.heap.size, 7, none⟩ = some (.int .i64 (d.shape 7)) := T4.b1.cell 7
    have x4_8 : w4.cell? ⟨w.heap.size, 8, none⟩ = some (.int .i64 (d.shape 8)) := T4.b1.cell 8
    have x4_9 : w4.cell? ⟨w.heap.size, 9, none⟩ = some (.slice ao1 d.groups.1 cap1) := T4.b1.cell 9
    have x4_10 : w4.cell? ⟨w.heap.size, 10, none⟩ = some (.slice ao2 d.on.1 cap2) := T4.b1.cell 10
    have x4_11 : w4.cell? ⟨w.heap.size, 11, none⟩ = some (.slice ao3 d.tapes.1 cap3) := T4.b1.cell 11
    have x4_12 : w4.cell? ⟨w.heap.size, 12, none⟩ = some (.int .i64 d.writes) := T4.b1.cell 12
    have x4_13 : w4.cell? ⟨w.heap.size, 13, none⟩ = some (.int .i64 d.stop) := T4.b1.cell 13
    have x4_14 : w4.cell? ⟨w.heap.size, 14, none⟩ = some (.bool d.down) := T4.b1.cell 14
    clear T4
    clear C4
    cases t4 with
    | true =>
      go_wp2
      go_ret
      exact wldP rfl (Stair.pass HOK.out (Stair.pass HFM.out (Stair.fall (fun h => by
        obtain ⟨t, ht, hh⟩ := H4.out.1 (by simp)
        have := h t ht
        omega)))) HT4.out.bel
    | false =>
    have HFW : Hid (FewP d) := fun t ht => by
      by_cases c : 200 < (d.tapes.2 t).recs.1
      · have := H4.out.2 ⟨t, ht, c⟩
        simp at this
      · omega
    clear H4
    have C5 := recsFault_any d _ hi w4 (layWorld.rd_below HRD.out HT4.out.bel hhi) (Nat.le_trans hhi HT4.out.bel.size) HNM.out
    go_wp2_with fail
    refine C5.mono ?_
    rintro e w5 ⟨X, rfl, hX, b5⟩
    have T5 : One w w5 #[.int .i64 (d.shape 0), .int .i64 (d.shape 1), .int .i64 (d.shape 2), .int .i64 (d.shape 3), .int .i64 (d.shape 4), .int .i64 (d.shape 5), .int .i64 (d.shape 6), .int .i64 (d.shape 7), .int .i64 (d.shape 8), .slice ao1 d.groups.1 cap1, .slice ao2 d.on.1 cap2, .slice ao3 d.tapes.1 cap3, .int .i64 d.writes, .int .i64 d.stop, .bool d.down] 35 := HT4.out.call b5
    have HT5 : Hid (One w w5 #[.int .i64 (d.shape 0), .int .i64 (d.shape 1), .int .i64 (d.shape 2), .int .i64 (d.shape 3), .int .i64 (d.shape 4), .int .i64 (d.shape 5), .int .i64 (d.shape 6), .int .i64 (d.shape 7), .int .i64 (d.shape 8), .slice ao1 d.groups.1 cap1, .slice ao2 d.on.1 cap2, .slice ao3 d.tapes.1 cap3, .int .i64 d.writes, .int .i64 d.stop, .bool d.down] 35) := T5
    clear b5 x4_0 x4_1 x4_2 x4_3 x4_4 x4_5 x4_6 x4_7 x4_8 x4_9 x4_10 x4_11 x4_12 x4_13 x4_14
    have x5_0 : w5.cell? ⟨w.heap.size, 0, none⟩ = some (.int .i64 (d.shape 0)) := T5.b1.cell 0
    have x5_1 : w5.cell? ⟨w.heap.size, 1, none⟩ = some (.int .i64 (d.shape 1)) := T5.b1.cell 1
    have x5_2 : w5.cell? ⟨w.heap.size, 2, none⟩ = some (.int .i64 (d.shape 2)) := T5.b1.cell 2
    have x5_3 : w5.cell? ⟨w.heap.size, 3, none⟩ = some (.int .i64 (d.shape 3)) := T5.b1.cell 3
    have x5_4 : w5.cell? ⟨w.heap.size, 4, none⟩ = some (.int .i64 (d.shape 4)) := T5.b1.cell 4
    have x5_5 : w5.cell? ⟨w.heap.size, 5, none⟩ = some (.int .i64 (d.shape 5)) := T5.b1.cell 5
    have x5_6 : w5.cell? ⟨w.heap.size, 6, none⟩ = some (.int .i64 (d.shape 6)) := T5.b1.cell 6
    have x5_7 : w5.cell? ⟨w.heap.size, 7, none⟩ = some (.int .i64 (d.shape 7)) := T5.b1.cell 7
    have x5_8 : w5.cell? ⟨w.heap.size, 8, none⟩ = some (.int .i64 (d.shape 8)) := T5.b1.cell 8
    have x5_9 : w5.cell? ⟨w.heap.size, 9, none⟩ = some (.slice ao1 d.groups.1 cap1) := T5.b1.cell 9
    have x5_10 : w5.cell? ⟨w.heap.size, 10, none⟩ = some (.slice ao2 d.on.1 cap2) := T5.b1.cell 10
    have x5_11 : w5.cell? ⟨w.heap.size, 11, none⟩ = some (.slice ao3 d.tapes.1 cap3) := T5.b1.cell 11
    have x5_12 : w5.cell? ⟨w.heap.size, 12, none⟩ = some (.int .i64 d.writes) := T5.b1.cell 12
    have x5_13 : w5.cell? ⟨w.heap.size, 13, none⟩ = some (.int .i64 d.stop) := T5.b1.cell 13
    have x5_14 : w5.cell? ⟨w.heap.size, 14, none⟩ = some (.bool d.down) := T5.b1.cell 14
    clear T5
    clear C5
    by_cases hx0 : X = 0
    · subst hx0
      have HRZ : Hid (RecsAns d.shape d.tapes.1 d.tapes.2 0) := hX
      clear hX
      obtain ⟨t6, h6⟩ := exB (Any_wipedWithRecs d.tapes)
      have C6 := det_b (contains_wipedWithRecs d.tapes _ _ hi w5 ((layTape.slice 57).rd_below HG3.out HT5.out.bel hhi) (Nat.le_trans hhi HT5.out.bel.size)) h6
      have H6 : Hid (t6 = true ↔ Any_wipedWithRecs d.tapes) := h6
      clear h6
      go_wp2_with fail
      refine C6.mono ?_
      rintro e w6 ⟨rfl, b6⟩
      have T6 : One w w6 #[.int .i64 (d.shape 0), .int .i64 (d.shape 1), .int .i64 (d.shape 2), .int .i64 (d.shape 3), .int .i64 (d.shape 4), .int .i64 (d.shape 5), .int .i64 (d.shape 6), .int .i64 (d.shape 7), .int .i64 (d.shape 8), .slice ao1 d.groups.1 cap1, .slice ao2 d.on.1 cap2, .slice ao3 d.tapes.1 cap3, .int .i64 d.writes, .int .i64 d.stop, .bool d.down] 35 := HT5.out.call b6
      have HT6 : Hid (One w w6 #[.int .i64 (d.shape 0), .int .i64 (d.shape 1), .int .i64 (d.shape 2), .int .i64 (d.shape 3), .int .i64 (d.shape 4), .int .i64 (d.shape 5), .int .i64 (d.shape 6), .int .i64 (d.shape 7), .int .i64 (d.shape 8), .slice ao1 d.groups.1 cap1, .slice ao2 d.on.1 cap2, .slice ao3 d.tapes.1 cap3, .int .i64 d.writes, .int .i64 d.stop, .bool d.down] 35) := T6
      clear b6 x5_0 x5_1 x5_2 x5_3 x5_4 x5_5 x5_6 x5_7 x5_8 x5_9 x5_10 x5_11 x5_12 x5_13 x5_14
      have x6_0 : w6.cell? ⟨w.heap.size, 0, none⟩ = some (.int .i64 (d.shape 0)) := T6.b1.cell 0
      have x6_1 : w6.cell? ⟨w.heap.size, 1, none⟩ = some (.int .i64 (d.shape 1)) := T6.b1.cell 1
      have x6_2 : w6.cell? ⟨w.heap.size, 2, none⟩ = some (.int .i64 (d.shape 2)) := T6.b1.cell 2
      have x6_3 : w6.cell? ⟨w.heap.size, 3, none⟩ = some (.int .i64 (d.shape 3)) := T6.b1.cell 3
      have x6_4 : w6.cell? ⟨w.heap.size, 4, none⟩ = some (.int .i64 (d.shape 4)) := T6.b1.cell 4
      have x6_5 : w6.cell? ⟨w.heap.size, 5, none⟩ = some (.int .i64 (d.shape 5)) := T6.b1.cell 5
      have x6_6 : w6.cell? ⟨w.heap.size, 6, none⟩ = some (.int .i64 (d.shape 6)) := T6.b1.cell 6
      have x6_7 : w6.cell? ⟨w.heap.size, 7, none⟩ = some (.int .i64 (d.shape 7)) := T6.b1.cell 7
      have x6_8 : w6.cell? ⟨w.heap.size, 8, none⟩ = some (.int .i64 (d.shape 8)) := T6.b1.cell 8
      have x6_9 : w6.cell? ⟨w.heap.size, 9, none⟩ = some (.slice ao1 d.groups.1 cap1) := T6.b1.cell 9
      have x6_10 : w6.cell? ⟨w.heap.size, 10, none⟩ = some (.slice ao2 d.on.1 cap2) := T6.b1.cell 10
      have x6_11 : w6.cell? ⟨w.heap.size, 11, none⟩ = some (.slice ao3 d.tapes.1 cap3) := T6.b1.cell 11
      have x6_12 : w6.cell? ⟨w.heap.size, 12, none⟩ = some (.int .i64 d.writes) := T6.b1.cell 12
      have x6_13 : w6.cell? ⟨w.heap.size, 13, none⟩ = some (.int .i64 d.stop) := T6.b1.cell 13
      have x6_14 : w6.cell? ⟨w.heap.size, 14, none⟩ = some (.bool d.down) := T6.b1.cell 14
      clear T6
      clear C6
      cases t6 with
      | true =>
        go_wp2
        go_ret
        exact wldP rfl (Stair.pass HOK.out (Stair.pass HFM.out (Stair.pass HFW.out (Stair.last (.inr ⟨HRZ.out, Stair.fall (fun h => by obtain ⟨t, ht, h1, h2⟩ := H6.out.1 (by simp); have := h t ht h1; omega)⟩))))) HT6.out.bel
      | false =>
      have HCL : Hid (CleanP d) := fun t ht hw => by
        by_cases c : 0 < (d.tapes.2 t).recs.1
        · have := H6.out.2 ⟨t, ht, hw, c⟩
          simp at this
        · omega
      clear H6
      by_cases h7 : InP d.writes 0 1000000000
      · go_wp2_with fail
        refine (inBounds_b (t := true) (by omega) (exBT h7) _).mono ?_
        rintro e w' ⟨rfl, hw'⟩
        obtain rfl := hw'.symm
        by_cases h8 : InP d.stop (-1) 1000000000
        · go_wp2_with fail
          refine (inBounds_b (t := true) (by omega) (exBT h8) _).mono ?_
          rintro e w' ⟨rfl, hw'⟩
          obtain rfl := hw'.symm
          go_wp2
          go_ret
          exact wldP rfl (Stair.pass HOK.out (Stair.pass HFM.out (Stair.pass HFW.out (Stair.last (.inr ⟨HRZ.out, Stair.pass HCL.out (Stair.pass ⟨h7, h8⟩ (Stair.last rfl))⟩))))) HT6.out.bel
        · go_wp2_with fail
          refine (inBounds_b (t := false) (by omega) (exBF h8) _).mono ?_
          rintro e w' ⟨rfl, hw'⟩
          obtain rfl := hw'.symm
          go_wp2
          go_ret
          exact wldP rfl (Stair.pass HOK.out (Stair.pass HFM.out (Stair.pass HFW.out (Stair.last (.inr ⟨HRZ.out, Stair.pass HCL.out (Stair.fall (fun h => h8 h.2))⟩))))) HT6.out.bel
      · go_wp2_with fail
        refine (inBounds_b (t := false) (by omega) (exBF h7) _).mono ?_
        rintro e w' ⟨rfl, hw'⟩
        obtain rfl := hw'.symm
        go_wp2
        go_ret
        exact wldP rfl (Stair.pass HOK.out (Stair.pass HFM.out (Stair.pass HFW.out (Stair.last (.inr ⟨HRZ.out, Stair.pass HCL.out (Stair.fall (fun h => h7 h.1))⟩))))) HT6.out.bel
    · have hne : (X != 0) = true := by simp [hx0]
      go_wp2
      go_ret
      exact wldP rfl (Stair.pass HOK.out (Stair.pass HFM.out (Stair.pass HFW.out (Stair.last (.inl ⟨hx0, hX⟩))))) HT5.out.bel
  · have n5 : ((d.tapes.1 : Int) != 2) = true := by simp; omega
    go_wp2
    go_ret
    exact wldP rfl (Stair.pass HOK.out (Stair.fall (fun h => h5 h.2.2))) HT3.out.bel
end Go.Proofs.Ytgpglgchbimmaaa

namespace Go.Proofs.Ytgpglgchbimmaaa
open Go.ChangeShapes Go.WideShapes Go.ChangeAt Go.RowKit F256
set_option linter.unusedVariables false
set_option linter.unusedSimpArgs false

theorem recs_row (s : Nat → Int) (y : Nat → RecD) : ∀ k, (∀ i, i < k → RecAns s (y i) 0) ∨ ∃ i c, i < k ∧ c ≠ 0 ∧ RecAns s (y i) c ∧ ∀ j, j < i → RecAns s (y j) 0
  | 0 => .inl (fun i hi => by omega)
  | k + 1 => by
    rcases recs_row s y k with h | ⟨i, c, h1, h2, h3, h4⟩
    · obtain ⟨X, hX⟩ : ∃ X, RecAns s (y k) X := stair_ex (K := isZ) ⟨0, rfl⟩ _
      by_cases hx : X = 0
      · subst hx
        exact .inl (fun i hi => by
          by_cases c : i = k
          · subst c; exact hX
          · exact h i (by omega))
      · exact .inr ⟨k, X, by omega, hx, hX, h⟩
    · exact .inr ⟨i, c, by omega, h2, h3, h4⟩
theorem recs_ex (s : Nat → Int) (x : Nat → TapeD) : ∀ n, ∃ c, RecsAns s n x c
  | 0 => ⟨0, .inl ⟨rfl, fun t ht => by omega⟩⟩
  | n + 1 => by
    obtain ⟨c, hc⟩ := recs_ex s x n
    rcases hc with ⟨rfl, h⟩ | ⟨hc, t, i, ht, hi, hr, hb, hu⟩
    · rcases recs_row s (x n).recs.2 (x n).recs.1 with k | ⟨i, c, h1, h2, h3, h4⟩
      · exact ⟨0, .inl ⟨rfl, fun t ht => by
          by_cases c : t = n
          · subst c; exact k
          · exact h t (by omega)⟩⟩
      · exact ⟨c, .inr ⟨h2, n, i, by omega, h1, h3, h4, h⟩⟩
    · exact ⟨c, .inr ⟨hc, t, i, by omega, hi, hr, hb, hu⟩⟩
theorem world_ex (d : WorldD) : ∃ X, WldAns d X := by
  unfold WldAns
  refine stair_ex ?_ _
  obtain ⟨c, hc⟩ := recs_ex d.shape d.tapes.2 d.tapes.1
  by_cases h : c = 0
  · subst h
    obtain ⟨x, hx⟩ := stair_ex (K := isZ) ⟨0, rfl⟩ [(CleanP d, 1), (CountP d, 3)]
    exact ⟨x, .inr ⟨hc, hx⟩⟩
  · exact ⟨c, .inl ⟨h, hc⟩⟩
theorem wld_det {d : WorldD} {X : Int} {w : World} {f : Nat} {args : Array Value} (hX : WldAns d X) (h : Calls Try.prog f args w (WldPost d w)) : Calls Try.prog f args w fun e w' => e = .returned (.int .i64 X) ∧ Below w.heap.size w w' :=
  h.mono fun e w' ⟨x, h1, h2, h3⟩ => ⟨by rw [h1, h2.one hX], h3⟩
theorem world_names {d : WorldD} (h : szWorldD d ≤ 1048576) : ∀ t, t < d.tapes.1 → ∀ i, i < (d.tapes.2 t).recs.1 → ((d.tapes.2 t).recs.2 i).name.size ≤ 1048576 := fun t ht i hi => by
  have h1 : szSl szTapeD d.tapes ≤ 1048576 := by unfold szWorldD at h; omega
  have h2 : szSl szRecD (d.tapes.2 t).recs ≤ 1048576 := szSl_at h1 ht
  have h3 : szRecD ((d.tapes.2 t).recs.2 i) ≤ 1048576 := szSl_at h2 hi
  unfold szRecD at h3
  omega
theorem box15 {w : World} {b : Nat} {t : TypeId} {a0 a1 a2 a3 a4 a5 a6 a7 a8 a9 a10 a11 a12 a13 a14 : Value} (h : Box w b #[a0, a1, a2, a3, a4, a5, a6, a7, a8, a9, a10, a11, a12, a13, a14] t) :
    w.cell? ⟨b, 0, none⟩ = some a0 ∧ w.cell? ⟨b, 1, none⟩ = some a1 ∧ w.cell? ⟨b, 2, none⟩ = some a2 ∧ w.cell? ⟨b, 3, none⟩ = some a3 ∧ w.cell? ⟨b, 4, none⟩ = some a4 ∧ w.cell? ⟨b, 5, none⟩ = some a5 ∧ w.cell? ⟨b, 6, none⟩ = some a6 ∧ w.cell? ⟨b, 7, none⟩ = some a7 ∧ w.cell? ⟨b, 8, none⟩ = some a8 ∧ w.cell? ⟨b, 9, none⟩ = some a9 ∧ w.cell? ⟨b, 10, none⟩ = some a10 ∧ w.cell? ⟨b, 11, none⟩ = some a11 ∧ w.cell? ⟨b, 12, none⟩ = some a12 ∧ w.cell? ⟨b, 13, none⟩ = some a13 ∧ w.cell? ⟨b, 14, none⟩ = some a14 :=
  ⟨h.cell 0, h.cell 1, h.cell 2, h.cell 3, h.cell 4, h.cell 5, h.cell 6, h.cell 7, h.cell 8, h.cell 9, h.cell 10, h.cell 11, h.cell 12, h.cell 13, h.cell 14⟩

set_option maxHeartbeats 16000000 in
set_option maxRecDepth 20000 in
theorem fnExactWorldFault_walk (d : WorldD) (cs : List Value) (w : World) (r : layWorld.rd w w.heap.size d cs) :
    Calls Try.prog 3 #[.agg cs.toArray] w fun e w' => e = .returned (.bool true) ∧ Below w.heap.size w w' := by
  obtain ⟨ao1, cap1, ao2, cap2, ao3, cap3, rfl, -⟩ := World_rd r
  obtain ⟨X, hX⟩ := world_ex d
  have HR : Hid (layWorld.rd w w.heap.size d [.int .i64 (d.shape 0), .int .i64 (d.shape 1), .int .i64 (d.shape 2), .int .i64 (d.shape 3), .int .i64 (d.shape 4), .int .i64 (d.shape 5), .int .i64 (d.shape 6), .int .i64 (d.shape 7), .int .i64 (d.shape 8), .slice ao1 d.groups.1 cap1, .slice ao2 d.on.1 cap2, .slice ao3 d.tapes.1 cap3, .int .i64 d.writes, .int .i64 d.stop, .bool d.down]) := r
  clear r
  have T0 := one_new w #[.int .i64 (d.shape 0), .int .i64 (d.shape 1), .int .i64 (d.shape 2), .int .i64 (d.shape 3), .int .i64 (d.shape 4), .int .i64 (d.shape 5), .int .i64 (d.shape 6), .int .i64 (d.shape 7), .int .i64 (d.shape 8), .slice ao1 d.groups.1 cap1, .slice ao2 d.on.1 cap2, .slice ao3 d.tapes.1 cap3, .int .i64 d.writes, .int .i64 d.stop, .bool d.down] 28
  go_enter Try.func3, Try.ntmps3
  go_wp2_with fail
  refine (szWorld_is _ d w.heap.size 1048576 _ (layWorld.rd_below HR.out T0.bel (Nat.le_refl _)) T0.bel.size (by omega)).mono ?_
  rintro e w1 ⟨x, rfl, hx, b1⟩
  have T1 : One w w1 #[.int .i64 (d.shape 0), .int .i64 (d.shape 1), .int .i64 (d.shape 2), .int .i64 (d.shape 3), .int .i64 (d.shape 4), .int .i64 (d.shape 5), .int .i64 (d.shape 6), .int .i64 (d.shape 7), .int .i64 (d.shape 8), .slice ao1 d.groups.1 cap1, .slice ao2 d.on.1 cap2, .slice ao3 d.tapes.1 cap3, .int .i64 d.writes, .int .i64 d.stop, .bool d.down] 28 := T0.call b1
  have HT1 : Hid (One w w1 #[.int .i64 (d.shape 0), .int .i64 (d.shape 1), .int .i64 (d.shape 2), .int .i64 (d.shape 3), .int .i64 (d.shape 4), .int .i64 (d.shape 5), .int .i64 (d.shape 6), .int .i64 (d.shape 7), .int .i64 (d.shape 8), .slice ao1 d.groups.1 cap1, .slice ao2 d.on.1 cap2, .slice ao3 d.tapes.1 cap3, .int .i64 d.writes, .int .i64 d.stop, .bool d.down] 28) := T1
  clear b1 T0
  have x1_0 : w1.cell? ⟨w.heap.size, 0, none⟩ = some (.int .i64 (d.shape 0)) := T1.b1.cell 0
  have x1_1 : w1.cell? ⟨w.heap.size, 1, none⟩ = some (.int .i64 (d.shape 1)) := T1.b1.cell 1
  have x1_2 : w1.cell? ⟨w.heap.size, 2, none⟩ = some (.int .i64 (d.shape 2)) := T1.b1.cell 2
  have x1_3 : w1.cell? ⟨w.heap.size, 3, none⟩ = some (.int .i64 (d.shape 3)) := T1.b1.cell 3
  have x1_4 : w1.cell? ⟨w.heap.size, 4, none⟩ = some (.int .i64 (d.shape 4)) := T1.b1.cell 4
  have x1_5 : w1.cell? ⟨w.heap.size, 5, none⟩ = some (.int .i64 (d.shape 5)) := T1.b1.cell 5
  have x1_6 : w1.cell? ⟨w.heap.size, 6, none⟩ = some (.int .i64 (d.shape 6)) := T1.b1.cell 6
  have x1_7 : w1.cell? ⟨w.heap.size, 7, none⟩ = some (.int .i64 (d.shape 7)) := T1.b1.cell 7
  have x1_8 : w1.cell? ⟨w.heap.size, 8, none⟩ = some (.int .i64 (d.shape 8)) := T1.b1.cell 8
  have x1_9 : w1.cell? ⟨w.heap.size, 9, none⟩ = some (.slice ao1 d.groups.1 cap1) := T1.b1.cell 9
  have x1_10 : w1.cell? ⟨w.heap.size, 10, none⟩ = some (.slice ao2 d.on.1 cap2) := T1.b1.cell 10
  have x1_11 : w1.cell? ⟨w.heap.size, 11, none⟩ = some (.slice ao3 d.tapes.1 cap3) := T1.b1.cell 11
  have x1_12 : w1.cell? ⟨w.heap.size, 12, none⟩ = some (.int .i64 d.writes) := T1.b1.cell 12
  have x1_13 : w1.cell? ⟨w.heap.size, 13, none⟩ = some (.int .i64 d.stop) := T1.b1.cell 13
  have x1_14 : w1.cell? ⟨w.heap.size, 14, none⟩ = some (.bool d.down) := T1.b1.cell 14
  clear T1
  rcases hx with rfl | ⟨hsz, hx⟩
  · go_wp2
    go_ret
    exact ⟨rfl, HT1.out.bel⟩
  have hx0 : ¬ x < 0 := by omega
  have hnm := world_names hsz
  clear hx
  have CR : ∀ w', Below w1.heap.size w1 w' → Calls Try.prog 7 #[.agg #[.int .i64 (d.shape 0), .int .i64 (d.shape 1), .int .i64 (d.shape 2), .int .i64 (d.shape 3), .int .i64 (d.shape 4), .int .i64 (d.shape 5), .int .i64 (d.shape 6), .int .i64 (d.shape 7), .int .i64 (d.shape 8), .slice ao1 d.groups.1 cap1, .slice ao2 d.on.1 cap2, .slice ao3 d.tapes.1 cap3, .int .i64 d.writes, .int .i64 d.stop, .bool d.down]] w' fun e w'' => ∃ cs', e = .returned (.agg cs'.toArray) ∧ OwnT layWorld w'' w'.heap.size w''.heap.size d cs' ∧ Below w'.heap.size w' w'' := fun w' hb =>
    toWorld_is _ d w.heap.size w' (layWorld.rd_below (layWorld.rd_below HR.out HT1.out.bel (Nat.le_refl _)) hb HT1.out.bel.size) (Nat.le_trans HT1.out.bel.size hb.size) hsz
  have CS : ∀ (cs' : List Value) (hi : Nat) (w' : World), layWorld.rd w' hi d cs' → hi ≤ w'.heap.size → Calls Try.prog 6 #[.agg cs'.toArray] w' fun e w'' => e = .returned (.int .i64 X) ∧ Below w'.heap.size w' w'' := fun cs' hi w' h1 h2 => wld_det hX (specWorld_any d cs' hi w' h1 h2 hnm)
  have CI : ∀ (cs' : List Value) (hi : Nat) (w' : World), layWorld.rd w' hi d cs' → hi ≤ w'.heap.size → Calls Try.prog 8 #[.agg cs'.toArray] w' fun e w'' => e = .returned (.int .i64 X) ∧ Below w'.heap.size w' w'' := fun cs' hi w' h1 h2 => wld_det hX (implWorld_any d cs' hi w' h1 h2 hnm)
  clear hX hsz hnm
  go_wp2_with fail
  refine (CR _ (Below.refl _ _)).mono ?_
  rintro e w2 ⟨cs2, rfl, o2, b2⟩
  clear x1_0 x1_1 x1_2 x1_3 x1_4 x1_5 x1_6 x1_7 x1_8 x1_9 x1_10 x1_11 x1_12 x1_13 x1_14
  go_wp2_with fail
  refine (CS _ _ _ o2.rd (Nat.le_refl _)).mono ?_
  rintro e w3 ⟨rfl, b3⟩
  have T3 : One w w3 #[.int .i64 (d.shape 0), .int .i64 (d.shape 1), .int .i64 (d.shape 2), .int .i64 (d.shape 3), .int .i64 (d.shape 4), .int .i64 (d.shape 5), .int .i64 (d.shape 6), .int .i64 (d.shape 7), .int .i64 (d.shape 8), .slice ao1 d.groups.1 cap1, .slice ao2 d.on.1 cap2, .slice ao3 d.tapes.1 cap3, .int .i64 d.writes, .int .i64 d.stop, .bool d.down] 28 := (HT1.out.call b2).call b3
  have HB3 : Hid (Below w1.heap.size w1 w3) := b2.trans (b3.mono b2.size)
  clear o2 b2 b3
  have x3_0 : w3.cell? ⟨w.heap.size, 0, none⟩ = some (.int .i64 (d.shape 0)) := T3.b1.cell 0
  have x3_1 : w3.cell? ⟨w.heap.size, 1, none⟩ = some (.int .i64 (d.shape 1)) := T3.b1.cell 1
  have x3_2 : w3.cell? ⟨w.heap.size, 2, none⟩ = some (.int .i64 (d.shape 2)) := T3.b1.cell 2
  have x3_3 : w3.cell? ⟨w.heap.size, 3, none⟩ = some (.int .i64 (d.shape 3)) := T3.b1.cell 3
  have x3_4 : w3.cell? ⟨w.heap.size, 4, none⟩ = some (.int .i64 (d.shape 4)) := T3.b1.cell 4
  have x3_5 : w3.cell? ⟨w.heap.size, 5, none⟩ = some (.int .i64 (d.shape 5)) := T3.b1.cell 5
  have x3_6 : w3.cell? ⟨w.heap.size, 6, none⟩ = some (.int .i64 (d.shape 6)) := T3.b1.cell 6
  have x3_7 : w3.cell? ⟨w.heap.size, 7, none⟩ = some (.int .i64 (d.shape 7)) := T3.b1.cell 7
  have x3_8 : w3.cell? ⟨w.heap.size, 8, none⟩ = some (.int .i64 (d.shape 8)) := T3.b1.cell 8
  have x3_9 : w3.cell? ⟨w.heap.size, 9, none⟩ = some (.slice ao1 d.groups.1 cap1) := T3.b1.cell 9
  have x3_10 : w3.cell? ⟨w.heap.size, 10, none⟩ = some (.slice ao2 d.on.1 cap2) := T3.b1.cell 10
  have x3_11 : w3.cell? ⟨w.heap.size, 11, none⟩ = some (.slice ao3 d.tapes.1 cap3) := T3.b1.cell 11
  have x3_12 : w3.cell? ⟨w.heap.size, 12, none⟩ = some (.int .i64 d.writes) := T3.b1.cell 12
  have x3_13 : w3.cell? ⟨w.heap.size, 13, none⟩ = some (.int .i64 d.stop) := T3.b1.cell 13
  have x3_14 : w3.cell? ⟨w.heap.size, 14, none⟩ = some (.bool d.down) := T3.b1.cell 14
  clear T3
  go_wp2_with fail
  refine (CR _ HB3.out).mono ?_
  rintro e w6 ⟨cs6, rfl, o6, b6⟩
  obtain ⟨xo1, xc1, xo2, xc2, xo3, xc3, rfl⟩ := World_cells o6
  have B6 : Hid (Below w1.heap.size w1 w6) := HB3.out.trans (b6.mono HB3.out.size)
  clear x3_0 x3_1 x3_2 x3_3 x3_4 x3_5 x3_6 x3_7 x3_8 x3_9 x3_10 x3_11 x3_12 x3_13 x3_14 b6
  go_upto_region 7 with fail
  have bA : Below w6.heap.size w6 (w6.alloc (.cells #[.int .i64 (d.shape 0), .int .i64 (d.shape 1), .int .i64 (d.shape 2), .int .i64 (d.shape 3), .int .i64 (d.shape 4), .int .i64 (d.shape 5), .int .i64 (d.shape 6), .int .i64 (d.shape 7), .int .i64 (d.shape 8), .slice xo1 d.groups.1 xc1, .slice xo2 d.on.1 xc2, .slice xo3 d.tapes.1 xc3, .int .i64 d.writes, .int .i64 d.stop, .bool d.down] 35)) := (Below.refl _ _).alloc (Nat.le_refl _) _
  have T7 : One w (w6.alloc (.cells #[.int .i64 (d.shape 0), .int .i64 (d.shape 1), .int .i64 (d.shape 2), .int .i64 (d.shape 3), .int .i64 (d.shape 4), .int .i64 (d.shape 5), .int .i64 (d.shape 6), .int .i64 (d.shape 7), .int .i64 (d.shape 8), .slice xo1 d.groups.1 xc1, .slice xo2 d.on.1 xc2, .slice xo3 d.tapes.1 xc3, .int .i64 d.writes, .int .i64 d.stop, .bool d.down] 35)) #[.int .i64 (d.shape 0), .int .i64 (d.shape 1), .int .i64 (d.shape 2), .int .i64 (d.shape 3), .int .i64 (d.shape 4), .int .i64 (d.shape 5), .int .i64 (d.shape 6), .int .i64 (d.shape 7), .int .i64 (d.shape 8), .slice ao1 d.groups.1 cap1, .slice ao2 d.on.1 cap2, .slice ao3 d.tapes.1 cap3, .int .i64 d.writes, .int .i64 d.stop, .bool d.down] 28 := (HT1.out.call B6.out).call bA
  have X7 : Box (w6.alloc (.cells #[.int .i64 (d.shape 0), .int .i64 (d.shape 1), .int .i64 (d.shape 2), .int .i64 (d.shape 3), .int .i64 (d.shape 4), .int .i64 (d.shape 5), .int .i64 (d.shape 6), .int .i64 (d.shape 7), .int .i64 (d.shape 8), .slice xo1 d.groups.1 xc1, .slice xo2 d.on.1 xc2, .slice xo3 d.tapes.1 xc3, .int .i64 d.writes, .int .i64 d.stop, .bool d.down] 35)) w6.heap.size #[.int .i64 (d.shape 0), .int .i64 (d.shape 1), .int .i64 (d.shape 2), .int .i64 (d.shape 3), .int .i64 (d.shape 4), .int .i64 (d.shape 5), .int .i64 (d.shape 6), .int .i64 (d.shape 7), .int .i64 (d.shape 8), .slice xo1 d.groups.1 xc1, .slice xo2 d.on.1 xc2, .slice xo3 d.tapes.1 xc3, .int .i64 d.writes, .int .i64 d.stop, .bool d.down] 35 := box_new _ _ _
  have O7 := o6.call bA
  have B7 : Below w1.heap.size w1 (w6.alloc (.cells #[.int .i64 (d.shape 0), .int .i64 (d.shape 1), .int .i64 (d.shape 2), .int .i64 (d.shape 3), .int .i64 (d.shape 4), .int .i64 (d.shape 5), .int .i64 (d.shape 6), .int .i64 (d.shape 7), .int .i64 (d.shape 8), .slice xo1 d.groups.1 xc1, .slice xo2 d.on.1 xc2, .slice xo3 d.tapes.1 xc3, .int .i64 d.writes, .int .i64 d.stop, .bool d.down] 35)) := B6.out.trans (bA.mono B6.out.size)
  obtain ⟨W7, hW7⟩ : ∃ W7, W7 = w6.alloc (.cells #[.int .i64 (d.shape 0), .int .i64 (d.shape 1), .int .i64 (d.shape 2), .int .i64 (d.shape 3), .int .i64 (d.shape 4), .int .i64 (d.shape 5), .int .i64 (d.shape 6), .int .i64 (d.shape 7), .int .i64 (d.shape 8), .slice xo1 d.groups.1 xc1, .slice xo2 d.on.1 xc2, .slice xo3 d.tapes.1 xc3, .int .i64 d.writes, .int .i64 d.stop, .bool d.down] 35) := ⟨_, rfl⟩
  rw [← hW7] at T7 X7 O7 B7 ⊢
  have HT7 : Hid (One w W7 #[.int .i64 (d.shape 0), .int .i64 (d.shape 1), .int .i64 (d.shape 2), .int .i64 (d.shape 3), .int .i64 (d.shape 4), .int .i64 (d.shape 5), .int .i64 (d.shape 6), .int .i64 (d.shape 7), .int .i64 (d.shape 8), .slice ao1 d.groups.1 cap1, .slice ao2 d.on.1 cap2, .slice ao3 d.tapes.1 cap3, .int .i64 d.writes, .int .i64 d.stop, .bool d.down] 28) := T7
  have HX7 : Hid (Box W7 w6.heap.size #[.int .i64 (d.shape 0), .int .i64 (d.shape 1), .int .i64 (d.shape 2), .int .i64 (d.shape 3), .int .i64 (d.shape 4), .int .i64 (d.shape 5), .int .i64 (d.shape 6), .int .i64 (d.shape 7), .int .i64 (d.shape 8), .slice xo1 d.groups.1 xc1, .slice xo2 d.on.1 xc2, .slice xo3 d.tapes.1 xc3, .int .i64 d.writes, .int .i64 d.stop, .bool d.down] 35) := X7
  have HO7 : Hid (OwnT layWorld W7 w3.heap.size w6.heap.size d [.int .i64 (d.shape 0), .int .i64 (d.shape 1), .int .i64 (d.shape 2), .int .i64 (d.shape 3), .int .i64 (d.shape 4), .int .i64 (d.shape 5), .int .i64 (d.shape 6), .int .i64 (d.shape 7), .int .i64 (d.shape 8), .slice xo1 d.groups.1 xc1, .slice xo2 d.on.1 xc2, .slice xo3 d.tapes.1 xc3, .int .i64 d.writes, .int .i64 d.stop, .bool d.down]) := O7
  have HB7 : Hid (Below w1.heap.size w1 W7) := B7
  have z67 : w6.heap.size < W7.heap.size := X7.lt
  have x7_0 : W7.cell? ⟨w.heap.size, 0, none⟩ = some (.int .i64 (d.shape 0)) := T7.b1.cell 0
  have x7_1 : W7.cell? ⟨w.heap.size, 1, none⟩ = some (.int .i64 (d.shape 1)) := T7.b1.cell 1
  have x7_2 : W7.cell? ⟨w.heap.size, 2, none⟩ = some (.int .i64 (d.shape 2)) := T7.b1.cell 2
  have x7_3 : W7.cell? ⟨w.heap.size, 3, none⟩ = some (.int .i64 (d.shape 3)) := T7.b1.cell 3
  have x7_4 : W7.cell? ⟨w.heap.size, 4, none⟩ = some (.int .i64 (d.shape 4)) := T7.b1.cell 4
  have x7_5 : W7.cell? ⟨w.heap.size, 5, none⟩ = some (.int .i64 (d.shape 5)) := T7.b1.cell 5
  have x7_6 : W7.cell? ⟨w.heap.size, 6, none⟩ = some (.int .i64 (d.shape 6)) := T7.b1.cell 6
  have x7_7 : W7.cell? ⟨w.heap.size, 7, none⟩ = some (.int .i64 (d.shape 7)) := T7.b1.cell 7
  have x7_8 : W7.cell? ⟨w.heap.size, 8, none⟩ = some (.int .i64 (d.shape 8)) := T7.b1.cell 8
  have x7_9 : W7.cell? ⟨w.heap.size, 9, none⟩ = some (.slice ao1 d.groups.1 cap1) := T7.b1.cell 9
  have x7_10 : W7.cell? ⟨w.heap.size, 10, none⟩ = some (.slice ao2 d.on.1 cap2) := T7.b1.cell 10
  have x7_11 : W7.cell? ⟨w.heap.size, 11, none⟩ = some (.slice ao3 d.tapes.1 cap3) := T7.b1.cell 11
  have x7_12 : W7.cell? ⟨w.heap.size, 12, none⟩ = some (.int .i64 d.writes) := T7.b1.cell 12
  have x7_13 : W7.cell? ⟨w.heap.size, 13, none⟩ = some (.int .i64 d.stop) := T7.b1.cell 13
  have x7_14 : W7.cell? ⟨w.heap.size, 14, none⟩ = some (.bool d.down) := T7.b1.cell 14
  have y7_0 : W7.cell? ⟨w6.heap.size, 0, none⟩ = some (.int .i64 (d.shape 0)) := X7.cell 0
  have y7_1 : W7.cell? ⟨w6.heap.size, 1, none⟩ = some (.int .i64 (d.shape 1)) := X7.cell 1
  have y7_2 : W7.cell? ⟨w6.heap.size, 2, none⟩ = some (.int .i64 (d.shape 2)) := X7.cell 2
  have y7_3 : W7.cell? ⟨w6.heap.size, 3, none⟩ = some (.int .i64 (d.shape 3)) := X7.cell 3
  have y7_4 : W7.cell? ⟨w6.heap.size, 4, none⟩ = some (.int .i64 (d.shape 4)) := X7.cell 4
  have y7_5 : W7.cell? ⟨w6.heap.size, 5, none⟩ = some (.int .i64 (d.shape 5)) := X7.cell 5
  have y7_6 : W7.cell? ⟨w6.heap.size, 6, none⟩ = some (.int .i64 (d.shape 6)) := X7.cell 6
  have y7_7 : W7.cell? ⟨w6.heap.size, 7, none⟩ = some (.int .i64 (d.shape 7)) := X7.cell 7
  have y7_8 : W7.cell? ⟨w6.heap.size, 8, none⟩ = some (.int .i64 (d.shape 8)) := X7.cell 8
  have y7_9 : W7.cell? ⟨w6.heap.size, 9, none⟩ = some (.slice xo1 d.groups.1 xc1) := X7.cell 9
  have y7_10 : W7.cell? ⟨w6.heap.size, 10, none⟩ = some (.slice xo2 d.on.1 xc2) := X7.cell 10
  have y7_11 : W7.cell? ⟨w6.heap.size, 11, none⟩ = some (.slice xo3 d.tapes.1 xc3) := X7.cell 11
  have y7_12 : W7.cell? ⟨w6.heap.size, 12, none⟩ = some (.int .i64 d.writes) := X7.cell 12
  have y7_13 : W7.cell? ⟨w6.heap.size, 13, none⟩ = some (.int .i64 d.stop) := X7.cell 13
  have y7_14 : W7.cell? ⟨w6.heap.size, 14, none⟩ = some (.bool d.down) := X7.cell 14
  clear T7 X7 O7 B7 bA hW7 o6
  go_wp2_with fail
  refine (CI _ _ _ HO7.out.rd (Nat.le_of_lt z67)).mono ?_
  rintro e w8 ⟨rfl, b8⟩
  have T8 : One w w8 #[.int .i64 (d.shape 0), .int .i64 (d.shape 1), .int .i64 (d.shape 2), .int .i64 (d.shape 3), .int .i64 (d.shape 4), .int .i64 (d.shape 5), .int .i64 (d.shape 6), .int .i64 (d.shape 7), .int .i64 (d.shape 8), .slice ao1 d.groups.1 cap1, .slice ao2 d.on.1 cap2, .slice ao3 d.tapes.1 cap3, .int .i64 d.writes, .int .i64 d.stop, .bool d.down] 28 := HT7.out.call b8
  have X8 := HX7.out.call b8
  have O8 := HO7.out.call b8
  have HB8 : Hid (Below w1.heap.size w1 w8) := HB7.out.trans (b8.mono HB7.out.size)
  have HX8 : Hid (Box w8 w6.heap.size #[.int .i64 (d.shape 0), .int .i64 (d.shape 1), .int .i64 (d.shape 2), .int .i64 (d.shape 3), .int .i64 (d.shape 4), .int .i64 (d.shape 5), .int .i64 (d.shape 6), .int .i64 (d.shape 7), .int .i64 (d.shape 8), .slice xo1 d.groups.1 xc1, .slice xo2 d.on.1 xc2, .slice xo3 d.tapes.1 xc3, .int .i64 d.writes, .int .i64 d.stop, .bool d.down] 35) := X8
  have HO8 : Hid (OwnT layWorld w8 w3.heap.size w6.heap.size d [.int .i64 (d.shape 0), .int .i64 (d.shape 1), .int .i64 (d.shape 2), .int .i64 (d.shape 3), .int .i64 (d.shape 4), .int .i64 (d.shape 5), .int .i64 (d.shape 6), .int .i64 (d.shape 7), .int .i64 (d.shape 8), .slice xo1 d.groups.1 xc1, .slice xo2 d.on.1 xc2, .slice xo3 d.tapes.1 xc3, .int .i64 d.writes, .int .i64 d.stop, .bool d.down]) := O8
  have HT8 : Hid (One w w8 #[.int .i64 (d.shape 0), .int .i64 (d.shape 1), .int .i64 (d.shape 2), .int .i64 (d.shape 3), .int .i64 (d.shape 4), .int .i64 (d.shape 5), .int .i64 (d.shape 6), .int .i64 (d.shape 7), .int .i64 (d.shape 8), .slice ao1 d.groups.1 cap1, .slice ao2 d.on.1 cap2, .slice ao3 d.tapes.1 cap3, .int .i64 d.writes, .int .i64 d.stop, .bool d.down] 28) := T8
  have z68 : w6.heap.size < w8.heap.size := X8.lt
  clear x7_0 x7_1 x7_2 x7_3 x7_4 x7_5 x7_6 x7_7 x7_8 x7_9 x7_10 x7_11 x7_12 x7_13 x7_14 y7_0 y7_1 y7_2 y7_3 y7_4 y7_5 y7_6 y7_7 y7_8 y7_9 y7_10 y7_11 y7_12 y7_13 y7_14 b8
  have x8_0 : w8.cell? ⟨w.heap.size, 0, none⟩ = some (.int .i64 (d.shape 0)) := T8.b1.cell 0
  have x8_1 : w8.cell? ⟨w.heap.size, 1, none⟩ = some (.int .i64 (d.shape 1)) := T8.b1.cell 1
  have x8_2 : w8.cell? ⟨w.heap.size, 2, none⟩ = some (.int .i64 (d.shape 2)) := T8.b1.cell 2
  have x8_3 : w8.cell? ⟨w.heap.size, 3, none⟩ = some (.int .i64 (d.shape 3)) := T8.b1.cell 3
  have x8_4 : w8.cell? ⟨w.heap.size, 4, none⟩ = some (.int .i64 (d.shape 4)) := T8.b1.cell 4
  have x8_5 : w8.cell? ⟨w.heap.size, 5, none⟩ = some (.int .i64 (d.shape 5)) := T8.b1.cell 5
  have x8_6 : w8.cell? ⟨w.heap.size, 6, none⟩ = some (.int .i64 (d.shape 6)) := T8.b1.cell 6
  have x8_7 : w8.cell? ⟨w.heap.size, 7, none⟩ = some (.int .i64 (d.shape 7)) := T8.b1.cell 7
  have x8_8 : w8.cell? ⟨w.heap.size, 8, none⟩ = some (.int .i64 (d.shape 8)) := T8.b1.cell 8
  have x8_9 : w8.cell? ⟨w.heap.size, 9, none⟩ = some (.slice ao1 d.groups.1 cap1) := T8.b1.cell 9
  have x8_10 : w8.cell? ⟨w.heap.size, 10, none⟩ = some (.slice ao2 d.on.1 cap2) := T8.b1.cell 10
  have x8_11 : w8.cell? ⟨w.heap.size, 11, none⟩ = some (.slice ao3 d.tapes.1 cap3) := T8.b1.cell 11
  have x8_12 : w8.cell? ⟨w.heap.size, 12, none⟩ = some (.int .i64 d.writes) := T8.b1.cell 12
  have x8_13 : w8.cell? ⟨w.heap.size, 13, none⟩ = some (.int .i64 d.stop) := T8.b1.cell 13
  have x8_14 : w8.cell? ⟨w.heap.size, 14, none⟩ = some (.bool d.down) := T8.b1.cell 14
  have y8_0 : w8.cell? ⟨w6.heap.size, 0, none⟩ = some (.int .i64 (d.shape 0)) := X8.cell 0
  have y8_1 : w8.cell? ⟨w6.heap.size, 1, none⟩ = some (.int .i64 (d.shape 1)) := X8.cell 1
  have y8_2 : w8.cell? ⟨w6.heap.size, 2, none⟩ = some (.int .i64 (d.shape 2)) := X8.cell 2
  have y8_3 : w8.cell? ⟨w6.heap.size, 3, none⟩ = some (.int .i64 (d.shape 3)) := X8.cell 3
  have y8_4 : w8.cell? ⟨w6.heap.size, 4, none⟩ = some (.int .i64 (d.shape 4)) := X8.cell 4
  have y8_5 : w8.cell? ⟨w6.heap.size, 5, none⟩ = some (.int .i64 (d.shape 5)) := X8.cell 5
  have y8_6 : w8.cell? ⟨w6.heap.size, 6, none⟩ = some (.int .i64 (d.shape 6)) := X8.cell 6
  have y8_7 : w8.cell? ⟨w6.heap.size, 7, none⟩ = some (.int .i64 (d.shape 7)) := X8.cell 7
  have y8_8 : w8.cell? ⟨w6.heap.size, 8, none⟩ = some (.int .i64 (d.shape 8)) := X8.cell 8
  have y8_9 : w8.cell? ⟨w6.heap.size, 9, none⟩ = some (.slice xo1 d.groups.1 xc1) := X8.cell 9
  have y8_10 : w8.cell? ⟨w6.heap.size, 10, none⟩ = some (.slice xo2 d.on.1 xc2) := X8.cell 10
  have y8_11 : w8.cell? ⟨w6.heap.size, 11, none⟩ = some (.slice xo3 d.tapes.1 xc3) := X8.cell 11
  have y8_12 : w8.cell? ⟨w6.heap.size, 12, none⟩ = some (.int .i64 d.writes) := X8.cell 12
  have y8_13 : w8.cell? ⟨w6.heap.size, 13, none⟩ = some (.int .i64 d.stop) := X8.cell 13
  have y8_14 : w8.cell? ⟨w6.heap.size, 14, none⟩ = some (.bool d.down) := X8.cell 14
  clear T8 X8 O8
  go_upto_region 10 with fail
  go_cut [26] (fun v wx => v = .bool false ∧ Below w8.heap.size w8 wx)
  case first =>
    go_region_with (first | (go_at_call 7; refine (CR _ (HB8.out.trans ((below_drewN (Below.refl _ _) 1).mono HB8.out.size))).mono ?_; rintro ee wb ⟨cs', rfl, oR, bb⟩; have bR : Below w8.heap.size w8 wb := (below_drewN (Below.refl _ _) 1).trans bb; obtain ⟨qb0, qb1, qb2, qb3, qb4, qb5, qb6, qb7, qb8, qb9, qb10, qb11, qb12, qb13, qb14⟩ := box15 (HX8.out.call bR)) | (go_at_call 9; refine (eqWorld_is _ _ d _ _ _ (HO8.out.call bR).rd oR.rd (Nat.le_trans (Nat.le_of_lt z68) bR.size) (Nat.le_refl _)).mono ?_; rintro ee wc' ⟨rfl, bc⟩; have bC : Below w8.heap.size w8 wc' := bR.trans (bc.mono bR.size)))
    all_goals
      go_wp2
      go_meet
      exact ⟨rfl, bC⟩
  case rest =>
    obtain ⟨rfl, b9⟩ := hcut
    have HB9 : Hid (Below w.heap.size w wc) := (HT8.out.call b9).bel
    clear b9
    go_wp2
    go_ret
    exact ⟨rfl, HB9.out⟩

set_option maxRecDepth 100000 in
theorem fnExactWorldFault_lifted (os : Os) (started : os.Started) (H : Type) (enc : TypeId × Value → H) :
    ReturnsInHanded {} Try.checked os 3 .any (Rows.fnExactWorldFaultSpec.pre6 enc Try.prog Try.f3 Rows.fnExactWorldFaultRow.domain false) (Rows.fnExactWorldFaultSpec.post enc Try.prog Try.f3 false true false false) := by
  refine returnsInHanded_of_change (C := Try.checked) frame_own started (by kernel_rfl) Try.func3
    (ChangeSpec.witness6 (enc := enc) (C := Try.checked) false ⟨#[], #[.agg #[.int .i64 0, .int .i64 0, .int .i64 0, .int .i64 0, .int .i64 0, .int .i64 0, .int .i64 0, .int .i64 0, .int .i64 0, .slice none 0 0, .slice none 0 0, .slice none 0 0, .int .i64 0, .int .i64 0, .bool false]], []⟩ 8 (by kernel_rfl) (by kernel_rfl) (by kernel_rfl) (by kernel_rfl)) ?_
  intro W base args ds gs before hval0 hW hcnd _
  have hval : ∀ (j : Nat) t v, Try.f3.params[j]? = some t → args[j]? = some v → Value.okWide Try.prog W .any base t v := hval0
  have hW' := hW
  obtain ⟨p, q, hA0, hV, rfl, hfz, hnd⟩ := hW
  have hA : DataW.TrodAll enc Try.prog W 0 (fun _ => true) true Try.f3.params.toList args.toList ds p := hA0
  rw [Try.params3] at hA hval
  obtain ⟨v0, vs0, d0, ds0, p0, q0, hargs, rfl, rfl, h0, r0⟩ := trodAll_cons hA
  obtain ⟨rfl, rfl, rfl⟩ := trodAll_nil r0
  obtain rfl : args = #[v0] := by cases args; simp_all
  obtain ⟨rfl, rfl⟩ := trodVars_none hV
  have k0 := h0
  have lt0 : ∀ x ∈ p0, x.block < W.heap.size := by obtain ⟨m, hm⟩ := k0; exact DataW.trod_lt m _ _ _ hm
  obtain ⟨cs0, a0, rfl, rd0⟩ := struct_of_trod opensWorld Try.underlying28 (hval 0 28 v0 rfl rfl) h0
  clear hA0 hval0
  refine (fnExactWorldFault_walk a0 cs0 W rd0).mono fun e W' ⟨he, bel⟩ => ?_
  subst he
  exact ⟨_, rfl, _, _, _, [], _, [], hW', trodAll_mk1 (shut_bool Try.underlying4 _), (trodAll_cons_mk (Below.trod frame_laid (by kernel_rfl) (of_decide_eq_true (by kernel_rfl)) k0 bel lt0) trodAll_mk0), rfl, bel.frame _, fun h => by cases h⟩

theorem fnExactWorldFault_proved : Rows.FnExactWorldFaultSaid :=
  OpenClaim.holds_of_wide 3 Try.f3 rfl rfl rfl rfl rfl rfl rfl ⟨rfl, rfl, rfl, rfl, rfl⟩ rfl rfl rfl rfl rfl (by kernel_rfl) Try.func3 (by kernel_rfl)
    (of_decide_eq_true (by kernel_rfl)) (by unfold Func.isWrapper; first | (rw [if_pos (by decide +kernel)]; kernel_rfl) | (rw [if_neg (by decide +kernel)]; exact ⟨rfl, rfl⟩))
    (fun os started H enc _ => fnExactWorldFault_lifted os started H enc)
#print axioms fnExactWorldFault_proved
end Go.Proofs.Ytgpglgchbimmaaa
