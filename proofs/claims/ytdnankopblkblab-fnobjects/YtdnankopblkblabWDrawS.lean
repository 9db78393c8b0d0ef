/- Walks of the draws of chapter 4: shapes, bent ones, lengths, objects. What is drawn is not told, only its bounds. -/
import Derived.Test.YtdnankopblkblabWDrawC
import Derived.Test.YtdnankopblkblabShapeB
namespace Go.Proofs.Ytdnankopblkblab
open Go.RowKit F256
set_option linter.unusedVariables false
set_option linter.unusedSimpArgs false

theorem chg_below {lo hi : Nat} {w w1 w2 : World} (h : Chg lo hi w w1) (b : Below w.heap.size w1 w2) : Chg lo hi w w2 :=
  ⟨b.os.trans h.os, b.tape.trans h.tape, b.output.trans h.output, Nat.le_trans h.size b.size, fun k hk hne => (b.block k hk).trans (h.block k hk hne)⟩
/-- nine stores into a block of nine cells -/
abbrev set9 (w : World) (b : Nat) (a : Nat → Int) : World := ((((((((w.setCell ⟨b, 0, none⟩ (.int .i64 (a 0))).setCell ⟨b, 1, none⟩ (.int .i64 (a 1))).setCell ⟨b, 2, none⟩ (.int .i64 (a 2))).setCell ⟨b, 3, none⟩ (.int .i64 (a 3))).setCell ⟨b, 4, none⟩ (.int .i64 (a 4))).setCell ⟨b, 5, none⟩ (.int .i64 (a 5))).setCell ⟨b, 6, none⟩ (.int .i64 (a 6))).setCell ⟨b, 7, none⟩ (.int .i64 (a 7))).setCell ⟨b, 8, none⟩ (.int .i64 (a 8))

theorem below_set9 {B b : Nat} (w : World) (a : Nat → Int) (h : B ≤ b) : Below B w (set9 w b a) := by
  unfold set9
  refine Below.setCell ?_ h _
  refine Below.setCell ?_ h _
  refine Below.setCell ?_ h _
  refine Below.setCell ?_ h _
  refine Below.setCell ?_ h _
  refine Below.setCell ?_ h _
  refine Below.setCell ?_ h _
  refine Below.setCell ?_ h _
  refine Below.setCell ?_ h _
  exact Below.refl _ _

set_option maxHeartbeats 8000000 in
theorem l4Shape_any (bs t : Nat) (v : Value) (n : Nat) (f : Nat → Nat) (ht : t ≤ 900000) (w : World) (h : Src w bs t v n f) :
    Calls Try.prog 21 #[.pointer (some ⟨bs, 0, none⟩)] w fun e w' => ∃ s : Nat → Int, e = .returned (shapeV s) ∧ (1 ≤ s 2 ∧ s 2 ≤ 3) ∧ Src w' bs (t + 9) v n f ∧ Chg bs (bs + 1) w w' := by
  have hbs := h.1.lt
  have b0 : Below w.heap.size w (w.alloc (.cells #[.int .i64 0, .int .i64 0, .int .i64 0, .int .i64 0, .int .i64 0, .int .i64 0, .int .i64 0, .int .i64 0, .int .i64 0] 25)) := (Below.refl _ _).alloc (Nat.le_refl _) _
  have h0 := h.chgTrans b0
  have X0 := box_new w #[.int .i64 0, .int .i64 0, .int .i64 0, .int .i64 0, .int .i64 0, .int .i64 0, .int .i64 0, .int .i64 0, .int .i64 0] 25
  have C0 : Chg bs (bs + 1) w (w.alloc (.cells #[.int .i64 0, .int .i64 0, .int .i64 0, .int .i64 0, .int .i64 0, .int .i64 0, .int .i64 0, .int .i64 0, .int .i64 0] 25)) := Below.chg b0 bs (bs + 1)
  obtain ⟨w0, hw0⟩ : ∃ w0, w0 = w.alloc (.cells #[.int .i64 0, .int .i64 0, .int .i64 0, .int .i64 0, .int .i64 0, .int .i64 0, .int .i64 0, .int .i64 0, .int .i64 0] 25) := ⟨_, rfl⟩
  rw [← hw0] at h0 X0 C0
  clear h b0
  have b1 : Below w0.heap.size w0 (w0.alloc (.cells #[.int .i64 2, .int .i64 3, .int .i64 1, .int .i64 4] 2)) := (Below.refl _ _).alloc (Nat.le_refl _) _
  have l0 := h0.1.lt
  have P1 := l1Pick_list bs t v n f [2, 3, 1, 4] w0.heap.size 4 (by omega) (by show 1 ≤ 4; omega) (by show 4 ≤ 100000; omega) _ (h0.chgTrans b1) (box_new _ _ _) (by omega)
  have Y1 := X0.allocd (.cells #[.int .i64 2, .int .i64 3, .int .i64 1, .int .i64 4] 2)
  have e0 : w0.heap.size = w.heap.size + 1 := by rw [hw0]; simp
  rw [e0, hw0] at P1
  go_enter Try.func21, Try.ntmps21
  go_wp2_with fail
  refine P1.mono ?_
  rintro e w1 ⟨a0, ha0, rfl, h1, c1⟩
  rw [← hw0] at c1
  clear hw0
  have C1 := C0.trans ((Below.chg b1 bs (bs + 1)).trans c1)
  have X1 := Y1.chg c1 (.inr (by omega))
  clear P1 b1 c1 C0 X0 Y1 h0 ha0 l0
  have b2 : Below w1.heap.size w1 (w1.alloc (.cells #[.int .i64 1, .int .i64 2, .int .i64 1, .int .i64 0] 2)) := (Below.refl _ _).alloc (Nat.le_refl _) _
  have l1 := h1.1.lt
  have P2 := l1Pick_list bs (t + 1) v n f [1, 2, 1, 0] w1.heap.size 4 (by omega) (by show 1 ≤ 4; omega) (by show 4 ≤ 100000; omega) _ (h1.chgTrans b2) (box_new _ _ _) (by omega)
  have Y2 := X1.allocd (.cells #[.int .i64 1, .int .i64 2, .int .i64 1, .int .i64 0] 2)
  go_wp2_with fail
  refine P2.mono ?_
  rintro e w2 ⟨a1, ha1, rfl, h2, c2⟩
  have C2 := C1.trans ((Below.chg b2 bs (bs + 1)).trans c2)
  have X2 := Y2.chg c2 (.inr (by omega))
  clear P2 b2 c2 C1 X1 Y2 h1 ha1 l1
  have b3 : Below w2.heap.size w2 (w2.alloc (.cells #[.int .i64 2, .int .i64 1, .int .i64 3] 2)) := (Below.refl _ _).alloc (Nat.le_refl _) _
  have l2 := h2.1.lt
  have P3 := l1Pick_list bs (t + 2) v n f [2, 1, 3] w2.heap.size 3 (by omega) (by show 1 ≤ 3; omega) (by show 3 ≤ 100000; omega) _ (h2.chgTrans b3) (box_new _ _ _) (by omega)
  have Y3 := X2.allocd (.cells #[.int .i64 2, .int .i64 1, .int .i64 3] 2)
  go_wp2_with fail
  refine P3.mono ?_
  rintro e w3 ⟨a2, ha2, rfl, h3, c3⟩
  have C3 := C2.trans ((Below.chg b3 bs (bs + 1)).trans c3)
  have X3 := Y3.chg c3 (.inr (by omega))
  have HA2 : Hid (1 ≤ a2 ∧ a2 ≤ 3) := by
    show 1 ≤ a2 ∧ a2 ≤ 3
    simp only [List.mem_cons, List.not_mem_nil, or_false] at ha2
    omega
  clear P3 b3 c3 C2 X2 Y3 h2 ha2 l2
  have b4 : Below w3.heap.size w3 (w3.alloc (.cells #[.int .i64 1, .int .i64 0, .int .i64 2] 2)) := (Below.refl _ _).alloc (Nat.le_refl _) _
  have l3 := h3.1.lt
  have P4 := l1Pick_list bs (t + 3) v n f [1, 0, 2] w3.heap.size 3 (by omega) (by show 1 ≤ 3; omega) (by show 3 ≤ 100000; omega) _ (h3.chgTrans b4) (box_new _ _ _) (by omega)
  have Y4 := X3.allocd (.cells #[.int .i64 1, .int .i64 0, .int .i64 2] 2)
  go_wp2_with fail
  refine P4.mono ?_
  rintro e w4 ⟨a3, ha3, rfl, h4, c4⟩
  have C4 := C3.trans ((Below.chg b4 bs (bs + 1)).trans c4)
  have X4 := Y4.chg c4 (.inr (by omega))
  clear P4 b4 c4 C3 X3 Y4 h3 ha3 l3
  have b5 : Below w4.heap.size w4 (w4.alloc (.cells #[.int .i64 2, .int .i64 3, .int .i64 4] 2)) := (Below.refl _ _).alloc (Nat.le_refl _) _
  have l4 := h4.1.lt
  have P5 := l1Pick_list bs (t + 4) v n f [2, 3, 4] w4.heap.size 3 (by omega) (by show 1 ≤ 3; omega) (by show 3 ≤ 100000; omega) _ (h4.chgTrans b5) (box_new _ _ _) (by omega)
  have Y5 := X4.allocd (.cells #[.int .i64 2, .int .i64 3, .int .i64 4] 2)
  go_wp2_with fail
  refine P5.mono ?_
  rintro e w5 ⟨a4, ha4, rfl, h5, c5⟩
  have C5 := C4.trans ((Below.chg b5 bs (bs + 1)).trans c5)
  have X5 := Y5.chg c5 (.inr (by omega))
  clear P5 b5 c5 C4 X4 Y5 h4 ha4 l4
  have b6 : Below w5.heap.size w5 (w5.alloc (.cells #[.int .i64 1, .int .i64 2, .int .i64 3] 2)) := (Below.refl _ _).alloc (Nat.le_refl _) _
  have l5 := h5.1.lt
  have P6 := l1Pick_list bs (t + 5) v n f [1, 2, 3] w5.heap.size 3 (by omega) (by show 1 ≤ 3; omega) (by show 3 ≤ 100000; omega) _ (h5.chgTrans b6) (box_new _ _ _) (by omega)
  have Y6 := X5.allocd (.cells #[.int .i64 1, .int .i64 2, .int .i64 3] 2)
  go_wp2_with fail
  refine P6.mono ?_
  rintro e w6 ⟨a5, ha5, rfl, h6, c6⟩
  have C6 := C5.trans ((Below.chg b6 bs (bs + 1)).trans c6)
  have X6 := Y6.chg c6 (.inr (by omega))
  clear P6 b6 c6 C5 X5 Y6 h5 ha5 l5
  have b7 : Below w6.heap.size w6 (w6.alloc (.cells #[.int .i64 1, .int .i64 2] 2)) := (Below.refl _ _).alloc (Nat.le_refl _) _
  have l6 := h6.1.lt
  have P7 := l1Pick_list bs (t + 6) v n f [1, 2] w6.heap.size 2 (by omega) (by show 1 ≤ 2; omega) (by show 2 ≤ 100000; omega) _ (h6.chgTrans b7) (box_new _ _ _) (by omega)
  have Y7 := X6.allocd (.cells #[.int .i64 1, .int .i64 2] 2)
  go_wp2_with fail
  refine P7.mono ?_
  rintro e w7 ⟨a6, ha6, rfl, h7, c7⟩
  have C7 := C6.trans ((Below.chg b7 bs (bs + 1)).trans c7)
  have X7 := Y7.chg c7 (.inr (by omega))
  clear P7 b7 c7 C6 X6 Y7 h6 ha6 l6
  have b8 : Below w7.heap.size w7 (w7.alloc (.cells #[.int .i64 1, .int .i64 2, .int .i64 3] 2)) := (Below.refl _ _).alloc (Nat.le_refl _) _
  have l7 := h7.1.lt
  have P8 := l1Pick_list bs (t + 7) v n f [1, 2, 3] w7.heap.size 3 (by omega) (by show 1 ≤ 3; omega) (by show 3 ≤ 100000; omega) _ (h7.chgTrans b8) (box_new _ _ _) (by omega)
  have Y8 := X7.allocd (.cells #[.int .i64 1, .int .i64 2, .int .i64 3] 2)
  go_wp2_with fail
  refine P8.mono ?_
  rintro e w8 ⟨a7, ha7, rfl, h8, c8⟩
  have C8 := C7.trans ((Below.chg b8 bs (bs + 1)).trans c8)
  have X8 := Y8.chg c8 (.inr (by omega))
  clear P8 b8 c8 C7 X7 Y8 h7 ha7 l7
  have b9 : Below w8.heap.size w8 (w8.alloc (.cells #[.int .i64 60, .int .i64 20, .int .i64 100, .int .i64 400] 2)) := (Below.refl _ _).alloc (Nat.le_refl _) _
  have l8 := h8.1.lt
  have P9 := l1Pick_list bs (t + 8) v n f [60, 20, 100, 400] w8.heap.size 4 (by omega) (by show 1 ≤ 4; omega) (by show 4 ≤ 100000; omega) _ (h8.chgTrans b9) (box_new _ _ _) (by omega)
  have Y9 := X8.allocd (.cells #[.int .i64 60, .int .i64 20, .int .i64 100, .int .i64 400] 2)
  go_wp2_with fail
  refine P9.mono ?_
  rintro e w9 ⟨a8, ha8, rfl, h9, c9⟩
  have C9 := C8.trans ((Below.chg b9 bs (bs + 1)).trans c9)
  have X9 := Y9.chg c9 (.inr (by omega))
  clear P9 b9 c9 C8 X8 Y9 h8 ha8 l8
  obtain ⟨x0, x1, x2, x3, x4, x5, x6, x7, x8⟩ := box9 X9
  have y0 := X9.frozen 0
  have y1 := X9.frozen 1
  have y2 := X9.frozen 2
  have y3 := X9.frozen 3
  have y4 := X9.frozen 4
  have y5 := X9.frozen 5
  have y6 := X9.frozen 6
  have y7 := X9.frozen 7
  have y8 := X9.frozen 8
  have HH : Hid (Src w9 bs (t + 9) v n f) := h9
  have HC : Hid (Chg bs (bs + 1) w w9) := C9
  have HBF : Hid (Below w.heap.size w9 (set9 w9 w.heap.size (fun i => ([a0, a1, a2, a3, a4, a5, a6, a7, a8] : List Int).getD i 0))) := below_set9 _ _ (Nat.le_refl _)
  clear X9 h9 C9
  go_wp2
  refine bodyPost_ret (v := shapeV (fun i => ([a0, a1, a2, a3, a4, a5, a6, a7, a8] : List Int).getD i 0)) (by simp [results, Try.results21, go_sem, shapeV, x0, x1, x2, x3, x4, x5, x6, x7, x8]) rfl ⟨_, rfl, HA2.out, HH.out.overC HBF.out hbs, chg_below HC.out HBF.out⟩
end Go.Proofs.Ytdnankopblkblab
