/- Walk of the draw of a bent shape. What is drawn is not told. -/
import Derived.Test.YtdnankopblkblabWDrawS
namespace Go.Proofs.Ytdnankopblkblab
open Go.RowKit F256
set_option linter.unusedVariables false
set_option linter.unusedSimpArgs false

/-- what a bent shape is drawn as -/
def BentP (w : World) (bs t : Nat) (v : Value) (n : Nat) (f : Nat → Nat) (e : Ending) (w' : World) : Prop := ∃ (s : Nat → Int) (t' : Nat), e = .returned (shapeV s) ∧ t' ≤ t + 11 ∧ Src w' bs t' v n f ∧ Chg bs (bs + 1) w w'
set_option maxHeartbeats 16000000 in
theorem l4Bent_any (bs t : Nat) (v : Value) (n : Nat) (f : Nat → Nat) (ht : t ≤ 800000) (w : World) (h : Src w bs t v n f) :
    Calls Try.prog 12 #[.pointer (some ⟨bs, 0, none⟩)] w (BentP w bs t v n f) := by
  have hbs := h.1.lt
  have b0 : Below w.heap.size w (w.alloc (.cells #[.int .i64 0, .int .i64 0, .int .i64 0, .int .i64 0, .int .i64 0, .int .i64 0, .int .i64 0, .int .i64 0, .int .i64 0] 25)) := (Below.refl _ _).alloc (Nat.le_refl _) _
  have X0 := box_new w #[.int .i64 0, .int .i64 0, .int .i64 0, .int .i64 0, .int .i64 0, .int .i64 0, .int .i64 0, .int .i64 0, .int .i64 0] 25
  have CS := l4Shape_any bs t v n f (by omega) _ (h.chgTrans b0)
  have C0 : Chg bs (bs + 1) w (w.alloc (.cells #[.int .i64 0, .int .i64 0, .int .i64 0, .int .i64 0, .int .i64 0, .int .i64 0, .int .i64 0, .int .i64 0, .int .i64 0] 25)) := Below.chg b0 bs (bs + 1)
  clear h
  unfold shapeV at CS
  go_enter Try.func12, Try.ntmps12
  go_wp2_with fail
  refine CS.mono ?_
  rintro e w1 ⟨s, rfl, -, h1, c1⟩
  have C1 := C0.trans c1
  have R1 := X0.chg c1 (.inr (by omega))
  have hz1 : w.heap.size < w1.heap.size := R1.lt
  have b1 : Below w1.heap.size w1 (w1.alloc (.cells #[.int .i64 (s 0), .int .i64 (s 1), .int .i64 (s 2), .int .i64 (s 3), .int .i64 (s 4), .int .i64 (s 5), .int .i64 (s 6), .int .i64 (s 7), .int .i64 (s 8)] 25)) := (Below.refl _ _).alloc (Nat.le_refl _) _
  have NX := l1Next_any bs (t + 9) v n f 24 (by omega) (by omega) (by omega) _ (h1.chgTrans b1)
  have S1 := box_new w1 #[.int .i64 (s 0), .int .i64 (s 1), .int .i64 (s 2), .int .i64 (s 3), .int .i64 (s 4), .int .i64 (s 5), .int .i64 (s 6), .int .i64 (s 7), .int .i64 (s 8)] 25
  have R1a := R1.allocd (.cells #[.int .i64 (s 0), .int .i64 (s 1), .int .i64 (s 2), .int .i64 (s 3), .int .i64 (s 4), .int .i64 (s 5), .int .i64 (s 6), .int .i64 (s 7), .int .i64 (s 8)] 25)
  clear CS C0 X0 b0
  go_wp2_with fail
  refine NX.mono ?_
  rintro e w2 ⟨r, hr, rfl, h2, c2⟩
  have C2 := C1.trans ((Below.chg b1 bs (bs + 1)).trans c2)
  have S2 := S1.chg c2 (.inr (by omega))
  have R2 := R1a.chg c2 (.inr (by omega))
  have l2 := h2.1.lt
  clear NX c1 c2 C1 R1 R1a S1 b1 h1
  by_cases r0 : r = 0
  · subst r0
    have b3 : Below w2.heap.size w2 (w2.alloc (.cells #[.int .i64 0, .int .i64 5] 2)) := (Below.refl _ _).alloc (Nat.le_refl _) _
    have P := l1Pick_list bs (t + 10) v n f [0, 5] w2.heap.size 2 (by omega) (by show 1 ≤ 2; omega) (by show 2 ≤ 100000; omega) _ (h2.chgTrans b3) (box_new _ _ _) (by omega)
    have S2a := S2.allocd (.cells #[.int .i64 0, .int .i64 5] 2)
    have R2a := R2.allocd (.cells #[.int .i64 0, .int .i64 5] 2)
    go_wp2_with fail
    refine P.mono ?_
    rintro e w3 ⟨a, ha, rfl, h3, c3⟩
    have S3 := S2a.chg c3 (.inr (by omega))
    have R3 := R2a.chg c3 (.inr (by omega))
    have C3 := C2.trans ((Below.chg b3 bs (bs + 1)).trans c3)
    obtain ⟨x0, x1, x2, x3, x4, x5, x6, x7, x8⟩ := box9 S3
    obtain ⟨y0, y1, y2, y3, y4, y5, y6, y7, y8⟩ := box9 R3
    have g0 := S3.frozen 0
    have u0 := R3.frozen 0
    have u1 := R3.frozen 1
    have u2 := R3.frozen 2
    have u3 := R3.frozen 3
    have u4 := R3.frozen 4
    have u5 := R3.frozen 5
    have u6 := R3.frozen 6
    have u7 := R3.frozen 7
    have u8 := R3.frozen 8
    have HH : Hid (Src w3 bs (t + 11) v n f) := h3
    have HC : Hid (Chg bs (bs + 1) w w3) := C3
    have hne : ¬ w.heap.size = w1.heap.size := by omega
    have hne2 : ¬ w1.heap.size = w.heap.size := by omega
    clear P S2 R2 S2a R2a C2 C3 c3 b3 h2 h3 S3 R3 ha
    go_wp2
    have BF : Below w.heap.size w3 (set9 (w3.setCell ⟨w1.heap.size, 0, none⟩ (.int .i64 a)) w.heap.size (fun i => if i = 0 then a else s i)) := ((Below.refl _ _).setCell (by show w.heap.size ≤ w1.heap.size; omega) _).trans (below_set9 _ _ (Nat.le_refl _))
    exact bodyPost_ret (v := shapeV (fun i => if i = 0 then a else s i)) (by simp [results, Try.results12, go_sem, shapeV, x0, x1, x2, x3, x4, x5, x6, x7, x8, y0, y1, y2, y3, y4, y5, y6, y7, y8, hne, hne2]) rfl ⟨_, _, rfl, Nat.le_refl _, HH.out.overC BF hbs, chg_below HC.out BF⟩
  by_cases r1 : r = 1
  · subst r1
    have b3 : Below w2.heap.size w2 (w2.alloc (.cells #[.int .i64 (-1), .int .i64 3] 2)) := (Below.refl _ _).alloc (Nat.le_refl _) _
    have P := l1Pick_list bs (t + 10) v n f [-1, 3] w2.heap.size 2 (by omega) (by show 1 ≤ 2; omega) (by show 2 ≤ 100000; omega) _ (h2.chgTrans b3) (box_new _ _ _) (by omega)
    have S2a := S2.allocd (.cells #[.int .i64 (-1), .int .i64 3] 2)
    have R2a := R2.allocd (.cells #[.int .i64 (-1), .int .i64 3] 2)
    go_wp2_with fail
    refine P.mono ?_
    rintro e w3 ⟨a, ha, rfl, h3, c3⟩
    have S3 := S2a.chg c3 (.inr (by omega))
    have R3 := R2a.chg c3 (.inr (by omega))
    have C3 := C2.trans ((Below.chg b3 bs (bs + 1)).trans c3)
    obtain ⟨x0, x1, x2, x3, x4, x5, x6, x7, x8⟩ := box9 S3
    obtain ⟨y0, y1, y2, y3, y4, y5, y6, y7, y8⟩ := box9 R3
    have g1 := S3.frozen 1
    have u0 := R3.frozen 0
    have u1 := R3.frozen 1
    have u2 := R3.frozen 2
    have u3 := R3.frozen 3
    have u4 := R3.frozen 4
    have u5 := R3.frozen 5
    have u6 := R3.frozen 6
    have u7 := R3.frozen 7
    have u8 := R3.frozen 8
    have HH : Hid (Src w3 bs (t + 11) v n f) := h3
    have HC : Hid (Chg bs (bs + 1) w w3) := C3
    have hne : ¬ w.heap.size = w1.heap.size := by omega
    have hne2 : ¬ w1.heap.size = w.heap.size := by omega
    clear P S2 R2 S2a R2a C2 C3 c3 b3 h2 h3 S3 R3 ha
    go_wp2
    have BF : Below w.heap.size w3 (set9 (w3.setCell ⟨w1.heap.size, 1, none⟩ (.int .i64 a)) w.heap.size (fun i => if i = 1 then a else s i)) := ((Below.refl _ _).setCell (by show w.heap.size ≤ w1.heap.size; omega) _).trans (below_set9 _ _ (Nat.le_refl _))
    exact bodyPost_ret (v := shapeV (fun i => if i = 1 then a else s i)) (by simp [results, Try.results12, go_sem, shapeV, x0, x1, x2, x3, x4, x5, x6, x7, x8, y0, y1, y2, y3, y4, y5, y6, y7, y8, hne, hne2]) rfl ⟨_, _, rfl, Nat.le_refl _, HH.out.overC BF hbs, chg_below HC.out BF⟩
  by_cases r2 : r = 2
  · subst r2
    have b3 : Below w2.heap.size w2 (w2.alloc (.cells #[.int .i64 0, .int .i64 4] 2)) := (Below.refl _ _).alloc (Nat.le_refl _) _
    have P := l1Pick_list bs (t + 10) v n f [0, 4] w2.heap.size 2 (by omega) (by show 1 ≤ 2; omega) (by show 2 ≤ 100000; omega) _ (h2.chgTrans b3) (box_new _ _ _) (by omega)
    have S2a := S2.allocd (.cells #[.int .i64 0, .int .i64 4] 2)
    have R2a := R2.allocd (.cells #[.int .i64 0, .int .i64 4] 2)
    go_wp2_with fail
    refine P.mono ?_
    rintro e w3 ⟨a, ha, rfl, h3, c3⟩
    have S3 := S2a.chg c3 (.inr (by omega))
    have R3 := R2a.chg c3 (.inr (by omega))
    have C3 := C2.trans ((Below.chg b3 bs (bs + 1)).trans c3)
    obtain ⟨x0, x1, x2, x3, x4, x5, x6, x7, x8⟩ := box9 S3
    obtain ⟨y0, y1, y2, y3, y4, y5, y6, y7, y8⟩ := box9 R3
    have g2 := S3.frozen 2
    have u0 := R3.frozen 0
    have u1 := R3.frozen 1
    have u2 := R3.frozen 2
    have u3 := R3.frozen 3
    have u4 := R3.frozen 4
    have u5 := R3.frozen 5
    have u6 := R3.frozen 6
    have u7 := R3.frozen 7
    have u8 := R3.frozen 8
    have HH : Hid (Src w3 bs (t + 11) v n f) := h3
    have HC : Hid (Chg bs (bs + 1) w w3) := C3
    have hne : ¬ w.heap.size = w1.heap.size := by omega
    have hne2 : ¬ w1.heap.size = w.heap.size := by omega
    clear P S2 R2 S2a R2a C2 C3 c3 b3 h2 h3 S3 R3 ha
    go_wp2
    have BF : Below w.heap.size w3 (set9 (w3.setCell ⟨w1.heap.size, 2, none⟩ (.int .i64 a)) w.heap.size (fun i => if i = 2 then a else s i)) := ((Below.refl _ _).setCell (by show w.heap.size ≤ w1.heap.size; omega) _).trans (below_set9 _ _ (Nat.le_refl _))
    exact bodyPost_ret (v := shapeV (fun i => if i = 2 then a else s i)) (by simp [results, Try.results12, go_sem, shapeV, x0, x1, x2, x3, x4, x5, x6, x7, x8, y0, y1, y2, y3, y4, y5, y6, y7, y8, hne, hne2]) rfl ⟨_, _, rfl, Nat.le_refl _, HH.out.overC BF hbs, chg_below HC.out BF⟩
  by_cases r3 : r = 3
  · subst r3
    have b3 : Below w2.heap.size w2 (w2.alloc (.cells #[.int .i64 (-1), .int .i64 3] 2)) := (Below.refl _ _).alloc (Nat.le_refl _) _
    have P := l1Pick_list bs (t + 10) v n f [-1, 3] w2.heap.size 2 (by omega) (by show 1 ≤ 2; omega) (by show 2 ≤ 100000; omega) _ (h2.chgTrans b3) (box_new _ _ _) (by omega)
    have S2a := S2.allocd (.cells #[.int .i64 (-1), .int .i64 3] 2)
    have R2a := R2.allocd (.cells #[.int .i64 (-1), .int .i64 3] 2)
    go_wp2_with fail
    refine P.mono ?_
    rintro e w3 ⟨a, ha, rfl, h3, c3⟩
    have S3 := S2a.chg c3 (.inr (by omega))
    have R3 := R2a.chg c3 (.inr (by omega))
    have C3 := C2.trans ((Below.chg b3 bs (bs + 1)).trans c3)
    obtain ⟨x0, x1, x2, x3, x4, x5, x6, x7, x8⟩ := box9 S3
    obtain ⟨y0, y1, y2, y3, y4, y5, y6, y7, y8⟩ := box9 R3
    have g3 := S3.frozen 3
    have u0 := R3.frozen 0
    have u1 := R3.frozen 1
    have u2 := R3.frozen 2
    have u3 := R3.frozen 3
    have u4 := R3.frozen 4
    have u5 := R3.frozen 5
    have u6 := R3.frozen 6
    have u7 := R3.frozen 7
    have u8 := R3.frozen 8
    have HH : Hid (Src w3 bs (t + 11) v n f) := h3
    have HC : Hid (Chg bs (bs + 1) w w3) := C3
    have hne : ¬ w.heap.size = w1.heap.size := by omega
    have hne2 : ¬ w1.heap.size = w.heap.size := by omega
    clear P S2 R2 S2a R2a C2 C3 c3 b3 h2 h3 S3 R3 ha
    go_wp2
    have BF : Below w.heap.size w3 (set9 (w3.setCell ⟨w1.heap.size, 3, none⟩ (.int .i64 a)) w.heap.size (fun i => if i = 3 then a else s i)) := ((Below.refl _ _).setCell (by show w.heap.size ≤ w1.heap.size; omega) _).trans (below_set9 _ _ (Nat.le_refl _))
    exact bodyPost_ret (v := shapeV (fun i => if i = 3 then a else s i)) (by simp [results, Try.results12, go_sem, shapeV, x0, x1, x2, x3, x4, x5, x6, x7, x8, y0, y1, y2, y3, y4, y5, y6, y7, y8, hne, hne2]) rfl ⟨_, _, rfl, Nat.le_refl _, HH.out.overC BF hbs, chg_below HC.out BF⟩
  by_cases r4 : r = 4
  · subst r4
    have b3 : Below w2.heap.size w2 (w2.alloc (.cells #[.int .i64 0, .int .i64 7, .int .i64 6] 2)) := (Below.refl _ _).alloc (Nat.le_refl _) _
    have P := l1Pick_list bs (t + 10) v n f [0, 7, 6] w2.heap.size 3 (by omega) (by show 1 ≤ 3; omega) (by show 3 ≤ 100000; omega) _ (h2.chgTrans b3) (box_new _ _ _) (by omega)
    have S2a := S2.allocd (.cells #[.int .i64 0, .int .i64 7, .int .i64 6] 2)
    have R2a := R2.allocd (.cells #[.int .i64 0, .int .i64 7, .int .i64 6] 2)
    go_wp2_with fail
    refine P.mono ?_
    rintro e w3 ⟨a, ha, rfl, h3, c3⟩
    have S3 := S2a.chg c3 (.inr (by omega))
    have R3 := R2a.chg c3 (.inr (by omega))
    have C3 := C2.trans ((Below.chg b3 bs (bs + 1)).trans c3)
    obtain ⟨x0, x1, x2, x3, x4, x5, x6, x7, x8⟩ := box9 S3
    obtain ⟨y0, y1, y2, y3, y4, y5, y6, y7, y8⟩ := box9 R3
    have g4 := S3.frozen 4
    have u0 := R3.frozen 0
    have u1 := R3.frozen 1
    have u2 := R3.frozen 2
    have u3 := R3.frozen 3
    have u4 := R3.frozen 4
    have u5 := R3.frozen 5
    have u6 := R3.frozen 6
    have u7 := R3.frozen 7
    have u8 := R3.frozen 8
    have HH : Hid (Src w3 bs (t + 11) v n f) := h3
    have HC : Hid (Chg bs (bs + 1) w w3) := C3
    have hne : ¬ w.heap.size = w1.heap.size := by omega
    have hne2 : ¬ w1.heap.size = w.heap.size := by omega
    clear P S2 R2 S2a R2a C2 C3 c3 b3 h2 h3 S3 R3 ha
    go_wp2
    have BF : Below w.heap.size w3 (set9 (w3.setCell ⟨w1.heap.size, 4, none⟩ (.int .i64 a)) w.heap.size (fun i => if i = 4 then a else s i)) := ((Below.refl _ _).setCell (by show w.heap.size ≤ w1.heap.size; omega) _).trans (below_set9 _ _ (Nat.le_refl _))
    exact bodyPost_ret (v := shapeV (fun i => if i = 4 then a else s i)) (by simp [results, Try.results12, go_sem, shapeV, x0, x1, x2, x3, x4, x5, x6, x7, x8, y0, y1, y2, y3, y4, y5, y6, y7, y8, hne, hne2]) rfl ⟨_, _, rfl, Nat.le_refl _, HH.out.overC BF hbs, chg_below HC.out BF⟩
  by_cases r5 : r = 5
  · subst r5
    have b3 : Below w2.heap.size w2 (w2.alloc (.cells #[.int .i64 0, .int .i64 7, .int .i64 6] 2)) := (Below.refl _ _).alloc (Nat.le_refl _) _
    have P := l1Pick_list bs (t + 10) v n f [0, 7, 6] w2.heap.size 3 (by omega) (by show 1 ≤ 3; omega) (by show 3 ≤ 100000; omega) _ (h2.chgTrans b3) (box_new _ _ _) (by omega)
    have S2a := S2.allocd (.cells #[.int .i64 0, .int .i64 7, .int .i64 6] 2)
    have R2a := R2.allocd (.cells #[.int .i64 0, .int .i64 7, .int .i64 6] 2)
    go_wp2_with fail
    refine P.mono ?_
    rintro e w3 ⟨a, ha, rfl, h3, c3⟩
    have S3 := S2a.chg c3 (.inr (by omega))
    have R3 := R2a.chg c3 (.inr (by omega))
    have C3 := C2.trans ((Below.chg b3 bs (bs + 1)).trans c3)
    obtain ⟨x0, x1, x2, x3, x4, x5, x6, x7, x8⟩ := box9 S3
    obtain ⟨y0, y1, y2, y3, y4, y5, y6, y7, y8⟩ := box9 R3
    have g5 := S3.frozen 5
    have u0 := R3.frozen 0
    have u1 := R3.frozen 1
    have u2 := R3.frozen 2
    have u3 := R3.frozen 3
    have u4 := R3.frozen 4
    have u5 := R3.frozen 5
    have u6 := R3.frozen 6
    have u7 := R3.frozen 7
    have u8 := R3.frozen 8
    have HH : Hid (Src w3 bs (t + 11) v n f) := h3
    have HC : Hid (Chg bs (bs + 1) w w3) := C3
    have hne : ¬ w.heap.size = w1.heap.size := by omega
    have hne2 : ¬ w1.heap.size = w.heap.size := by omega
    clear P S2 R2 S2a R2a C2 C3 c3 b3 h2 h3 S3 R3 ha
    go_wp2
    have BF : Below w.heap.size w3 (set9 (w3.setCell ⟨w1.heap.size, 5, none⟩ (.int .i64 a)) w.heap.size (fun i => if i = 5 then a else s i)) := ((Below.refl _ _).setCell (by show w.heap.size ≤ w1.heap.size; omega) _).trans (below_set9 _ _ (Nat.le_refl _))
    exact bodyPost_ret (v := shapeV (fun i => if i = 5 then a else s i)) (by simp [results, Try.results12, go_sem, shapeV, x0, x1, x2, x3, x4, x5, x6, x7, x8, y0, y1, y2, y3, y4, y5, y6, y7, y8, hne, hne2]) rfl ⟨_, _, rfl, Nat.le_refl _, HH.out.overC BF hbs, chg_below HC.out BF⟩
  by_cases r6 : r = 6
  · subst r6
    have b3 : Below w2.heap.size w2 (w2.alloc (.cells #[.int .i64 0, .int .i64 5, .int .i64 4] 2)) := (Below.refl _ _).alloc (Nat.le_refl _) _
    have P := l1Pick_list bs (t + 10) v n f [0, 5, 4] w2.heap.size 3 (by omega) (by show 1 ≤ 3; omega) (by show 3 ≤ 100000; omega) _ (h2.chgTrans b3) (box_new _ _ _) (by omega)
    have S2a := S2.allocd (.cells #[.int .i64 0, .int .i64 5, .int .i64 4] 2)
    have R2a := R2.allocd (.cells #[.int .i64 0, .int .i64 5, .int .i64 4] 2)
    go_wp2_with fail
    refine P.mono ?_
    rintro e w3 ⟨a, ha, rfl, h3, c3⟩
    have S3 := S2a.chg c3 (.inr (by omega))
    have R3 := R2a.chg c3 (.inr (by omega))
    have C3 := C2.trans ((Below.chg b3 bs (bs + 1)).trans c3)
    obtain ⟨x0, x1, x2, x3, x4, x5, x6, x7, x8⟩ := box9 S3
    obtain ⟨y0, y1, y2, y3, y4, y5, y6, y7, y8⟩ := box9 R3
    have g6 := S3.frozen 6
    have u0 := R3.frozen 0
    have u1 := R3.frozen 1
    have u2 := R3.frozen 2
    have u3 := R3.frozen 3
    have u4 := R3.frozen 4
    have u5 := R3.frozen 5
    have u6 := R3.frozen 6
    have u7 := R3.frozen 7
    have u8 := R3.frozen 8
    have HH : Hid (Src w3 bs (t + 11) v n f) := h3
    have HC : Hid (Chg bs (bs + 1) w w3) := C3
    have hne : ¬ w.heap.size = w1.heap.size := by omega
    have hne2 : ¬ w1.heap.size = w.heap.size := by omega
    clear P S2 R2 S2a R2a C2 C3 c3 b3 h2 h3 S3 R3 ha
    go_wp2
    have BF : Below w.heap.size w3 (set9 (w3.setCell ⟨w1.heap.size, 6, none⟩ (.int .i64 a)) w.heap.size (fun i => if i = 6 then a else s i)) := ((Below.refl _ _).setCell (by show w.heap.size ≤ w1.heap.size; omega) _).trans (below_set9 _ _ (Nat.le_refl _))
    exact bodyPost_ret (v := shapeV (fun i => if i = 6 then a else s i)) (by simp [results, Try.results12, go_sem, shapeV, x0, x1, x2, x3, x4, x5, x6, x7, x8, y0, y1, y2, y3, y4, y5, y6, y7, y8, hne, hne2]) rfl ⟨_, _, rfl, Nat.le_refl _, HH.out.overC BF hbs, chg_below HC.out BF⟩
  by_cases r7 : r = 7
  · subst r7
    have b3 : Below w2.heap.size w2 (w2.alloc (.cells #[.int .i64 0, .int .i64 7, .int .i64 6] 2)) := (Below.refl _ _).alloc (Nat.le_refl _) _
    have P := l1Pick_list bs (t + 10) v n f [0, 7, 6] w2.heap.size 3 (by omega) (by show 1 ≤ 3; omega) (by show 3 ≤ 100000; omega) _ (h2.chgTrans b3) (box_new _ _ _) (by omega)
    have S2a := S2.allocd (.cells #[.int .i64 0, .int .i64 7, .int .i64 6] 2)
    have R2a := R2.allocd (.cells #[.int .i64 0, .int .i64 7, .int .i64 6] 2)
    go_wp2_with fail
    refine P.mono ?_
    rintro e w3 ⟨a, ha, rfl, h3, c3⟩
    have S3 := S2a.chg c3 (.inr (by omega))
    have R3 := R2a.chg c3 (.inr (by omega))
    have C3 := C2.trans ((Below.chg b3 bs (bs + 1)).trans c3)
    obtain ⟨x0, x1, x2, x3, x4, x5, x6, x7, x8⟩ := box9 S3
    obtain ⟨y0, y1, y2, y3, y4, y5, y6, y7, y8⟩ := box9 R3
    have g7 := S3.frozen 7
    have u0 := R3.frozen 0
    have u1 := R3.frozen 1
    have u2 := R3.frozen 2
    have u3 := R3.frozen 3
    have u4 := R3.frozen 4
    have u5 := R3.frozen 5
    have u6 := R3.frozen 6
    have u7 := R3.frozen 7
    have u8 := R3.frozen 8
    have HH : Hid (Src w3 bs (t + 11) v n f) := h3
    have HC : Hid (Chg bs (bs + 1) w w3) := C3
    have hne : ¬ w.heap.size = w1.heap.size := by omega
    have hne2 : ¬ w1.heap.size = w.heap.size := by omega
    clear P S2 R2 S2a R2a C2 C3 c3 b3 h2 h3 S3 R3 ha
    go_wp2
    have BF : Below w.heap.size w3 (set9 (w3.setCell ⟨w1.heap.size, 7, none⟩ (.int .i64 a)) w.heap.size (fun i => if i = 7 then a else s i)) := ((Below.refl _ _).setCell (by show w.heap.size ≤ w1.heap.size; omega) _).trans (below_set9 _ _ (Nat.le_refl _))
    exact bodyPost_ret (v := shapeV (fun i => if i = 7 then a else s i)) (by simp [results, Try.results12, go_sem, shapeV, x0, x1, x2, x3, x4, x5, x6, x7, x8, y0, y1, y2, y3, y4, y5, y6, y7, y8, hne, hne2]) rfl ⟨_, _, rfl, Nat.le_refl _, HH.out.overC BF hbs, chg_below HC.out BF⟩
  by_cases r8 : r = 8
  · subst r8
    have b3 : Below w2.heap.size w2 (w2.alloc (.cells #[.int .i64 (-1), .int .i64 401, .int .i64 0] 2)) := (Below.refl _ _).alloc (Nat.le_refl _) _
    have P := l1Pick_list bs (t + 10) v n f [-1, 401, 0] w2.heap.size 3 (by omega) (by show 1 ≤ 3; omega) (by show 3 ≤ 100000; omega) _ (h2.chgTrans b3) (box_new _ _ _) (by omega)
    have S2a := S2.allocd (.cells #[.int .i64 (-1), .int .i64 401, .int .i64 0] 2)
    have R2a := R2.allocd (.cells #[.int .i64 (-1), .int .i64 401, .int .i64 0] 2)
    go_wp2_with fail
    refine P.mono ?_
    rintro e w3 ⟨a, ha, rfl, h3, c3⟩
    have S3 := S2a.chg c3 (.inr (by omega))
    have R3 := R2a.chg c3 (.inr (by omega))
    have C3 := C2.trans ((Below.chg b3 bs (bs + 1)).trans c3)
    obtain ⟨x0, x1, x2, x3, x4, x5, x6, x7, x8⟩ := box9 S3
    obtain ⟨y0, y1, y2, y3, y4, y5, y6, y7, y8⟩ := box9 R3
    have g8 := S3.frozen 8
    have u0 := R3.frozen 0
    have u1 := R3.frozen 1
    have u2 := R3.frozen 2
    have u3 := R3.frozen 3
    have u4 := R3.frozen 4
    have u5 := R3.frozen 5
    have u6 := R3.frozen 6
    have u7 := R3.frozen 7
    have u8 := R3.frozen 8
    have HH : Hid (Src w3 bs (t + 11) v n f) := h3
    have HC : Hid (Chg bs (bs + 1) w w3) := C3
    have hne : ¬ w.heap.size = w1.heap.size := by omega
    have hne2 : ¬ w1.heap.size = w.heap.size := by omega
    clear P S2 R2 S2a R2a C2 C3 c3 b3 h2 h3 S3 R3 ha
    go_wp2
    have BF : Below w.heap.size w3 (set9 (w3.setCell ⟨w1.heap.size, 8, none⟩ (.int .i64 a)) w.heap.size (fun i => if i = 8 then a else s i)) := ((Below.refl _ _).setCell (by show w.heap.size ≤ w1.heap.size; omega) _).trans (below_set9 _ _ (Nat.le_refl _))
    exact bodyPost_ret (v := shapeV (fun i => if i = 8 then a else s i)) (by simp [results, Try.results12, go_sem, shapeV, x0, x1, x2, x3, x4, x5, x6, x7, x8, y0, y1, y2, y3, y4, y5, y6, y7, y8, hne, hne2]) rfl ⟨_, _, rfl, Nat.le_refl _, HH.out.overC BF hbs, chg_below HC.out BF⟩
  have t0 : ((r : Int) == 0) = false := by simp; omega
  have t1 : ((r : Int) == 1) = false := by simp; omega
  have t2 : ((r : Int) == 2) = false := by simp; omega
  have t3 : ((r : Int) == 3) = false := by simp; omega
  have t4 : ((r : Int) == 4) = false := by simp; omega
  have t5 : ((r : Int) == 5) = false := by simp; omega
  have t6 : ((r : Int) == 6) = false := by simp; omega
  have t7 : ((r : Int) == 7) = false := by simp; omega
  have t8 : ((r : Int) == 8) = false := by simp; omega
  obtain ⟨x0, x1, x2, x3, x4, x5, x6, x7, x8⟩ := box9 S2
  obtain ⟨y0, y1, y2, y3, y4, y5, y6, y7, y8⟩ := box9 R2
  have u0 := R2.frozen 0
  have u1 := R2.frozen 1
  have u2 := R2.frozen 2
  have u3 := R2.frozen 3
  have u4 := R2.frozen 4
  have u5 := R2.frozen 5
  have u6 := R2.frozen 6
  have u7 := R2.frozen 7
  have u8 := R2.frozen 8
  have HH : Hid (Src w2 bs (t + 10) v n f) := h2
  have HC : Hid (Chg bs (bs + 1) w w2) := C2
  clear C2 h2 S2 R2 r0 r1 r2 r3 r4 r5 r6 r7 r8
  go_wp2
  have BF : Below w.heap.size w2 (set9 w2 w.heap.size s) := below_set9 _ _ (Nat.le_refl _)
  exact bodyPost_ret (v := shapeV s) (by simp [results, Try.results12, go_sem, shapeV, x0, x1, x2, x3, x4, x5, x6, x7, x8, y0, y1, y2, y3, y4, y5, y6, y7, y8]) rfl ⟨_, _, rfl, by omega, HH.out.overC BF hbs, chg_below HC.out BF⟩
end Go.Proofs.Ytdnankopblkblab
