/- Walks of the draws of a length and of an object. What is drawn is not told. -/
import Derived.Test.YtdnankopblkblabWDrawT
import Derived.Test.YtdnankopblkblabWDraw2
import Derived.Test.YtdnankopblkblabWDrawR
namespace Go.Proofs.Ytdnankopblkblab
open Go.RowKit F256
set_option linter.unusedVariables false
set_option linter.unusedSimpArgs false

/-- what a length is drawn as -/
def LenP (w : World) (bs t : Nat) (v : Value) (n : Nat) (f : Nat → Nat) (e : Ending) (w' : World) : Prop := ∃ x : Int, -1 ≤ x ∧ x ≤ 37 ∧ e = .returned (.int .i64 x) ∧ Src w' bs (t + 2) v n f ∧ Chg bs (bs + 1) w w'

set_option maxHeartbeats 4000000 in
theorem l4Length_1 (bs t : Nat) (v : Value) (n : Nat) (f : Nat → Nat) (ht : t ≤ 800000) (s : Nat → Int) (w : World) (h : Src w bs t v n f) (x : Int) (M1 : ∀ w, Calls Try.prog 25 #[.int .i64 3, .int .i64 (s 2)] w fun e w' => e = .returned (.int .i64 x) ∧ w' = w) (N1 : ∀ w, Calls Try.prog 14 #[.int .i64 1, .int .i64 x] w fun e w' => e = .returned (.int .i64 1) ∧ w' = w) :
    Calls Try.prog 15 #[.pointer (some ⟨bs, 0, none⟩), shapeV s] w (LenP w bs t v n f) := by
  have hbs := h.1.lt
  unfold shapeV
  have b0 : Below w.heap.size w (w.alloc (.cells #[.int .i64 (s 0), .int .i64 (s 1), .int .i64 (s 2), .int .i64 (s 3), .int .i64 (s 4), .int .i64 (s 5), .int .i64 (s 6), .int .i64 (s 7), .int .i64 (s 8)] 25)) := (Below.refl _ _).alloc (Nat.le_refl _) _
  have NX := l1Next_any bs t v n f 12 (by omega) (by omega) (by omega) _ (h.chgTrans b0)
  clear h
  go_enter Try.func15, Try.ntmps15
  go_wp2_with fail
  refine (M1 _).mono ?_
  rintro e w1 ⟨rfl, hw⟩
  obtain rfl := hw.symm
  go_wp2_with fail
  refine (N1 _).mono ?_
  rintro e w1 ⟨rfl, hw⟩
  obtain rfl := hw.symm
  go_wp2_with fail
  refine NX.mono ?_
  rintro e w1 ⟨r, hr, rfl, h1, c1⟩
  have C1 := (Below.chg b0 bs (bs + 1)).trans c1
  have l1 := h1.1.lt
  have b1 : Below w1.heap.size w1 (w1.alloc (.cells #[.int .i64 (1 + (r : Int)), .int .i64 4, .int .i64 5, .int .i64 12, .int .i64 13, .int .i64 0, .int .i64 (-1)] 2)) := (Below.refl _ _).alloc (Nat.le_refl _) _
  have P1 := l1Pick_list bs (t + 1) v n f [1 + (r : Int), 4, 5, 12, 13, 0, -1] w1.heap.size 7 (by omega) (by show 1 ≤ 7; omega) (by show 7 ≤ 100000; omega) _ (h1.chgTrans b1) (box_new _ _ _) (by omega)
  clear NX M1 N1 b0 c1
  go_wp2_with fail
  refine P1.mono ?_
  rintro e w2 ⟨y, hy, rfl, h2, c2⟩
  have C2 := C1.trans ((Below.chg b1 bs (bs + 1)).trans c2)
  have HY : Hid (-1 ≤ y ∧ y ≤ 37) := by
    show -1 ≤ y ∧ y ≤ 37
    simp only [List.mem_cons, List.not_mem_nil, or_false] at hy
    omega
  clear P1 hy b1 c2 C1 h1
  go_wp2
  go_ret
  exact ⟨y, HY.out.1, HY.out.2, rfl, h2, C2⟩

set_option maxHeartbeats 4000000 in
theorem l4Length_2 (bs t : Nat) (v : Value) (n : Nat) (f : Nat → Nat) (ht : t ≤ 800000) (s : Nat → Int) (w : World) (h : Src w bs t v n f) (x : Int) (M1 : ∀ w, Calls Try.prog 25 #[.int .i64 3, .int .i64 (s 2)] w fun e w' => e = .returned (.int .i64 x) ∧ w' = w) (N1 : ∀ w, Calls Try.prog 14 #[.int .i64 1, .int .i64 x] w fun e w' => e = .returned (.int .i64 2) ∧ w' = w) :
    Calls Try.prog 15 #[.pointer (some ⟨bs, 0, none⟩), shapeV s] w (LenP w bs t v n f) := by
  have hbs := h.1.lt
  unfold shapeV
  have b0 : Below w.heap.size w (w.alloc (.cells #[.int .i64 (s 0), .int .i64 (s 1), .int .i64 (s 2), .int .i64 (s 3), .int .i64 (s 4), .int .i64 (s 5), .int .i64 (s 6), .int .i64 (s 7), .int .i64 (s 8)] 25)) := (Below.refl _ _).alloc (Nat.le_refl _) _
  have NX := l1Next_any bs t v n f 24 (by omega) (by omega) (by omega) _ (h.chgTrans b0)
  clear h
  go_enter Try.func15, Try.ntmps15
  go_wp2_with fail
  refine (M1 _).mono ?_
  rintro e w1 ⟨rfl, hw⟩
  obtain rfl := hw.symm
  go_wp2_with fail
  refine (N1 _).mono ?_
  rintro e w1 ⟨rfl, hw⟩
  obtain rfl := hw.symm
  go_wp2_with fail
  refine NX.mono ?_
  rintro e w1 ⟨r, hr, rfl, h1, c1⟩
  have C1 := (Below.chg b0 bs (bs + 1)).trans c1
  have l1 := h1.1.lt
  have b1 : Below w1.heap.size w1 (w1.alloc (.cells #[.int .i64 (1 + (r : Int)), .int .i64 8, .int .i64 9, .int .i64 24, .int .i64 25, .int .i64 0, .int .i64 (-1)] 2)) := (Below.refl _ _).alloc (Nat.le_refl _) _
  have P1 := l1Pick_list bs (t + 1) v n f [1 + (r : Int), 8, 9, 24, 25, 0, -1] w1.heap.size 7 (by omega) (by show 1 ≤ 7; omega) (by show 7 ≤ 100000; omega) _ (h1.chgTrans b1) (box_new _ _ _) (by omega)
  clear NX M1 N1 b0 c1
  go_wp2_with fail
  refine P1.mono ?_
  rintro e w2 ⟨y, hy, rfl, h2, c2⟩
  have C2 := C1.trans ((Below.chg b1 bs (bs + 1)).trans c2)
  have HY : Hid (-1 ≤ y ∧ y ≤ 37) := by
    show -1 ≤ y ∧ y ≤ 37
    simp only [List.mem_cons, List.not_mem_nil, or_false] at hy
    omega
  clear P1 hy b1 c2 C1 h1
  go_wp2
  go_ret
  exact ⟨y, HY.out.1, HY.out.2, rfl, h2, C2⟩

set_option maxHeartbeats 4000000 in
theorem l4Length_3 (bs t : Nat) (v : Value) (n : Nat) (f : Nat → Nat) (ht : t ≤ 800000) (s : Nat → Int) (w : World) (h : Src w bs t v n f) (x : Int) (M1 : ∀ w, Calls Try.prog 25 #[.int .i64 3, .int .i64 (s 2)] w fun e w' => e = .returned (.int .i64 x) ∧ w' = w) (N1 : ∀ w, Calls Try.prog 14 #[.int .i64 1, .int .i64 x] w fun e w' => e = .returned (.int .i64 3) ∧ w' = w) :
    Calls Try.prog 15 #[.pointer (some ⟨bs, 0, none⟩), shapeV s] w (LenP w bs t v n f) := by
  have hbs := h.1.lt
  unfold shapeV
  have b0 : Below w.heap.size w (w.alloc (.cells #[.int .i64 (s 0), .int .i64 (s 1), .int .i64 (s 2), .int .i64 (s 3), .int .i64 (s 4), .int .i64 (s 5), .int .i64 (s 6), .int .i64 (s 7), .int .i64 (s 8)] 25)) := (Below.refl _ _).alloc (Nat.le_refl _) _
  have NX := l1Next_any bs t v n f 36 (by omega) (by omega) (by omega) _ (h.chgTrans b0)
  clear h
  go_enter Try.func15, Try.ntmps15
  go_wp2_with fail
  refine (M1 _).mono ?_
  rintro e w1 ⟨rfl, hw⟩
  obtain rfl := hw.symm
  go_wp2_with fail
  refine (N1 _).mono ?_
  rintro e w1 ⟨rfl, hw⟩
  obtain rfl := hw.symm
  go_wp2_with fail
  refine NX.mono ?_
  rintro e w1 ⟨r, hr, rfl, h1, c1⟩
  have C1 := (Below.chg b0 bs (bs + 1)).trans c1
  have l1 := h1.1.lt
  have b1 : Below w1.heap.size w1 (w1.alloc (.cells #[.int .i64 (1 + (r : Int)), .int .i64 12, .int .i64 13, .int .i64 36, .int .i64 37, .int .i64 0, .int .i64 (-1)] 2)) := (Below.refl _ _).alloc (Nat.le_refl _) _
  have P1 := l1Pick_list bs (t + 1) v n f [1 + (r : Int), 12, 13, 36, 37, 0, -1] w1.heap.size 7 (by omega) (by show 1 ≤ 7; omega) (by show 7 ≤ 100000; omega) _ (h1.chgTrans b1) (box_new _ _ _) (by omega)
  clear NX M1 N1 b0 c1
  go_wp2_with fail
  refine P1.mono ?_
  rintro e w2 ⟨y, hy, rfl, h2, c2⟩
  have C2 := C1.trans ((Below.chg b1 bs (bs + 1)).trans c2)
  have HY : Hid (-1 ≤ y ∧ y ≤ 37) := by
    show -1 ≤ y ∧ y ≤ 37
    simp only [List.mem_cons, List.not_mem_nil, or_false] at hy
    omega
  clear P1 hy b1 c2 C1 h1
  go_wp2
  go_ret
  exact ⟨y, HY.out.1, HY.out.2, rfl, h2, C2⟩

theorem l4Length_any (bs t : Nat) (v : Value) (n : Nat) (f : Nat → Nat) (ht : t ≤ 800000) (s : Nat → Int) (w : World) (h : Src w bs t v n f) :
    Calls Try.prog 15 #[.pointer (some ⟨bs, 0, none⟩), shapeV s] w (LenP w bs t v n f) := by
  obtain ⟨x, hx⟩ : ∃ x, x = (if (3 : Int) < s 2 then 3 else s 2) := ⟨_, rfl⟩
  have M1 : ∀ w, Calls Try.prog 25 #[.int .i64 3, .int .i64 (s 2)] w fun e w' => e = .returned (.int .i64 x) ∧ w' = w := fun w => by rw [hx]; exact l1Min_any 3 (s 2) w
  obtain ⟨q, hq⟩ : ∃ q, q = (if x < 1 then (1 : Int) else x) := ⟨_, rfl⟩
  have N1 : ∀ w, Calls Try.prog 14 #[.int .i64 1, .int .i64 x] w fun e w' => e = .returned (.int .i64 q) ∧ w' = w := fun w => by rw [hq]; exact l1Max_any 1 x w
  have hq3 : q = 1 ∨ q = 2 ∨ q = 3 := by
    have : x ≤ 3 := by rw [hx]; split <;> omega
    split at hq <;> omega
  rcases hq3 with rfl | rfl | rfl
  · exact l4Length_1 bs t v n f ht s w h x M1 N1
  · exact l4Length_2 bs t v n f ht s w h x M1 N1
  · exact l4Length_3 bs t v n f ht s w h x M1 N1
end Go.Proofs.Ytdnankopblkblab
