/- Walk of the program's ShapeFault. -/
import Derived.Test.YthncbkgklhbcjaaWNear
import Derived.Laws.StructEq
namespace Go.Proofs.Ythncbkgklhbcjaa
open Go.RowKit F256
set_option linter.unusedVariables false
set_option linter.unusedSimpArgs false

theorem shape_eq_yes (a0 a1 a2 a3 a4 a5 a6 a7 a8 : Int) (w : World) : (Op.equalIn 10000 38 (.agg #[.int .i64 a0, .int .i64 a1, .int .i64 a2, .int .i64 a3, .int .i64 a4, .int .i64 a5, .int .i64 a6, .int .i64 a7, .int .i64 a8]) (.agg #[.int .i64 a0, .int .i64 a1, .int .i64 a2, .int .i64 a3, .int .i64 a4, .int .i64 a5, .int .i64 a6, .int .i64 a7, .int .i64 a8])).run Try.prog w = .ok true w := by
  have u3 := Try.underlying2
  rw [show (10000 : Nat) = 9999 + 1 from rfl, run_equalIn_agg w 9999 38 _ _ (by kernel_rfl) (by kernel_rfl)]
  simp only [Program.fieldsOf, Try.underlying38]
  go_simp
theorem shape_eq_no (a0 a1 a2 a3 a4 a5 a6 a7 a8 b0 b1 b2 b3 b4 b5 b6 b7 b8 : Int) (h : ¬ (a0 = b0 ∧ a1 = b1 ∧ a2 = b2 ∧ a3 = b3 ∧ a4 = b4 ∧ a5 = b5 ∧ a6 = b6 ∧ a7 = b7 ∧ a8 = b8)) (w : World) : (Op.equalIn 10000 38 (.agg #[.int .i64 a0, .int .i64 a1, .int .i64 a2, .int .i64 a3, .int .i64 a4, .int .i64 a5, .int .i64 a6, .int .i64 a7, .int .i64 a8]) (.agg #[.int .i64 b0, .int .i64 b1, .int .i64 b2, .int .i64 b3, .int .i64 b4, .int .i64 b5, .int .i64 b6, .int .i64 b7, .int .i64 b8])).run Try.prog w = .ok false w := by
  have u3 := Try.underlying2
  rw [show (10000 : Nat) = 9999 + 1 from rfl, run_equalIn_agg w 9999 38 _ _ (by kernel_rfl) (by kernel_rfl)]
  simp only [Program.fieldsOf, Try.underlying38]
  have H : Hid (¬ (a0 = b0 ∧ a1 = b1 ∧ a2 = b2 ∧ a3 = b3 ∧ a4 = b4 ∧ a5 = b5 ∧ a6 = b6 ∧ a7 = b7 ∧ a8 = b8)) := h
  clear h
  go_simp
  exact fun h0 h1 h2 h3 h4 h5 h6 h7 h8 => H.out ⟨h0, h1, h2, h3, h4, h5, h6, h7, h8⟩
theorem ok_near (s : Nat → Int) : OkShape s ↔ s 0 = nearZ (s 0) 1 4 ∧ s 1 = nearZ (s 1) 0 2 ∧ s 2 = nearZ (s 2) 1 3 ∧ s 3 = nearZ (s 3) 0 2 ∧ s 4 = nearZ (s 4) 1 6 ∧ s 5 = nearZ (s 5) 1 6 ∧ s 6 = nearZ (s 6) 1 4 ∧ s 7 = nearZ (s 7) 1 6 ∧ s 8 = nearZ (s 8) 0 400 := by
  unfold OkShape Shp3 Shp
  rw [nearZ_iff (s 0) 1 4 (by omega), nearZ_iff (s 1) 0 2 (by omega), nearZ_iff (s 2) 1 3 (by omega), nearZ_iff (s 3) 0 2 (by omega), nearZ_iff (s 4) 1 6 (by omega), nearZ_iff (s 5) 1 6 (by omega), nearZ_iff (s 6) 1 4 (by omega), nearZ_iff (s 7) 1 6 (by omega), nearZ_iff (s 8) 0 400 (by omega)]
  omega

set_option maxHeartbeats 4000000 in
theorem implShape_any (s : Nat → Int) (w : World) :
    Calls Try.prog 32 #[shapeV s] w fun e w' => ∃ x, e = .returned (.int .i64 x) ∧ ShFAns s x ∧ Below w.heap.size w w' := by
  have HK : Hid (OkShape s ↔ s 0 = nearZ (s 0) 1 4 ∧ s 1 = nearZ (s 1) 0 2 ∧ s 2 = nearZ (s 2) 1 3 ∧ s 3 = nearZ (s 3) 0 2 ∧ s 4 = nearZ (s 4) 1 6 ∧ s 5 = nearZ (s 5) 1 6 ∧ s 6 = nearZ (s 6) 1 4 ∧ s 7 = nearZ (s 7) 1 6 ∧ s 8 = nearZ (s 8) 0 400) := ok_near s
  unfold shapeV
  obtain ⟨a0, h0⟩ : ∃ a, a = s 0 := ⟨_, rfl⟩
  obtain ⟨a1, h1⟩ : ∃ a, a = s 1 := ⟨_, rfl⟩
  obtain ⟨a2, h2⟩ : ∃ a, a = s 2 := ⟨_, rfl⟩
  obtain ⟨a3, h3⟩ : ∃ a, a = s 3 := ⟨_, rfl⟩
  obtain ⟨a4, h4⟩ : ∃ a, a = s 4 := ⟨_, rfl⟩
  obtain ⟨a5, h5⟩ : ∃ a, a = s 5 := ⟨_, rfl⟩
  obtain ⟨a6, h6⟩ : ∃ a, a = s 6 := ⟨_, rfl⟩
  obtain ⟨a7, h7⟩ : ∃ a, a = s 7 := ⟨_, rfl⟩
  obtain ⟨a8, h8⟩ : ∃ a, a = s 8 := ⟨_, rfl⟩
  rw [← h0, ← h1, ← h2, ← h3, ← h4, ← h5, ← h6, ← h7, ← h8]
  have HK2 : Hid (OkShape s ↔ a0 = nearZ a0 1 4 ∧ a1 = nearZ a1 0 2 ∧ a2 = nearZ a2 1 3 ∧ a3 = nearZ a3 0 2 ∧ a4 = nearZ a4 1 6 ∧ a5 = nearZ a5 1 6 ∧ a6 = nearZ a6 1 4 ∧ a7 = nearZ a7 1 6 ∧ a8 = nearZ a8 0 400) := by
    show OkShape s ↔ _
    rw [h0, h1, h2, h3, h4, h5, h6, h7, h8]
    exact HK.out
  clear HK h0 h1 h2 h3 h4 h5 h6 h7 h8
  have CN := nearestShape_any a0 a1 a2 a3 a4 a5 a6 a7 a8
  have XA := box_new w #[.int .i64 a0, .int .i64 a1, .int .i64 a2, .int .i64 a3, .int .i64 a4, .int .i64 a5, .int .i64 a6, .int .i64 a7, .int .i64 a8] 38
  obtain ⟨x0, x1, x2, x3, x4, x5, x6, x7, x8⟩ := box9 XA
  have HX : Hid (Box (w.alloc (.cells #[.int .i64 a0, .int .i64 a1, .int .i64 a2, .int .i64 a3, .int .i64 a4, .int .i64 a5, .int .i64 a6, .int .i64 a7, .int .i64 a8] 38)) w.heap.size #[.int .i64 a0, .int .i64 a1, .int .i64 a2, .int .i64 a3, .int .i64 a4, .int .i64 a5, .int .i64 a6, .int .i64 a7, .int .i64 a8] 38) := XA
  have HB : Hid (Below w.heap.size w (w.alloc (.cells #[.int .i64 a0, .int .i64 a1, .int .i64 a2, .int .i64 a3, .int .i64 a4, .int .i64 a5, .int .i64 a6, .int .i64 a7, .int .i64 a8] 38))) := bnew (Below.refl _ _)
  obtain ⟨wA, hwA⟩ : ∃ x, x = w.alloc (.cells #[.int .i64 a0, .int .i64 a1, .int .i64 a2, .int .i64 a3, .int .i64 a4, .int .i64 a5, .int .i64 a6, .int .i64 a7, .int .i64 a8] 38) := ⟨_, rfl⟩
  rw [← hwA] at x0 x1 x2 x3 x4 x5 x6 x7 x8 HX HB
  clear XA
  by_cases ok : OkShape s
  · have HO : Hid (OkShape s) := ok
    obtain ⟨e0, e1, e2, e3, e4, e5, e6, e7, e8⟩ := HK2.out.mp ok
    rw [← e0, ← e1, ← e2, ← e3, ← e4, ← e5, ← e6, ← e7, ← e8] at CN
    have heq := shape_eq_yes a0 a1 a2 a3 a4 a5 a6 a7 a8
    clear e0 e1 e2 e3 e4 e5 e6 e7 e8 ok
    go_enter Try.func32, Try.ntmps32
    go_wp2_with fail
    rw [← hwA]
    clear hwA
    go_region_with (go_at_call 42; refine (CN _).mono ?_; rintro ee w2 ⟨rfl, hb2⟩; have hB2 : Below wA.heap.size wA w2 := ⟨hb2.os, hb2.tape, hb2.output, hb2.size, hb2.block⟩; obtain ⟨y0, y1, y2, y3, y4, y5, y6, y7, y8⟩ := box9 (HX.out.below hB2 HX.out.lt))
    all_goals
      go_wp2
      go_ret
      exact ⟨0, rfl, .inr ⟨rfl, HO.out⟩, HB.out.trans (hB2.mono HB.out.size)⟩
  · have HO : Hid (¬ OkShape s) := ok
    have hno : ¬ (a0 = nearZ a0 1 4 ∧ a1 = nearZ a1 0 2 ∧ a2 = nearZ a2 1 3 ∧ a3 = nearZ a3 0 2 ∧ a4 = nearZ a4 1 6 ∧ a5 = nearZ a5 1 6 ∧ a6 = nearZ a6 1 4 ∧ a7 = nearZ a7 1 6 ∧ a8 = nearZ a8 0 400) := fun h => ok (HK2.out.mpr h)
    have heq := shape_eq_no a0 a1 a2 a3 a4 a5 a6 a7 a8 (nearZ a0 1 4) (nearZ a1 0 2) (nearZ a2 1 3) (nearZ a3 0 2) (nearZ a4 1 6) (nearZ a5 1 6) (nearZ a6 1 4) (nearZ a7 1 6) (nearZ a8 0 400) hno
    clear hno ok
    go_enter Try.func32, Try.ntmps32
    go_wp2_with fail
    rw [← hwA]
    clear hwA
    go_region_with (go_at_call 42; refine (CN _).mono ?_; rintro ee w2 ⟨rfl, hb2⟩; have hB2 : Below wA.heap.size wA w2 := ⟨hb2.os, hb2.tape, hb2.output, hb2.size, hb2.block⟩; obtain ⟨y0, y1, y2, y3, y4, y5, y6, y7, y8⟩ := box9 (HX.out.below hB2 HX.out.lt))
    all_goals
      go_wp2
      go_ret
      exact ⟨3, rfl, .inl ⟨rfl, HO.out⟩, HB.out.trans (hB2.mono HB.out.size)⟩
end Go.Proofs.Ythncbkgklhbcjaa
