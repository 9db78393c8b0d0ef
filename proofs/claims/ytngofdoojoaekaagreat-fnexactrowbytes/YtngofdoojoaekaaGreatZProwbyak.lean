/- Walks of the program's nearest, nearestShape and ShapeFault. -/
import Derived.Test.YtngofdoojoaekaaGreatZProwbyae
import Derived.Test.YtngofdoojoaekaaGreatZProwbyaj
import Derived.BigQuiet
import Derived.Deep.QuietTactic
import Derived.StillTailTactics
import Derived.Lib.MinMax
import Derived.Laws.StructEq
import Derived.Test.YtngofdoojoaekaaGreatZProwbyai
import Derived.Maps.AppendAt
import Derived.Test.YtngofdoojoaekaaGreatZProwbyad
import Derived.Test.YtngofdoojoaekaaGreatZProwbyac
import Derived.BigRegion
import Derived.Test.YtngofdoojoaekaaGreatZProwbyah
namespace Go.Proofs.YtngofdoojoaekaaGreat
open Go.RowKit F256
set_option linter.unusedVariables false
set_option linter.unusedSimpArgs false

theorem nearest_any (x a b : Int) (w : World) :
    Calls Tryz.prog 106 #[.int .i64 x, .int .i64 a, .int .i64 b] w fun e w' => e = .returned (.int .i64 (max a (min x b))) ∧ w' = w := by
  go_enter Tryz.func106, Tryz.ntmps106
  go_wp2
  go_ret
  exact ⟨rfl, rfl⟩

/-- x moved to the nearest number from a to b -/
def nearZ (x a b : Int) : Int := max a (min x b)
theorem nearZ_iff (x a b : Int) (h : a ≤ b) : x = nearZ x a b ↔ a ≤ x ∧ x ≤ b := by
  unfold nearZ
  omega
theorem nearest_z (x a b : Int) (w : World) :
    Calls Tryz.prog 106 #[.int .i64 x, .int .i64 a, .int .i64 b] w fun e w' => e = .returned (.int .i64 (nearZ x a b)) ∧ w' = w := nearest_any x a b w

set_option maxRecDepth 20000 in
set_option maxHeartbeats 8000000 in
theorem nearestShape_any (a0 a1 a2 a3 a4 a5 a6 a7 a8 : Int) (w : World) :
    Calls Tryz.prog 118 #[.agg #[.int .i64 a0, .int .i64 a1, .int .i64 a2, .int .i64 a3, .int .i64 a4, .int .i64 a5, .int .i64 a6, .int .i64 a7, .int .i64 a8]] w fun e w' => e = .returned (.agg #[.int .i64 (nearZ a0 1 4), .int .i64 (nearZ a1 0 2), .int .i64 (nearZ a2 1 3), .int .i64 (nearZ a3 0 2), .int .i64 (nearZ a4 1 6), .int .i64 (nearZ a5 1 6), .int .i64 (nearZ a6 1 4), .int .i64 (nearZ a7 1 6), .int .i64 (nearZ a8 0 400)]) ∧ Below w.heap.size w w' := by
  go_enter Tryz.func118, Tryz.ntmps118
  go_wp2_with fail
  have XA := (box_new w #[.int .i64 a0, .int .i64 a1, .int .i64 a2, .int .i64 a3, .int .i64 a4, .int .i64 a5, .int .i64 a6, .int .i64 a7, .int .i64 a8] 34).allocd (.cells #[.int .i64 0, .int .i64 0, .int .i64 0, .int .i64 0, .int .i64 0, .int .i64 0, .int .i64 0, .int .i64 0, .int .i64 0] 34)
  have XZ := box_new (w.alloc (.cells #[.int .i64 a0, .int .i64 a1, .int .i64 a2, .int .i64 a3, .int .i64 a4, .int .i64 a5, .int .i64 a6, .int .i64 a7, .int .i64 a8] 34)) #[.int .i64 0, .int .i64 0, .int .i64 0, .int .i64 0, .int .i64 0, .int .i64 0, .int .i64 0, .int .i64 0, .int .i64 0] 34
  have hz : (w.alloc (.cells #[.int .i64 a0, .int .i64 a1, .int .i64 a2, .int .i64 a3, .int .i64 a4, .int .i64 a5, .int .i64 a6, .int .i64 a7, .int .i64 a8] 34)).heap.size = w.heap.size + 1 := by simp
  rw [hz] at XZ
  have BA : Below w.heap.size w ((w.alloc (.cells #[.int .i64 a0, .int .i64 a1, .int .i64 a2, .int .i64 a3, .int .i64 a4, .int .i64 a5, .int .i64 a6, .int .i64 a7, .int .i64 a8] 34)).alloc (.cells #[.int .i64 0, .int .i64 0, .int .i64 0, .int .i64 0, .int .i64 0, .int .i64 0, .int .i64 0, .int .i64 0, .int .i64 0] 34)) := ((Below.refl _ _).alloc (Nat.le_refl _) _).alloc (by simp) _
  obtain ⟨wA, hwA⟩ : ∃ x, x = (w.alloc (.cells #[.int .i64 a0, .int .i64 a1, .int .i64 a2, .int .i64 a3, .int .i64 a4, .int .i64 a5, .int .i64 a6, .int .i64 a7, .int .i64 a8] 34)).alloc (.cells #[.int .i64 0, .int .i64 0, .int .i64 0, .int .i64 0, .int .i64 0, .int .i64 0, .int .i64 0, .int .i64 0, .int .i64 0] 34) := ⟨_, rfl⟩
  rw [← hwA] at XA XZ BA ⊢
  clear hwA hz
  refine wp_region_still_tail 28 (by kernel_rfl) (by kernel_rfl) ?_
  have XA' : Box { wA with drawn := wA.drawn + 1 } w.heap.size #[.int .i64 a0, .int .i64 a1, .int .i64 a2, .int .i64 a3, .int .i64 a4, .int .i64 a5, .int .i64 a6, .int .i64 a7, .int .i64 a8] 34 := XA
  have XZ' : Box { wA with drawn := wA.drawn + 1 } (w.heap.size + 1) #[.int .i64 0, .int .i64 0, .int .i64 0, .int .i64 0, .int .i64 0, .int .i64 0, .int .i64 0, .int .i64 0, .int .i64 0] 34 := XZ
  have BA' : Below w.heap.size w { wA with drawn := wA.drawn + 1 } := ⟨BA.os, BA.tape, BA.output, BA.size, BA.block⟩
  obtain ⟨wB, hwB⟩ : ∃ x : World, x = { wA with drawn := wA.drawn + 1 } := ⟨_, rfl⟩
  rw [← hwB] at XA' XZ' BA' ⊢
  clear XA XZ BA hwB
  obtain ⟨x0, x1, x2, x3, x4, x5, x6, x7, x8⟩ := box9 XA'
  obtain ⟨y0, y1, y2, y3, y4, y5, y6, y7, y8⟩ := box9 XZ'
  simp only [List.take_succ_cons, List.take_zero, List.drop_succ_cons, List.drop_zero]
  still_step
  still_step
  still_call (nearest_z _ _ _ _)
  still_step
  still_step
  still_call (nearest_z _ _ _ _)
  still_step
  still_step
  still_call (nearest_z _ _ _ _)
  still_step
  still_step
  still_call (nearest_z _ _ _ _)
  still_step
  still_step
  still_call (nearest_z _ _ _ _)
  still_step
  still_step
  still_call (nearest_z _ _ _ _)
  still_step
  still_step
  still_call (nearest_z _ _ _ _)
  still_step
  still_step
  still_call (nearest_z _ _ _ _)
  still_step
  still_step
  still_call (nearest_z _ _ _ _)
  still_step
  refine wpStill_nil ?_
  have z0 : wB.frozen? ⟨w.heap.size + 1, 0, none⟩ = false := XZ'.frozen 0
  have z1 : wB.frozen? ⟨w.heap.size + 1, 1, none⟩ = false := XZ'.frozen 1
  have z2 : wB.frozen? ⟨w.heap.size + 1, 2, none⟩ = false := XZ'.frozen 2
  have z3 : wB.frozen? ⟨w.heap.size + 1, 3, none⟩ = false := XZ'.frozen 3
  have z4 : wB.frozen? ⟨w.heap.size + 1, 4, none⟩ = false := XZ'.frozen 4
  have z5 : wB.frozen? ⟨w.heap.size + 1, 5, none⟩ = false := XZ'.frozen 5
  have z6 : wB.frozen? ⟨w.heap.size + 1, 6, none⟩ = false := XZ'.frozen 6
  have z7 : wB.frozen? ⟨w.heap.size + 1, 7, none⟩ = false := XZ'.frozen 7
  have z8 : wB.frozen? ⟨w.heap.size + 1, 8, none⟩ = false := XZ'.frozen 8
  go_wp2
  refine bodyPost_ret (v := .agg #[.int .i64 (nearZ a0 1 4), .int .i64 (nearZ a1 0 2), .int .i64 (nearZ a2 1 3), .int .i64 (nearZ a3 0 2), .int .i64 (nearZ a4 1 6), .int .i64 (nearZ a5 1 6), .int .i64 (nearZ a6 1 4), .int .i64 (nearZ a7 1 6), .int .i64 (nearZ a8 0 400)]) (by simp [results, Tryz.results118, go_sem, y0, y1, y2, y3, y4, y5, y6, y7, y8]) rfl ⟨rfl, ?_⟩
  exact (((((((((BA'.setCell (Nat.le_succ _) _).setCell (Nat.le_succ _) _).setCell (Nat.le_succ _) _).setCell (Nat.le_succ _) _).setCell (Nat.le_succ _) _).setCell (Nat.le_succ _) _).setCell (Nat.le_succ _) _).setCell (Nat.le_succ _) _).setCell (Nat.le_succ _) _)

end Go.Proofs.YtngofdoojoaekaaGreat

namespace Go.Proofs.YtngofdoojoaekaaGreat
open Go.RowKit F256
set_option linter.unusedVariables false
set_option linter.unusedSimpArgs false

theorem shape_eq_yes (a0 a1 a2 a3 a4 a5 a6 a7 a8 : Int) (w : World) : (Op.equalIn 10000 34 (.agg #[.int .i64 a0, .int .i64 a1, .int .i64 a2, .int .i64 a3, .int .i64 a4, .int .i64 a5, .int .i64 a6, .int .i64 a7, .int .i64 a8]) (.agg #[.int .i64 a0, .int .i64 a1, .int .i64 a2, .int .i64 a3, .int .i64 a4, .int .i64 a5, .int .i64 a6, .int .i64 a7, .int .i64 a8])).run Tryz.prog w = .ok true w := by
  have u3 := Tryz.underlying2
  rw [show (10000 : Nat) = 9999 + 1 from rfl, run_equalIn_agg w 9999 34 _ _ (by kernel_rfl) (by kernel_rfl)]
  simp only [Program.fieldsOf, Tryz.underlying34]
  go_simp
theorem shape_eq_no (a0 a1 a2 a3 a4 a5 a6 a7 a8 b0 b1 b2 b3 b4 b5 b6 b7 b8 : Int) (h : ¬ (a0 = b0 ∧ a1 = b1 ∧ a2 = b2 ∧ a3 = b3 ∧ a4 = b4 ∧ a5 = b5 ∧ a6 = b6 ∧ a7 = b7 ∧ a8 = b8)) (w : World) : (Op.equalIn 10000 34 (.agg #[.int .i64 a0, .int .i64 a1, .int .i64 a2, .int .i64 a3, .int .i64 a4, .int .i64 a5, .int .i64 a6, .int .i64 a7, .int .i64 a8]) (.agg #[.int .i64 b0, .int .i64 b1, .int .i64 b2, .int .i64 b3, .int .i64 b4, .int .i64 b5, .int .i64 b6, .int .i64 b7, .int .i64 b8])).run Tryz.prog w = .ok false w := by
  have u3 := Tryz.underlying2
  rw [show (10000 : Nat) = 9999 + 1 from rfl, run_equalIn_agg w 9999 34 _ _ (by kernel_rfl) (by kernel_rfl)]
  simp only [Program.fieldsOf, Tryz.underlying34]
  have H : Hid (¬ (a0 = b0 ∧ a1 = b1 ∧ a2 = b2 ∧ a3 = b3 ∧ a4 = b4 ∧ a5 = b5 ∧ a6 = b6 ∧ a7 = b7 ∧ a8 = b8)) := h
  clear h
  go_simp
  exact fun h0 h1 h2 h3 h4 h5 h6 h7 h8 => H.out ⟨h0, h1, h2, h3, h4, h5, h6, h7, h8⟩
theorem ok_near (s : Nat → Int) : OkShape s ↔ s 0 = nearZ (s 0) 1 4 ∧ s 1 = nearZ (s 1) 0 2 ∧ s 2 = nearZ (s 2) 1 3 ∧ s 3 = nearZ (s 3) 0 2 ∧ s 4 = nearZ (s 4) 1 6 ∧ s 5 = nearZ (s 5) 1 6 ∧ s 6 = nearZ (s 6) 1 4 ∧ s 7 = nearZ (s 7) 1 6 ∧ s 8 = nearZ (s 8) 0 400 := by
  unfold OkShape Shp3 Shp
  rw [nearZ_iff (s 0) 1 4 (by omega), nearZ_iff (s 1) 0 2 (by omega), nearZ_iff (s 2) 1 3 (by omega), nearZ_iff (s 3) 0 2 (by omega), nearZ_iff (s 4) 1 6 (by omega), nearZ_iff (s 5) 1 6 (by omega), nearZ_iff (s 6) 1 4 (by omega), nearZ_iff (s 7) 1 6 (by omega), nearZ_iff (s 8) 0 400 (by omega)]
  omega

set_option maxHeartbeats 4000000 in
theorem implShape_any (s : Nat → Int) (w : World) :
    Calls Tryz.prog 91 #[shapeV s] w fun e w' => ∃ x, e = .returned (.int .i64 x) ∧ ShFAns s x ∧ Below w.heap.size w w' := by
  have HK : Hid (OkShape s ↔ s 0 = nearZ (s 0) 1 4 ∧ s 1 = nearZ (s 1) 0 2 ∧ s 2 = nearZ (s 2) 1 3 ∧ s 3 = nearZ (s 3) 0 2 ∧ s 4 = nearZ (s 4) 1 6 ∧ s 5 = nearZ (s 5) 1 6 ∧ s 6 = nearZ (s 6) 1 4 ∧ s 7 = nearZ (s 7) 1 6 ∧ s 8 = nearZ (s 8) 0 400) := ok_near s
  unfold shapeV
  obtain ⟨a0, h0⟩ : ∃ a, a = s 0 := ⟨_, rfl⟩
  obtain ⟨a1, h1⟩ : ∃ a, a = s 1 := ⟨_, rfl⟩
  obtain ⟨a2, h2⟩ : ∃ a, a = s 2 := ⟨_, rfl⟩
  obtain ⟨a3, h3⟩ : ∃ a, a = s 3 := ⟨_, rfl⟩
  obtain ⟨a4, h4⟩ : ∃ a, a = s 4 := ⟨_, rfl⟩
  obtain ⟨a5, h5⟩ : ∃ a, a = s 5 := ⟨_, rfl⟩
  obtain ⟨a6, h6⟩ : ∃ a, a = s 6 := ⟨_, rfl⟩
  obtain ⟨a7, h7⟩ : ∃ a, a = s 7 := ⟨_, rfl⟩
  obtain ⟨a8, h8⟩ : ∃ a, a = s 8 := ⟨_, rfl⟩
  rw [← h0, ← h1, ← h2, ← h3, ← h4, ← h5, ← h6, ← h7, ← h8]
  have HK2 : Hid (OkShape s ↔ a0 = nearZ a0 1 4 ∧ a1 = nearZ a1 0 2 ∧ a2 = nearZ a2 1 3 ∧ a3 = nearZ a3 0 2 ∧ a4 = nearZ a4 1 6 ∧ a5 = nearZ a5 1 6 ∧ a6 = nearZ a6 1 4 ∧ a7 = nearZ a7 1 6 ∧ a8 = nearZ a8 0 400) := by
    show OkShape s ↔ _
    rw [h0, h1, h2, h3, h4, h5, h6, h7, h8]
    exact HK.out
  clear HK h0 h1 h2 h3 h4 h5 h6 h7 h8
  have CN := nearestShape_any a0 a1 a2 a3 a4 a5 a6 a7 a8
  have XA := box_new w #[.int .i64 a0, .int .i64 a1, .int .i64 a2, .int .i64 a3, .int .i64 a4, .int .i64 a5, .int .i64 a6, .int .i64 a7, .int .i64 a8] 34
  obtain ⟨x0, x1, x2, x3, x4, x5, x6, x7, x8⟩ := box9 XA
  have HX : Hid (Box (w.alloc (.cells #[.int .i64 a0, .int .i64 a1, .int .i64 a2, .int .i64 a3, .int .i64 a4, .int .i64 a5, .int .i64 a6, .int .i64 a7, .int .i64 a8] 34)) w.heap.size #[.int .i64 a0, .int .i64 a1, .int .i64 a2, .int .i64 a3, .int .i64 a4, .int .i64 a5, .int .i64 a6, .int .i64 a7, .int .i64 a8] 34) := XA
  have HB : Hid (Below w.heap.size w (w.alloc (.cells #[.int .i64 a0, .int .i64 a1, .int .i64 a2, .int .i64 a3, .int .i64 a4, .int .i64 a5, .int .i64 a6, .int .i64 a7, .int .i64 a8] 34))) := bnew (Below.refl _ _)
  obtain ⟨wA, hwA⟩ : ∃ x, x = w.alloc (.cells #[.int .i64 a0, .int .i64 a1, .int .i64 a2, .int .i64 a3, .int .i64 a4, .int .i64 a5, .int .i64 a6, .int .i64 a7, .int .i64 a8] 34) := ⟨_, rfl⟩
  rw [← hwA] at x0 x1 x2 x3 x4 x5 x6 x7 x8 HX HB
  clear XA
  by_cases ok : OkShape s
  · have HO : Hid (OkShape s) := ok
    obtain ⟨e0, e1, e2, e3, e4, e5, e6, e7, e8⟩ := HK2.out.mp ok
    rw [← e0, ← e1, ← e2, ← e3, ← e4, ← e5, ← e6, ← e7, ← e8] at CN
    have heq := shape_eq_yes a0 a1 a2 a3 a4 a5 a6 a7 a8
    clear e0 e1 e2 e3 e4 e5 e6 e7 e8 ok
    go_enter Tryz.func91, Tryz.ntmps91
    go_wp2_with fail
    rw [← hwA]
    clear hwA
    go_region_with (go_at_call 118; refine (CN _).mono ?_; rintro ee w2 ⟨rfl, hb2⟩; have hB2 : Below wA.heap.size wA w2 := ⟨hb2.os, hb2.tape, hb2.output, hb2.size, hb2.block⟩; obtain ⟨y0, y1, y2, y3, y4, y5, y6, y7, y8⟩ := box9 (HX.out.below hB2 HX.out.lt))
    all_goals
      go_wp2
      go_ret
      exact ⟨0, rfl, .inr ⟨rfl, HO.out⟩, HB.out.trans (hB2.mono HB.out.size)⟩
  · have HO : Hid (¬ OkShape s) := ok
    have hno : ¬ (a0 = nearZ a0 1 4 ∧ a1 = nearZ a1 0 2 ∧ a2 = nearZ a2 1 3 ∧ a3 = nearZ a3 0 2 ∧ a4 = nearZ a4 1 6 ∧ a5 = nearZ a5 1 6 ∧ a6 = nearZ a6 1 4 ∧ a7 = nearZ a7 1 6 ∧ a8 = nearZ a8 0 400) := fun h => ok (HK2.out.mpr h)
    have heq := shape_eq_no a0 a1 a2 a3 a4 a5 a6 a7 a8 (nearZ a0 1 4) (nearZ a1 0 2) (nearZ a2 1 3) (nearZ a3 0 2) (nearZ a4 1 6) (nearZ a5 1 6) (nearZ a6 1 4) (nearZ a7 1 6) (nearZ a8 0 400) hno
    clear hno ok
    go_enter Tryz.func91, Tryz.ntmps91
    go_wp2_with fail
    rw [← hwA]
    clear hwA
    go_region_with (go_at_call 118; refine (CN _).mono ?_; rintro ee w2 ⟨rfl, hb2⟩; have hB2 : Below wA.heap.size wA w2 := ⟨hb2.os, hb2.tape, hb2.output, hb2.size, hb2.block⟩; obtain ⟨y0, y1, y2, y3, y4, y5, y6, y7, y8⟩ := box9 (HX.out.below hB2 HX.out.lt))
    all_goals
      go_wp2
      go_ret
      exact ⟨3, rfl, .inl ⟨rfl, HO.out⟩, HB.out.trans (hB2.mono HB.out.size)⟩
end Go.Proofs.YtngofdoojoaekaaGreat

namespace Go.Proofs.YtngofdoojoaekaaGreat
open Go.RowKit F256
set_option linter.unusedVariables false
set_option linter.unusedSimpArgs false

set_option maxHeartbeats 4000000 in
theorem rowLength_any (s : Nat → Int) (h1 : 1 ≤ s 2) (h2 : s 2 ≤ 1000) (w : World) :
    Calls Tryz.prog 99 #[shapeV s] w fun e w' => e = .returned (.int .i64 (s 2 * 4)) ∧ Below w.heap.size w w' := by
  unfold shapeV
  obtain ⟨a2, h0⟩ : ∃ a, a = s 2 := ⟨_, rfl⟩
  rw [← h0] at h1 h2 ⊢
  clear h0
  have B0 : Below w.heap.size w (w.alloc (.cells #[.int .i64 (s 0), .int .i64 (s 1), .int .i64 a2, .int .i64 (s 3), .int .i64 (s 4), .int .i64 (s 5), .int .i64 (s 6), .int .i64 (s 7), .int .i64 (s 8)] 34)) := bnew (Below.refl _ _)
  go_enter Tryz.func99, Tryz.ntmps99
  go_wp2
  go_ret
  exact ⟨rfl, B0⟩

set_option maxHeartbeats 4000000 in
theorem implParts_any (s : Nat → Int) (l : Int) (w : World) :
    Calls Tryz.prog 157 #[shapeV s, .int .i64 l] w fun e w' => ∃ x c, e = .returned (intR c x) ∧ PfAns s l x c ∧ Below w.heap.size w w' := by
  unfold shapeV
  go_enter Tryz.func157, Tryz.ntmps157
  go_wp2_with fail
  refine (implShape_any s _).mono ?_
  rintro e w1 ⟨x, rfl, hx, B1'⟩
  obtain ⟨X1, X2, B1, z1⟩ := two_new B1'
  obtain ⟨x0, x1, x2, x3, x4, x5, x6, x7, x8⟩ := box9 X1
  obtain ⟨y0, y1, y2, y3⟩ := res_cells X2
  have HX : Hid (Box w1 (w.heap.size + 1) #[.int .i64 0, .int .i64 0] 174) := X2
  have HX1 : Hid (Box w1 w.heap.size #[.int .i64 (s 0), .int .i64 (s 1), .int .i64 (s 2), .int .i64 (s 3), .int .i64 (s 4), .int .i64 (s 5), .int .i64 (s 6), .int .i64 (s 7), .int .i64 (s 8)] 34) := X1
  clear B1' X1 X2
  rcases hx with ⟨rfl, hx⟩ | ⟨rfl, hx⟩
  · have HN : Hid (¬ OkShape s) := hx
    clear hx
    go_wp2
    exact bodyPost_ret (v := intR 3 0) (by simp [results, Tryz.results157, go_sem, intR, y0, y1]) rfl ⟨0, 3, rfl, .inl ⟨HN.out, rfl, rfl⟩, (B1.setCell (Nat.le_succ _) _).setCell (Nat.le_succ _) _⟩
  · have HO : Hid (OkShape s) := hx
    have HD : Hid (1 ≤ s 2 ∧ s 2 ≤ 1000) := by show 1 ≤ s 2 ∧ s 2 ≤ 1000; have := hx.2.1; unfold Shp at this; omega
    clear hx
    have CL := rowLength_any s HD.out.1 HD.out.2
    unfold shapeV at CL
    have HM : Hid (∀ m, m = (l + s 2 * 4 - 1) / (s 2 * 4) → 1 ≤ l → l ≤ 3 * (s 2 * 4) → PfAns s l m 0) := fun m hm h1 h2 => .inr (.inr (.inr ⟨HO.out, h1, h2, rfl, hm⟩))
    have HM2 : Hid (1 ≤ l → 3 * (s 2 * 4) < l → PfAns s l 0 2) := fun h1 h2 => .inr (.inr (.inl ⟨HO.out, h1, h2, rfl, rfl⟩))
    obtain ⟨S, hS⟩ : ∃ S, S = s 2 * 4 := ⟨_, rfl⟩
    rw [← hS] at CL HM HM2
    have q1 : 4 ≤ S := by have := HD.out.1; omega
    have q2 : S ≤ 4000 := by have := HD.out.2; omega
    clear hS
    by_cases c1 : l < 1
    · go_wp2
      exact bodyPost_ret (v := intR 6 0) (by simp [results, Tryz.results157, go_sem, intR, y0, y1]) rfl ⟨0, 6, rfl, .inr (.inl ⟨HO.out, c1, rfl, rfl⟩), (B1.setCell (Nat.le_succ _) _).setCell (Nat.le_succ _) _⟩
    · go_wp2_with fail
      refine (CL _).mono ?_
      rintro e w2 ⟨rfl, B2⟩
      have z2 := B2.size
      have B12 : Below w.heap.size w w2 := B1.trans (B2.mono B1.size)
      have HX2 : Hid (Box w2 (w.heap.size + 1) #[.int .i64 0, .int .i64 0] 174) := HX.out.below B2 z1
      have HY2 : Hid (Box w2 w.heap.size #[.int .i64 (s 0), .int .i64 (s 1), .int .i64 (s 2), .int .i64 (s 3), .int .i64 (s 4), .int .i64 (s 5), .int .i64 (s 6), .int .i64 (s 7), .int .i64 (s 8)] 34) := HX1.out.below B2 (by omega)
      clear x0 x1 x2 x3 x4 x5 x6 x7 x8 y0 y1 y2 y3 B2 HX HX1
      obtain ⟨y0, y1, y2, y3⟩ := res_cells HX2.out
      obtain ⟨x0, x1, x2, x3, x4, x5, x6, x7, x8⟩ := box9 HY2.out
      by_cases c2 : 3 * S < l
      · have t2 : decide (3 * S < l) = true := by simp; omega
        go_wp2
        exact bodyPost_ret (v := intR 2 0) (by simp [results, Tryz.results157, go_sem, intR, y0, y1]) rfl ⟨0, 2, rfl, HM2.out (by omega) c2, (B12.setCell (Nat.le_succ _) _).setCell (Nat.le_succ _) _⟩
      · have t2 : decide (3 * S < l) = false := by simp; omega
        have q3 : 0 ≤ l + S - 1 := by omega
        go_wp2_with fail
        have K0 : Hid (Below w2.heap.size w2 w2) := Below.refl _ _
        go_region_with (go_at_call 99; refine (CL _).mono ?_; rintro ee w3 ⟨rfl, hb3⟩; (first | (have hB2 : Below w2.heap.size w2 w3 := hB.trans ((⟨hb3.os, hb3.tape, hb3.output, hb3.size, hb3.block⟩ : Below _ _ _).mono hB.size); clear hb3; obtain ⟨v0, v1, v2, v3⟩ := res_cells (HX2.out.below hB2 (by omega)); obtain ⟨u0, u1, u2, u3, u4, u5, u6, u7, u8⟩ := box9 (HY2.out.below hB2 (by omega))) | (have hB : Below w2.heap.size w2 w3 := ⟨hb3.os, hb3.tape, hb3.output, hb3.size, hb3.block⟩; clear hb3; obtain ⟨u0, u1, u2, u3, u4, u5, u6, u7, u8⟩ := box9 (HY2.out.below hB (by omega)))))
        all_goals
          have B4 : Below w.heap.size w w3 := B12.trans (hB2.mono B12.size)
          go_wp2
          exact bodyPost_ret (v := intR 0 ((l + S - 1) / S)) (by simp [results, Tryz.results157, go_sem, intR, v0, v1]) rfl ⟨(l + S - 1) / S, 0, rfl, HM.out _ rfl (by omega) (by omega), (B4.setCell (Nat.le_succ _) _).setCell (Nat.le_succ _) _⟩
end Go.Proofs.YtngofdoojoaekaaGreat

namespace Go.Proofs.YtngofdoojoaekaaGreat
open Go.RowKit F256
set_option linter.unusedVariables false
set_option linter.unusedSimpArgs false

theorem near_b {x a b : Int} {t : Bool} (hab : a ≤ b) (ht : t = true ↔ InP x a b) : (x == nearZ x a b) = t := by
  have := nearZ_iff x a b hab
  cases t with
  | true => simpa [InP] using this.2 (ht.1 rfl)
  | false =>
    have hn : ¬ InP x a b := fun h => by have := ht.2 h; cases this
    simp
    intro h
    exact hn (this.1 h)
theorem inBounds_b {x a b : Int} {t : Bool} (hab : a ≤ b) (ht : t = true ↔ InP x a b) (w : World) :
    Calls Tryz.prog 77 #[.int .i64 x, .int .i64 a, .int .i64 b] w fun e w' => e = .returned (.bool t) ∧ w' = w := by
  have e1 := near_b hab ht
  clear ht
  go_enter Tryz.func77, Tryz.ntmps77
  go_wp2_with fail
  refine (nearest_z x a b _).mono ?_
  rintro e w' ⟨rfl, hw'⟩
  obtain rfl := hw'.symm
  obtain ⟨y, hy⟩ : ∃ y, y = nearZ x a b := ⟨_, rfl⟩
  rw [← hy] at e1 ⊢
  clear hy
  go_wp2
  go_ret
  exact ⟨by simp [e1], rfl⟩
theorem groupCount_any (s : Nat → Int) (h : OkShape s) (w : World) :
    Calls Tryz.prog 98 #[shapeV s] w fun e w' => e = .returned (.int .i64 (s 0 + s 1)) ∧ Below w.heap.size w w' := by
  obtain ⟨h1, h2, _⟩ := h
  unfold Shp3 at h1
  have B0 := (one_new w #[.int .i64 (s 0), .int .i64 (s 1), .int .i64 (s 2), .int .i64 (s 3), .int .i64 (s 4), .int .i64 (s 5), .int .i64 (s 6), .int .i64 (s 7), .int .i64 (s 8)] 34).bel
  unfold shapeV
  have hw : -9223372036854775808 ≤ s 0 + s 1 ∧ s 0 + s 1 ≤ 9223372036854775807 := by omega
  go_enter Tryz.func98, Tryz.ntmps98
  go_wp2
  go_ret
  exact ⟨rfl, B0⟩
theorem driveCount_any (s : Nat → Int) (h : OkShape s) (w : World) :
    Calls Tryz.prog 56 #[shapeV s] w fun e w' => e = .returned (.int .i64 (s 2 + s 3)) ∧ Below w.heap.size w w' := by
  obtain ⟨h1, h2, _⟩ := h
  unfold Shp at h2
  have B0 := (one_new w #[.int .i64 (s 0), .int .i64 (s 1), .int .i64 (s 2), .int .i64 (s 3), .int .i64 (s 4), .int .i64 (s 5), .int .i64 (s 6), .int .i64 (s 7), .int .i64 (s 8)] 34).bel
  unfold shapeV
  have hw : -9223372036854775808 ≤ s 2 + s 3 ∧ s 2 + s 3 ≤ 9223372036854775807 := by omega
  go_enter Tryz.func56, Tryz.ntmps56
  go_wp2
  go_ret
  exact ⟨rfl, B0⟩
theorem okB {s : Nat → Int} (h : OkShape s) : 1 ≤ s 0 ∧ s 0 ≤ 4 ∧ 0 ≤ s 1 ∧ s 1 ≤ 2 ∧ 1 ≤ s 2 ∧ s 2 ≤ 3 ∧ 0 ≤ s 3 ∧ s 3 ≤ 2 ∧ 1 ≤ s 4 ∧ s 4 ≤ 6 ∧ 1 ≤ s 5 ∧ s 5 ≤ 6 := by
  obtain ⟨h1, h2, h3, h4, _⟩ := h
  unfold Shp3 at h1
  unfold Shp at h2
  omega
theorem isGroup_b {s : Nat → Int} (h : OkShape s) {x : Int} {t : Bool} (ht : t = true ↔ InP x 0 (s 0 + s 1 - 1)) (w : World) :
    Calls Tryz.prog 68 #[shapeV s, .int .i64 x] w fun e w' => e = .returned (.bool t) ∧ Below w.heap.size w w' := by
  have hb := okB h
  have C := groupCount_any s h
  have CB := fun w' => inBounds_b (w := w') (show 0 ≤ s 0 + s 1 - 1 by omega) ht
  have T0 := one_new w #[.int .i64 (s 0), .int .i64 (s 1), .int .i64 (s 2), .int .i64 (s 3), .int .i64 (s 4), .int .i64 (s 5), .int .i64 (s 6), .int .i64 (s 7), .int .i64 (s 8)] 34
  unfold shapeV at C ⊢
  clear ht h
  go_enter Tryz.func68, Tryz.ntmps68
  go_wp2_with fail
  refine (C _).mono ?_
  rintro e w1 ⟨rfl, b1⟩
  have HB : Hid (Below w.heap.size w w1) := (T0.call b1).bel
  clear b1 T0 C
  go_wp2_with fail
  refine (CB _).mono ?_
  rintro e w2 ⟨rfl, hw2⟩
  obtain rfl := hw2.symm
  go_wp2
  go_ret
  exact ⟨rfl, HB.out⟩
theorem isDataGroup_b {s : Nat → Int} (h : OkShape s) {x : Int} {t : Bool} (ht : t = true ↔ InP x 0 (s 0 - 1)) (w : World) :
    Calls Tryz.prog 151 #[shapeV s, .int .i64 x] w fun e w' => e = .returned (.bool t) ∧ Below w.heap.size w w' := by
  have hb := okB h
  have CB := fun w' => inBounds_b (w := w') (show 0 ≤ s 0 - 1 by omega) ht
  have HB : Hid (Below w.heap.size w (w.alloc (.cells #[.int .i64 (s 0), .int .i64 (s 1), .int .i64 (s 2), .int .i64 (s 3), .int .i64 (s 4), .int .i64 (s 5), .int .i64 (s 6), .int .i64 (s 7), .int .i64 (s 8)] 34))) := (one_new w #[.int .i64 (s 0), .int .i64 (s 1), .int .i64 (s 2), .int .i64 (s 3), .int .i64 (s 4), .int .i64 (s 5), .int .i64 (s 6), .int .i64 (s 7), .int .i64 (s 8)] 34).bel
  unfold shapeV
  clear ht h
  go_enter Tryz.func151, Tryz.ntmps151
  go_wp2_with fail
  refine (CB _).mono ?_
  rintro e w2 ⟨rfl, hw2⟩
  obtain rfl := hw2.symm
  go_wp2
  go_ret
  exact ⟨rfl, HB.out⟩
theorem isRow_b {s : Nat → Int} (h : OkShape s) {x : Int} {t : Bool} (ht : t = true ↔ InP x 0 (s 4 - 1)) (w : World) :
    Calls Tryz.prog 54 #[shapeV s, .int .i64 x] w fun e w' => e = .returned (.bool t) ∧ Below w.heap.size w w' := by
  have hb := okB h
  have CB := fun w' => inBounds_b (w := w') (show 0 ≤ s 4 - 1 by omega) ht
  have HB : Hid (Below w.heap.size w (w.alloc (.cells #[.int .i64 (s 0), .int .i64 (s 1), .int .i64 (s 2), .int .i64 (s 3), .int .i64 (s 4), .int .i64 (s 5), .int .i64 (s 6), .int .i64 (s 7), .int .i64 (s 8)] 34))) := (one_new w #[.int .i64 (s 0), .int .i64 (s 1), .int .i64 (s 2), .int .i64 (s 3), .int .i64 (s 4), .int .i64 (s 5), .int .i64 (s 6), .int .i64 (s 7), .int .i64 (s 8)] 34).bel
  unfold shapeV
  clear ht h
  go_enter Tryz.func54, Tryz.ntmps54
  go_wp2_with fail
  refine (CB _).mono ?_
  rintro e w2 ⟨rfl, hw2⟩
  obtain rfl := hw2.symm
  go_wp2
  go_ret
  exact ⟨rfl, HB.out⟩
theorem rowLong_b {s : Nat → Int} (h : OkShape s) {ao : Option Addr} {n cap : Nat} (hn : n ≤ 9223372036854775807) {t : Bool} (ht : ((n : Int) == s 2 * 4) = t) (w : World) :
    Calls Tryz.prog 69 #[shapeV s, .slice ao n cap] w fun e w' => e = .returned (.bool t) ∧ Below w.heap.size w w' := by
  have hb := okB h
  have C := fun w' => rowLength_any s (by omega) (by omega) w'
  have T0 := one_new w #[.int .i64 (s 0), .int .i64 (s 1), .int .i64 (s 2), .int .i64 (s 3), .int .i64 (s 4), .int .i64 (s 5), .int .i64 (s 6), .int .i64 (s 7), .int .i64 (s 8)] 34
  unfold shapeV at C ⊢
  clear h
  go_enter Tryz.func69, Tryz.ntmps69
  go_wp2_with fail
  refine (C _).mono ?_
  rintro e w1 ⟨rfl, b1⟩
  have HB : Hid (Below w.heap.size w w1) := (T0.call b1).bel
  clear b1 T0 C
  go_wp2
  go_ret
  exact ⟨by simp [ht], HB.out⟩
set_option maxHeartbeats 4000000 in
theorem differWithin_any (v : Value) (n : Nat) (g : Nat → Int) (hi : Nat) (bound : Int) (hb1 : 1 ≤ bound) (hb2 : bound ≤ 1000000) (w : World) (r : RdI w hi v n g) (hcp : CapP v n) (hhi : hi ≤ w.heap.size) :
    Calls Tryz.prog 120 #[v, .int .i64 bound] w (BoolP (ApartP n g (bound - 1)) w) := by
  have HR : Hid (RdI w hi v n g) := r
  obtain ⟨ao, cap, rfl, hm, hc⟩ := r
  obtain ⟨_, _, e, hcp⟩ := hcp
  cases e
  unfold maxLen at hm
  go_enter Tryz.func120, Tryz.ntmps120
  go_wp2
  go_loopw [9] (fun i wr => ∃ k : Nat, k ≤ n ∧ i = .int .i64 k ∧ ApartP k g (bound - 1) ∧ Below w.heap.size w wr) (fun i _ => n - (intOf i).toNat)
  case atStart => exact ⟨0, Nat.zero_le _, rfl, fun i hi => by omega, Below.refl _ _⟩
  case round =>
    obtain ⟨k, hk, rfl, hall, hb⟩ := hrel
    have HALL : Hid (ApartP k g (bound - 1)) := hall
    clear hall
    by_cases hlt : k < n
    · obtain ⟨b, off, rfl, hblt, hcell⟩ := hc (by omega)
      have hck : wr.cell? ⟨b, off + k, none⟩ = some (.int .i64 (g k)) := (hb.cell (p := ⟨b, off + k, none⟩) (by show b < w.heap.size; omega)).trans (hcell k hlt)
      have kcp : k ≤ cap := by omega
      obtain ⟨t1, h1⟩ := exB (InP (g k) 0 (bound - 1))
      obtain ⟨t2, h2⟩ := exB (∃ t, t < k ∧ g t = g k)
      have C1 := fun w' => inBounds_b (w := w') (show 0 ≤ bound - 1 by omega) h1
      have C2 := det_b (contains_any (.slice (some ⟨b, off, none⟩) k cap) k g hi (g k) wr ((HR.out.part hk (by omega)).below hb hhi)) h2
      have H1 : Hid (t1 = true ↔ InP (g k) 0 (bound - 1)) := h1
      have H2 : Hid (t2 = true ↔ ∃ t, t < k ∧ g t = g k) := h2
      obtain ⟨y, hy⟩ : ∃ y, y = g k := ⟨_, rfl⟩
      have HY : Hid (y = g k) := hy
      rw [← hy] at hck C1 C2
      have HB : Hid (Below w.heap.size w wr) := hb
      clear hc hcell h1 h2 hy hb
      go_wp2_with fail
      refine (C1 _).mono ?_
      rintro e w' ⟨rfl, hw'⟩
      obtain rfl := hw'.symm
      clear C1
      cases t1 with
      | false =>
        go_wp2
        go_ret
        exact boolNo rfl (fun h => by
          have := H1.out.2 (h k hlt).1
          simp at this) HB.out
      | true =>
        go_wp2_with fail
        refine C2.mono ?_
        rintro e w2 ⟨rfl, b2⟩
        have HB2 : Hid (Below w.heap.size w w2) := HB.out.trans (b2.mono HB.out.size)
        clear b2 C2
        cases t2 with
        | true =>
          go_wp2
          go_ret
          exact boolNo rfl (fun h => by
            obtain ⟨t, ht, e⟩ := H2.out.1 (by simp)
            exact (h k hlt).2 t ht e) HB2.out
        | false =>
          go_wp2
          go_roundw
          case rel => exact ⟨k + 1, by omega, by go_num, fun i hi => by
                        by_cases c : i = k
                        · subst c
                          exact ⟨H1.out.1 (by simp), fun t ht e => by
                            have := H2.out.2 ⟨t, ht, e⟩
                            simp at this⟩
                        · exact HALL.out i (by omega), HB2.out⟩
          case measure => simp [intOf]; omega
    · obtain rfl : k = n := by omega
      go_wp2
      go_ret
      exact boolYes rfl HALL.out hb
end Go.Proofs.YtngofdoojoaekaaGreat

namespace Go.Proofs.YtngofdoojoaekaaGreat
open Go.RowKit F256
set_option linter.unusedVariables false
set_option linter.unusedSimpArgs false

/-- append(v, x), x a byte that lies in a block of its own: where the new slice lies -/
theorem run_appendAt (w : World) (ty : TypeId) (lo hi : Nat) (v : Value) (n : Nat) (f : Nat → Nat) (hown : Own w lo hi v n f) (b c : Nat) (hcell : w.cell? ⟨b, 0, none⟩ = some (.int .u8 (f n))) (hn : n + 1 ≤ 1000000) (hlo : lo ≤ w.heap.size) :
    ∃ v' w', (Builtin.append_ #[30, 30] ty #[v, .slice (some ⟨b, 0, none⟩) 1 c]).run Tryz.prog w = .ok v' w' ∧ Own w' lo w'.heap.size v' (n + 1) f ∧ w.grownBy w' v.ownBlock ∧ (v'.ownBlock = v.ownBlock ∨ v'.ownBlock = some w.heap.size) := by
  obtain ⟨i0, hi0, hz0, hz1, hz2⟩ := info_parts info_u8
  obtain ⟨v', w', hr, h2, h3, _, h4⟩ := run_append_own_at (P := Tryz.prog) w lo 30 ty 5 i0 (.int .u8 0) 1 1 Tryz.underlying30 hi0 hz0 hz1 hz2 rfl (by decide) v n (cellsOf n f) hown.1 ⟨b, 0, none⟩ 1 c [.int .u8 (f n)] rfl
    (fun j u hj => by
      match j, hj with
      | 0, hj => simp at hj; subst hj; simpa [Addr.add] using hcell)
    (fun u hu => by simp at hu; subst hu; rfl) (by unfold maxLen; omega) (by omega) hlo
  rw [cellsOf_snoc] at h2
  exact ⟨v', w', hr, ⟨h2, fun k hk => (h2.lt k hk).2⟩, h3, h4⟩
theorem step_appendAt {ops : Array Oper} {o : Oper} {a : Act} {w : World} {K : Act → World → Prop} {Q : Exit → Act → World → Prop} {E : Prop}
    (hg : o.guard = none) (s x : Operand) (hop : o.op = Op.call { callee := Callee.builtin Builtin.append, args := #[s, x], argTypes := #[30, 30] })
    (lo hi : Nat) (v : Value) (n : Nat) (f : Nat → Nat) (hs : a.eval s = v) (hown : Own w lo hi v n f) (b c : Nat) (hx : a.eval x = .slice (some ⟨b, 0, none⟩) 1 c) (hcell : w.cell? ⟨b, 0, none⟩ = some (.int .u8 (f n)))
    (hn : n + 1 ≤ 1000000) (hlo : lo ≤ w.heap.size)
    (hK : ∀ v' w', Own w' lo w'.heap.size v' (n + 1) f → w.grownBy w' v.ownBlock → (v'.ownBlock = v.ownBlock ∨ v'.ownBlock = some w.heap.size) → K (a.put o.dst v') w') :
    if Region.wanted o (yielded ops a.tmps) = true then Oper.wp Tryz.prog o a w K Q else E := by
  have hw : Region.wanted o (yielded ops a.tmps) = true := by simp [Region.wanted, hg]
  rw [if_pos hw]
  obtain ⟨v', w', hrun, r1, r2, r3⟩ := run_appendAt w o.type lo hi v n f hown b c hcell hn hlo
  unfold Oper.wp
  simp [execOp, hop, resolve, invoke, builtin, hs, hx, hrun, Result.andThen]
  exact hK v' w' r1 r2 r3
/-- the row i grown in its place: the byte laid, the append, the store -/
theorem OwnE.grow {w w2 : World} {lo : Nat} {v : Value} {R : Nat} {n n' : Nat → Nat} {M : Mat} {g cap : Nat} {e : Nat → Value} {x : Value} {o : Obj} (h : OwnE w lo w.heap.size v R n M g cap e) (i : Nat) (hi' : i < R)
    (hg : (w.alloc o).grownBy w2 (e i).ownBlock) (ho : Own w2 lo w2.heap.size x (n' i) (M i)) (hx : x.ownBlock = (e i).ownBlock ∨ x.ownBlock = some (w.heap.size + 1)) (hn : ∀ j, j < R → j ≠ i → n' j = n j) :
    OwnE (w2.setCell ⟨g, i, none⟩ x) lo w2.heap.size v R n' M g cap (fun j => if j = i then x else e j) := by
  have hs : w.heap.size + 1 ≤ w2.heap.size := by have := hg.size; simpa using this
  have hhi := h.high
  have kp : ∀ b, b < w.heap.size → (e i).ownBlock ≠ some b → w2.heap[b]? = w.heap[b]? := fun b hb hne =>
    (hg.block b (by simp; omega) (fun hh => hne hh.symm)).trans (Below.heap_alloc w o b hb)
  have hr := row_kept (w' := w2) h.row fun b hb => by
    have e1 : b = g := by rw [h.val] at hb; simpa [Value.ownBlock] using hb.symm
    subst e1
    exact kp b hhi (h.apart.1 i hi')
  rw [h.val] at hr
  have hst := (hr.stored i x).1
  rw [valsOf_set R e (fun j => if j = i then x else e j) i x hi' (fun j _ => rfl)] at hst
  have oth : ∀ b, b ≠ g → (w2.setCell ⟨g, i, none⟩ x).heap[b]? = w2.heap[b]? := fun b hbg => heap_setCell_other w2 ⟨g, i, none⟩ b _ hbg
  have low : ∀ q, q < R → ∀ k, (e q).ownBlock = some k → k < w.heap.size := fun q hq k hk => (h.each q hq).2 k hk
  have xng : x.ownBlock ≠ some g := fun hh => by
    rcases hx with hx | hx
    · rw [hx] at hh
      exact h.apart.1 i hi' hh
    · rw [hx] at hh
      cases hh
      omega
  refine ⟨h.val, h.low, by omega, by rw [h.val]; exact hst, fun j hj => ?_, ⟨fun j hj => ?_, fun j l hj hl hne k hk => ?_⟩⟩
  · by_cases c : j = i
    · subst c
      simp only [if_pos]
      exact ho.kept fun k hk => oth k fun hkg => xng (by rw [hk, hkg])
    · simp only [if_neg c]
      rw [hn j hj c]
      refine ((h.each j hj).kept fun k hk => ?_).weaken (Nat.le_refl _) (by omega)
      exact (oth k fun hkg => h.apart.1 j hj (by rw [hk, hkg])).trans (kp k (low j hj k hk) fun hh => h.apart.2 i j hi' hj (fun z => c z.symm) k hh hk)
  · by_cases c : j = i
    · simp only [if_pos c]
      exact xng
    · simp only [if_neg c]
      exact h.apart.1 j hj
  · by_cases c : j = i
    · have c2 : ¬ l = i := fun z => hne (by rw [c, z])
      simp only [if_pos c] at hk
      simp only [if_neg c2]
      intro hh
      rcases hx with hx | hx
      · rw [hx] at hk
        exact h.apart.2 i l hi' hl (fun z => c2 z.symm) k hk hh
      · rw [hx] at hk
        cases hk
        have := low l hl _ hh
        omega
    · simp only [if_neg c] at hk
      by_cases c2 : l = i
      · simp only [if_pos c2]
        intro hh
        rcases hx with hx | hx
        · rw [hx] at hh
          exact h.apart.2 i j hi' hj (fun z => c z.symm) k hh hk
        · rw [hx] at hh
          cases hh
          have := low j hj _ hk
          omega
      · simp only [if_neg c2]
        exact h.apart.2 j l hj hl hne k hk
end Go.Proofs.YtngofdoojoaekaaGreat

namespace Go.Proofs.YtngofdoojoaekaaGreat
open Go.RowKit F256
set_option linter.unusedVariables false
set_option linter.unusedSimpArgs false

set_option maxHeartbeats 1000000 in
theorem firstLeading_any (v : Value) (R C : Nat) (M : Mat) (hi : Nat) (r c : Nat) (hr : r ≤ R) (hc : c < C) (hR : R ≤ 1000000) (hC : C ≤ 1000000) (w : World) (h : RdM w hi v R (fun _ => C) M) :
    Calls Tryz.prog 161 #[v, .int .i64 r, .int .i64 c] w fun e w' => e = .returned (.int .i64 (lead M c R r)) ∧ w' = w := by
  obtain ⟨ao, cap, e, rfl, hm, hcc, he⟩ := h
  go_enter Tryz.func161, Tryz.ntmps161
  go_wp2
  go_loop [7] (fun i => ∃ k : Nat, r ≤ k ∧ k ≤ R ∧ i = .int .i64 k ∧ ∀ j, r ≤ j → j < k → M j c = 0) (fun i => R - (intOf i).toNat)
  case atStart => exact ⟨r, Nat.le_refl _, hr, rfl, fun j h1 h2 => by omega⟩
  case round =>
    obtain ⟨k, hk1, hk, rfl, hz⟩ := hrel
    by_cases hlt : k < R
    · obtain ⟨b, off, rfl, hblt, hcell⟩ := hcc (by omega)
      obtain ⟨aok, capk, hsk, hmk, hqk⟩ := he k hlt
      obtain ⟨b2, off2, rfl, hlt2, hcell2⟩ := hqk (by omega)
      have hck : w.cell? ⟨b, off + k, none⟩ = some (.slice (some ⟨b2, off2, none⟩) C capk) := by rw [← hsk]; exact hcell k hlt
      have hcc2 : w.cell? ⟨b2, off2 + c, none⟩ = some (.int .u8 (M k c)) := hcell2 c hc
      have HZ : Hid (∀ j, r ≤ j → j < k → M j c = 0) := hz
      obtain ⟨x, hx⟩ : ∃ x, x = M k c := ⟨_, rfl⟩
      have HX : Hid (x = M k c) := hx
      rw [← hx] at hcc2
      clear hcc he hcell hsk hcell2 hz hx
      by_cases h0 : x = 0
      · subst h0
        go_wp2
        go_round
        case rel => exact ⟨k + 1, by omega, by omega, by go_num, fun j h1 h2 => by
                      by_cases ej : j = k
                      · rw [ej, ← HX.out]
                      · exact HZ.out j h1 (by omega)⟩
        case measure => simp [intOf]; omega
      · have ht : ((x : Int) != 0) = true := by simp; omega
        go_wp2
        go_ret
        exact ⟨ret_eq (by rw [lead_eq (a := k) ⟨hk1, by omega, HZ.out, fun _ => by rw [← HX.out]; exact h0⟩]), rfl⟩
    · have hkn : k = R := by omega
      subst hkn
      have HZ : Hid (∀ j, r ≤ j → j < k → M j c = 0) := hz
      clear hz
      go_wp2
      go_ret
      exact ⟨ret_eq (by rw [lead_eq (a := k) ⟨hk1, Nat.le_refl _, HZ.out, fun h => by omega⟩]), rfl⟩

/-- sums over rows that lie apart -/
theorem addScaled_two (v1 v2 : Value) (n : Nat) (f l g : Nat → Nat) (c : Nat) (lo hi : Nat) (w : World) (hs : Own w lo hi v1 n f) (hr : Own w lo hi v2 n l) (hne : ∀ k, v1.ownBlock = some k → v2.ownBlock ≠ some k) (hlh : lo ≤ hi) (hhi : hi ≤ w.heap.size)
    (kf : ∀ i, f i < 256) (kl : ∀ i, l i < 256) (hc : c < 256) (hg : ∀ i, i < n → g i = f i ^^^ mulN c (l i)) (hn : n ≤ 1000000000) :
    Calls Tryz.prog 132 #[v1, v2, .int .u8 c] w fun e w' => e = .returned (.tuple #[]) ∧ Own w' lo hi v1 n g ∧ Chg (tlo v1 lo) (thi v1 lo) w w' := by
  by_cases h0 : n = 0
  · subst h0
    refine (addScaled_nil v1 v2 f l c hi hi w hs.rd hr.rd hc).mono fun e w' ⟨he, hb⟩ => ⟨he, (hs.below hb hhi).congr (fun i hi => by omega), Below.chg hb _ _⟩
  · obtain ⟨g0, cap0, rfl, h1, h2, h3, h4⟩ := hs.form h0
    obtain ⟨b, cap, rfl, h1', h2', h3', h4'⟩ := hr.form h0
    have hbg : b ≠ g0 := fun hh => hne g0 rfl (by simp [Value.ownBlock, hh])
    have ht : tlo (.slice (some ⟨g0, 0, none⟩) n cap0) lo = g0 := rfl
    have ht2 : thi (.slice (some ⟨g0, 0, none⟩) n cap0) lo = g0 + 1 := rfl
    have hst := hs.tight
    rw [ht, ht2] at hst ⊢
    have hcell : ∀ i, i < n → w.cell? ⟨b, 0 + i, none⟩ = some (.int .u8 (l i)) := fun i hi => by rw [Nat.zero_add, hr.1.cellAt i (by omega), cellsOf_get _ _ _ hi]
    refine (addScaled_core g0 cap0 n f l g c g0 (g0 + 1) b 0 cap w hst (by omega) h3' (by omega) hcell (Nat.le_refl _) (Nat.lt_succ_self _) kf kl hc hg hn).mono fun e w' ⟨he, ho, hch⟩ => ⟨he, ?_, hch⟩
    exact hs.untight ho

set_option maxHeartbeats 2000000 in
theorem clearColumn_any (v : Value) (R C : Nat) (M : Mat) (lo hi : Nat) (r c : Nat) (g cap : Nat) (e : Nat → Value) (hr : r < R) (hc : c < C) (hR : R ≤ 1000000) (hC : C ≤ 1000000) (kM : Byt M) (w : World) (h : OwnE w lo hi v R (fun _ => C) M g cap e) (hhi : hi ≤ w.heap.size) :
    Calls Tryz.prog 163 #[v, .int .i64 r, .int .i64 c] w fun ee w' => ee = .returned (.tuple #[]) ∧ OwnE w' lo hi v R (fun _ => C) (clearM M r c R) g cap e ∧ Chg lo hi w w' := by
  obtain rfl := h.val
  have hlh : lo ≤ hi := Nat.le_trans h.low (Nat.le_of_lt h.high)
  go_enter Tryz.func163, Tryz.ntmps163
  go_wp2
  go_loopw [6, 9] (fun _ i wr => ∃ k : Nat, k ≤ R ∧ i = .int .i64 k ∧ OwnE wr lo hi (.slice (some ⟨g, 0, none⟩) R cap) R (fun _ => C) (clearM M r c k) g cap e ∧ Chg lo hi w wr) (fun _ i _ => R - (intOf i).toNat)
  case atStart => exact ⟨0, Nat.zero_le _, rfl, by rw [clearM_zero]; exact h, Chg.refl' _ _ _⟩
  case round =>
    clear h
    obtain ⟨k, hk, rfl, hE, hch⟩ := hrel
    by_cases hlt : k < R
    · by_cases hkr : k = r
      · subst hkr
        have E : Hid (OwnE wr lo hi (.slice (some ⟨g, 0, none⟩) R cap) R (fun _ => C) (clearM M k c (k + 1)) g cap e) := by rw [clearM_skip]; exact hE
        clear hE
        go_wp2
        go_roundw
        case rel => exact ⟨k + 1, by omega, by go_num, E.out, hch⟩
        case measure => simp [intOf]; omega
      · have ht : ((k : Int) != (r : Int)) = true := by simp; omega
        have kB := clearM_byt kM r c k
        have ck := hE.cell k hlt
        have cr := hE.cell r hr
        have ok := hE.each k hlt
        have or := hE.each r hr
        obtain ⟨gk, capk, hek, _, _, hgk, _⟩ := ok.form (by omega)
        have hcc : wr.cell? ⟨gk, c, none⟩ = some (.int .u8 (clearM M r c k k c)) := by
          have := ok.1
          rw [hek] at this
          rw [this.cellAt c (by omega), cellsOf_get _ _ _ hc]
        have hcy := kB k c
        obtain ⟨y, hy⟩ : ∃ y, y = clearM M r c k k c := ⟨_, rfl⟩
        have hsz := hch.size
        have A := addScaled_two (e k) (e r) C (clearM M r c k k) (clearM M r c k r) (clearM M r c (k + 1) k) y lo hi (wr.drewN 1) ok or (hE.apart.2 k r hlt hr hkr) hlh (by show hi ≤ wr.heap.size; omega) (kB k) (kB r) (by rw [hy]; exact hcy)
          (fun j hj => by rw [clearM_next hkr, hy]; simp) (by omega)
        rw [← hy] at hcc hcy
        obtain ⟨ek, hek'⟩ : ∃ x, x = e k := ⟨_, rfl⟩
        obtain ⟨er, her'⟩ : ∃ x, x = e r := ⟨_, rfl⟩
        rw [← hek'] at ck A hek
        rw [← her'] at cr A
        have HEK : Hid (ek = e k) := hek'
        subst hek
        have HE : Hid (OwnE wr lo hi (.slice (some ⟨g, 0, none⟩) R cap) R (fun _ => C) (clearM M r c k) g cap e) := hE
        have HTS : Hid (lo ≤ tlo (e k) lo ∧ thi (e k) lo ≤ hi) := tight_sub ok hlh
        clear hy hek' her' ok or hE kB
        go_wp2
        go_region_with (go_at_call 132; refine A.mono ?_; rintro ee w3 ⟨rfl, ho3, hc3⟩)
        all_goals
          have c3 : Chg (tlo (e k) lo) (thi (e k) lo) wr w3 := by rw [← HEK.out]; exact ⟨hc3.os, hc3.tape, hc3.output, hc3.size, hc3.block⟩
          have E3 : OwnE w3 lo hi (.slice (some ⟨g, 0, none⟩) R cap) R (fun _ => C) (clearM M r c (k + 1)) g cap e := HE.out.upd k hlt c3 (by rw [← HEK.out]; exact ho3) (fun j hj hne => by rw [clearM_next hkr]; simp [hne])
          have C3 : Chg lo hi w w3 := hch.trans (c3.widen HTS.out.1 HTS.out.2)
          clear c3 hc3 ho3 HE A HEK HTS
          go_wp2
          go_roundw
          case rel => exact ⟨k + 1, by omega, by go_num, E3, C3⟩
          case measure => simp [intOf]; omega
    · have hkn : k = R := by omega
      subst hkn
      go_wp2
      go_end0
      exact ⟨rfl, hE, hch⟩
end Go.Proofs.YtngofdoojoaekaaGreat

namespace Go.Proofs.YtngofdoojoaekaaGreat
open Go.RowKit F256
set_option linter.unusedVariables false
set_option linter.unusedSimpArgs false

theorem undrewN' {B : Nat} {w w2 : World} {m : Nat} (h : Below B (w.drewN m) w2) : Below B w w2 := ⟨h.os, h.tape, h.output, h.size, h.block⟩

set_option maxHeartbeats 4000000 in
theorem reduceRows_any (v : Value) (R C n : Nat) (M : Mat) (lo : Nat) (g cap : Nat) (e : Nat → Value) (hn : n ≤ C) (hR : R ≤ 1000000) (hC : C ≤ 1000000) (kM : Byt M) (w : World) (h : OwnE w lo w.heap.size v R (fun _ => C) M g cap e) :
    Calls Tryz.prog 156 #[v, .int .i64 n] w fun ee w' => ee = .returned (.int .i64 ((gaussM R M n).2)) ∧ (∃ e', OwnE w' lo w'.heap.size v R (fun _ => C) (gaussM R M n).1 g cap e') ∧ Below lo w w' := by
  obtain rfl := h.val
  go_enter Tryz.func156, Tryz.ntmps156
  go_wp2
  go_loopw [5, 6, 7, 9] (fun d _ _ i wr => ∃ k : Nat, k ≤ n ∧ i = .int .i64 k ∧ d = .int .i64 ((gaussM R M k).2) ∧ (∃ e', OwnE wr lo wr.heap.size (.slice (some ⟨g, 0, none⟩) R cap) R (fun _ => C) (gaussM R M k).1 g cap e') ∧ Below lo w wr) (fun _ _ _ i _ => n - (intOf i).toNat)
  case atStart => exact ⟨0, Nat.zero_le _, rfl, rfl, ⟨e, h⟩, Below.refl _ _⟩
  case round =>
    clear h e
    obtain ⟨k, hk, rfl, rfl, ⟨e, hE⟩, hbel⟩ := hrel
    have hle := gaussM_le (R := R) (M := M) k
    have kB := gaussM_byt (R := R) kM k
    have hstep : gaussM R M (k + 1) = stepM R (gaussM R M k) k := rfl
    obtain ⟨S, hS⟩ : ∃ S, S = gaussM R M k := ⟨_, rfl⟩
    rw [← hS] at hle kB hstep hE
    by_cases hlt : k < n
    · have L := firstLeading_any _ R C S.1 _ S.2 k hle.1 (by omega) hR hC wr hE.rd
      have HS : Hid (S = gaussM R M k) := hS
      have HST : Hid (gaussM R M (k + 1) = stepM R S k) := hstep
      rw [← hS]
      clear hS hstep
      obtain ⟨r, hr⟩ : ∃ r, r = S.2 := ⟨_, rfl⟩
      obtain ⟨a, hal⟩ : ∃ a, a = lead S.1 k R S.2 := ⟨_, rfl⟩
      have hlead := lead_is S.1 k R S.2 hle.1
      rw [← hal] at hlead L
      rw [← hr] at hle hlead L ⊢
      have HR : Hid (r = S.2) := hr
      have HA : Hid (a = lead S.1 k R S.2) := hal
      clear hr hal
      go_wp2_with fail
      refine L.mono ?_
      rintro ee wx ⟨rfl, hwx⟩
      obtain rfl := hwx.symm
      clear L
      have ha := hlead.2.1
      have hra := hlead.1
      by_cases haR : a = R
      · have N0 : gaussM R M (k + 1) = S := by
          rw [HST.out]
          unfold stepM
          rw [if_pos (by rw [← HA.out]; exact haR)]
        have N : Hid (gaussM R M (k + 1) = S) := N0
        clear N0
        subst haR
        clear hlead
        go_wp2
        go_roundw
        case rel => exact ⟨k + 1, by omega, by go_num, val_eq (by rw [N.out, HR.out]), ⟨e, by rw [N.out]; exact hE⟩, hbel⟩
        case measure => simp [intOf]; omega
      · have haR' : a < R := by omega
        have hrR : r < R := by omega
        have t1 : ((a : Int) == (R : Int)) = false := by simp; omega
        have ca := hE.cell a haR'
        have cr := hE.cell r hrR
        have fa := hE.frozen a
        have fr := hE.frozen r
        have hsw := hE.swap r a hrR haR' (Nat.le_refl _)
        have oa := hE.each a haR'
        have or := hE.each r hrR
        obtain ⟨ga, capa, hea, _, _, _, _⟩ := oa.form (by omega)
        obtain ⟨gr, capr, her, _, _, _, _⟩ := or.form (by omega)
        obtain ⟨ea, hea'⟩ : ∃ x, x = e a := ⟨_, rfl⟩
        obtain ⟨er, her'⟩ : ∃ x, x = e r := ⟨_, rfl⟩
        rw [← hea'] at ca hea hsw
        rw [← her'] at cr her hsw
        have HSW : Hid (OwnE ((wr.setCell ⟨g, r, none⟩ ea).setCell ⟨g, a, none⟩ er) lo wr.heap.size (.slice (some ⟨g, 0, none⟩) R cap) R (fun _ => C) (swapM S.1 r a) g cap (fun j => if j = r then ea else if j = a then er else e j)) := hsw
        clear hsw hE oa or hea' her'
        subst hea her
        obtain ⟨va, hva⟩ := cell?_setCell_some (w := wr) (p := ⟨g, r, none⟩) (x := .slice (some ⟨ga, 0, none⟩) C capa) (q := ⟨g, a, none⟩) ca
        go_wp2
        go_region
        have hE1 := HSW.out.drewN 1
        have hb1 : Below lo w (((wr.setCell ⟨g, r, none⟩ (.slice (some ⟨ga, 0, none⟩) C capa)).setCell ⟨g, a, none⟩ (.slice (some ⟨gr, 0, none⟩) C capr)).drewN 1) := below_drewN ((hbel.setCell hE1.low _).setCell hE1.low _) 1
        have hz1 : wr.heap.size = (((wr.setCell ⟨g, r, none⟩ (.slice (some ⟨ga, 0, none⟩) C capa)).setCell ⟨g, a, none⟩ (.slice (some ⟨gr, 0, none⟩) C capr)).drewN 1).heap.size := by simp
        rw [hz1] at hE1
        have kB1 : Byt (swapM S.1 r a) := swapM_byt kB r a
        rw [World.drew_is_drewN]
        clear HSW hbel hz1 ca cr fa fr hva kB
        generalize ((wr.setCell ⟨g, r, none⟩ (.slice (some ⟨ga, 0, none⟩) C capa)).setCell ⟨g, a, none⟩ (.slice (some ⟨gr, 0, none⟩) C capr)).drewN 1 = wq at hE1 hb1 ⊢
        generalize (fun j => if j = r then Value.slice (some ⟨ga, 0, none⟩) C capa else if j = a then Value.slice (some ⟨gr, 0, none⟩) C capr else e j) = e1 at hE1
        obtain ⟨M1, hM1⟩ : ∃ M1, M1 = swapM S.1 r a := ⟨_, rfl⟩
        have HM1 : Hid (M1 = swapM S.1 r a) := hM1
        rw [← hM1] at hE1 kB1
        clear hM1
        have c1 := hE1.cell r hrR
        have o1 := hE1.each r hrR
        obtain ⟨gq, capq, heq, hq1, hq2, hq3, _⟩ := o1.form (by omega)
        have hcc : wq.cell? ⟨gq, k, none⟩ = some (.int .u8 (M1 r k)) := by
          have := o1.1
          rw [heq] at this
          rw [this.cellAt k (by omega), cellsOf_get _ _ _ (by omega)]
        have hy := kB1 r k
        have fz := hE1.frozen r
        have hgl := hE1.high
        obtain ⟨y, hyd⟩ : ∃ y, y = M1 r k := ⟨_, rfl⟩
        have HY : Hid (y = M1 r k) := hyd
        rw [← hyd] at hcc hy
        have I := implInv_any y hy (wq.drewN 1)
        have SC : ∀ w2, Below wq.heap.size wq w2 → Calls Tryz.prog 162 #[e1 r, .int .u8 (powN y 254)] w2 fun e w' => ∃ v', e = .returned v' ∧ Own w' w2.heap.size w'.heap.size v' C (fun j => mulN (powN y 254) (M1 r j)) ∧ Below w2.heap.size w2 w' := fun w2 hb2 =>
          scaled_any (e1 r) C (M1 r) (fun j => mulN (powN y 254) (M1 r j)) (powN y 254) wq.heap.size w2 (o1.rd.below hb2 (Nat.le_refl _)) hb2.size (kB1 r) (powN_lt _) (fun _ _ => rfl) (by omega)
        obtain ⟨er1, her1⟩ : ∃ x, x = e1 r := ⟨_, rfl⟩
        rw [← her1] at c1 SC heq
        have HO : Hid (OwnE wq lo wq.heap.size (.slice (some ⟨g, 0, none⟩) R cap) R (fun _ => C) M1 g cap e1) := hE1
        clear hyd her1 o1 hE1 hlead
        subst heq
        go_wp2
        go_region_with (first | (go_at_call 160; refine I.mono ?_; rintro ee w2 ⟨rfl, hb2⟩; have q0 : w2.cell? ⟨g, r, none⟩ = some (.slice (some ⟨gq, 0, none⟩) C capq) := ((undrewN' hb2).cell (p := ⟨g, r, none⟩) hgl).trans c1) | (go_at_call 162; refine (SC _ (undrewN' hb2)).mono ?_; rintro ee w3 ⟨v3, rfl, ho3, hb3⟩; obtain ⟨ao3, cap3, rfl⟩ := ho3.slice; have q1 : w3.cell? ⟨g, r, none⟩ = some (.slice (some ⟨gq, 0, none⟩) C capq) := ((bthen (w := wq) (undrewN' hb2) hb3).cell (p := ⟨g, r, none⟩) hgl).trans c1; have q2 : w3.frozen? ⟨g, r, none⟩ = false := ((bthen (w := wq) (undrewN' hb2) hb3).frozen (p := ⟨g, r, none⟩) hgl).trans fz))
        all_goals
          have hb23 : Below wq.heap.size wq w3 := bthen (w := wq) (undrewN' hb2) hb3
          have hsr : scaleM M1 r k r = fun j => mulN (powN y 254) (M1 r j) := by simp only [scaleM, if_pos, HY.out]
          have ho4 : Own w3 wq.heap.size w3.heap.size (.slice ao3 C cap3) C (scaleM M1 r k r) := by rw [hsr]; exact ho3.weaken (by have := (undrewN' hb2).size; omega) (Nat.le_refl _)
          have E4 := HO.out.put r hrR hb23 (Nat.le_refl _) ho4 (fun j hj hne => by simp only [scaleM, if_neg hne])
          have B4 : Below lo w (w3.setCell ⟨g, r, none⟩ (.slice ao3 C cap3)) := (hb1.trans (hb23.mono (by have := HO.out.low; have := HO.out.high; omega))).setCell HO.out.low _
          have Z4 : w3.heap.size = (w3.setCell ⟨g, r, none⟩ (.slice ao3 C cap3)).heap.size := by simp
          rw [Z4] at E4
          have kB4 : Byt (scaleM M1 r k) := scaleM_byt kB1 r k
          clear hb23 hsr ho4 ho3 hb2 hb3 q0 q1 q2 Z4 HO c1 hcc fz I SC hgl hq1 hq2 hq3
          generalize w3.setCell ⟨g, r, none⟩ (.slice ao3 C cap3) = w4 at E4 B4 ⊢
          generalize (fun j => if j = r then Value.slice ao3 C cap3 else e1 j) = e4 at E4
          have CC := clearColumn_any _ R C (scaleM M1 r k) lo w4.heap.size r k g cap e4 hrR (by omega) hR hC kB4 w4 E4 (Nat.le_refl _)
          go_wp2_with fail
          refine CC.mono ?_
          rintro ee w5 ⟨rfl, E5, C5⟩
          have hlo : lo ≤ w4.heap.size := by have := E4.low; have := E4.high; omega
          have E6 := E5.weaken C5.size
          have B6 : Below lo w w5 := B4.trans (C5.below (Nat.le_refl _) hlo)
          have N0 : gaussM R M (k + 1) = (clearM (scaleM M1 r k) r k R, r + 1) := by
            rw [HST.out]
            unfold stepM
            rw [if_neg (by rw [← HA.out]; exact haR), ← HA.out, ← HR.out, ← HM1.out]
          have N : Hid (gaussM R M (k + 1) = (clearM (scaleM M1 r k) r k R, r + 1)) := N0
          clear N0 CC E4 E5 B4 C5 hlo
          go_wp2
          go_roundw
          case rel => exact ⟨k + 1, by omega, by go_num, val_eq (by rw [N.out]; show _ = ((r + 1 : Nat) : Int); omega), ⟨e4, by rw [N.out]; exact E6⟩, B6⟩
          case measure => simp [intOf]; omega
    · have hkn : k = n := by omega
      subst hkn
      rw [hS] at hE
      go_wp2
      go_ret
      exact ⟨rfl, ⟨e, hE⟩, hbel⟩
end Go.Proofs.YtngofdoojoaekaaGreat

namespace Go.Proofs.YtngofdoojoaekaaGreat
open Go.RowKit F256
set_option linter.unusedVariables false
set_option linter.unusedSimpArgs false

theorem OwnE.congrN {w : World} {lo hi : Nat} {v : Value} {R : Nat} {n n' : Nat → Nat} {M : Mat} {g cap : Nat} {e : Nat → Value} (h : OwnE w lo hi v R n M g cap e) (hn : ∀ i, i < R → n i = n' i) : OwnE w lo hi v R n' M g cap e :=
  ⟨h.val, h.low, h.high, h.row, fun i hi => by rw [← hn i hi]; exact h.each i hi, h.apart⟩
/-- the answers of RankG -/
def RankAns (R : Nat) (n : Nat → Nat) (f : Mat) (c x : Int) : Prop :=
  (c = 2 ∧ x = 0 ∧ (16 < R ∨ ∃ i, i < R ∧ 16 < n i)) ∨ (c = 1 ∧ x = 0 ∧ R ≤ 16 ∧ (∀ i, i < R → n i ≤ 16) ∧ ∃ i, i < R ∧ n i ≠ n 0) ∨
    (c = 0 ∧ R ≤ 16 ∧ (∀ i, i < R → n i ≤ 16) ∧ (∀ i, i < R → n i = n 0) ∧ x = (if R = 0 then 0 else ((gaussM R f (n 0)).2 : Int)))
theorem RankAns.one {R : Nat} {n : Nat → Nat} {f : Mat} {c x c' x' : Int} (h : RankAns R n f c x) (k : RankAns R n f c' x') : c = c' ∧ x = x' := by
  rcases h with ⟨rfl, rfl, h1⟩ | ⟨rfl, rfl, h1, h2, i, hi, hne⟩ | ⟨rfl, h1, h2, h3, rfl⟩ <;> rcases k with ⟨rfl, rfl, k1⟩ | ⟨rfl, rfl, k1, k2, j, hj, hne'⟩ | ⟨rfl, k1, k2, k3, rfl⟩
  · exact ⟨rfl, rfl⟩
  · rcases h1 with h1 | ⟨i, hi, h1⟩
    · omega
    · have := k2 i hi; omega
  · rcases h1 with h1 | ⟨i, hi, h1⟩
    · omega
    · have := k2 i hi; omega
  · rcases k1 with k1 | ⟨j, hj, k1⟩
    · omega
    · have := h2 j hj; omega
  · exact ⟨rfl, rfl⟩
  · exact absurd (k3 i hi) hne
  · rcases k1 with k1 | ⟨j, hj, k1⟩
    · omega
    · have := h2 j hj; omega
  · exact absurd (h3 j hj) hne'
  · exact ⟨rfl, rfl⟩

end Go.Proofs.YtngofdoojoaekaaGreat

namespace Go.Proofs.YtngofdoojoaekaaGreat
open Go.RowKit F256
set_option linter.unusedVariables false
set_option linter.unusedSimpArgs false

/-- the answers of SolveG -/
def SolveAns (R m : Nat) (n : Nat → Nat) (f : Mat) (c : Nat → Nat) (x : Int) : Prop :=
  (x = 2 ∧ 16 < R) ∨ (x = 1 ∧ R ≤ 16 ∧ (R = 0 ∨ m ≠ R ∨ ∃ i, i < R ∧ n i ≠ R)) ∨ (R ≤ 16 ∧ R ≠ 0 ∧ m = R ∧ (∀ i, i < R → n i = R) ∧ ((x = 4 ∧ (gaussM R (aug R f c) R).2 < R) ∨ (x = 0 ∧ (gaussM R (aug R f c) R).2 = R)))
theorem SolveAns.one {R m : Nat} {n : Nat → Nat} {f : Mat} {c : Nat → Nat} {x y : Int} (h : SolveAns R m n f c x) (k : SolveAns R m n f c y) : x = y := by
  rcases h with ⟨rfl, h1⟩ | ⟨rfl, h1, h2⟩ | ⟨h1, h2, h3, h4, h5⟩ <;> rcases k with ⟨rfl, k1⟩ | ⟨rfl, k1, k2⟩ | ⟨k1, k2, k3, k4, k5⟩
  · rfl
  · omega
  · omega
  · omega
  · rfl
  · rcases h2 with h2 | h2 | ⟨i, hi, h2⟩
    · omega
    · omega
    · exact absurd (k4 i hi) h2
  · omega
  · rcases k2 with k2 | k2 | ⟨i, hi, k2⟩
    · omega
    · omega
    · exact absurd (h4 i hi) k2
  · rcases h5 with ⟨rfl, h5⟩ | ⟨rfl, h5⟩ <;> rcases k5 with ⟨rfl, k5⟩ | ⟨rfl, k5⟩
    · rfl
    · omega
    · omega
    · rfl

set_option maxHeartbeats 8000000 in
theorem implSolve_any (v1 v2 : Value) (R m : Nat) (n : Nat → Nat) (f : Mat) (c : Nat → Nat) (l1 h1 l2 h2 : Nat) (w : World) (o1 : OwnM w l1 h1 v1 R n f) (o2 : Own w l2 h2 v2 m c) (hh1 : h1 ≤ w.heap.size) (hh2 : h2 ≤ w.heap.size) (kf : Byt f) (kc : ∀ i, c i < 256) :
    Calls Tryz.prog 145 #[v1, v2] w fun ee w' => ∃ x v', ee = .returned (bytesR x v') ∧ SolveAns R m n f c x ∧ Own w' w.heap.size w'.heap.size v' (if x = 0 then R else 0) (if x = 0 then (fun i => (gaussM R (aug R f c) R).1 i R) else fun _ => 0) ∧ Below w.heap.size w w' := by
  obtain ⟨gA, cA, e, r1⟩ := o1
  have hm : R ≤ maxLen := by obtain ⟨_, _, _, _, h, _⟩ := r1.rd; exact h
  have hm2 := o2.le
  unfold maxLen at hm hm2
  obtain rfl := r1.val
  obtain ⟨ao2, cap2, rfl⟩ := o2.slice
  have hb0 : Below w.heap.size w (w.alloc (.cells #[.int .i64 0, .slice none 0 0] 32)) := (Below.refl _ _).alloc (Nat.le_refl _) _
  have HA : Hid (OwnE w l1 h1 (.slice (some ⟨gA, 0, none⟩) R cA) R n f gA cA e) := r1
  have H2 : Hid (Own w l2 h2 (.slice ao2 m cap2) m c) := o2
  have CE := equallyLong_any _ R n f h1 _ (r1.rd.below hb0 hh1)
  have hgw : gA < w.heap.size := by have := r1.high; omega
  clear r1 o2
  by_cases hbig : 16 < R
  · clear CE
    go_enter Tryz.func145, Tryz.ntmps145
    go_wp2
    exact bodyPost_ret (v := bytesR 2 (.slice none 0 0)) (by simp [results, Tryz.results145, go_sem, bytesR]) rfl ⟨2, _, rfl, .inl ⟨rfl, hbig⟩, own_nil _ _ _ _, (Below.refl _ _).alloc (Nat.le_refl _) _⟩
  by_cases hR0 : R = 0
  · subst hR0
    clear CE
    go_enter Tryz.func145, Tryz.ntmps145
    go_wp2
    exact bodyPost_ret (v := bytesR 1 (.slice none 0 0)) (by simp [results, Tryz.results145, go_sem, bytesR]) rfl ⟨1, _, rfl, .inr (.inl ⟨rfl, by omega, .inl rfl⟩), own_nil _ _ _ _, (Below.refl _ _).alloc (Nat.le_refl _) _⟩
  have t0 : ((R : Int) == 0) = false := by simp; omega
  by_cases hmR : m = R
  · subst hmR
    obtain ⟨N, hN⟩ : ∃ N, N = n 0 := ⟨_, rfl⟩
    have hN2 := (HA.out.each 0 (by omega)).le
    unfold maxLen at hN2
    have HN : Hid (N = n 0) := hN
    obtain ⟨aoz, capz, hsz⟩ := (HA.out.each 0 (by omega)).slice
    have hz0 : w.cell? ⟨gA, 0, none⟩ = some (.slice aoz N capz) := by rw [hN, ← hsz]; exact HA.out.cell 0 (by omega)
    rw [← hN] at hN2
    clear hsz hN
    go_enter Tryz.func145, Tryz.ntmps145
    go_wp2_with fail
    refine CE.mono ?_
    rintro ee w1 ⟨bb, rfl, hbb, hb1⟩
    clear CE
    have HBB : Hid (bb = true ↔ ∀ i, i < m → n i = n 0) := hbb
    clear hbb
    have hbel : Below w.heap.size w w1 := bnew hb1
    have hbx : Box w1 w.heap.size #[.int .i64 0, .slice none 0 0] 32 := (box_new w _ _).below hb1 (by simp)
    have hz1 : w1.cell? ⟨gA, 0, none⟩ = some (.slice aoz N capz) := (hbel.cell (p := ⟨gA, 0, none⟩) hgw).trans hz0
    obtain ⟨x0, x1, y0, y1⟩ := res_cells hbx
    have hl1 := hbx.lt
    clear hb1 hb0 hz0
    cases bb with
    | false =>
      have hno : ∃ i, i < m ∧ n i ≠ m := Classical.byContradiction fun hno => absurd (HBB.out.mpr fun i hi => by
        have q1 : n i = m := Classical.byContradiction fun h => hno ⟨i, hi, h⟩
        have q2 : n 0 = m := Classical.byContradiction fun h => hno ⟨0, by omega, h⟩
        omega) (by simp)
      have HNO : Hid (∃ i, i < m ∧ n i ≠ m) := hno
      clear hno HBB
      go_wp2
      exact bodyPost_ret (v := bytesR 1 (.slice none 0 0)) (by simp [results, Tryz.results145, go_sem, bytesR, x0, x1]) rfl ⟨1, _, rfl, .inr (.inl ⟨rfl, by omega, .inr (.inr HNO.out)⟩), own_nil _ _ _ _, (hbel.setCell (Nat.le_refl _) _).setCell (Nat.le_refl _) _⟩
    | true =>
      have HALL : Hid (∀ i, i < m → n i = n 0) := HBB.out.mp rfl
      clear HBB
      by_cases hNm : N = m
      · subst hNm
        have HSH : Hid (∀ i, i < N → n i = N) := fun i hi => by rw [HALL.out i hi, ← HN.out]
        obtain ⟨gr, capr, hgr, hr1, hr2, hr3, hr4⟩ := H2.out.form (by omega)
        simp only [Value.slice.injEq] at hgr
        obtain ⟨rfl, _, rfl⟩ := hgr
        clear HALL
        go_wp2_with (at_make; refine wp_makeM _ rfl _ _ rfl _ _ N rfl rfl rfl rfl (by omega) ?_; intro w2 hown2 hb2 hz2)
        clear x0 x1 y0 y1 hz1
        go_loopw [7, 40] (fun _ i wr => ∃ k : Nat, k ≤ N ∧ i = .int .i64 k ∧ ∃ e', Cpy w1 wr N k (fun _ => N + 1) (aug N f c) e') (fun _ i _ => N - (intOf i).toNat)
        case atStart => exact ⟨0, Nat.zero_le _, rfl, fun _ => nilS, by rw [valsOf_eq (g := fun _ => nilS) (fun i hi => by simp)]; exact hown2, fun i hi => by omega, ⟨fun i hi => by omega, fun i j hi => by omega⟩, hb2, hz2⟩
        case round =>
          clear hown2 hb2 hz2
          obtain ⟨k, hk, rfl, e', hcp⟩ := hrel
          have hbw1 : Below w.heap.size w wr := bthen hbel hcp.bel
          by_cases hlt : k < N
          · have hrk : Rd wr h1 (e k) N (f k) := by
              have := ((HA.out.each k hlt).below hbw1 hh1).rd
              rw [HSH.out k hlt] at this
              exact this
            have hck : wr.cell? ⟨gA, k, none⟩ = some (e k) := (hbw1.cell (p := ⟨gA, k, none⟩) hgw).trans (HA.out.cell k hlt)
            have hrt : Rd (wr.drewN 1) h2 (.slice (some ⟨gr, k, none⟩) 1 (cap2 - k)) 1 (fun _ => c k) := ⟨_, _, rfl, by unfold maxLen; omega, fun _ => ⟨gr, k, rfl, hr2, fun i hi => by
              have hi0 : i = 0 := by omega
              subst hi0
              have := H2.out.1.cellAt k (by omega)
              rw [cellsOf_get _ _ _ hlt] at this
              exact (hbw1.cell (p := ⟨gr, k + 0, none⟩) (by show gr < w.heap.size; omega)).trans this⟩⟩
            have C := joined_some (e k) (.slice (some ⟨gr, k, none⟩) 1 (cap2 - k)) N 1 (f k) (fun _ => c k) (aug N f c k) h1 h2 (wr.drewN 1) hrk hrt (Nat.le_trans hh1 hbw1.size) (Nat.le_trans hh2 hbw1.size) (by omega) (by omega) (by omega) (fun i hi => rfl)
            obtain ⟨ek, hek⟩ : ∃ x, x = e k := ⟨_, rfl⟩
            rw [← hek] at hck C
            obtain ⟨ao3, cap3, hsl, hmm, hcc⟩ := hrk
            rw [← hek] at hsl
            subst hsl
            have hl := hcp.lt
            have HCP : Hid (Cpy w1 wr N k (fun _ => N + 1) (aug N f c) e') := hcp
            have Q1 : ∀ w3, Below wr.heap.size wr w3 → w3.cell? ⟨w1.heap.size, k, none⟩ = some nilS ∧ w3.frozen? ⟨w1.heap.size, k, none⟩ = false := fun w3 hb => by
              refine ⟨?_, (hb.frozen (p := ⟨w1.heap.size, k, none⟩) hl).trans (hcp.row.frozenAt k)⟩
              rw [hb.cell (p := ⟨w1.heap.size, k, none⟩) hl, hcp.row.cellAt k (by omega), valsOf_get _ _ _ hlt, if_neg (Nat.lt_irrefl k)]
            have hsl1 : IntKind.i64.wrap ((k : Int) + 1) = (k : Int) + 1 := by rw [IntKind.wrap_i64]; omega
            have hsl2 : ((k : Int) + 1).toNat = k + 1 := by omega
            have hsl3 : ((k : Int) + 1 ≤ (cap2 : Int)) := by omega
            have hsl4 : ¬ cap2 = k := by omega
            have hsl5 : k + 1 - k = 1 := by omega
            have hsl6 : (0 : Int) ≤ (k : Int) + 1 := by omega
            clear hcc hek hrt hcp
            go_wp2
            go_region_with (go_at_call 130; refine C.mono ?_; rintro ee w3 ⟨v3, rfl, ho3, hb3⟩; obtain ⟨ao5, cap5, rfl⟩ := ho3.slice; have q1 := (Q1 _ (undrewN' hb3)).1; have q2 := (Q1 _ (undrewN' hb3)).2)
            all_goals
              have N1 := HCP.out.next hlt (undrewN' hb3) ho3
              clear HCP hb3 ho3 q1 q2 hbw1 C Q1
              go_wp2
              go_roundw
              case rel => exact ⟨k + 1, by omega, by go_num, _, N1⟩
              case measure => simp [intOf]; omega
          · have hkn : k = N := by omega
            subst hkn
            obtain ⟨gg, cc, e2, hE⟩ := hcp.done
            have hv := hE.val
            simp only [Value.slice.injEq, Option.some.injEq, Addr.mk.injEq, and_true, true_and] at hv
            obtain ⟨rfl, rfl⟩ := hv
            have RD := reduceRows_any _ k (k + 1) k (aug k f c) w1.heap.size w1.heap.size k e2 (by omega) (by omega) (by omega) (aug_byt kf kc) wr hE
            have X3 : Box wr w.heap.size #[.int .i64 0, .slice none 0 0] 32 := hbx.below hcp.bel hl1
            clear hE
            go_wp2_with fail
            refine RD.mono ?_
            rintro ee w4 ⟨rfl, ⟨e4, hE4⟩, hb4⟩
            have B4 : Below w.heap.size w w4 := hbw1.trans (hb4.mono (by omega))
            have X4 : Box w4 w.heap.size #[.int .i64 0, .slice none 0 0] 32 := X3.below hb4 hl1
            obtain ⟨x0, x1, y0, y1⟩ := res_cells X4
            have hle := (gaussM_le (R := k) (M := aug k f c) k).1
            obtain ⟨G, hG⟩ : ∃ G, G = gaussM k (aug k f c) k := ⟨_, rfl⟩
            have HG : Hid (G = gaussM k (aug k f c) k) := hG
            rw [← hG] at hle hE4 ⊢
            obtain ⟨rk, hrk⟩ : ∃ rk, rk = G.2 := ⟨_, rfl⟩
            have HRK : Hid (rk = G.2) := hrk
            rw [← hrk] at hle ⊢
            clear hG hrk hb4 X3 RD hcp hbw1
            by_cases hfull : rk < k
            · go_wp2
              exact bodyPost_ret (v := bytesR 4 (.slice none 0 0)) (by simp [results, Tryz.results145, go_sem, bytesR, x0, x1]) rfl ⟨4, _, rfl, .inr (.inr ⟨by omega, hR0, rfl, HSH.out, .inl ⟨rfl, by rw [← HG.out, ← HRK.out]; exact hfull⟩⟩), own_nil _ _ _ _, (B4.setCell (Nat.le_refl _) _).setCell (Nat.le_refl _) _⟩
            · go_wp2_with (at_make; refine wp_makeB _ rfl _ _ rfl _ _ k rfl rfl rfl rfl (by omega) ?_; intro w5 hown5 hb5 hz5)
              have B5 : Below w.heap.size w w5 := bthen B4 hb5
              have X5 : Box w5 w.heap.size #[.int .i64 0, .slice none 0 0] 32 := X4.below hb5 X4.lt
              have E5 := hE4.below hb5 (Nat.le_refl _)
              have h14 : w1.heap.size ≤ w4.heap.size := by have := hE4.low; have := hE4.high; omega
              clear x0 x1 y0 y1 B4 X4 hE4 hb5
              go_loopw [9, 66] (fun _ i wr => ∃ q : Nat, q ≤ k ∧ i = .int .i64 q ∧ Own wr w4.heap.size w5.heap.size (.slice (some ⟨w4.heap.size, 0, none⟩) k k) k (fun i => if i < q then G.1 i k else 0) ∧ Out w4.heap.size w5.heap.size w5 wr) (fun _ i _ => k - (intOf i).toNat)
              case atStart => exact ⟨0, Nat.zero_le _, rfl, hown5, Out.refl _ _ _⟩
              case round =>
                clear hown5
                obtain ⟨q, hq, rfl, hown, hout⟩ := hrel
                by_cases hqk : q < k
                · have cq : wr.cell? ⟨w1.heap.size, q, none⟩ = some (e4 q) := (World.cell?_of_block (w := w5) (hout.block _ (.inl (by have := E5.high; omega)))).trans (E5.cell q hqk)
                  obtain ⟨gq, capq, heq, hg1, hg2, hg3, _⟩ := (E5.each q hqk).form (by omega)
                  have cv : wr.cell? ⟨gq, k, none⟩ = some (.int .u8 (G.1 q k)) := by
                    have h5 := (E5.each q hqk).1
                    rw [heq] at h5
                    exact (World.cell?_of_block (w := w5) (hout.block gq (.inl hg2))).trans ((h5.cellAt k (by omega)).trans (cellsOf_get _ _ _ (by omega)))
                  rw [heq] at cq
                  have hco : wr.cell? ⟨w4.heap.size, q, none⟩ = some (.int .u8 (0 : Nat)) := by
                    have := hown.1.cellAt q (by omega)
                    rw [this, cellsOf_get _ _ _ hqk, if_neg (Nat.lt_irrefl q)]
                  have hfo : wr.frozen? ⟨w4.heap.size, q, none⟩ = false := hown.1.frozenAt q
                  obtain ⟨y, hy⟩ : ∃ y, y = G.1 q k := ⟨_, rfl⟩
                  have RW : Own (wr.setCell ⟨w4.heap.size, q, none⟩ (.int .u8 y)) w4.heap.size w5.heap.size (.slice (some ⟨w4.heap.size, 0, none⟩) k k) k (fun i => if i < q + 1 then G.1 i k else 0) :=
                    hown.store q y hqk (fun i _ => by
                      by_cases c1 : i = q
                      · subst c1; simp [hy]
                      · by_cases c2 : i < q
                        · have c3 : i < q + 1 := by omega
                          simp [c1, c2, c3]
                        · have c3 : ¬ i < q + 1 := by omega
                          simp [c1, c2, c3])
                  have RO : Out w4.heap.size w5.heap.size w5 (wr.setCell ⟨w4.heap.size, q, none⟩ (.int .u8 y)) := hout.trans (out_store wr _ _ _ q _ (Nat.le_refl _) hz5)
                  rw [← hy] at cv
                  clear hown hout hy heq
                  go_wp2
                  go_roundw
                  case rel => exact ⟨q + 1, by omega, by go_num, RW, RO⟩
                  case measure => simp [intOf]; omega
                · have hqn : q = k := by omega
                  subst hqn
                  have B6 : Below w.heap.size w wr := B5.trans (hout.below.mono (by omega))
                  have X6 : Box wr w.heap.size #[.int .i64 0, .slice none 0 0] 32 := (hout.block _ (.inl (by omega))).trans X5
                  obtain ⟨x0, x1, y0, y1⟩ := res_cells X6
                  have hown6 : Own wr w4.heap.size w5.heap.size (.slice (some ⟨w4.heap.size, 0, none⟩) q q) q (fun i => G.1 i q) := hown.congr (fun i hi => by simp [hi])
                  have hsz6 := hout.size
                  clear hown hout B5 X5 E5 X6
                  go_wp2
                  refine bodyPost_ret (v := bytesR 0 (.slice (some ⟨w4.heap.size, 0, none⟩) q q)) (by simp [results, Tryz.results145, go_sem, bytesR, x0, x1]) rfl ⟨0, _, rfl, .inr (.inr ⟨by omega, hR0, rfl, HSH.out, .inr ⟨rfl, by rw [← HG.out, ← HRK.out]; omega⟩⟩), ?_, (B6.setCell (Nat.le_refl _) _).setCell (Nat.le_refl _) _⟩
                  have o1 := out_store wr w.heap.size (w.heap.size + 1) w.heap.size 0 (.int .i64 0) (Nat.le_refl _) (by omega)
                  have o2 := out_store (wr.setCell ⟨w.heap.size, 0, none⟩ (.int .i64 0)) w.heap.size (w.heap.size + 1) w.heap.size 1 (.slice (some ⟨w4.heap.size, 0, none⟩) q q) (Nat.le_refl _) (by omega)
                  simp only [if_pos]
                  rw [← HG.out]
                  exact (hown6.out (o1.trans o2) (.inr (by omega))).weaken (by omega) (by rw [(o1.trans o2).size, hsz6]; exact Nat.le_refl _)
      · have tN : ((N : Int) != (m : Int)) = true := by simp; omega
        go_wp2
        exact bodyPost_ret (v := bytesR 1 (.slice none 0 0)) (by simp [results, Tryz.results145, go_sem, bytesR, x0, x1]) rfl ⟨1, _, rfl, .inr (.inl ⟨rfl, by omega, .inr (.inr ⟨0, by omega, by rw [← HN.out]; exact hNm⟩)⟩), own_nil _ _ _ _, (hbel.setCell (Nat.le_refl _) _).setCell (Nat.le_refl _) _⟩
  · have t1 : ((m : Int) != (R : Int)) = true := by simp; omega
    clear CE
    go_enter Tryz.func145, Tryz.ntmps145
    go_wp2
    exact bodyPost_ret (v := bytesR 1 (.slice none 0 0)) (by simp [results, Tryz.results145, go_sem, bytesR]) rfl ⟨1, _, rfl, .inr (.inl ⟨rfl, by omega, .inr (.inl hmR)⟩), own_nil _ _ _ _, (Below.refl _ _).alloc (Nat.le_refl _) _⟩
end Go.Proofs.YtngofdoojoaekaaGreat
