/- For every shape the program's NewWorld answers as the specification's does, writes into nothing that it is handed, and its answer is memory of its own: the law FnExactNewWorld returns true at every input, and changes nothing that was there. No condition. -/
import Derived.Test.YtlppdepihchnkaaWShape
import Derived.Test.YtlppdepihchnkaaZFnExactNewWorldB
import Derived.BigQuiet
import Derived.Deep.QuietTactic
import Derived.StillTailTactics
import Derived.Lib.MinMax
import Derived.Laws.StructEq
import Derived.Deep.DeepCutAuto
import Derived.Deep.RegionLaw
import Derived.Laws.Tables
import Derived.Laws.Rows
import Derived.Test.YtlppdepihchnkaaRows
import Derived.Test.YtlppdepihchnkaaOpensD
import Derived.Test.YtlppdepihchnkaaZFnExactNewWorldA
namespace Go.Proofs.Ytlppdepihchnkaa
open Go.RowKit F256
set_option linter.unusedVariables false
set_option linter.unusedSimpArgs false

theorem nearest_any (x a b : Int) (w : World) :
    Calls Try.prog 77 #[.int .i64 x, .int .i64 a, .int .i64 b] w fun e w' => e = .returned (.int .i64 (max a (min x b))) ∧ w' = w := by
  go_enter Try.func77, Try.ntmps77
  go_wp2
  go_ret
  exact ⟨rfl, rfl⟩

/-- x moved to the nearest number from a to b -/
def nearZ (x a b : Int) : Int := max a (min x b)
theorem nearZ_iff (x a b : Int) (h : a ≤ b) : x = nearZ x a b ↔ a ≤ x ∧ x ≤ b := by
  unfold nearZ
  omega
theorem nearest_z (x a b : Int) (w : World) :
    Calls Try.prog 77 #[.int .i64 x, .int .i64 a, .int .i64 b] w fun e w' => e = .returned (.int .i64 (nearZ x a b)) ∧ w' = w := nearest_any x a b w

set_option maxRecDepth 20000 in
set_option maxHeartbeats 8000000 in
theorem nearestShape_any (a0 a1 a2 a3 a4 a5 a6 a7 a8 : Int) (w : World) :
    Calls Try.prog 68 #[.agg #[.int .i64 a0, .int .i64 a1, .int .i64 a2, .int .i64 a3, .int .i64 a4, .int .i64 a5, .int .i64 a6, .int .i64 a7, .int .i64 a8]] w fun e w' => e = .returned (.agg #[.int .i64 (nearZ a0 1 4), .int .i64 (nearZ a1 0 2), .int .i64 (nearZ a2 1 3), .int .i64 (nearZ a3 0 2), .int .i64 (nearZ a4 1 6), .int .i64 (nearZ a5 1 6), .int .i64 (nearZ a6 1 4), .int .i64 (nearZ a7 1 6), .int .i64 (nearZ a8 0 400)]) ∧ Below w.heap.size w w' := by
  go_enter Try.func68, Try.ntmps68
  go_wp2_with fail
  have XA := (box_new w #[.int .i64 a0, .int .i64 a1, .int .i64 a2, .int .i64 a3, .int .i64 a4, .int .i64 a5, .int .i64 a6, .int .i64 a7, .int .i64 a8] 24).allocd (.cells #[.int .i64 0, .int .i64 0, .int .i64 0, .int .i64 0, .int .i64 0, .int .i64 0, .int .i64 0, .int .i64 0, .int .i64 0] 24)
  have XZ := box_new (w.alloc (.cells #[.int .i64 a0, .int .i64 a1, .int .i64 a2, .int .i64 a3, .int .i64 a4, .int .i64 a5, .int .i64 a6, .int .i64 a7, .int .i64 a8] 24)) #[.int .i64 0, .int .i64 0, .int .i64 0, .int .i64 0, .int .i64 0, .int .i64 0, .int .i64 0, .int .i64 0, .int .i64 0] 24
  have hz : (w.alloc (.cells #[.int .i64 a0, .int .i64 a1, .int .i64 a2, .int .i64 a3, .int .i64 a4, .int .i64 a5, .int .i64 a6, .int .i64 a7, .int .i64 a8] 24)).heap.size = w.heap.size + 1 := by simp
  rw [hz] at XZ
  have BA : Below w.heap.size w ((w.alloc (.cells #[.int .i64 a0, .int .i64 a1, .int .i64 a2, .int .i64 a3, .int .i64 a4, .int .i64 a5, .int .i64 a6, .int .i64 a7, .int .i64 a8] 24)).alloc (.cells #[.int .i64 0, .int .i64 0, .int .i64 0, .int .i64 0, .int .i64 0, .int .i64 0, .int .i64 0, .int .i64 0, .int .i64 0] 24)) := ((Below.refl _ _).alloc (Nat.le_refl _) _).alloc (by simp) _
  obtain ⟨wA, hwA⟩ : ∃ x, x = (w.alloc (.cells #[.int .i64 a0, .int .i64 a1, .int .i64 a2, .int .i64 a3, .int .i64 a4, .int .i64 a5, .int .i64 a6, .int .i64 a7, .int .i64 a8] 24)).alloc (.cells #[.int .i64 0, .int .i64 0, .int .i64 0, .int .i64 0, .int .i64 0, .int .i64 0, .int .i64 0, .int .i64 0, .int .i64 0] 24) := ⟨_, rfl⟩
  rw [← hwA] at XA XZ BA ⊢
  clear hwA hz
  refine wp_region_still_tail 28 (by kernel_rfl) (by kernel_rfl) ?_
  have XA' : Box { wA with drawn := wA.drawn + 1 } w.heap.size #[.int .i64 a0, .int .i64 a1, .int .i64 a2, .int .i64 a3, .int .i64 a4, .int .i64 a5, .int .i64 a6, .int .i64 a7, .int .i64 a8] 24 := XA
  have XZ' : Box { wA with drawn := wA.drawn + 1 } (w.heap.size + 1) #[.int .i64 0, .int .i64 0, .int .i64 0, .int .i64 0, .int .i64 0, .int .i64 0, .int .i64 0, .int .i64 0, .int .i64 0] 24 := XZ
  have BA' : Below w.heap.size w { wA with drawn := wA.drawn + 1 } := ⟨BA.os, BA.tape, BA.output, BA.size, BA.block⟩
  obtain ⟨wB, hwB⟩ : ∃ x : World, x = { wA with drawn := wA.drawn + 1 } := ⟨_, rfl⟩
  rw [← hwB] at XA' XZ' BA' ⊢
  clear XA XZ BA hwB
  obtain ⟨x0, x1, x2, x3, x4, x5, x6, x7, x8⟩ := box9 XA'
  obtain ⟨y0, y1, y2, y3, y4, y5, y6, y7, y8⟩ := box9 XZ'
  simp only [List.take_succ_cons, List.take_zero, List.drop_succ_cons, List.drop_zero]
  still_step
  still_step
  still_call (nearest_z _ _ _ _)
  still_step
  still_step
  still_call (nearest_z _ _ _ _)
  still_step
  still_step
  still_call (nearest_z _ _ _ _)
  still_step
  still_step
  still_call (nearest_z _ _ _ _)
  still_step
  still_step
  still_call (nearest_z _ _ _ _)
  still_step
  still_step
  still_call (nearest_z _ _ _ _)
  still_step
  still_step
  still_call (nearest_z _ _ _ _)
  still_step
  still_step
  still_call (nearest_z _ _ _ _)
  still_step
  still_step
  still_call (nearest_z _ _ _ _)
  still_step
  refine wpStill_nil ?_
  have z0 : wB.frozen? ⟨w.heap.size + 1, 0, none⟩ = false := XZ'.frozen 0
  have z1 : wB.frozen? ⟨w.heap.size + 1, 1, none⟩ = false := XZ'.frozen 1
  have z2 : wB.frozen? ⟨w.heap.size + 1, 2, none⟩ = false := XZ'.frozen 2
  have z3 : wB.frozen? ⟨w.heap.size + 1, 3, none⟩ = false := XZ'.frozen 3
  have z4 : wB.frozen? ⟨w.heap.size + 1, 4, none⟩ = false := XZ'.frozen 4
  have z5 : wB.frozen? ⟨w.heap.size + 1, 5, none⟩ = false := XZ'.frozen 5
  have z6 : wB.frozen? ⟨w.heap.size + 1, 6, none⟩ = false := XZ'.frozen 6
  have z7 : wB.frozen? ⟨w.heap.size + 1, 7, none⟩ = false := XZ'.frozen 7
  have z8 : wB.frozen? ⟨w.heap.size + 1, 8, none⟩ = false := XZ'.frozen 8
  go_wp2
  refine bodyPost_ret (v := .agg #[.int .i64 (nearZ a0 1 4), .int .i64 (nearZ a1 0 2), .int .i64 (nearZ a2 1 3), .int .i64 (nearZ a3 0 2), .int .i64 (nearZ a4 1 6), .int .i64 (nearZ a5 1 6), .int .i64 (nearZ a6 1 4), .int .i64 (nearZ a7 1 6), .int .i64 (nearZ a8 0 400)]) (by simp [results, Try.results68, go_sem, y0, y1, y2, y3, y4, y5, y6, y7, y8]) rfl ⟨rfl, ?_⟩
  exact (((((((((BA'.setCell (Nat.le_succ _) _).setCell (Nat.le_succ _) _).setCell (Nat.le_succ _) _).setCell (Nat.le_succ _) _).setCell (Nat.le_succ _) _).setCell (Nat.le_succ _) _).setCell (Nat.le_succ _) _).setCell (Nat.le_succ _) _).setCell (Nat.le_succ _) _)

end Go.Proofs.Ytlppdepihchnkaa

namespace Go.Proofs.Ytlppdepihchnkaa
open Go.RowKit F256
set_option linter.unusedVariables false
set_option linter.unusedSimpArgs false

theorem shape_eq_yes (a0 a1 a2 a3 a4 a5 a6 a7 a8 : Int) (w : World) : (Op.equalIn 10000 24 (.agg #[.int .i64 a0, .int .i64 a1, .int .i64 a2, .int .i64 a3, .int .i64 a4, .int .i64 a5, .int .i64 a6, .int .i64 a7, .int .i64 a8]) (.agg #[.int .i64 a0, .int .i64 a1, .int .i64 a2, .int .i64 a3, .int .i64 a4, .int .i64 a5, .int .i64 a6, .int .i64 a7, .int .i64 a8])).run Try.prog w = .ok true w := by
  have u3 := Try.underlying2
  rw [show (10000 : Nat) = 9999 + 1 from rfl, run_equalIn_agg w 9999 24 _ _ (by kernel_rfl) (by kernel_rfl)]
  simp only [Program.fieldsOf, Try.underlying24]
  go_simp
theorem shape_eq_no (a0 a1 a2 a3 a4 a5 a6 a7 a8 b0 b1 b2 b3 b4 b5 b6 b7 b8 : Int) (h : ¬ (a0 = b0 ∧ a1 = b1 ∧ a2 = b2 ∧ a3 = b3 ∧ a4 = b4 ∧ a5 = b5 ∧ a6 = b6 ∧ a7 = b7 ∧ a8 = b8)) (w : World) : (Op.equalIn 10000 24 (.agg #[.int .i64 a0, .int .i64 a1, .int .i64 a2, .int .i64 a3, .int .i64 a4, .int .i64 a5, .int .i64 a6, .int .i64 a7, .int .i64 a8]) (.agg #[.int .i64 b0, .int .i64 b1, .int .i64 b2, .int .i64 b3, .int .i64 b4, .int .i64 b5, .int .i64 b6, .int .i64 b7, .int .i64 b8])).run Try.prog w = .ok false w := by
  have u3 := Try.underlying2
  rw [show (10000 : Nat) = 9999 + 1 from rfl, run_equalIn_agg w 9999 24 _ _ (by kernel_rfl) (by kernel_rfl)]
  simp only [Program.fieldsOf, Try.underlying24]
  have H : Hid (¬ (a0 = b0 ∧ a1 = b1 ∧ a2 = b2 ∧ a3 = b3 ∧ a4 = b4 ∧ a5 = b5 ∧ a6 = b6 ∧ a7 = b7 ∧ a8 = b8)) := h
  clear h
  go_simp
  exact fun h0 h1 h2 h3 h4 h5 h6 h7 h8 => H.out ⟨h0, h1, h2, h3, h4, h5, h6, h7, h8⟩
theorem ok_near (s : Nat → Int) : OkShape s ↔ s 0 = nearZ (s 0) 1 4 ∧ s 1 = nearZ (s 1) 0 2 ∧ s 2 = nearZ (s 2) 1 3 ∧ s 3 = nearZ (s 3) 0 2 ∧ s 4 = nearZ (s 4) 1 6 ∧ s 5 = nearZ (s 5) 1 6 ∧ s 6 = nearZ (s 6) 1 4 ∧ s 7 = nearZ (s 7) 1 6 ∧ s 8 = nearZ (s 8) 0 400 := by
  unfold OkShape Shp3 Shp
  rw [nearZ_iff (s 0) 1 4 (by omega), nearZ_iff (s 1) 0 2 (by omega), nearZ_iff (s 2) 1 3 (by omega), nearZ_iff (s 3) 0 2 (by omega), nearZ_iff (s 4) 1 6 (by omega), nearZ_iff (s 5) 1 6 (by omega), nearZ_iff (s 6) 1 4 (by omega), nearZ_iff (s 7) 1 6 (by omega), nearZ_iff (s 8) 0 400 (by omega)]
  omega

set_option maxHeartbeats 4000000 in
theorem implShape_any (s : Nat → Int) (w : World) :
    Calls Try.prog 26 #[shapeV s] w fun e w' => ∃ x, e = .returned (.int .i64 x) ∧ ShFAns s x ∧ Below w.heap.size w w' := by
  have HK : Hid (OkShape s ↔ s 0 = nearZ (s 0) 1 4 ∧ s 1 = nearZ (s 1) 0 2 ∧ s 2 = nearZ (s 2) 1 3 ∧ s 3 = nearZ (s 3) 0 2 ∧ s 4 = nearZ (s 4) 1 6 ∧ s 5 = nearZ (s 5) 1 6 ∧ s 6 = nearZ (s 6) 1 4 ∧ s 7 = nearZ (s 7) 1 6 ∧ s 8 = nearZ (s 8) 0 400) := ok_near s
  unfold shapeV
  obtain ⟨a0, h0⟩ : ∃ a, a = s 0 := ⟨_, rfl⟩
  obtain ⟨a1, h1⟩ : ∃ a, a = s 1 := ⟨_, rfl⟩
  obtain ⟨a2, h2⟩ : ∃ a, a = s 2 := ⟨_, rfl⟩
  obtain ⟨a3, h3⟩ : ∃ a, a = s 3 := ⟨_, rfl⟩
  obtain ⟨a4, h4⟩ : ∃ a, a = s 4 := ⟨_, rfl⟩
  obtain ⟨a5, h5⟩ : ∃ a, a = s 5 := ⟨_, rfl⟩
  obtain ⟨a6, h6⟩ : ∃ a, a = s 6 := ⟨_, rfl⟩
  obtain ⟨a7, h7⟩ : ∃ a, a = s 7 := ⟨_, rfl⟩
  obtain ⟨a8, h8⟩ : ∃ a, a = s 8 := ⟨_, rfl⟩
  rw [← h0, ← h1, ← h2, ← h3, ← h4, ← h5, ← h6, ← h7, ← h8]
  have HK2 : Hid (OkShape s ↔ a0 = nearZ a0 1 4 ∧ a1 = nearZ a1 0 2 ∧ a2 = nearZ a2 1 3 ∧ a3 = nearZ a3 0 2 ∧ a4 = nearZ a4 1 6 ∧ a5 = nearZ a5 1 6 ∧ a6 = nearZ a6 1 4 ∧ a7 = nearZ a7 1 6 ∧ a8 = nearZ a8 0 400) := by
    show OkShape s ↔ _
    rw [h0, h1, h2, h3, h4, h5, h6, h7, h8]
    exact HK.out
  clear HK h0 h1 h2 h3 h4 h5 h6 h7 h8
  have CN := nearestShape_any a0 a1 a2 a3 a4 a5 a6 a7 a8
  have XA := box_new w #[.int .i64 a0, .int .i64 a1, .int .i64 a2, .int .i64 a3, .int .i64 a4, .int .i64 a5, .int .i64 a6, .int .i64 a7, .int .i64 a8] 24
  obtain ⟨x0, x1, x2, x3, x4, x5, x6, x7, x8⟩ := box9 XA
  have HX : Hid (Box (w.alloc (.cells #[.int .i64 a0, .int .i64 a1, .int .i64 a2, .int .i64 a3, .int .i64 a4, .int .i64 a5, .int .i64 a6, .int .i64 a7, .int .i64 a8] 24)) w.heap.size #[.int .i64 a0, .int .i64 a1, .int .i64 a2, .int .i64 a3, .int .i64 a4, .int .i64 a5, .int .i64 a6, .int .i64 a7, .int .i64 a8] 24) := XA
  have HB : Hid (Below w.heap.size w (w.alloc (.cells #[.int .i64 a0, .int .i64 a1, .int .i64 a2, .int .i64 a3, .int .i64 a4, .int .i64 a5, .int .i64 a6, .int .i64 a7, .int .i64 a8] 24))) := bnew (Below.refl _ _)
  obtain ⟨wA, hwA⟩ : ∃ x, x = w.alloc (.cells #[.int .i64 a0, .int .i64 a1, .int .i64 a2, .int .i64 a3, .int .i64 a4, .int .i64 a5, .int .i64 a6, .int .i64 a7, .int .i64 a8] 24) := ⟨_, rfl⟩
  rw [← hwA] at x0 x1 x2 x3 x4 x5 x6 x7 x8 HX HB
  clear XA
  by_cases ok : OkShape s
  · have HO : Hid (OkShape s) := ok
    obtain ⟨e0, e1, e2, e3, e4, e5, e6, e7, e8⟩ := HK2.out.mp ok
    rw [← e0, ← e1, ← e2, ← e3, ← e4, ← e5, ← e6, ← e7, ← e8] at CN
    have heq := shape_eq_yes a0 a1 a2 a3 a4 a5 a6 a7 a8
    clear e0 e1 e2 e3 e4 e5 e6 e7 e8 ok
    go_enter Try.func26, Try.ntmps26
    go_wp2_with fail
    rw [← hwA]
    clear hwA
    go_region_with (go_at_call 68; refine (CN _).mono ?_; rintro ee w2 ⟨rfl, hb2⟩; have hB2 : Below wA.heap.size wA w2 := ⟨hb2.os, hb2.tape, hb2.output, hb2.size, hb2.block⟩; obtain ⟨y0, y1, y2, y3, y4, y5, y6, y7, y8⟩ := box9 (HX.out.below hB2 HX.out.lt))
    all_goals
      go_wp2
      go_ret
      exact ⟨0, rfl, .inr ⟨rfl, HO.out⟩, HB.out.trans (hB2.mono HB.out.size)⟩
  · have HO : Hid (¬ OkShape s) := ok
    have hno : ¬ (a0 = nearZ a0 1 4 ∧ a1 = nearZ a1 0 2 ∧ a2 = nearZ a2 1 3 ∧ a3 = nearZ a3 0 2 ∧ a4 = nearZ a4 1 6 ∧ a5 = nearZ a5 1 6 ∧ a6 = nearZ a6 1 4 ∧ a7 = nearZ a7 1 6 ∧ a8 = nearZ a8 0 400) := fun h => ok (HK2.out.mpr h)
    have heq := shape_eq_no a0 a1 a2 a3 a4 a5 a6 a7 a8 (nearZ a0 1 4) (nearZ a1 0 2) (nearZ a2 1 3) (nearZ a3 0 2) (nearZ a4 1 6) (nearZ a5 1 6) (nearZ a6 1 4) (nearZ a7 1 6) (nearZ a8 0 400) hno
    clear hno ok
    go_enter Try.func26, Try.ntmps26
    go_wp2_with fail
    rw [← hwA]
    clear hwA
    go_region_with (go_at_call 68; refine (CN _).mono ?_; rintro ee w2 ⟨rfl, hb2⟩; have hB2 : Below wA.heap.size wA w2 := ⟨hb2.os, hb2.tape, hb2.output, hb2.size, hb2.block⟩; obtain ⟨y0, y1, y2, y3, y4, y5, y6, y7, y8⟩ := box9 (HX.out.below hB2 HX.out.lt))
    all_goals
      go_wp2
      go_ret
      exact ⟨3, rfl, .inl ⟨rfl, HO.out⟩, HB.out.trans (hB2.mono HB.out.size)⟩
end Go.Proofs.Ytlppdepihchnkaa

namespace Go.Proofs.Ytlppdepihchnkaa
open Go.RowKit F256
set_option linter.unusedVariables false
set_option linter.unusedSimpArgs false

set_option maxHeartbeats 4000000 in
theorem rowLength_any (s : Nat → Int) (h1 : 1 ≤ s 2) (h2 : s 2 ≤ 1000) (w : World) :
    Calls Try.prog 101 #[shapeV s] w fun e w' => e = .returned (.int .i64 (s 2 * 4)) ∧ Below w.heap.size w w' := by
  unfold shapeV
  obtain ⟨a2, h0⟩ : ∃ a, a = s 2 := ⟨_, rfl⟩
  rw [← h0] at h1 h2 ⊢
  clear h0
  have B0 : Below w.heap.size w (w.alloc (.cells #[.int .i64 (s 0), .int .i64 (s 1), .int .i64 a2, .int .i64 (s 3), .int .i64 (s 4), .int .i64 (s 5), .int .i64 (s 6), .int .i64 (s 7), .int .i64 (s 8)] 24)) := bnew (Below.refl _ _)
  go_enter Try.func101, Try.ntmps101
  go_wp2
  go_ret
  exact ⟨rfl, B0⟩

set_option maxHeartbeats 4000000 in
theorem implParts_any (s : Nat → Int) (l : Int) (w : World) :
    Calls Try.prog 100 #[shapeV s, .int .i64 l] w fun e w' => ∃ x c, e = .returned (intR c x) ∧ PfAns s l x c ∧ Below w.heap.size w w' := by
  unfold shapeV
  go_enter Try.func100, Try.ntmps100
  go_wp2_with fail
  refine (implShape_any s _).mono ?_
  rintro e w1 ⟨x, rfl, hx, B1'⟩
  obtain ⟨X1, X2, B1, z1⟩ := two_new B1'
  obtain ⟨x0, x1, x2, x3, x4, x5, x6, x7, x8⟩ := box9 X1
  obtain ⟨y0, y1, y2, y3⟩ := res_cells X2
  have HX : Hid (Box w1 (w.heap.size + 1) #[.int .i64 0, .int .i64 0] 116) := X2
  have HX1 : Hid (Box w1 w.heap.size #[.int .i64 (s 0), .int .i64 (s 1), .int .i64 (s 2), .int .i64 (s 3), .int .i64 (s 4), .int .i64 (s 5), .int .i64 (s 6), .int .i64 (s 7), .int .i64 (s 8)] 24) := X1
  clear B1' X1 X2
  rcases hx with ⟨rfl, hx⟩ | ⟨rfl, hx⟩
  · have HN : Hid (¬ OkShape s) := hx
    clear hx
    go_wp2
    exact bodyPost_ret (v := intR 3 0) (by simp [results, Try.results100, go_sem, intR, y0, y1]) rfl ⟨0, 3, rfl, .inl ⟨HN.out, rfl, rfl⟩, (B1.setCell (Nat.le_succ _) _).setCell (Nat.le_succ _) _⟩
  · have HO : Hid (OkShape s) := hx
    have HD : Hid (1 ≤ s 2 ∧ s 2 ≤ 1000) := by show 1 ≤ s 2 ∧ s 2 ≤ 1000; have := hx.2.1; unfold Shp at this; omega
    clear hx
    have CL := rowLength_any s HD.out.1 HD.out.2
    unfold shapeV at CL
    have HM : Hid (∀ m, m = (l + s 2 * 4 - 1) / (s 2 * 4) → 1 ≤ l → l ≤ 3 * (s 2 * 4) → PfAns s l m 0) := fun m hm h1 h2 => .inr (.inr (.inr ⟨HO.out, h1, h2, rfl, hm⟩))
    have HM2 : Hid (1 ≤ l → 3 * (s 2 * 4) < l → PfAns s l 0 2) := fun h1 h2 => .inr (.inr (.inl ⟨HO.out, h1, h2, rfl, rfl⟩))
    obtain ⟨S, hS⟩ : ∃ S, S = s 2 * 4 := ⟨_, rfl⟩
    rw [← hS] at CL HM HM2
    have q1 : 4 ≤ S := by have := HD.out.1; omega
    have q2 : S ≤ 4000 := by have := HD.out.2; omega
    clear hS
    by_cases c1 : l < 1
    · go_wp2
      exact bodyPost_ret (v := intR 6 0) (by simp [results, Try.results100, go_sem, intR, y0, y1]) rfl ⟨0, 6, rfl, .inr (.inl ⟨HO.out, c1, rfl, rfl⟩), (B1.setCell (Nat.le_succ _) _).setCell (Nat.le_succ _) _⟩
    · go_wp2_with fail
      refine (CL _).mono ?_
      rintro e w2 ⟨rfl, B2⟩
      have z2 := B2.size
      have B12 : Below w.heap.size w w2 := B1.trans (B2.mono B1.size)
      have HX2 : Hid (Box w2 (w.heap.size + 1) #[.int .i64 0, .int .i64 0] 116) := HX.out.below B2 z1
      have HY2 : Hid (Box w2 w.heap.size #[.int .i64 (s 0), .int .i64 (s 1), .int .i64 (s 2), .int .i64 (s 3), .int .i64 (s 4), .int .i64 (s 5), .int .i64 (s 6), .int .i64 (s 7), .int .i64 (s 8)] 24) := HX1.out.below B2 (by omega)
      clear x0 x1 x2 x3 x4 x5 x6 x7 x8 y0 y1 y2 y3 B2 HX HX1
      obtain ⟨y0, y1, y2, y3⟩ := res_cells HX2.out
      obtain ⟨x0, x1, x2, x3, x4, x5, x6, x7, x8⟩ := box9 HY2.out
      by_cases c2 : 3 * S < l
      · have t2 : decide (3 * S < l) = true := by simp; omega
        go_wp2
        exact bodyPost_ret (v := intR 2 0) (by simp [results, Try.results100, go_sem, intR, y0, y1]) rfl ⟨0, 2, rfl, HM2.out (by omega) c2, (B12.setCell (Nat.le_succ _) _).setCell (Nat.le_succ _) _⟩
      · have t2 : decide (3 * S < l) = false := by simp; omega
        have q3 : 0 ≤ l + S - 1 := by omega
        go_wp2_with fail
        have K0 : Hid (Below w2.heap.size w2 w2) := Below.refl _ _
        go_region_with (go_at_call 101; refine (CL _).mono ?_; rintro ee w3 ⟨rfl, hb3⟩; (first | (have hB2 : Below w2.heap.size w2 w3 := hB.trans ((⟨hb3.os, hb3.tape, hb3.output, hb3.size, hb3.block⟩ : Below _ _ _).mono hB.size); clear hb3; obtain ⟨v0, v1, v2, v3⟩ := res_cells (HX2.out.below hB2 (by omega)); obtain ⟨u0, u1, u2, u3, u4, u5, u6, u7, u8⟩ := box9 (HY2.out.below hB2 (by omega))) | (have hB : Below w2.heap.size w2 w3 := ⟨hb3.os, hb3.tape, hb3.output, hb3.size, hb3.block⟩; clear hb3; obtain ⟨u0, u1, u2, u3, u4, u5, u6, u7, u8⟩ := box9 (HY2.out.below hB (by omega)))))
        all_goals
          have B4 : Below w.heap.size w w3 := B12.trans (hB2.mono B12.size)
          go_wp2
          exact bodyPost_ret (v := intR 0 ((l + S - 1) / S)) (by simp [results, Try.results100, go_sem, intR, v0, v1]) rfl ⟨(l + S - 1) / S, 0, rfl, HM.out _ rfl (by omega) (by omega), (B4.setCell (Nat.le_succ _) _).setCell (Nat.le_succ _) _⟩
end Go.Proofs.Ytlppdepihchnkaa

namespace Go.Proofs.Ytlppdepihchnkaa
open Go.RowKit F256
set_option linter.unusedVariables false
set_option linter.unusedSimpArgs false

theorem near_b {x a b : Int} {t : Bool} (hab : a ≤ b) (ht : t = true ↔ InP x a b) : (x == nearZ x a b) = t := by
  have := nearZ_iff x a b hab
  cases t with
  | true => simpa [InP] using this.2 (ht.1 rfl)
  | false =>
    have hn : ¬ InP x a b := fun h => by have := ht.2 h; cases this
    simp
    intro h
    exact hn (this.1 h)
theorem inBounds_b {x a b : Int} {t : Bool} (hab : a ≤ b) (ht : t = true ↔ InP x a b) (w : World) :
    Calls Try.prog 43 #[.int .i64 x, .int .i64 a, .int .i64 b] w fun e w' => e = .returned (.bool t) ∧ w' = w := by
  have e1 := near_b hab ht
  clear ht
  go_enter Try.func43, Try.ntmps43
  go_wp2_with fail
  refine (nearest_z x a b _).mono ?_
  rintro e w' ⟨rfl, hw'⟩
  obtain rfl := hw'.symm
  obtain ⟨y, hy⟩ : ∃ y, y = nearZ x a b := ⟨_, rfl⟩
  rw [← hy] at e1 ⊢
  clear hy
  go_wp2
  go_ret
  exact ⟨by simp [e1], rfl⟩
theorem groupCount_any (s : Nat → Int) (h : OkShape s) (w : World) :
    Calls Try.prog 27 #[shapeV s] w fun e w' => e = .returned (.int .i64 (s 0 + s 1)) ∧ Below w.heap.size w w' := by
  obtain ⟨h1, h2, _⟩ := h
  unfold Shp3 at h1
  have B0 := (one_new w #[.int .i64 (s 0), .int .i64 (s 1), .int .i64 (s 2), .int .i64 (s 3), .int .i64 (s 4), .int .i64 (s 5), .int .i64 (s 6), .int .i64 (s 7), .int .i64 (s 8)] 24).bel
  unfold shapeV
  have hw : -9223372036854775808 ≤ s 0 + s 1 ∧ s 0 + s 1 ≤ 9223372036854775807 := by omega
  go_enter Try.func27, Try.ntmps27
  go_wp2
  go_ret
  exact ⟨rfl, B0⟩
theorem driveCount_any (s : Nat → Int) (h : OkShape s) (w : World) :
    Calls Try.prog 28 #[shapeV s] w fun e w' => e = .returned (.int .i64 (s 2 + s 3)) ∧ Below w.heap.size w w' := by
  obtain ⟨h1, h2, _⟩ := h
  unfold Shp at h2
  have B0 := (one_new w #[.int .i64 (s 0), .int .i64 (s 1), .int .i64 (s 2), .int .i64 (s 3), .int .i64 (s 4), .int .i64 (s 5), .int .i64 (s 6), .int .i64 (s 7), .int .i64 (s 8)] 24).bel
  unfold shapeV
  have hw : -9223372036854775808 ≤ s 2 + s 3 ∧ s 2 + s 3 ≤ 9223372036854775807 := by omega
  go_enter Try.func28, Try.ntmps28
  go_wp2
  go_ret
  exact ⟨rfl, B0⟩
theorem okB {s : Nat → Int} (h : OkShape s) : 1 ≤ s 0 ∧ s 0 ≤ 4 ∧ 0 ≤ s 1 ∧ s 1 ≤ 2 ∧ 1 ≤ s 2 ∧ s 2 ≤ 3 ∧ 0 ≤ s 3 ∧ s 3 ≤ 2 ∧ 1 ≤ s 4 ∧ s 4 ≤ 6 ∧ 1 ≤ s 5 ∧ s 5 ≤ 6 := by
  obtain ⟨h1, h2, h3, h4, _⟩ := h
  unfold Shp3 at h1
  unfold Shp at h2
  omega
theorem isGroup_b {s : Nat → Int} (h : OkShape s) {x : Int} {t : Bool} (ht : t = true ↔ InP x 0 (s 0 + s 1 - 1)) (w : World) :
    Calls Try.prog 84 #[shapeV s, .int .i64 x] w fun e w' => e = .returned (.bool t) ∧ Below w.heap.size w w' := by
  have hb := okB h
  have C := groupCount_any s h
  have CB := fun w' => inBounds_b (w := w') (show 0 ≤ s 0 + s 1 - 1 by omega) ht
  have T0 := one_new w #[.int .i64 (s 0), .int .i64 (s 1), .int .i64 (s 2), .int .i64 (s 3), .int .i64 (s 4), .int .i64 (s 5), .int .i64 (s 6), .int .i64 (s 7), .int .i64 (s 8)] 24
  unfold shapeV at C ⊢
  clear ht h
  go_enter Try.func84, Try.ntmps84
  go_wp2_with fail
  refine (C _).mono ?_
  rintro e w1 ⟨rfl, b1⟩
  have HB : Hid (Below w.heap.size w w1) := (T0.call b1).bel
  clear b1 T0 C
  go_wp2_with fail
  refine (CB _).mono ?_
  rintro e w2 ⟨rfl, hw2⟩
  obtain rfl := hw2.symm
  go_wp2
  go_ret
  exact ⟨rfl, HB.out⟩
theorem isDataGroup_b {s : Nat → Int} (h : OkShape s) {x : Int} {t : Bool} (ht : t = true ↔ InP x 0 (s 0 - 1)) (w : World) :
    Calls Try.prog 81 #[shapeV s, .int .i64 x] w fun e w' => e = .returned (.bool t) ∧ Below w.heap.size w w' := by
  have hb := okB h
  have CB := fun w' => inBounds_b (w := w') (show 0 ≤ s 0 - 1 by omega) ht
  have HB : Hid (Below w.heap.size w (w.alloc (.cells #[.int .i64 (s 0), .int .i64 (s 1), .int .i64 (s 2), .int .i64 (s 3), .int .i64 (s 4), .int .i64 (s 5), .int .i64 (s 6), .int .i64 (s 7), .int .i64 (s 8)] 24))) := (one_new w #[.int .i64 (s 0), .int .i64 (s 1), .int .i64 (s 2), .int .i64 (s 3), .int .i64 (s 4), .int .i64 (s 5), .int .i64 (s 6), .int .i64 (s 7), .int .i64 (s 8)] 24).bel
  unfold shapeV
  clear ht h
  go_enter Try.func81, Try.ntmps81
  go_wp2_with fail
  refine (CB _).mono ?_
  rintro e w2 ⟨rfl, hw2⟩
  obtain rfl := hw2.symm
  go_wp2
  go_ret
  exact ⟨rfl, HB.out⟩
theorem isRow_b {s : Nat → Int} (h : OkShape s) {x : Int} {t : Bool} (ht : t = true ↔ InP x 0 (s 4 - 1)) (w : World) :
    Calls Try.prog 82 #[shapeV s, .int .i64 x] w fun e w' => e = .returned (.bool t) ∧ Below w.heap.size w w' := by
  have hb := okB h
  have CB := fun w' => inBounds_b (w := w') (show 0 ≤ s 4 - 1 by omega) ht
  have HB : Hid (Below w.heap.size w (w.alloc (.cells #[.int .i64 (s 0), .int .i64 (s 1), .int .i64 (s 2), .int .i64 (s 3), .int .i64 (s 4), .int .i64 (s 5), .int .i64 (s 6), .int .i64 (s 7), .int .i64 (s 8)] 24))) := (one_new w #[.int .i64 (s 0), .int .i64 (s 1), .int .i64 (s 2), .int .i64 (s 3), .int .i64 (s 4), .int .i64 (s 5), .int .i64 (s 6), .int .i64 (s 7), .int .i64 (s 8)] 24).bel
  unfold shapeV
  clear ht h
  go_enter Try.func82, Try.ntmps82
  go_wp2_with fail
  refine (CB _).mono ?_
  rintro e w2 ⟨rfl, hw2⟩
  obtain rfl := hw2.symm
  go_wp2
  go_ret
  exact ⟨rfl, HB.out⟩
theorem rowLong_b {s : Nat → Int} (h : OkShape s) {ao : Option Addr} {n cap : Nat} (hn : n ≤ 9223372036854775807) {t : Bool} (ht : ((n : Int) == s 2 * 4) = t) (w : World) :
    Calls Try.prog 83 #[shapeV s, .slice ao n cap] w fun e w' => e = .returned (.bool t) ∧ Below w.heap.size w w' := by
  have hb := okB h
  have C := fun w' => rowLength_any s (by omega) (by omega) w'
  have T0 := one_new w #[.int .i64 (s 0), .int .i64 (s 1), .int .i64 (s 2), .int .i64 (s 3), .int .i64 (s 4), .int .i64 (s 5), .int .i64 (s 6), .int .i64 (s 7), .int .i64 (s 8)] 24
  unfold shapeV at C ⊢
  clear h
  go_enter Try.func83, Try.ntmps83
  go_wp2_with fail
  refine (C _).mono ?_
  rintro e w1 ⟨rfl, b1⟩
  have HB : Hid (Below w.heap.size w w1) := (T0.call b1).bel
  clear b1 T0 C
  go_wp2
  go_ret
  exact ⟨by simp [ht], HB.out⟩
set_option maxHeartbeats 4000000 in
theorem differWithin_any (v : Value) (n : Nat) (g : Nat → Int) (hi : Nat) (bound : Int) (hb1 : 1 ≤ bound) (hb2 : bound ≤ 1000000) (w : World) (r : RdI w hi v n g) (hcp : CapP v n) (hhi : hi ≤ w.heap.size) :
    Calls Try.prog 92 #[v, .int .i64 bound] w (BoolP (ApartP n g (bound - 1)) w) := by
  have HR : Hid (RdI w hi v n g) := r
  obtain ⟨ao, cap, rfl, hm, hc⟩ := r
  obtain ⟨_, _, e, hcp⟩ := hcp
  cases e
  unfold maxLen at hm
  go_enter Try.func92, Try.ntmps92
  go_wp2
  go_loopw [9] (fun i wr => ∃ k : Nat, k ≤ n ∧ i = .int .i64 k ∧ ApartP k g (bound - 1) ∧ Below w.heap.size w wr) (fun i _ => n - (intOf i).toNat)
  case atStart => exact ⟨0, Nat.zero_le _, rfl, fun i hi => by omega, Below.refl _ _⟩
  case round =>
    obtain ⟨k, hk, rfl, hall, hb⟩ := hrel
    have HALL : Hid (ApartP k g (bound - 1)) := hall
    clear hall
    by_cases hlt : k < n
    · obtain ⟨b, off, rfl, hblt, hcell⟩ := hc (by omega)
      have hck : wr.cell? ⟨b, off + k, none⟩ = some (.int .i64 (g k)) := (hb.cell (p := ⟨b, off + k, none⟩) (by show b < w.heap.size; omega)).trans (hcell k hlt)
      have kcp : k ≤ cap := by omega
      obtain ⟨t1, h1⟩ := exB (InP (g k) 0 (bound - 1))
      obtain ⟨t2, h2⟩ := exB (∃ t, t < k ∧ g t = g k)
      have C1 := fun w' => inBounds_b (w := w') (show 0 ≤ bound - 1 by omega) h1
      have C2 := det_b (contains_any (.slice (some ⟨b, off, none⟩) k cap) k g hi (g k) wr ((HR.out.part hk (by omega)).below hb hhi)) h2
      have H1 : Hid (t1 = true ↔ InP (g k) 0 (bound - 1)) := h1
      have H2 : Hid (t2 = true ↔ ∃ t, t < k ∧ g t = g k) := h2
      obtain ⟨y, hy⟩ : ∃ y, y = g k := ⟨_, rfl⟩
      have HY : Hid (y = g k) := hy
      rw [← hy] at hck C1 C2
      have HB : Hid (Below w.heap.size w wr) := hb
      clear hc hcell h1 h2 hy hb
      go_wp2_with fail
      refine (C1 _).mono ?_
      rintro e w' ⟨rfl, hw'⟩
      obtain rfl := hw'.symm
      clear C1
      cases t1 with
      | false =>
        go_wp2
        go_ret
        exact boolNo rfl (fun h => by
          have := H1.out.2 (h k hlt).1
          simp at this) HB.out
      | true =>
        go_wp2_with fail
        refine C2.mono ?_
        rintro e w2 ⟨rfl, b2⟩
        have HB2 : Hid (Below w.heap.size w w2) := HB.out.trans (b2.mono HB.out.size)
        clear b2 C2
        cases t2 with
        | true =>
          go_wp2
          go_ret
          exact boolNo rfl (fun h => by
            obtain ⟨t, ht, e⟩ := H2.out.1 (by simp)
            exact (h k hlt).2 t ht e) HB2.out
        | false =>
          go_wp2
          go_roundw
          case rel => exact ⟨k + 1, by omega, by go_num, fun i hi => by
                        by_cases c : i = k
                        · subst c
                          exact ⟨H1.out.1 (by simp), fun t ht e => by
                            have := H2.out.2 ⟨t, ht, e⟩
                            simp at this⟩
                        · exact HALL.out i (by omega), HB2.out⟩
          case measure => simp [intOf]; omega
    · obtain rfl : k = n := by omega
      go_wp2
      go_ret
      exact boolYes rfl HALL.out hb
end Go.Proofs.Ytlppdepihchnkaa

namespace Go.Proofs.Ytlppdepihchnkaa
open Go.RowKit F256
set_option linter.unusedVariables false
set_option linter.unusedSimpArgs false
theorem SlP.cellz {α : Type} {E : Lay α} {t : TypeId} {w w' : World} {lo g cap n k i : Nat} {x : Nat → α} {ce : Nat → List Value} {Ls : Nat → List Nat} {zs : List Value} (h : SlP E t w lo g cap n k x ce Ls) (hb : Below w.heap.size w w') (hi : i < n) {j : Nat} (hj : j < E.sz) (hz : ce i = zs) : w'.cell? ⟨g, i * E.sz + j, none⟩ = zs[j]? := by
  rw [← hz]
  exact (h.below hb).cell hi hj
theorem blank_of {w : World} {lo hi : Nat} {ao : Option Addr} {cap : Nat} (h : OwnT layBytes w lo hi (4, fun _ => 0) [.slice ao 4 cap]) : OwnT layBlock w lo hi blankB [.int .i64 0, .slice ao 4 cap] :=
  OwnT.conv (OwnT.pre (A := layI) (a := 0) (c := [.int .i64 0]) ⟨rfl, by omega, rfl⟩ h)
set_option maxHeartbeats 8000000 in
set_option maxRecDepth 20000 in
theorem emptyBlocks_any (R : Nat) (hR : R ≤ 1000) (w : World) : Calls Try.prog 29 #[.int .i64 R] w fun e w' => ∃ v, e = .returned v ∧ OwnT (layBlock.slice 91) w' w.heap.size w'.heap.size (R, fun _ => blankB) [v] ∧ Below w.heap.size w w' := by
  go_enter Try.func29, Try.ntmps29
  go_wp2_with (at_make; refine wp_makeT layBlock [.int .i64 0, .slice none 0 0] _ 91 32 el_Block.hs rfl Try.underlying57 el_Block.hi (fun _ => blankB) (fun _ => []) _ rfl _ _ rfl _ _ R rfl rfl rfl rfl (by omega) (by unfold maxLen; omega) ?_; intro w1 sp1 hb1)
  go_loopw [9] (fun i wr => ∃ k : Nat, k ≤ R ∧ i = .int .i64 k ∧ ∃ ce Ls, SlP layBlock 91 wr w.heap.size w.heap.size R R k (fun _ => blankB) ce Ls ∧ (∀ i, k ≤ i → ce i = [.int .i64 0, .slice none 0 0]) ∧ Below w.heap.size w wr) (fun i _ => R - (intOf i).toNat)
  case atStart => exact ⟨0, Nat.zero_le _, rfl, _, _, sp1, fun _ _ => rfl, hb1⟩
  case round =>
    clear sp1 hb1
    obtain ⟨k, hk, rfl, ce, Ls, sp, hce, hb⟩ := hrel
    obtain ⟨wo, rfl⟩ : ∃ x, x = wr := ⟨_, rfl⟩
    have HSP : Hid (SlP layBlock 91 wo w.heap.size w.heap.size R R k (fun _ => blankB) ce Ls) := sp
    have HCE : Hid (∀ i, k ≤ i → ce i = [.int .i64 0, .slice none 0 0]) := hce
    have HB : Hid (Below w.heap.size w wo) := hb
    have hz : w.heap.size ≤ wo.heap.size := hb.size
    clear sp hce hb
    by_cases hlt : k < R
    · go_wp2_with (at_make; refine wp_makeB _ rfl _ _ rfl _ _ 4 rfl rfl rfl rfl (by omega) ?_; intro w2 o2 b2 l2; have c1 : w2.cell? ⟨w.heap.size, k * 2 + 1, none⟩ = some (.slice none 0 0) := HSP.out.cellz b2 hlt (j := 1) (by decide) (HCE.out k (Nat.le_refl _)); have f1 : w2.frozen? ⟨w.heap.size, k * 2 + 1, none⟩ = false := (HSP.out.below b2).frozen _)
      obtain ⟨ce', Ls', sp3, h3⟩ := HSP.out.fill b2 hlt (j := 1) (by decide) (.slice (some ⟨wo.heap.size, 0, none⟩) 4 4) (a := blankB) (cs := [.int .i64 0, .slice (some ⟨wo.heap.size, 0, none⟩) 4 4]) (by rw [HCE.out k (Nat.le_refl _)]; rfl) (blank_of (ownB_T o2 (Nat.le_refl _) (fun _ => by decide))) hz
      go_roundw
      case rel => exact ⟨k + 1, by omega, by go_num, ce', Ls', sp3.congr (fun i _ => by rw [show upd (fun _ => blankB) k blankB = fun _ => blankB from upd_self (fun _ => blankB) k]), fun i hi => by rw [h3 i (by omega)]; exact HCE.out i (by omega), (HB.out.trans (b2.mono hz)).setCell (Nat.le_refl _) _⟩
      case measure => simp [intOf]; omega
    · obtain rfl : k = R := by omega
      go_wp2
      go_ret
      exact ⟨_, rfl, HSP.out.done (Nat.le_refl _), HB.out⟩
end Go.Proofs.Ytlppdepihchnkaa

namespace Go.Proofs.Ytlppdepihchnkaa
open Go.RowKit F256
set_option linter.unusedVariables false
set_option linter.unusedSimpArgs false
theorem SlP.keep {α : Type} {E : Lay α} {t : TypeId} {w w' : World} {lo g cap n k : Nat} {x : Nat → α} {ce : Nat → List Value} {Ls : Nat → List Nat} (h : SlP E t w lo g cap n k x ce Ls) (hg : w'.heap[g]? = w.heap[g]?) (hk : ∀ b, b ∈ catN k Ls → w'.heap[b]? = w.heap[b]?) : SlP E t w' lo g cap n k x ce Ls := by
  refine ⟨⟨h.row.1, ?_⟩, h.lens, fun i hi => E.own_kept (h.each i hi) (fun b hb' => hk b (mem_catN.2 ⟨i, hi, hb'⟩)), h.nd, h.low⟩
  rcases h.row.2 with ⟨hn, _⟩ | ⟨g', cap', cur, he, hbg, hgg, rest⟩
  · cases hn
  · cases he
    exact .inr ⟨g, cap, cur, rfl, hbg, hg.trans hgg, rest⟩
theorem one_cell {w : World} {g k : Nat} {v : Option Value} (h : w.cell? ⟨g, k * 1 + 0, none⟩ = v) : w.cell? ⟨g, k, none⟩ = v := by rwa [Nat.mul_one, Nat.add_zero] at h
theorem Two.low {w wc : World} {c1 c2 : Array Value} {t1 t2 : TypeId} (h : Two w wc c1 c2 t1 t2) {b : Nat} (hb : w.heap.size + 1 < b) (j : Nat) (u : Value) : Two w (wc.setCell ⟨b, j, none⟩ u) c1 c2 t1 t2 := ⟨h.b1.seto j u (by omega), h.b2.seto j u (by omega), h.bel.setCell (by show w.heap.size ≤ b; omega) _⟩
theorem Two.far {w wc w' : World} {c1 c2 : Array Value} {t1 t2 : TypeId} (h : Two w wc c1 c2 t1 t2) {B : Nat} (hb : Below B wc w') (hB : w.heap.size + 1 < B) : Two w w' c1 c2 t1 t2 := ⟨h.b1.below hb (by omega), h.b2.below hb (by omega), h.bel.trans (hb.mono (by omega))⟩
theorem one_off (k : Nat) : k * (layDrive.slice 59).sz + 0 = k := by show k * 1 + 0 = k; omega
theorem drive_of {w : World} {lo hi R cap : Nat} {ao : Option Addr} (h : OwnT (layBlock.slice 91) w lo hi (R, fun _ => blankB) [.slice ao R cap]) : OwnT layDrive w lo hi (freshD R) [.bool false, .slice ao R cap] :=
  OwnT.conv (OwnT.pre (A := layB) (a := false) (c := [.bool false]) ⟨rfl, trivial, rfl⟩ h)
theorem own_newW2 {s : Nat → Int} (hs : ∀ i, -9223372036854775808 ≤ s i ∧ s i ≤ 9223372036854775807) {w : World} {g D R lo hi lt t cap : Nat} {ao : Option Addr} (hg : (s 0 + s 1).toNat = g) (hD : (s 2 + s 3).toNat = D) (hR : (s 4).toNat = R)
    (h1 : OwnT ((layDrive.slice 59).slice 56) w lo hi (g, fun _ => (D, fun _ => freshD R)) [.slice ao g cap]) (h3 : (layTape.slice 80).own w (2, fun _ => zeroT) [.slice (some ⟨t, 0, none⟩) 2 2] [t]) (hlt : hi ≤ t) (ht : lt ≤ lo) (hlo : lo ≤ t) :
    OwnT layWorld w lt w.heap.size (newW s) [.int .i64 (s 0), .int .i64 (s 1), .int .i64 (s 2), .int .i64 (s 3), .int .i64 (s 4), .int .i64 (s 5), .int .i64 (s 6), .int .i64 (s 7), .int .i64 (s 8), .slice ao g cap, .slice none 0 0, .slice (some ⟨t, 0, none⟩) 2 2, .int .i64 0, .int .i64 (-1), .bool false] := by
  subst hg hD hR
  obtain ⟨K, a1, a2, a3⟩ := h1
  have hw := (layTape.slice 80).own_lt h3 t (by simp)
  refine ⟨K ++ ([] ++ ([t] ++ [])), World_mk (newW s) a1 (own_noInts w _ (fun _ => show (-9223372036854775808 : Int) ≤ 0 ∧ (0 : Int) ≤ 9223372036854775807 by decide)) h3 hs (show (-9223372036854775808 : Int) ≤ 0 ∧ (0 : Int) ≤ 9223372036854775807 by decide) (show (-9223372036854775808 : Int) ≤ -1 ∧ (-1 : Int) ≤ 9223372036854775807 by decide), ?_, ?_⟩
  · simp only [List.nil_append, List.append_nil]
    refine List.nodup_append.2 ⟨a2, by simp, fun b hb c hc hh => ?_⟩
    have := (a3 b hb).2
    simp at hc
    omega
  · intro b hb
    simp only [List.nil_append, List.append_nil] at hb
    rcases List.mem_append.1 hb with h | h
    · have := a3 b h; omega
    · simp at h; omega
set_option maxHeartbeats 16000000 in
set_option maxRecDepth 20000 in
theorem implNew_any (s : Nat → Int) (hs : ∀ i, -9223372036854775808 ≤ s i ∧ s i ≤ 9223372036854775807) (w : World) :
    Calls Try.prog 8 #[shapeV s] w (ResPost (NewAns s) w) := by
  have HS : Hid (∀ i, -9223372036854775808 ≤ s i ∧ s i ≤ 9223372036854775807) := hs
  clear hs
  have T0 := two_newb w #[.int .i64 (s 0), .int .i64 (s 1), .int .i64 (s 2), .int .i64 (s 3), .int .i64 (s 4), .int .i64 (s 5), .int .i64 (s 6), .int .i64 (s 7), .int .i64 (s 8)] #[.int .i64 0, .int .i64 0, .int .i64 0, .int .i64 0, .int .i64 0, .int .i64 0, .int .i64 0, .int .i64 0, .int .i64 0, .int .i64 0, .slice none 0 0, .slice none 0 0, .slice none 0 0, .int .i64 0, .int .i64 0, .bool false] 24 31
  have CSh := fun w' => implShape_any s w'
  unfold shapeV at CSh ⊢
  go_enter Try.func8, Try.ntmps8
  go_wp2_with fail
  refine (CSh _).mono ?_
  rintro e w1 ⟨x, rfl, hx, b1⟩
  have T1 : Two w w1 #[.int .i64 (s 0), .int .i64 (s 1), .int .i64 (s 2), .int .i64 (s 3), .int .i64 (s 4), .int .i64 (s 5), .int .i64 (s 6), .int .i64 (s 7), .int .i64 (s 8)] #[.int .i64 0, .int .i64 0, .int .i64 0, .int .i64 0, .int .i64 0, .int .i64 0, .int .i64 0, .int .i64 0, .int .i64 0, .int .i64 0, .slice none 0 0, .slice none 0 0, .slice none 0 0, .int .i64 0, .int .i64 0, .bool false] 24 31 := T0.call b1
  have HT1 : Hid (Two w w1 #[.int .i64 (s 0), .int .i64 (s 1), .int .i64 (s 2), .int .i64 (s 3), .int .i64 (s 4), .int .i64 (s 5), .int .i64 (s 6), .int .i64 (s 7), .int .i64 (s 8)] #[.int .i64 0, .int .i64 0, .int .i64 0, .int .i64 0, .int .i64 0, .int .i64 0, .int .i64 0, .int .i64 0, .int .i64 0, .int .i64 0, .slice none 0 0, .slice none 0 0, .slice none 0 0, .int .i64 0, .int .i64 0, .bool false] 24 31) := T1
  have z1 : w.heap.size + 1 < w1.heap.size := T1.b2.lt
  clear b1 T0 CSh
  have x1_0 : w1.cell? ⟨w.heap.size, 0, none⟩ = some (.int .i64 (s 0)) := T1.b1.cell 0
  have x1_1 : w1.cell? ⟨w.heap.size, 1, none⟩ = some (.int .i64 (s 1)) := T1.b1.cell 1
  have x1_2 : w1.cell? ⟨w.heap.size, 2, none⟩ = some (.int .i64 (s 2)) := T1.b1.cell 2
  have x1_3 : w1.cell? ⟨w.heap.size, 3, none⟩ = some (.int .i64 (s 3)) := T1.b1.cell 3
  have x1_4 : w1.cell? ⟨w.heap.size, 4, none⟩ = some (.int .i64 (s 4)) := T1.b1.cell 4
  have x1_5 : w1.cell? ⟨w.heap.size, 5, none⟩ = some (.int .i64 (s 5)) := T1.b1.cell 5
  have x1_6 : w1.cell? ⟨w.heap.size, 6, none⟩ = some (.int .i64 (s 6)) := T1.b1.cell 6
  have x1_7 : w1.cell? ⟨w.heap.size, 7, none⟩ = some (.int .i64 (s 7)) := T1.b1.cell 7
  have x1_8 : w1.cell? ⟨w.heap.size, 8, none⟩ = some (.int .i64 (s 8)) := T1.b1.cell 8
  rcases hx with ⟨rfl, hno⟩ | ⟨rfl, hok⟩
  · have HNO : Hid (¬ OkShape s) := hno
    clear hno
    have r1_0 : w1.cell? ⟨w.heap.size + 1, 0, none⟩ = some (.int .i64 0) := T1.b2.cell 0
    have r1f_0 : w1.frozen? ⟨w.heap.size + 1, 0, none⟩ = false := T1.b2.frozen 0
    have r1_1 : w1.cell? ⟨w.heap.size + 1, 1, none⟩ = some (.int .i64 0) := T1.b2.cell 1
    have r1f_1 : w1.frozen? ⟨w.heap.size + 1, 1, none⟩ = false := T1.b2.frozen 1
    have r1_2 : w1.cell? ⟨w.heap.size + 1, 2, none⟩ = some (.int .i64 0) := T1.b2.cell 2
    have r1f_2 : w1.frozen? ⟨w.heap.size + 1, 2, none⟩ = false := T1.b2.frozen 2
    have r1_3 : w1.cell? ⟨w.heap.size + 1, 3, none⟩ = some (.int .i64 0) := T1.b2.cell 3
    have r1f_3 : w1.frozen? ⟨w.heap.size + 1, 3, none⟩ = false := T1.b2.frozen 3
    have r1_4 : w1.cell? ⟨w.heap.size + 1, 4, none⟩ = some (.int .i64 0) := T1.b2.cell 4
    have r1f_4 : w1.frozen? ⟨w.heap.size + 1, 4, none⟩ = false := T1.b2.frozen 4
    have r1_5 : w1.cell? ⟨w.heap.size + 1, 5, none⟩ = some (.int .i64 0) := T1.b2.cell 5
    have r1f_5 : w1.frozen? ⟨w.heap.size + 1, 5, none⟩ = false := T1.b2.frozen 5
    have r1_6 : w1.cell? ⟨w.heap.size + 1, 6, none⟩ = some (.int .i64 0) := T1.b2.cell 6
    have r1f_6 : w1.frozen? ⟨w.heap.size + 1, 6, none⟩ = false := T1.b2.frozen 6
    have r1_7 : w1.cell? ⟨w.heap.size + 1, 7, none⟩ = some (.int .i64 0) := T1.b2.cell 7
    have r1f_7 : w1.frozen? ⟨w.heap.size + 1, 7, none⟩ = false := T1.b2.frozen 7
    have r1_8 : w1.cell? ⟨w.heap.size + 1, 8, none⟩ = some (.int .i64 0) := T1.b2.cell 8
    have r1f_8 : w1.frozen? ⟨w.heap.size + 1, 8, none⟩ = false := T1.b2.frozen 8
    have r1_9 : w1.cell? ⟨w.heap.size + 1, 9, none⟩ = some (.int .i64 0) := T1.b2.cell 9
    have r1f_9 : w1.frozen? ⟨w.heap.size + 1, 9, none⟩ = false := T1.b2.frozen 9
    have r1_10 : w1.cell? ⟨w.heap.size + 1, 10, none⟩ = some (.slice none 0 0) := T1.b2.cell 10
    have r1f_10 : w1.frozen? ⟨w.heap.size + 1, 10, none⟩ = false := T1.b2.frozen 10
    have r1_11 : w1.cell? ⟨w.heap.size + 1, 11, none⟩ = some (.slice none 0 0) := T1.b2.cell 11
    have r1f_11 : w1.frozen? ⟨w.heap.size + 1, 11, none⟩ = false := T1.b2.frozen 11
    have r1_12 : w1.cell? ⟨w.heap.size + 1, 12, none⟩ = some (.slice none 0 0) := T1.b2.cell 12
    have r1f_12 : w1.frozen? ⟨w.heap.size + 1, 12, none⟩ = false := T1.b2.frozen 12
    have r1_13 : w1.cell? ⟨w.heap.size + 1, 13, none⟩ = some (.int .i64 0) := T1.b2.cell 13
    have r1f_13 : w1.frozen? ⟨w.heap.size + 1, 13, none⟩ = false := T1.b2.frozen 13
    have r1_14 : w1.cell? ⟨w.heap.size + 1, 14, none⟩ = some (.int .i64 0) := T1.b2.cell 14
    have r1f_14 : w1.frozen? ⟨w.heap.size + 1, 14, none⟩ = false := T1.b2.frozen 14
    have r1_15 : w1.cell? ⟨w.heap.size + 1, 15, none⟩ = some (.bool false) := T1.b2.cell 15
    have r1f_15 : w1.frozen? ⟨w.heap.size + 1, 15, none⟩ = false := T1.b2.frozen 15
    clear T1
    go_wp2
    refine bodyPost_ret (v := .agg #[.int .i64 3, .int .i64 0, .int .i64 0, .int .i64 0, .int .i64 0, .int .i64 0, .int .i64 0, .int .i64 0, .int .i64 0, .int .i64 0, .slice none 0 0, .slice none 0 0, .slice none 0 0, .int .i64 0, .int .i64 0, .bool false]) (by simp [results, Try.results8, go_sem, r1_0, r1_1, r1_2, r1_3, r1_4, r1_5, r1_6, r1_7, r1_8, r1_9, r1_10, r1_11, r1_12, r1_13, r1_14, r1_15]) rfl ?_
    refine ⟨⟨3, zeroW⟩, [.int .i64 3, .int .i64 0, .int .i64 0, .int .i64 0, .int .i64 0, .int .i64 0, .int .i64 0, .int .i64 0, .int .i64 0, .int .i64 0, .slice none 0 0, .slice none 0 0, .slice none 0 0, .int .i64 0, .int .i64 0, .bool false], rfl, .inl ⟨HNO.out, rfl⟩, ?_, ?_⟩
    · exact own_resCode _ 3 (by decide) _ _
    · exact HT1.out.bel.trans (stN_below (by omega) [.int .i64 3, .int .i64 0, .int .i64 0, .int .i64 0, .int .i64 0, .int .i64 0, .int .i64 0, .int .i64 0, .int .i64 0, .int .i64 0, .slice none 0 0, .slice none 0 0, .slice none 0 0, .int .i64 0, .int .i64 0, .bool false] 0)
  have HOK : Hid (OkShape s) := hok
  obtain ⟨G, hG⟩ : ∃ G : Nat, s 0 + s 1 = (G : Int) := ⟨(s 0 + s 1).toNat, by obtain ⟨h1, _⟩ := hok; unfold Shp3 at h1; omega⟩
  obtain ⟨D, hD⟩ : ∃ D : Nat, s 2 + s 3 = (D : Int) := ⟨(s 2 + s 3).toNat, by obtain ⟨_, h2, _⟩ := hok; unfold Shp at h2; omega⟩
  obtain ⟨R, hR⟩ : ∃ R : Nat, s 4 = (R : Int) := ⟨(s 4).toNat, by obtain ⟨_, _, h3, _⟩ := hok; omega⟩
  have hGb : G ≤ 6 := by obtain ⟨h1, _⟩ := hok; unfold Shp3 at h1; omega
  have hDb : D ≤ 6 := by obtain ⟨_, h2, _⟩ := hok; unfold Shp at h2; omega
  have hRb : R ≤ 6 := by obtain ⟨_, _, h3, _⟩ := hok; omega
  have HG : Hid (s 0 + s 1 = (G : Int)) := hG
  have HD : Hid (s 2 + s 3 = (D : Int)) := hD
  have HR : Hid (s 4 = (R : Int)) := hR
  have CA := fun w' => groupCount_any s HOK.out w'
  have CD := fun w' => driveCount_any s HOK.out w'
  have CE := fun w' => emptyBlocks_any R (by omega) w'
  unfold shapeV at CA CD
  rw [hG] at CA
  rw [hD] at CD
  rw [← hR] at CE
  clear hok hG hD hR T1
  go_wp2_with fail
  refine (CA _).mono ?_
  rintro e w2 ⟨rfl, b2⟩
  have HT2 : Hid (Two w w2 #[.int .i64 (s 0), .int .i64 (s 1), .int .i64 (s 2), .int .i64 (s 3), .int .i64 (s 4), .int .i64 (s 5), .int .i64 (s 6), .int .i64 (s 7), .int .i64 (s 8)] #[.int .i64 0, .int .i64 0, .int .i64 0, .int .i64 0, .int .i64 0, .int .i64 0, .int .i64 0, .int .i64 0, .int .i64 0, .int .i64 0, .slice none 0 0, .slice none 0 0, .slice none 0 0, .int .i64 0, .int .i64 0, .bool false] 24 31) := HT1.out.call b2
  have z2 : w1.heap.size ≤ w2.heap.size := b2.size
  clear b2 x1_0 x1_1 x1_2 x1_3 x1_4 x1_5 x1_6 x1_7 x1_8
  go_wp2_with (at_make; refine wp_makeT (layDrive.slice 59) [.slice none 0 0] _ 56 24 el_DriveS.hs rfl Try.underlying25 el_DriveS.hi (fun _ => (D, fun _ => freshD R)) (fun _ => []) _ rfl _ _ rfl _ _ G rfl rfl rfl rfl (by omega) (by unfold maxLen; omega) ?_; intro w3 sp3 b3)
  obtain ⟨g0, hg0⟩ : ∃ x, x = w2.heap.size := ⟨_, rfl⟩
  go_loopw [18] (fun i wr => ∃ (k : Nat) (ce : Nat → List Value) (Ls : Nat → List Nat), k ≤ G ∧ i = .int .i64 k ∧ SlP (layDrive.slice 59) 56 wr w2.heap.size w2.heap.size G G k (fun _ => (D, fun _ => freshD R)) ce Ls ∧ (∀ i, k ≤ i → ce i = [.slice none 0 0]) ∧ Two w wr #[.int .i64 (s 0), .int .i64 (s 1), .int .i64 (s 2), .int .i64 (s 3), .int .i64 (s 4), .int .i64 (s 5), .int .i64 (s 6), .int .i64 (s 7), .int .i64 (s 8)] #[.int .i64 0, .int .i64 0, .int .i64 0, .int .i64 0, .int .i64 0, .int .i64 0, .int .i64 0, .int .i64 0, .int .i64 0, .int .i64 0, .slice none 0 0, .slice none 0 0, .slice none 0 0, .int .i64 0, .int .i64 0, .bool false] 24 31) (fun i _ => G - (intOf i).toNat)
  case atStart => exact ⟨0, _, _, Nat.zero_le _, rfl, sp3, fun _ _ => rfl, HT2.out.call b3⟩
  case round =>
    clear sp3 b3
    obtain ⟨k, ce, Ls, hk, rfl, sp, hce, T6⟩ := hrel
    obtain ⟨wo, rfl⟩ : ∃ x, x = wr := ⟨_, rfl⟩
    have HSP : Hid (SlP (layDrive.slice 59) 56 wo w2.heap.size w2.heap.size G G k (fun _ => (D, fun _ => freshD R)) ce Ls) := sp
    have HCE : Hid (∀ i, k ≤ i → ce i = [.slice none 0 0]) := hce
    have HT6 : Hid (Two w wo #[.int .i64 (s 0), .int .i64 (s 1), .int .i64 (s 2), .int .i64 (s 3), .int .i64 (s 4), .int .i64 (s 5), .int .i64 (s 6), .int .i64 (s 7), .int .i64 (s 8)] #[.int .i64 0, .int .i64 0, .int .i64 0, .int .i64 0, .int .i64 0, .int .i64 0, .int .i64 0, .int .i64 0, .int .i64 0, .int .i64 0, .slice none 0 0, .slice none 0 0, .slice none 0 0, .int .i64 0, .int .i64 0, .bool false] 24 31) := T6
    have zo : w2.heap.size < wo.heap.size := sp.lt
    obtain ⟨x0, x1, x2, x3, x4, x5, x6, x7, x8⟩ := box9 T6.b1
    by_cases hlt : k < G
    · clear sp hce T6
      go_wp2_with fail
      refine (CD _).mono ?_
      rintro e wa ⟨rfl, ba⟩
      have HBA : Hid (Below wo.heap.size wo wa) := ba
      have za : wo.heap.size ≤ wa.heap.size := ba.size
      clear ba x0 x1 x2 x3 x4 x5 x6 x7 x8
      go_wp2_with (at_make; refine wp_makeT layDrive [.bool false, .slice none 0 0] _ 59 32 el_Drive.hs rfl Try.underlying56 el_Drive.hi (fun _ => freshD R) (fun _ => []) _ rfl _ _ rfl _ _ D rfl rfl rfl rfl (by omega) (by unfold maxLen; omega) ?_; intro wb spb bb; have bob : Below wo.heap.size wo wb := HBA.out.trans (bb.mono za); have c0 : wb.cell? ⟨w2.heap.size, k, none⟩ = some (.slice none 0 0) := one_cell (HSP.out.cellz bob hlt (j := 0) (by decide) (HCE.out k (Nat.le_refl _))); have f0 : wb.frozen? ⟨w2.heap.size, k, none⟩ = false := (HSP.out.below bob).frozen _)
      have spO := (HSP.out.below bob).poke (Nat.le_refl k) hlt (j := 0) (by decide) (.slice (some ⟨wa.heap.size, 0, none⟩) D D)
      rw [HCE.out k (Nat.le_refl _), one_off] at spO
      have TC : Two w (wb.setCell ⟨w2.heap.size, k, none⟩ (.slice (some ⟨wa.heap.size, 0, none⟩) D D)) #[.int .i64 (s 0), .int .i64 (s 1), .int .i64 (s 2), .int .i64 (s 3), .int .i64 (s 4), .int .i64 (s 5), .int .i64 (s 6), .int .i64 (s 7), .int .i64 (s 8)] #[.int .i64 0, .int .i64 0, .int .i64 0, .int .i64 0, .int .i64 0, .int .i64 0, .int .i64 0, .int .i64 0, .int .i64 0, .int .i64 0, .slice none 0 0, .slice none 0 0, .slice none 0 0, .int .i64 0, .int .i64 0, .bool false] 24 31 := (HT6.out.call bob).low (b := w2.heap.size) (by omega) _ _
      have spI := spb.keep (w' := wb.setCell ⟨w2.heap.size, k, none⟩ (.slice (some ⟨wa.heap.size, 0, none⟩) D D)) (heap_setCell_other wb _ _ _ (by show wa.heap.size ≠ w2.heap.size; omega)) (fun b hb => by rw [catN_zero] at hb; cases hb)
      have cG : (wb.setCell ⟨w2.heap.size, k, none⟩ (.slice (some ⟨wa.heap.size, 0, none⟩) D D)).cell? ⟨w2.heap.size, k, none⟩ = some (.slice (some ⟨wa.heap.size, 0, none⟩) D D) := by
        have := spO.cell hlt (j := 0) (by decide)
        rw [upd_at] at this
        exact one_cell this
      obtain ⟨Wc, hWc⟩ : ∃ x, x = wb.setCell ⟨w2.heap.size, k, none⟩ (.slice (some ⟨wa.heap.size, 0, none⟩) D D) := ⟨_, rfl⟩
      rw [← hWc] at spO TC spI cG ⊢
      have HSO : Hid (SlP (layDrive.slice 59) 56 Wc w2.heap.size w2.heap.size G G k (fun _ => (D, fun _ => freshD R)) (upd ce k [.slice (some ⟨wa.heap.size, 0, none⟩) D D]) Ls) := spO
      have HTC : Hid (Two w Wc #[.int .i64 (s 0), .int .i64 (s 1), .int .i64 (s 2), .int .i64 (s 3), .int .i64 (s 4), .int .i64 (s 5), .int .i64 (s 6), .int .i64 (s 7), .int .i64 (s 8)] #[.int .i64 0, .int .i64 0, .int .i64 0, .int .i64 0, .int .i64 0, .int .i64 0, .int .i64 0, .int .i64 0, .int .i64 0, .int .i64 0, .slice none 0 0, .slice none 0 0, .slice none 0 0, .int .i64 0, .int .i64 0, .bool false] 24 31) := TC
      have HSI : Hid (SlP layDrive 59 Wc wa.heap.size wa.heap.size D D 0 (fun _ => freshD R) (fun _ => [.bool false, .slice none 0 0]) (fun _ => [])) := spI
      have HCG : Hid (Wc.cell? ⟨w2.heap.size, k, none⟩ = some (.slice (some ⟨wa.heap.size, 0, none⟩) D D)) := cG
      have zc : wa.heap.size < Wc.heap.size := spI.lt
      clear spO TC spI cG bob bb spb c0 f0 hWc
      go_loopw [32] (fun i wx => ∃ (q : Nat) (ce2 : Nat → List Value) (Ls2 : Nat → List Nat), q ≤ D ∧ i = .int .i64 q ∧ SlP layDrive 59 wx wa.heap.size wa.heap.size D D q (fun _ => freshD R) ce2 Ls2 ∧ (∀ i, q ≤ i → ce2 i = [.bool false, .slice none 0 0]) ∧ Below wa.heap.size Wc wx) (fun i _ => D - (intOf i).toNat)
      case atStart => exact ⟨0, _, _, Nat.zero_le _, rfl, HSI.out, fun _ _ => rfl, Below.refl _ _⟩
      case round =>
        obtain ⟨q, ce2, Ls2, hq, rfl, sp2, hce2, B7⟩ := hrel
        obtain ⟨wx, rfl⟩ : ∃ x, x = wr := ⟨_, rfl⟩
        have HS2 : Hid (SlP layDrive 59 wx wa.heap.size wa.heap.size D D q (fun _ => freshD R) ce2 Ls2) := sp2
        have HC2 : Hid (∀ i, q ≤ i → ce2 i = [.bool false, .slice none 0 0]) := hce2
        have HB7 : Hid (Below wa.heap.size Wc wx) := B7
        have zx : wa.heap.size < wx.heap.size := sp2.lt
        have cx : wx.cell? ⟨w2.heap.size, k, none⟩ = some (.slice (some ⟨wa.heap.size, 0, none⟩) D D) := (B7.cell (p := ⟨w2.heap.size, k, none⟩) (by show w2.heap.size < wa.heap.size; omega)).trans HCG.out
        have T7 : Two w wx #[.int .i64 (s 0), .int .i64 (s 1), .int .i64 (s 2), .int .i64 (s 3), .int .i64 (s 4), .int .i64 (s 5), .int .i64 (s 6), .int .i64 (s 7), .int .i64 (s 8)] #[.int .i64 0, .int .i64 0, .int .i64 0, .int .i64 0, .int .i64 0, .int .i64 0, .int .i64 0, .int .i64 0, .int .i64 0, .int .i64 0, .slice none 0 0, .slice none 0 0, .slice none 0 0, .int .i64 0, .int .i64 0, .bool false] 24 31 := HTC.out.far B7 (by omega)
        have HT7 : Hid (Two w wx #[.int .i64 (s 0), .int .i64 (s 1), .int .i64 (s 2), .int .i64 (s 3), .int .i64 (s 4), .int .i64 (s 5), .int .i64 (s 6), .int .i64 (s 7), .int .i64 (s 8)] #[.int .i64 0, .int .i64 0, .int .i64 0, .int .i64 0, .int .i64 0, .int .i64 0, .int .i64 0, .int .i64 0, .int .i64 0, .int .i64 0, .slice none 0 0, .slice none 0 0, .slice none 0 0, .int .i64 0, .int .i64 0, .bool false] 24 31) := T7
        clear sp2 hce2 B7
        by_cases hlq : q < D
        · have y4 : wx.cell? ⟨w.heap.size, 4, none⟩ = some (.int .i64 (s 4)) := T7.b1.cell 4
          have HCX : Hid (wx.cell? ⟨w2.heap.size, k, none⟩ = some (.slice (some ⟨wa.heap.size, 0, none⟩) D D)) := cx
          clear T7
          go_upto_region 12 with fail
          go_region_with (go_at_call 29; refine (CE _).mono ?_; rintro ee we ⟨v, rfl, oe, be'⟩; obtain ⟨eo, ec, hv⟩ := sl_formT oe; obtain rfl := one_eq hv; clear hv; have be : Below wx.heap.size wx we := ⟨be'.os, be'.tape, be'.output, be'.size, be'.block⟩; have ce1 : we.cell? ⟨w2.heap.size, k, none⟩ = some (.slice (some ⟨wa.heap.size, 0, none⟩) D D) := (be.cell (p := ⟨w2.heap.size, k, none⟩) (by show w2.heap.size < wx.heap.size; omega)).trans HCX.out; have ci1 : we.cell? ⟨wa.heap.size, q * 2 + 1, none⟩ = some (.slice none 0 0) := HS2.out.cellz be hlq (j := 1) (by decide) (HC2.out q (Nat.le_refl _)); have cf1 : we.frozen? ⟨wa.heap.size, q * 2 + 1, none⟩ = false := (HS2.out.below be).frozen _)
          all_goals
            obtain ⟨ce', Ls', sp3, h3⟩ := HS2.out.fill be hlq (j := 1) (by decide) (.slice eo R ec) (a := freshD R) (cs := [.bool false, .slice eo R ec]) (by rw [HC2.out q (Nat.le_refl _)]; rfl) (drive_of oe) (by omega)
            go_wp2
            go_roundw
            case rel => exact ⟨q + 1, ce', Ls', by omega, by go_num, sp3.congr (fun i _ => by rw [show upd (fun _ => freshD R) q (freshD R) = fun _ => freshD R from upd_self (fun _ => freshD R) q]), fun i hi => by rw [h3 i (by omega)]; exact HC2.out i (by omega), (HB7.out.trans (be.mono (by omega))).setCell (Nat.le_refl _) _⟩
            case measure => simp [intOf]; omega
        · obtain rfl : q = D := by omega
          clear T7
          go_wp2
          go_roundw
          case rel =>
            obtain ⟨K, a1, a2, a3⟩ := HS2.out.done (Nat.le_refl _)
            have spX := HSO.out.keep (w' := wx) (HB7.out.block _ (by omega)) (fun b hb => HB7.out.block b (by have := HSP.out.mem_lt b hb; omega))
            have spN := HSP.out.count spX (a := (q, fun _ => freshD R)) (K := K) (by rw [upd_at]; exact a1) a2 (fun b hb => by have := (a3 b hb).1; omega) (by omega)
            exact ⟨k + 1, _, _, by omega, by go_num, spN.congr (fun i _ => by rw [show upd (fun _ => (q, fun _ => freshD R)) k (q, fun _ => freshD R) = fun _ => (q, fun _ => freshD R) from upd_self (fun _ => (q, fun _ => freshD R)) k]), fun i hi => by rw [upd_ne ce _ (by omega)]; exact HCE.out i (by omega), HT7.out⟩
          case measure => simp [intOf]; omega
    · obtain rfl : k = G := by omega
      obtain ⟨wt, hrun, spt, bt'⟩ := run_makeT el_Tape (fun _ => zeroT) (fun _ => []) wo.drew 2 (by omega)
      have hrun2 : (Instr.makeSlice 27 (.int .i64 2) (.int .i64 2)).run Try.prog wo.drew = .ok (.slice (some ⟨wo.heap.size, 0, none⟩) 2 2) wt := hrun
      have bt : Below wo.heap.size wo wt := ⟨bt'.os, bt'.tape, bt'.output, bt'.size, bt'.block⟩
      have TT := T6.call bt
      have HTT : Hid (Two w wt #[.int .i64 (s 0), .int .i64 (s 1), .int .i64 (s 2), .int .i64 (s 3), .int .i64 (s 4), .int .i64 (s 5), .int .i64 (s 6), .int .i64 (s 7), .int .i64 (s 8)] #[.int .i64 0, .int .i64 0, .int .i64 0, .int .i64 0, .int .i64 0, .int .i64 0, .int .i64 0, .int .i64 0, .int .i64 0, .int .i64 0, .slice none 0 0, .slice none 0 0, .slice none 0 0, .int .i64 0, .int .i64 0, .bool false] 24 31) := TT
      have HOT : Hid ((layTape.slice 80).own wt (2, fun _ => zeroT) [.slice (some ⟨wo.heap.size, 0, none⟩) 2 2] [wo.heap.size]) := spt.two
      have HOG : Hid (OwnT ((layDrive.slice 59).slice 56) wt w2.heap.size wo.heap.size (k, fun _ => (D, fun _ => freshD R)) [.slice (some ⟨w2.heap.size, 0, none⟩) k k]) := (sp.done (Nat.le_refl _)).call bt
      obtain ⟨y0, y1, y2, y3, y4, y5, y6, y7, y8⟩ := box9 TT.b1
      have r_0 : wt.cell? ⟨w.heap.size + 1, 0, none⟩ = some (.int .i64 0) := TT.b2.cell 0
      have rf_0 : wt.frozen? ⟨w.heap.size + 1, 0, none⟩ = false := TT.b2.frozen 0
      have r_1 : wt.cell? ⟨w.heap.size + 1, 1, none⟩ = some (.int .i64 0) := TT.b2.cell 1
      have rf_1 : wt.frozen? ⟨w.heap.size + 1, 1, none⟩ = false := TT.b2.frozen 1
      have r_2 : wt.cell? ⟨w.heap.size + 1, 2, none⟩ = some (.int .i64 0) := TT.b2.cell 2
      have rf_2 : wt.frozen? ⟨w.heap.size + 1, 2, none⟩ = false := TT.b2.frozen 2
      have r_3 : wt.cell? ⟨w.heap.size + 1, 3, none⟩ = some (.int .i64 0) := TT.b2.cell 3
      have rf_3 : wt.frozen? ⟨w.heap.size + 1, 3, none⟩ = false := TT.b2.frozen 3
      have r_4 : wt.cell? ⟨w.heap.size + 1, 4, none⟩ = some (.int .i64 0) := TT.b2.cell 4
      have rf_4 : wt.frozen? ⟨w.heap.size + 1, 4, none⟩ = false := TT.b2.frozen 4
      have r_5 : wt.cell? ⟨w.heap.size + 1, 5, none⟩ = some (.int .i64 0) := TT.b2.cell 5
      have rf_5 : wt.frozen? ⟨w.heap.size + 1, 5, none⟩ = false := TT.b2.frozen 5
      have r_6 : wt.cell? ⟨w.heap.size + 1, 6, none⟩ = some (.int .i64 0) := TT.b2.cell 6
      have rf_6 : wt.frozen? ⟨w.heap.size + 1, 6, none⟩ = false := TT.b2.frozen 6
      have r_7 : wt.cell? ⟨w.heap.size + 1, 7, none⟩ = some (.int .i64 0) := TT.b2.cell 7
      have rf_7 : wt.frozen? ⟨w.heap.size + 1, 7, none⟩ = false := TT.b2.frozen 7
      have r_8 : wt.cell? ⟨w.heap.size + 1, 8, none⟩ = some (.int .i64 0) := TT.b2.cell 8
      have rf_8 : wt.frozen? ⟨w.heap.size + 1, 8, none⟩ = false := TT.b2.frozen 8
      have r_9 : wt.cell? ⟨w.heap.size + 1, 9, none⟩ = some (.int .i64 0) := TT.b2.cell 9
      have rf_9 : wt.frozen? ⟨w.heap.size + 1, 9, none⟩ = false := TT.b2.frozen 9
      have r_10 : wt.cell? ⟨w.heap.size + 1, 10, none⟩ = some (.slice none 0 0) := TT.b2.cell 10
      have rf_10 : wt.frozen? ⟨w.heap.size + 1, 10, none⟩ = false := TT.b2.frozen 10
      have r_11 : wt.cell? ⟨w.heap.size + 1, 11, none⟩ = some (.slice none 0 0) := TT.b2.cell 11
      have rf_11 : wt.frozen? ⟨w.heap.size + 1, 11, none⟩ = false := TT.b2.frozen 11
      have r_12 : wt.cell? ⟨w.heap.size + 1, 12, none⟩ = some (.slice none 0 0) := TT.b2.cell 12
      have rf_12 : wt.frozen? ⟨w.heap.size + 1, 12, none⟩ = false := TT.b2.frozen 12
      have r_13 : wt.cell? ⟨w.heap.size + 1, 13, none⟩ = some (.int .i64 0) := TT.b2.cell 13
      have rf_13 : wt.frozen? ⟨w.heap.size + 1, 13, none⟩ = false := TT.b2.frozen 13
      have r_14 : wt.cell? ⟨w.heap.size + 1, 14, none⟩ = some (.int .i64 0) := TT.b2.cell 14
      have rf_14 : wt.frozen? ⟨w.heap.size + 1, 14, none⟩ = false := TT.b2.frozen 14
      have r_15 : wt.cell? ⟨w.heap.size + 1, 15, none⟩ = some (.bool false) := TT.b2.cell 15
      have rf_15 : wt.frozen? ⟨w.heap.size + 1, 15, none⟩ = false := TT.b2.frozen 15
      clear TT T6 sp hce bt bt' spt hrun
      go_upto_region 15 with fail
      go_region
      all_goals
        go_wp2
        refine bodyPost_ret (v := .agg #[.int .i64 0, .int .i64 (s 0), .int .i64 (s 1), .int .i64 (s 2), .int .i64 (s 3), .int .i64 (s 4), .int .i64 (s 5), .int .i64 (s 6), .int .i64 (s 7), .int .i64 (s 8), .slice (some ⟨w2.heap.size, 0, none⟩) k k, .slice none 0 0, .slice (some ⟨wo.heap.size, 0, none⟩) 2 2, .int .i64 0, .int .i64 (-1), .bool false]) (by simp [results, Try.results8, go_sem, r_0, r_1, r_2, r_3, r_4, r_5, r_6, r_7, r_8, r_9, r_10, r_11, r_12, r_13, r_14, r_15]) rfl ?_
        refine ⟨⟨0, newW s⟩, [.int .i64 0, .int .i64 (s 0), .int .i64 (s 1), .int .i64 (s 2), .int .i64 (s 3), .int .i64 (s 4), .int .i64 (s 5), .int .i64 (s 6), .int .i64 (s 7), .int .i64 (s 8), .slice (some ⟨w2.heap.size, 0, none⟩) k k, .slice none 0 0, .slice (some ⟨wo.heap.size, 0, none⟩) 2 2, .int .i64 0, .int .i64 (-1), .bool false], rfl, .inr ⟨HOK.out, rfl⟩, ?_, ?_⟩
        · have F := own_newW2 HS.out (show (s 0 + s 1).toNat = k by have := HG.out; omega) (show (s 2 + s 3).toNat = D by have := HD.out; omega) (show (s 4).toNat = R by have := HR.out; omega) HOG.out HOT.out (Nat.le_refl _) (show w.heap.size + 1 + 1 ≤ w2.heap.size by omega) (by omega)
          exact OwnT.finb (own_resOf 0 (by decide) F) (b := w.heap.size + 1) (by omega) (by omega) 0 [.int .i64 0, .int .i64 (s 0), .int .i64 (s 1), .int .i64 (s 2), .int .i64 (s 3), .int .i64 (s 4), .int .i64 (s 5), .int .i64 (s 6), .int .i64 (s 7), .int .i64 (s 8), .slice (some ⟨w2.heap.size, 0, none⟩) k k, .slice none 0 0, .slice (some ⟨wo.heap.size, 0, none⟩) 2 2, .int .i64 0, .int .i64 (-1), .bool false] _ rfl
        · exact HTT.out.bel.trans (stN_below (by omega) [.int .i64 0, .int .i64 (s 0), .int .i64 (s 1), .int .i64 (s 2), .int .i64 (s 3), .int .i64 (s 4), .int .i64 (s 5), .int .i64 (s 6), .int .i64 (s 7), .int .i64 (s 8), .slice (some ⟨w2.heap.size, 0, none⟩) k k, .slice none 0 0, .slice (some ⟨wo.heap.size, 0, none⟩) 2 2, .int .i64 0, .int .i64 (-1), .bool false] 0)
end Go.Proofs.Ytlppdepihchnkaa

namespace Go.Proofs.Ytlppdepihchnkaa
open Go.RowKit F256
set_option linter.unusedVariables false
theorem mark_T {α : Type} {A : Lay α} {c : α → Nat} {mk : Nat → α → α} {fn : Nat} (hm : MkV A c mk fn) {w : World} {lo hi : Nat} {d : α} {cs : List Value} (h : OwnT A w lo hi d cs) (j : Nat) (hj : j + c d ≤ 100000000) :
    Calls Try.prog fn #[.agg cs.toArray, .int .i64 j] w fun e w' => e = .returned (.int .i64 ((j + c d : Nat) : Int)) ∧ OwnT A w' lo hi (mk j d) cs ∧ Chg lo hi w w' := by
  obtain ⟨L, h1, h2, h3⟩ := h
  exact (hm cs d L j w h1 h2 hj).mono fun e w' ⟨he, ho, hc⟩ => ⟨he, ⟨L, ho, h2, h3⟩, hc.chg h3⟩
theorem Chg.bel {lo hi B : Nat} {w w' : World} (h : Chg lo hi w w') (hl : B ≤ lo) (hB : B ≤ w.heap.size) : Below B w w' := ⟨h.os, h.tape, h.output, h.size, fun k hk => h.block k (by omega) (.inl (by omega))⟩
theorem sumN_mono2 {f g : Nat → Nat} : ∀ {n : Nat}, (∀ i, i < n → f i ≤ g i) → sumN f n ≤ sumN g n
  | 0, _ => Nat.le_refl _
  | n + 1, h => by
    rw [sumN_succ, sumN_succ]
    exact Nat.add_le_add (sumN_mono2 (fun i hi => h i (by omega))) (h n (by omega))
theorem sumN_const (c : Nat) : ∀ n : Nat, sumN (fun _ => c) n = n * c
  | 0 => by simp [sumN]
  | n + 1 => by rw [sumN_succ, sumN_const c n, Nat.succ_mul]
theorem sumN_plus (f : Nat → Nat) (c k : Nat) : ∀ n : Nat, sumN (fun i => c + k * f i) n = n * c + k * sumN f n
  | 0 => by simp [sumN]
  | n + 1 => by rw [sumN_succ, sumN_plus f c k n, sumN_succ, Nat.succ_mul, Nat.mul_add]; omega
/-- marks of a slice: at most k times its measure -/
theorem cSl_le {α : Type} {c s : α → Nat} {k : Nat} (h : ∀ a, c a ≤ k + k * s a) (p : Nat × (Nat → α)) : cSl c p ≤ k * szSl s p := by
  unfold cSl szSl
  have h1 : sumN (fun i => c (p.2 i)) p.1 ≤ sumN (fun i => k + k * s (p.2 i)) p.1 := sumN_mono2 (fun i _ => h (p.2 i))
  rw [sumN_plus (fun i => s (p.2 i)) k k p.1] at h1
  rw [Nat.mul_add]
  have : p.1 * k = k * p.1 := Nat.mul_comm _ _
  omega
theorem cBlock_le (d : BlockD) : cBlockD d ≤ 6 + 6 * szBlockD d := by unfold cBlockD szBlockD; omega
theorem cDrive_le (d : DriveD) : cDriveD d ≤ 6 + 6 * szDriveD d := by
  have := cSl_le (k := 6) cBlock_le d.blocks
  unfold cDriveD szDriveD
  omega
theorem cRec_le (d : RecD) : cRecD d ≤ 6 + 6 * szRecD d := by unfold cRecD szRecD; omega
theorem cTape_le (d : TapeD) : cTapeD d ≤ 6 + 6 * szTapeD d := by
  have := cSl_le (k := 6) cRec_le d.recs
  unfold cTapeD szTapeD
  omega
theorem cvWorld_le (d : WorldD) : cvWorldD d ≤ 6 * szWorldD d := by
  have h1 := cSl_le (c := cSl cDriveD) (s := szSl szDriveD) (k := 6) (fun p => Nat.le_trans (cSl_le (k := 6) cDrive_le p) (by omega)) d.groups
  have h3 := cSl_le (k := 6) cTape_le d.tapes
  unfold cvWorldD szWorldD
  omega
theorem szFresh (R : Nat) : szDriveD (freshD R) = R + R * 4 := by
  show R + sumN (fun _ => 4) R = _
  rw [sumN_const]
theorem szNew (s : Nat → Int) (h : OkShape s) : szWorldD (newW s) ≤ 10000 := by
  obtain ⟨h1, h2, h3, _⟩ := h
  unfold Shp3 at h1
  unfold Shp at h2
  obtain ⟨G, hG⟩ : ∃ G, (s 0 + s 1).toNat = G := ⟨_, rfl⟩
  obtain ⟨D, hD⟩ : ∃ D, (s 2 + s 3).toNat = D := ⟨_, rfl⟩
  obtain ⟨R, hR⟩ : ∃ R, (s 4).toNat = R := ⟨_, rfl⟩
  have e1 : szSl szDriveD (D, fun _ => freshD R) = D + D * (R + R * 4) := by
    show D + sumN (fun _ => szDriveD (freshD R)) D = _
    rw [sumN_const, szFresh]
  have e2 : szWorldD (newW s) = (G + G * (D + D * (R + R * 4))) + 0 + (2 + 2 * 0) := by
    unfold szWorldD newW
    simp only [hG, hD, hR]
    have a : szSl (szSl szDriveD) (G, fun _ => (D, fun _ => freshD R)) = G + G * (D + D * (R + R * 4)) := by
      show G + sumN (fun _ => szSl szDriveD (D, fun _ => freshD R)) G = _
      rw [sumN_const, e1]
    have b : szSl szTapeD (2, fun _ => zeroT) = 2 + 2 * 0 := by
      show 2 + sumN (fun _ => szTapeD zeroT) 2 = _
      rw [sumN_const]
      rfl
    rw [a, b]
    rfl
  rw [e2]
  have k1 : D * (R + R * 4) ≤ 6 * 30 := Nat.mul_le_mul (by omega) (by omega)
  have k2 : G * (D + D * (R + R * 4)) ≤ 6 * 186 := Nat.mul_le_mul (by omega) (by omega)
  omega
theorem cvNew (s : Nat → Int) {d : WorldResultD} (h : NewAns s d) : cvWorldResultD d ≤ 90000 := by
  rcases h with ⟨_, rfl⟩ | ⟨h, rfl⟩
  · show cvWorldD zeroW ≤ _
    have : cvWorldD zeroW = 0 := rfl
    omega
  · show cvWorldD (newW s) ≤ _
    have := cvWorld_le (newW s)
    have := szNew s h
    omega
end Go.Proofs.Ytlppdepihchnkaa

namespace Go.Proofs.Ytlppdepihchnkaa
open Go.RowKit F256
set_option linter.unusedVariables false
theorem OwnT.one {α : Type} {A : Lay α} {w : World} {lo hi : Nat} {a : α} {cs : List Value} (h : OwnT A w lo hi a cs) : ∀ v, v ∈ cs → v.oneCell' = true := by
  obtain ⟨L, h1, _⟩ := h
  exact fun v hv => A.own_one h1 v hv
theorem wp_allocStore {ops : Array Oper} {rest : List Oper} {o1 o2 : Oper} {a : Act} {w : World} {Q : Exit → Act → World → Prop} (T : TypeId) (k : Nat) (x : Operand) (cs : List Value) (zs : Array Value) (n : Nat)
    (hop1 : o1.op = Op.alloc T) (hop2 : o2.op = Op.store T (.tmp k) x) (hg1 : o1.guard = none) (hg2 : o2.guard = none) (hd1 : o1.dst = some k) (hd2 : o2.dst = none)
    (hp : (a.put (some k) (.pointer (some ⟨w.heap.size, 0, none⟩))).eval (.tmp k) = .pointer (some ⟨w.heap.size, 0, none⟩)) (hx : (a.put (some k) (.pointer (some ⟨w.heap.size, 0, none⟩))).eval x = .agg cs.toArray)
    (hi : (Try.prog.info? T).map (fun i => (i.zero.map (·.cells), i.size)) = some (some zs, n)) (hz : zs.size = n) (hl : cs.length = n) (h1 : ∀ v, v ∈ cs → v.oneCell' = true)
    (h : wpList Try.prog ops Q rest (a.put (some k) (.pointer (some ⟨w.heap.size, 0, none⟩))) (w.alloc (.cells cs.toArray T))) : wpList Try.prog ops Q (o1 :: o2 :: rest) a w := by
  obtain ⟨i0, hi0⟩ : ∃ i0, Try.prog.info? T = some i0 := by
    cases h : Try.prog.info? T with
    | none => rw [h] at hi; cases hi
    | some i0 => exact ⟨i0, rfl⟩
  rw [hi0] at hi
  simp only [Option.map_some, Option.some.injEq, Prod.mk.injEq] at hi
  obtain ⟨h2, h3⟩ := hi
  obtain ⟨z, hzz, hzc⟩ : ∃ z, i0.zero = some z ∧ z.cells = zs := by
    cases h : i0.zero with
    | none => rw [h] at h2; cases h2
    | some z => rw [h] at h2; exact ⟨z, rfl, by simpa using h2⟩
  have hr : (Instr.alloc T true (.tuple #[])).run Try.prog w = .ok (.pointer (some ⟨w.heap.size, 0, none⟩)) (w.alloc (.cells zs T)) := by
    simp [Instr.alloc, zeroValue, typeInfo, hi0, hzz, hzc, newVar, newRow]
  have hw : (w.alloc (.cells zs T)).setRow w.heap.size cs.toArray = w.alloc (.cells cs.toArray T) := by
    have hh : ((w.alloc (.cells zs T)).setRow w.heap.size cs.toArray).heap = w.heap.push (.cells cs.toArray T) := by
      apply Array.ext_getElem?
      intro i
      by_cases c : i = w.heap.size
      · subst c
        rw [setRow_heap (w.alloc (.cells zs T)) w.heap.size zs cs.toArray T (0, 0) (box_new w zs T), Array.getElem?_push, if_pos rfl]
      · rw [setRow_other _ _ _ _ c, Array.getElem?_push, if_neg c]
        show (w.heap.push _)[i]? = _
        rw [Array.getElem?_push, if_neg c]
    show ({ w with heap := ((w.alloc (.cells zs T)).setRow w.heap.size cs.toArray).heap } : World) = _
    rw [hh]
    rfl
  refine wpList_plain hg1 fun K hK => ?_
  unfold Oper.wp execOp
  simp only [hop1, Sem.run_bind, hr, Result.andThen_ok]
  refine hK _ _ ?_
  rw [hd1]
  refine wpList_store_row hg2 T (.tmp k) x hop2 w.heap.size cs.toArray hp hx T zs (box_new w zs T) (by rw [hi0]; simp [h3, hl]) (by simp [hz, hl]) (by simp; exact h1) ?_
  rw [hw, hd2]
  exact h
/-- a whole struct loaded -/
theorem wp_loadBox {ops : Array Oper} {rest : List Oper} {o : Oper} {a : Act} {w : World} {Q : Exit → Act → World → Prop} (T : TypeId) (x : Operand) (ho : o.op = .load T x) (hgd : o.guard = none) (b : Nat) (hx : a.eval x = .pointer (some ⟨b, 0, none⟩)) {cs : List Value} (hB : Box w b cs.toArray T) {fs : Array Field} (hu : Try.prog.underlying T = some (.struct fs)) {n : Nat} (hi : (Try.prog.info? T).map (·.size) = some n) (hl : cs.length = n)
    (h : wpList Try.prog ops Q rest (a.put o.dst (.agg cs.toArray)) w) : wpList Try.prog ops Q (o :: rest) a w :=
  wpList_load_row hgd T x ho b hx T cs.toArray (0, 0) (.struct fs) hB hu rfl (by rw [hi]; simp [hl]) h
theorem OwnT.len {α : Type} {A : Lay α} {w : World} {lo hi : Nat} {a : α} {cs : List Value} (h : OwnT A w lo hi a cs) : cs.length = A.sz := by
  obtain ⟨L, h1, _⟩ := h
  exact A.own_len h1
theorem size_WR : (Try.prog.info? 31).map (·.size) = some 16 := by kernel_rfl
theorem size_W : (Try.prog.info? 29).map (·.size) = some 15 := by kernel_rfl
theorem size_LW : (Try.prog.info? 49).map (·.size) = some 15 := by kernel_rfl
theorem size_LS : (Try.prog.info? 23).map (·.size) = some 9 := by kernel_rfl
theorem info_WR : (Try.prog.info? 31).map (fun i => (i.zero.map (·.cells), i.size)) = some (some #[.int .i64 0, .int .i64 0, .int .i64 0, .int .i64 0, .int .i64 0, .int .i64 0, .int .i64 0, .int .i64 0, .int .i64 0, .int .i64 0, .slice none 0 0, .slice none 0 0, .slice none 0 0, .int .i64 0, .int .i64 0, .bool false], 16) := by kernel_rfl
theorem info_W : (Try.prog.info? 29).map (fun i => (i.zero.map (·.cells), i.size)) = some (some #[.int .i64 0, .int .i64 0, .int .i64 0, .int .i64 0, .int .i64 0, .int .i64 0, .int .i64 0, .int .i64 0, .int .i64 0, .slice none 0 0, .slice none 0 0, .slice none 0 0, .int .i64 0, .int .i64 0, .bool false], 15) := by kernel_rfl
end Go.Proofs.Ytlppdepihchnkaa

namespace Go.Proofs.Ytlppdepihchnkaa
open Go.ChangeShapes Go.WideShapes Go.ChangeAt Go.RowKit F256
set_option linter.unusedVariables false
set_option linter.unusedSimpArgs false
theorem res_det {s : Nat → Int} {d : WorldResultD} {w : World} {f : Nat} {args : Array Value} (hd : NewAns s d) (h : Calls Try.prog f args w (ResPost (NewAns s) w)) : Calls Try.prog f args w fun e w' => ∃ cs, e = .returned (.agg cs.toArray) ∧ OwnT layWorldResult w' w.heap.size w'.heap.size d cs ∧ Below w.heap.size w w' :=
  h.mono fun e w' ⟨d', cs, h1, h2, h3, h4⟩ => ⟨cs, h1, by rw [hd.one h2]; exact h3, h4⟩
set_option maxHeartbeats 16000000 in
set_option maxRecDepth 20000 in
theorem fnExactNewWorld_walk (s : Nat → Int) (w : World) (hs : ∀ i, -9223372036854775808 ≤ s i ∧ s i ≤ 9223372036854775807) :
    Calls Try.prog 3 #[shapeV s] w fun e w' => e = .returned (.bool true) ∧ Below w.heap.size w w' := by
  obtain ⟨d, hd⟩ := new_ex s
  obtain ⟨N, hN⟩ : ∃ N, N = 1 + cvWorldResultD d := ⟨_, rfl⟩
  have hj : 1 + cvWorldResultD d ≤ 100000000 := by have := cvNew s hd; omega
  have CT := toShape_any s
  have CS := fun w' => res_det hd (specNew_any s hs w')
  have CI := fun w' => res_det hd (implNew_any s hs w')
  have CE := fun c1 c2 h1 h2 w' => eqWorldResult_is c1 c2 d h1 h2 w'
  have CM := fun {w' : World} {lo hi : Nat} {cs : List Value} (h : OwnT layWorldResult w' lo hi d cs) => mark_T markWorldResult_is h 1 hj
  have CH := fun (cs : List Value) (hi : Nat) (w' : World) (h : layWorldResult.rd w' hi (mkvWorldResultD 1 d) cs) (hh : hi ≤ w'.heap.size) => heldWorldResult_is cs d hi 1 w' h hh hj
  rw [← hN] at CM CH
  obtain ⟨SL, hSL, hSn⟩ : ∃ l : List Value, shapeV s = .agg l.toArray ∧ l.length = 9 := ⟨[.int .i64 (s 0), .int .i64 (s 1), .int .i64 (s 2), .int .i64 (s 3), .int .i64 (s 4), .int .i64 (s 5), .int .i64 (s 6), .int .i64 (s 7), .int .i64 (s 8)], rfl, rfl⟩
  rw [hSL] at CT CS CI ⊢
  have T0 := one_new w SL.toArray 23
  clear hs hd hN hj hSL
  go_enter Try.func3, Try.ntmps3
  go_wp2_with (refine wp_loadBox 23 (.tmp 1) rfl rfl (w.heap.size) rfl T0.b1 Try.underlying23 size_LS hSn ?_)
  refine (CT _).mono ?_
  rintro e w1 ⟨rfl, b1⟩
  have T1 := T0.call b1
  clear T0 b1
  go_wp2_with fail
  refine (CS _).mono ?_
  rintro e w2 ⟨cS, rfl, o2, b2⟩
  have z1 : w.heap.size < w1.heap.size := T1.b1.lt
  have z2 : w1.heap.size ≤ w2.heap.size := b2.size
  have T2 := T1.call b2
  have lS : cS.length = 16 := o2.len
  clear T1 b2
  go_upto_region 2 with (refine wp_allocStore 31 3 (.tmp 10) cS _ 16 rfl rfl rfl rfl rfl rfl rfl rfl info_WR rfl o2.len o2.one ?_)
  have bA : Below w2.heap.size w2 (w2.alloc (.cells cS.toArray 31)) := (Below.refl _ _).alloc (Nat.le_refl _) _
  have X3 : Box (w2.alloc (.cells cS.toArray 31)) w2.heap.size cS.toArray 31 := box_new _ _ _
  obtain ⟨W3, hW3⟩ : ∃ x, x = w2.alloc (.cells cS.toArray 31) := ⟨_, rfl⟩
  rw [← hW3] at bA X3 ⊢
  have T3 := T2.call bA
  have O3 := o2.call bA
  have z3 : w2.heap.size < W3.heap.size := X3.lt
  clear T2 o2 bA hW3
  go_wp2_with (refine wp_loadBox 23 (.tmp 1) rfl rfl (w.heap.size) rfl T3.b1 Try.underlying23 size_LS hSn ?_)
  refine (CT _).mono ?_
  rintro e w4 ⟨rfl, b4⟩
  have T4 := T3.call b4
  have O4 := O3.call b4
  have X4 := X3.call b4
  have z4 : W3.heap.size ≤ w4.heap.size := b4.size
  clear T3 O3 X3 b4
  go_wp2_with fail
  refine (CI _).mono ?_
  rintro e w5 ⟨cG, rfl, o5, b5⟩
  have T5 := T4.call b5
  have O5 := O4.call b5
  have X5 := X4.call b5
  have lG : cG.length = 16 := o5.len
  have z5 : w4.heap.size ≤ w5.heap.size := b5.size
  clear T4 O4 X4 b5
  go_upto_region 3 with (refine wp_allocStore 31 4 (.tmp 13) cG _ 16 rfl rfl rfl rfl rfl rfl rfl rfl info_WR rfl o5.len o5.one ?_)
  have bA : Below w5.heap.size w5 (w5.alloc (.cells cG.toArray 31)) := (Below.refl _ _).alloc (Nat.le_refl _) _
  have Y6 : Box (w5.alloc (.cells cG.toArray 31)) w5.heap.size cG.toArray 31 := box_new _ _ _
  obtain ⟨W6, hW6⟩ : ∃ x, x = w5.alloc (.cells cG.toArray 31) := ⟨_, rfl⟩
  rw [← hW6] at bA Y6 ⊢
  have T6 := T5.call bA
  have O6 := O5.call bA
  have X6 := X5.call bA
  have Q6 := o5.call bA
  have z6 : w5.heap.size < W6.heap.size := Y6.lt
  clear T5 O5 X5 o5 bA hW6
  go_wp2_with (first | (refine wp_loadBox 31 (.tmp 4) rfl rfl (w5.heap.size) rfl Y6 Try.underlying31 size_WR lG ?_) | (refine wp_loadBox 31 (.tmp 3) rfl rfl (w2.heap.size) rfl X6 Try.underlying31 size_WR lS ?_))
  refine (CE _ _ _ _ _ Q6.rd O6.rd (by omega) (by omega)).mono ?_
  rintro e w7 ⟨rfl, b7⟩
  have T7 := T6.call b7
  have O7 := O6.call b7
  have X7 := X6.call b7
  have Q7 := Q6.call b7
  have Y7 := Y6.call b7
  have z7 : W6.heap.size ≤ w7.heap.size := b7.size
  clear T6 O6 X6 Q6 Y6 b7
  go_wp2_with (refine wp_loadBox 31 (.tmp 4) rfl rfl (w5.heap.size) rfl Y7 Try.underlying31 size_WR lG ?_)
  refine (CM Q7).mono ?_
  rintro e w8 ⟨rfl, Q8, c8⟩
  have X8 := X7.chg c8 (.inl (by omega))
  have Y8 := Y7.chg c8 (.inr (Nat.le_refl _))
  have O8 := O7.chg c8 (.inl (by omega))
  have P8 := T7.b1.chg c8 (.inl (by omega))
  have B8 : Below w.heap.size w w8 := T7.bel.trans (c8.bel (by omega) (by omega))
  have z8 : w7.heap.size ≤ w8.heap.size := c8.size
  clear X7 Y7 O7 T7 Q7 c8
  go_wp2_with (refine wp_loadBox 31 (.tmp 4) rfl rfl (w5.heap.size) rfl Y8 Try.underlying31 size_WR lG ?_)
  refine (CH _ _ _ Q8.rd (by omega)).mono ?_
  rintro e w9 ⟨rfl, b9⟩
  have X9 := X8.call b9
  have Y9 := Y8.call b9
  have O9 := O8.call b9
  have Q9 := Q8.call b9
  have P9 := P8.call b9
  have B9 := B8.trans (b9.mono (by omega))
  have z9 : w8.heap.size ≤ w9.heap.size := b9.size
  clear X8 Y8 O8 Q8 P8 B8 b9
  have hn0 : ¬ (N : Int) < 0 := by omega
  go_wp2_with (refine wp_loadBox 23 (.tmp 1) rfl rfl (w.heap.size) rfl P9 Try.underlying23 size_LS hSn ?_)
  refine (CT _).mono ?_
  rintro e w10 ⟨rfl, b10⟩
  go_wp2_with fail
  refine (CI _).mono ?_
  rintro e w11 ⟨cH, rfl, o11, b11⟩
  have z10 : w9.heap.size ≤ w10.heap.size := b10.size
  have z11 : w10.heap.size ≤ w11.heap.size := b11.size
  have X11 := (X9.call b10).call b11
  have Y11 := (Y9.call b10).call b11
  have O11 := (O9.call b10).call b11
  have Q11 := (Q9.call b10).call b11
  have B11 := (B9.trans (b10.mono (by omega))).trans (b11.mono (by omega))
  have lH : cH.length = 16 := o11.len
  clear X9 Y9 O9 Q9 P9 B9 b10 b11
  go_upto_region 14 with (refine wp_allocStore 31 7 (.tmp 31) cH _ 16 rfl rfl rfl rfl rfl rfl rfl rfl info_WR rfl o11.len o11.one ?_)
  have bA : Below w11.heap.size w11 (w11.alloc (.cells cH.toArray 31)) := (Below.refl _ _).alloc (Nat.le_refl _) _
  have H12 : Box (w11.alloc (.cells cH.toArray 31)) w11.heap.size cH.toArray 31 := box_new _ _ _
  obtain ⟨W12, hW12⟩ : ∃ x, x = w11.alloc (.cells cH.toArray 31) := ⟨_, rfl⟩
  rw [← hW12] at bA H12 ⊢
  have X12 := X11.call bA
  have Y12 := Y11.call bA
  have O12 := O11.call bA
  have Q12 := Q11.call bA
  have R12 := o11.call bA
  have B12 := B11.trans (bA.mono (by omega))
  have z12 : w11.heap.size < W12.heap.size := H12.lt
  clear X11 Y11 O11 Q11 B11 o11 bA hW12
  go_wp2_with (first | (refine wp_loadBox 31 (.tmp 7) rfl rfl (w11.heap.size) rfl H12 Try.underlying31 size_WR lH ?_) | (refine wp_loadBox 31 (.tmp 3) rfl rfl (w2.heap.size) rfl X12 Try.underlying31 size_WR lS ?_))
  refine (CE _ _ _ _ _ R12.rd O12.rd (by omega) (by omega)).mono ?_
  rintro e w13 ⟨rfl, b13⟩
  have Y13 := Y12.call b13
  have Q13 := Q12.call b13
  have B13 := B12.trans (b13.mono (by omega))
  have z13 : W12.heap.size ≤ w13.heap.size := b13.size
  clear X12 Y12 O12 Q12 R12 B12 H12 b13
  go_wp2_with (refine wp_loadBox 31 (.tmp 4) rfl rfl (w5.heap.size) rfl Y13 Try.underlying31 size_WR lG ?_)
  refine (CH _ _ _ Q13.rd (by omega)).mono ?_
  rintro e w14 ⟨rfl, b14⟩
  have B14 : Hid (Below w.heap.size w w14) := B13.trans (b14.mono (by omega))
  clear Y13 Q13 B13 b14
  go_wp2
  go_ret
  exact ⟨rfl, B14.out⟩

set_option maxRecDepth 100000 in
theorem fnExactNewWorld_lifted (os : Os) (started : os.Started) (H : Type) (enc : TypeId × Value → H) :
    ReturnsInHanded {} Try.checked os 3 .any (Rows.fnExactNewWorldSpec.pre6 enc Try.prog Try.f3 Rows.fnExactNewWorldRow.domain false) (Rows.fnExactNewWorldSpec.post enc Try.prog Try.f3 false true false false) := by
  refine returnsInHanded_of_change (C := Try.checked) frame_own started (by kernel_rfl) Try.func3
    (ChangeSpec.witness6 (enc := enc) (C := Try.checked) false ⟨#[], #[.agg #[.int .i64 0, .int .i64 0, .int .i64 0, .int .i64 0, .int .i64 0, .int .i64 0, .int .i64 0, .int .i64 0, .int .i64 0]], []⟩ 8 (by kernel_rfl) (by kernel_rfl) (by kernel_rfl) (by kernel_rfl)) ?_
  intro W base args ds gs before hval0 hW hcnd _
  have hval : ∀ (j : Nat) t v, Try.f3.params[j]? = some t → args[j]? = some v → Value.okWide Try.prog W .any base t v := hval0
  have hW' := hW
  obtain ⟨p, q, hA0, hV, rfl, hfz, hnd⟩ := hW
  have hA : DataW.TrodAll enc Try.prog W 0 (fun _ => true) true Try.f3.params.toList args.toList ds p := hA0
  rw [Try.params3] at hA hval
  obtain ⟨v0, vs0, d0, ds0, p0, q0, hargs, rfl, rfl, h0, r0⟩ := trodAll_cons hA
  obtain ⟨rfl, rfl, rfl⟩ := trodAll_nil r0
  obtain rfl : args = #[v0] := by cases args; simp_all
  obtain ⟨rfl, rfl⟩ := trodVars_none hV
  have k0 := h0
  have lt0 : ∀ x ∈ p0, x.block < W.heap.size := by obtain ⟨m, hm⟩ := k0; exact DataW.trod_lt m _ _ _ hm
  obtain ⟨s0, rfl, hs0⟩ := shape_of_trod Try.underlying23 Try.underlying2 (by kernel_rfl) (by kernel_rfl) (fun i hi => by
    match i, hi with
    | 0, _ => exact ⟨_, rfl, rfl, rfl⟩
    | 1, _ => exact ⟨_, rfl, rfl, rfl⟩
    | 2, _ => exact ⟨_, rfl, rfl, rfl⟩
    | 3, _ => exact ⟨_, rfl, rfl, rfl⟩
    | 4, _ => exact ⟨_, rfl, rfl, rfl⟩
    | 5, _ => exact ⟨_, rfl, rfl, rfl⟩
    | 6, _ => exact ⟨_, rfl, rfl, rfl⟩
    | 7, _ => exact ⟨_, rfl, rfl, rfl⟩
    | 8, _ => exact ⟨_, rfl, rfl, rfl⟩) (hval 0 23 v0 rfl rfl) h0
  clear hA0 hval0
  refine (fnExactNewWorld_walk s0 W hs0).mono fun e W' ⟨he, bel⟩ => ?_
  subst he
  exact ⟨_, rfl, _, _, _, [], _, [], hW', trodAll_mk1 (shut_bool Try.underlying4 _), (trodAll_cons_mk (Below.trod frame_laid (by kernel_rfl) (of_decide_eq_true (by kernel_rfl)) k0 bel lt0) trodAll_mk0), rfl, bel.frame _, fun h => by cases h⟩

theorem fnExactNewWorld_proved : Rows.FnExactNewWorldSaid :=
  OpenClaim.holds_of_wide 3 Try.f3 rfl rfl rfl rfl rfl rfl rfl ⟨rfl, rfl, rfl, rfl, rfl⟩ rfl rfl rfl rfl rfl (by kernel_rfl) Try.func3 (by kernel_rfl)
    (of_decide_eq_true (by kernel_rfl)) (by unfold Func.isWrapper; first | (rw [if_pos (by decide +kernel)]; kernel_rfl) | (rw [if_neg (by decide +kernel)]; exact ⟨rfl, rfl⟩))
    (fun os started H enc _ => fnExactNewWorld_lifted os started H enc)
#print axioms fnExactNewWorld_proved
end Go.Proofs.Ytlppdepihchnkaa
