/- Walks of slices.Index and slices.Contains over numbers. -/
import Derived.Test.YtbmfndjglndnlaaGreatZwA
import Derived.Test.YtbmfndjglndnlaaGreatWInts
import Derived.BigQuiet
import Derived.Deep.QuietTactic
import Derived.StillTailTactics
import Derived.Lib.MinMax
import Derived.Laws.StructEq
import Derived.Test.YtbmfndjglndnlaaGreatZwD
import Derived.Deep.Cut
namespace Go.Proofs.YtbmfndjglndnlaaGreat
open Go.RowKit F256
set_option linter.unusedVariables false
set_option linter.unusedSimpArgs false

set_option maxHeartbeats 1000000 in
theorem index_any (v : Value) (n : Nat) (g : Nat → Int) (hi : Nat) (x : Int) (w : World) (r : RdI w hi v n g) :
    Calls Tryz.prog 56 #[v, .int .i64 x] w fun e w' => ∃ z : Int, e = .returned (.int .i64 z) ∧ (0 ≤ z ↔ ∃ t, t < n ∧ g t = x) ∧ w' = w := by
  obtain ⟨ao, cap, rfl, hm, hc⟩ := r
  unfold maxLen at hm
  go_enter Tryz.func56, Tryz.ntmps56
  go_wp2
  go_loop [8] (fun i => ∃ k : Nat, k ≤ n ∧ i = .int .i64 k ∧ ∀ i, i < k → g i ≠ x) (fun i => n - (intOf i).toNat)
  case atStart => exact ⟨0, Nat.zero_le _, rfl, fun i hi => by omega⟩
  case round =>
    obtain ⟨k, hk, rfl, hall⟩ := hrel
    have HALL : Hid (∀ i, i < k → g i ≠ x) := hall
    clear hall
    by_cases hlt : k < n
    · obtain ⟨b, off, rfl, hblt, hcell⟩ := hc (by omega)
      have hck : w.cell? ⟨b, off + k, none⟩ = some (.int .i64 (g k)) := hcell k hlt
      obtain ⟨y, hy⟩ : ∃ y, y = g k := ⟨_, rfl⟩
      have HY : Hid (y = g k) := hy
      rw [← hy] at hck
      clear hc hcell hy
      by_cases heq : x = y
      · have HP : Hid (0 ≤ (k : Int) ↔ ∃ t, t < n ∧ g t = x) := ⟨fun _ => ⟨k, hlt, by rw [← HY.out, heq]⟩, fun _ => by omega⟩
        have te : (x == y) = true := by simp [heq]
        clear heq
        go_wp2
        go_ret
        exact ⟨_, rfl, HP.out, rfl⟩
      · have te : (x == y) = false := by simp [heq]
        have HN : Hid (g k ≠ x) := by show g k ≠ x; rw [← HY.out]; exact fun h => heq h.symm
        clear heq
        go_wp2
        go_round
        case rel => exact ⟨k + 1, by omega, by go_num, fun i hi => by
                      by_cases c : i = k
                      · rw [c]; exact HN.out
                      · exact HALL.out i (by omega)⟩
        case measure => simp [intOf]; omega
    · obtain rfl : k = n := by omega
      have HP : Hid (0 ≤ (-1 : Int) ↔ ∃ t, t < k ∧ g t = x) := ⟨fun h => by omega, fun ⟨t, ht, he⟩ => absurd he (HALL.out t ht)⟩
      clear hc
      go_wp2
      go_ret
      exact ⟨-1, rfl, HP.out, rfl⟩

theorem contains_any (v : Value) (n : Nat) (g : Nat → Int) (hi : Nat) (x : Int) (w : World) (r : RdI w hi v n g) :
    Calls Tryz.prog 79 #[v, .int .i64 x] w (BoolP (∃ t, t < n ∧ g t = x) w) := by
  have C := index_any v n g hi x w r
  obtain ⟨ao, cap, rfl, hm, hc⟩ := r
  clear hc hm
  have HI : Hid (Calls Tryz.prog 56 #[.slice ao n cap, .int .i64 x] w fun e w' => ∃ z : Int, e = .returned (.int .i64 z) ∧ (0 ≤ z ↔ ∃ t, t < n ∧ g t = x) ∧ w' = w) := C
  clear C
  obtain ⟨P, hP⟩ : ∃ P : Prop, P = ∃ t, t < n ∧ g t = x := ⟨_, rfl⟩
  rw [← hP] at HI ⊢
  clear hP
  go_enter Tryz.func79, Tryz.ntmps79
  go_wp2_with fail
  refine HI.out.mono ?_
  rintro e w1 ⟨z, rfl, hz, hw1⟩
  obtain rfl := hw1.symm
  have HZ : Hid (0 ≤ z ↔ P) := hz
  clear hz HI
  by_cases h0 : 0 ≤ z
  · have HP : Hid P := HZ.out.mp h0
    go_wp2
    go_ret
    exact boolYes rfl HP.out (Below.refl _ _)
  · have HP : Hid (¬ P) := fun h => h0 (HZ.out.mpr h)
    have td : decide (0 ≤ z) = false := by simp; omega
    clear h0
    go_wp2
    go_ret
    exact boolNo rfl HP.out (Below.refl _ _)
end Go.Proofs.YtbmfndjglndnlaaGreat

namespace Go.Proofs.YtbmfndjglndnlaaGreat
open Go.RowKit

theorem Box.allocd {w : World} {b : Nat} {cs : Array Value} {t : TypeId} (h : Box w b cs t) (o : Obj) : Box (w.alloc o) b cs t := (Below.heap_alloc w o b h.lt).trans h
theorem box_first {w w1 : World} {cs : Array Value} {t : TypeId} (h : Below (w.alloc (.cells cs t)).heap.size (w.alloc (.cells cs t)) w1) : Box w1 w.heap.size cs t ∧ Below w.heap.size w w1 :=
  ⟨(box_new w cs t).below h (by simp), bnew h⟩
theorem box_on {B : Nat} {w w1 : World} {cs : Array Value} {t : TypeId} {o : Obj} (hX : Box w B cs t) (h : Below (w.alloc o).heap.size (w.alloc o) w1) : Box w1 B cs t := (hX.allocd o).below h (hX.allocd o).lt
end Go.Proofs.YtbmfndjglndnlaaGreat

namespace Go.Proofs.YtbmfndjglndnlaaGreat
open Go.RowKit F256
set_option linter.unusedVariables false
set_option linter.unusedSimpArgs false

theorem nearest_any (x a b : Int) (w : World) :
    Calls Tryz.prog 148 #[.int .i64 x, .int .i64 a, .int .i64 b] w fun e w' => e = .returned (.int .i64 (max a (min x b))) ∧ w' = w := by
  go_enter Tryz.func148, Tryz.ntmps148
  go_wp2
  go_ret
  exact ⟨rfl, rfl⟩

/-- x moved to the nearest number from a to b -/
def nearZ (x a b : Int) : Int := max a (min x b)
theorem nearZ_iff (x a b : Int) (h : a ≤ b) : x = nearZ x a b ↔ a ≤ x ∧ x ≤ b := by
  unfold nearZ
  omega
theorem nearest_z (x a b : Int) (w : World) :
    Calls Tryz.prog 148 #[.int .i64 x, .int .i64 a, .int .i64 b] w fun e w' => e = .returned (.int .i64 (nearZ x a b)) ∧ w' = w := nearest_any x a b w

set_option maxRecDepth 20000 in
set_option maxHeartbeats 8000000 in
theorem nearestShape_any (a0 a1 a2 a3 a4 a5 a6 a7 a8 : Int) (w : World) :
    Calls Tryz.prog 133 #[.agg #[.int .i64 a0, .int .i64 a1, .int .i64 a2, .int .i64 a3, .int .i64 a4, .int .i64 a5, .int .i64 a6, .int .i64 a7, .int .i64 a8]] w fun e w' => e = .returned (.agg #[.int .i64 (nearZ a0 1 4), .int .i64 (nearZ a1 0 2), .int .i64 (nearZ a2 1 3), .int .i64 (nearZ a3 0 2), .int .i64 (nearZ a4 1 6), .int .i64 (nearZ a5 1 6), .int .i64 (nearZ a6 1 4), .int .i64 (nearZ a7 1 6), .int .i64 (nearZ a8 0 400)]) ∧ Below w.heap.size w w' := by
  go_enter Tryz.func133, Tryz.ntmps133
  go_wp2_with fail
  have XA := (box_new w #[.int .i64 a0, .int .i64 a1, .int .i64 a2, .int .i64 a3, .int .i64 a4, .int .i64 a5, .int .i64 a6, .int .i64 a7, .int .i64 a8] 30).allocd (.cells #[.int .i64 0, .int .i64 0, .int .i64 0, .int .i64 0, .int .i64 0, .int .i64 0, .int .i64 0, .int .i64 0, .int .i64 0] 30)
  have XZ := box_new (w.alloc (.cells #[.int .i64 a0, .int .i64 a1, .int .i64 a2, .int .i64 a3, .int .i64 a4, .int .i64 a5, .int .i64 a6, .int .i64 a7, .int .i64 a8] 30)) #[.int .i64 0, .int .i64 0, .int .i64 0, .int .i64 0, .int .i64 0, .int .i64 0, .int .i64 0, .int .i64 0, .int .i64 0] 30
  have hz : (w.alloc (.cells #[.int .i64 a0, .int .i64 a1, .int .i64 a2, .int .i64 a3, .int .i64 a4, .int .i64 a5, .int .i64 a6, .int .i64 a7, .int .i64 a8] 30)).heap.size = w.heap.size + 1 := by simp
  rw [hz] at XZ
  have BA : Below w.heap.size w ((w.alloc (.cells #[.int .i64 a0, .int .i64 a1, .int .i64 a2, .int .i64 a3, .int .i64 a4, .int .i64 a5, .int .i64 a6, .int .i64 a7, .int .i64 a8] 30)).alloc (.cells #[.int .i64 0, .int .i64 0, .int .i64 0, .int .i64 0, .int .i64 0, .int .i64 0, .int .i64 0, .int .i64 0, .int .i64 0] 30)) := ((Below.refl _ _).alloc (Nat.le_refl _) _).alloc (by simp) _
  obtain ⟨wA, hwA⟩ : ∃ x, x = (w.alloc (.cells #[.int .i64 a0, .int .i64 a1, .int .i64 a2, .int .i64 a3, .int .i64 a4, .int .i64 a5, .int .i64 a6, .int .i64 a7, .int .i64 a8] 30)).alloc (.cells #[.int .i64 0, .int .i64 0, .int .i64 0, .int .i64 0, .int .i64 0, .int .i64 0, .int .i64 0, .int .i64 0, .int .i64 0] 30) := ⟨_, rfl⟩
  rw [← hwA] at XA XZ BA ⊢
  clear hwA hz
  refine wp_region_still_tail 28 (by kernel_rfl) (by kernel_rfl) ?_
  have XA' : Box { wA with drawn := wA.drawn + 1 } w.heap.size #[.int .i64 a0, .int .i64 a1, .int .i64 a2, .int .i64 a3, .int .i64 a4, .int .i64 a5, .int .i64 a6, .int .i64 a7, .int .i64 a8] 30 := XA
  have XZ' : Box { wA with drawn := wA.drawn + 1 } (w.heap.size + 1) #[.int .i64 0, .int .i64 0, .int .i64 0, .int .i64 0, .int .i64 0, .int .i64 0, .int .i64 0, .int .i64 0, .int .i64 0] 30 := XZ
  have BA' : Below w.heap.size w { wA with drawn := wA.drawn + 1 } := ⟨BA.os, BA.tape, BA.output, BA.size, BA.block⟩
  obtain ⟨wB, hwB⟩ : ∃ x : World, x = { wA with drawn := wA.drawn + 1 } := ⟨_, rfl⟩
  rw [← hwB] at XA' XZ' BA' ⊢
  clear XA XZ BA hwB
  obtain ⟨x0, x1, x2, x3, x4, x5, x6, x7, x8⟩ := box9 XA'
  obtain ⟨y0, y1, y2, y3, y4, y5, y6, y7, y8⟩ := box9 XZ'
  simp only [List.take_succ_cons, List.take_zero, List.drop_succ_cons, List.drop_zero]
  still_step
  still_step
  still_call (nearest_z _ _ _ _)
  still_step
  still_step
  still_call (nearest_z _ _ _ _)
  still_step
  still_step
  still_call (nearest_z _ _ _ _)
  still_step
  still_step
  still_call (nearest_z _ _ _ _)
  still_step
  still_step
  still_call (nearest_z _ _ _ _)
  still_step
  still_step
  still_call (nearest_z _ _ _ _)
  still_step
  still_step
  still_call (nearest_z _ _ _ _)
  still_step
  still_step
  still_call (nearest_z _ _ _ _)
  still_step
  still_step
  still_call (nearest_z _ _ _ _)
  still_step
  refine wpStill_nil ?_
  have z0 : wB.frozen? ⟨w.heap.size + 1, 0, none⟩ = false := XZ'.frozen 0
  have z1 : wB.frozen? ⟨w.heap.size + 1, 1, none⟩ = false := XZ'.frozen 1
  have z2 : wB.frozen? ⟨w.heap.size + 1, 2, none⟩ = false := XZ'.frozen 2
  have z3 : wB.frozen? ⟨w.heap.size + 1, 3, none⟩ = false := XZ'.frozen 3
  have z4 : wB.frozen? ⟨w.heap.size + 1, 4, none⟩ = false := XZ'.frozen 4
  have z5 : wB.frozen? ⟨w.heap.size + 1, 5, none⟩ = false := XZ'.frozen 5
  have z6 : wB.frozen? ⟨w.heap.size + 1, 6, none⟩ = false := XZ'.frozen 6
  have z7 : wB.frozen? ⟨w.heap.size + 1, 7, none⟩ = false := XZ'.frozen 7
  have z8 : wB.frozen? ⟨w.heap.size + 1, 8, none⟩ = false := XZ'.frozen 8
  go_wp2
  refine bodyPost_ret (v := .agg #[.int .i64 (nearZ a0 1 4), .int .i64 (nearZ a1 0 2), .int .i64 (nearZ a2 1 3), .int .i64 (nearZ a3 0 2), .int .i64 (nearZ a4 1 6), .int .i64 (nearZ a5 1 6), .int .i64 (nearZ a6 1 4), .int .i64 (nearZ a7 1 6), .int .i64 (nearZ a8 0 400)]) (by simp [results, Tryz.results133, go_sem, y0, y1, y2, y3, y4, y5, y6, y7, y8]) rfl ⟨rfl, ?_⟩
  exact (((((((((BA'.setCell (Nat.le_succ _) _).setCell (Nat.le_succ _) _).setCell (Nat.le_succ _) _).setCell (Nat.le_succ _) _).setCell (Nat.le_succ _) _).setCell (Nat.le_succ _) _).setCell (Nat.le_succ _) _).setCell (Nat.le_succ _) _).setCell (Nat.le_succ _) _)

end Go.Proofs.YtbmfndjglndnlaaGreat

namespace Go.Proofs.YtbmfndjglndnlaaGreat
open Go.RowKit F256
set_option linter.unusedVariables false
set_option linter.unusedSimpArgs false

theorem shape_eq_yes (a0 a1 a2 a3 a4 a5 a6 a7 a8 : Int) (w : World) : (Op.equalIn 10000 30 (.agg #[.int .i64 a0, .int .i64 a1, .int .i64 a2, .int .i64 a3, .int .i64 a4, .int .i64 a5, .int .i64 a6, .int .i64 a7, .int .i64 a8]) (.agg #[.int .i64 a0, .int .i64 a1, .int .i64 a2, .int .i64 a3, .int .i64 a4, .int .i64 a5, .int .i64 a6, .int .i64 a7, .int .i64 a8])).run Tryz.prog w = .ok true w := by
  have u3 := Tryz.underlying2
  rw [show (10000 : Nat) = 9999 + 1 from rfl, run_equalIn_agg w 9999 30 _ _ (by kernel_rfl) (by kernel_rfl)]
  simp only [Program.fieldsOf, Tryz.underlying30]
  go_simp
theorem shape_eq_no (a0 a1 a2 a3 a4 a5 a6 a7 a8 b0 b1 b2 b3 b4 b5 b6 b7 b8 : Int) (h : ¬ (a0 = b0 ∧ a1 = b1 ∧ a2 = b2 ∧ a3 = b3 ∧ a4 = b4 ∧ a5 = b5 ∧ a6 = b6 ∧ a7 = b7 ∧ a8 = b8)) (w : World) : (Op.equalIn 10000 30 (.agg #[.int .i64 a0, .int .i64 a1, .int .i64 a2, .int .i64 a3, .int .i64 a4, .int .i64 a5, .int .i64 a6, .int .i64 a7, .int .i64 a8]) (.agg #[.int .i64 b0, .int .i64 b1, .int .i64 b2, .int .i64 b3, .int .i64 b4, .int .i64 b5, .int .i64 b6, .int .i64 b7, .int .i64 b8])).run Tryz.prog w = .ok false w := by
  have u3 := Tryz.underlying2
  rw [show (10000 : Nat) = 9999 + 1 from rfl, run_equalIn_agg w 9999 30 _ _ (by kernel_rfl) (by kernel_rfl)]
  simp only [Program.fieldsOf, Tryz.underlying30]
  have H : Hid (¬ (a0 = b0 ∧ a1 = b1 ∧ a2 = b2 ∧ a3 = b3 ∧ a4 = b4 ∧ a5 = b5 ∧ a6 = b6 ∧ a7 = b7 ∧ a8 = b8)) := h
  clear h
  go_simp
  exact fun h0 h1 h2 h3 h4 h5 h6 h7 h8 => H.out ⟨h0, h1, h2, h3, h4, h5, h6, h7, h8⟩
theorem ok_near (s : Nat → Int) : OkShape s ↔ s 0 = nearZ (s 0) 1 4 ∧ s 1 = nearZ (s 1) 0 2 ∧ s 2 = nearZ (s 2) 1 3 ∧ s 3 = nearZ (s 3) 0 2 ∧ s 4 = nearZ (s 4) 1 6 ∧ s 5 = nearZ (s 5) 1 6 ∧ s 6 = nearZ (s 6) 1 4 ∧ s 7 = nearZ (s 7) 1 6 ∧ s 8 = nearZ (s 8) 0 400 := by
  unfold OkShape Shp3 Shp
  rw [nearZ_iff (s 0) 1 4 (by omega), nearZ_iff (s 1) 0 2 (by omega), nearZ_iff (s 2) 1 3 (by omega), nearZ_iff (s 3) 0 2 (by omega), nearZ_iff (s 4) 1 6 (by omega), nearZ_iff (s 5) 1 6 (by omega), nearZ_iff (s 6) 1 4 (by omega), nearZ_iff (s 7) 1 6 (by omega), nearZ_iff (s 8) 0 400 (by omega)]
  omega

set_option maxHeartbeats 4000000 in
theorem implShape_any (s : Nat → Int) (w : World) :
    Calls Tryz.prog 103 #[shapeV s] w fun e w' => ∃ x, e = .returned (.int .i64 x) ∧ ShFAns s x ∧ Below w.heap.size w w' := by
  have HK : Hid (OkShape s ↔ s 0 = nearZ (s 0) 1 4 ∧ s 1 = nearZ (s 1) 0 2 ∧ s 2 = nearZ (s 2) 1 3 ∧ s 3 = nearZ (s 3) 0 2 ∧ s 4 = nearZ (s 4) 1 6 ∧ s 5 = nearZ (s 5) 1 6 ∧ s 6 = nearZ (s 6) 1 4 ∧ s 7 = nearZ (s 7) 1 6 ∧ s 8 = nearZ (s 8) 0 400) := ok_near s
  unfold shapeV
  obtain ⟨a0, h0⟩ : ∃ a, a = s 0 := ⟨_, rfl⟩
  obtain ⟨a1, h1⟩ : ∃ a, a = s 1 := ⟨_, rfl⟩
  obtain ⟨a2, h2⟩ : ∃ a, a = s 2 := ⟨_, rfl⟩
  obtain ⟨a3, h3⟩ : ∃ a, a = s 3 := ⟨_, rfl⟩
  obtain ⟨a4, h4⟩ : ∃ a, a = s 4 := ⟨_, rfl⟩
  obtain ⟨a5, h5⟩ : ∃ a, a = s 5 := ⟨_, rfl⟩
  obtain ⟨a6, h6⟩ : ∃ a, a = s 6 := ⟨_, rfl⟩
  obtain ⟨a7, h7⟩ : ∃ a, a = s 7 := ⟨_, rfl⟩
  obtain ⟨a8, h8⟩ : ∃ a, a = s 8 := ⟨_, rfl⟩
  rw [← h0, ← h1, ← h2, ← h3, ← h4, ← h5, ← h6, ← h7, ← h8]
  have HK2 : Hid (OkShape s ↔ a0 = nearZ a0 1 4 ∧ a1 = nearZ a1 0 2 ∧ a2 = nearZ a2 1 3 ∧ a3 = nearZ a3 0 2 ∧ a4 = nearZ a4 1 6 ∧ a5 = nearZ a5 1 6 ∧ a6 = nearZ a6 1 4 ∧ a7 = nearZ a7 1 6 ∧ a8 = nearZ a8 0 400) := by
    show OkShape s ↔ _
    rw [h0, h1, h2, h3, h4, h5, h6, h7, h8]
    exact HK.out
  clear HK h0 h1 h2 h3 h4 h5 h6 h7 h8
  have CN := nearestShape_any a0 a1 a2 a3 a4 a5 a6 a7 a8
  have XA := box_new w #[.int .i64 a0, .int .i64 a1, .int .i64 a2, .int .i64 a3, .int .i64 a4, .int .i64 a5, .int .i64 a6, .int .i64 a7, .int .i64 a8] 30
  obtain ⟨x0, x1, x2, x3, x4, x5, x6, x7, x8⟩ := box9 XA
  have HX : Hid (Box (w.alloc (.cells #[.int .i64 a0, .int .i64 a1, .int .i64 a2, .int .i64 a3, .int .i64 a4, .int .i64 a5, .int .i64 a6, .int .i64 a7, .int .i64 a8] 30)) w.heap.size #[.int .i64 a0, .int .i64 a1, .int .i64 a2, .int .i64 a3, .int .i64 a4, .int .i64 a5, .int .i64 a6, .int .i64 a7, .int .i64 a8] 30) := XA
  have HB : Hid (Below w.heap.size w (w.alloc (.cells #[.int .i64 a0, .int .i64 a1, .int .i64 a2, .int .i64 a3, .int .i64 a4, .int .i64 a5, .int .i64 a6, .int .i64 a7, .int .i64 a8] 30))) := bnew (Below.refl _ _)
  obtain ⟨wA, hwA⟩ : ∃ x, x = w.alloc (.cells #[.int .i64 a0, .int .i64 a1, .int .i64 a2, .int .i64 a3, .int .i64 a4, .int .i64 a5, .int .i64 a6, .int .i64 a7, .int .i64 a8] 30) := ⟨_, rfl⟩
  rw [← hwA] at x0 x1 x2 x3 x4 x5 x6 x7 x8 HX HB
  clear XA
  by_cases ok : OkShape s
  · have HO : Hid (OkShape s) := ok
    obtain ⟨e0, e1, e2, e3, e4, e5, e6, e7, e8⟩ := HK2.out.mp ok
    rw [← e0, ← e1, ← e2, ← e3, ← e4, ← e5, ← e6, ← e7, ← e8] at CN
    have heq := shape_eq_yes a0 a1 a2 a3 a4 a5 a6 a7 a8
    clear e0 e1 e2 e3 e4 e5 e6 e7 e8 ok
    go_enter Tryz.func103, Tryz.ntmps103
    go_wp2_with fail
    rw [← hwA]
    clear hwA
    go_region_with (go_at_call 133; refine (CN _).mono ?_; rintro ee w2 ⟨rfl, hb2⟩; have hB2 : Below wA.heap.size wA w2 := ⟨hb2.os, hb2.tape, hb2.output, hb2.size, hb2.block⟩; obtain ⟨y0, y1, y2, y3, y4, y5, y6, y7, y8⟩ := box9 (HX.out.below hB2 HX.out.lt))
    all_goals
      go_wp2
      go_ret
      exact ⟨0, rfl, .inr ⟨rfl, HO.out⟩, HB.out.trans (hB2.mono HB.out.size)⟩
  · have HO : Hid (¬ OkShape s) := ok
    have hno : ¬ (a0 = nearZ a0 1 4 ∧ a1 = nearZ a1 0 2 ∧ a2 = nearZ a2 1 3 ∧ a3 = nearZ a3 0 2 ∧ a4 = nearZ a4 1 6 ∧ a5 = nearZ a5 1 6 ∧ a6 = nearZ a6 1 4 ∧ a7 = nearZ a7 1 6 ∧ a8 = nearZ a8 0 400) := fun h => ok (HK2.out.mpr h)
    have heq := shape_eq_no a0 a1 a2 a3 a4 a5 a6 a7 a8 (nearZ a0 1 4) (nearZ a1 0 2) (nearZ a2 1 3) (nearZ a3 0 2) (nearZ a4 1 6) (nearZ a5 1 6) (nearZ a6 1 4) (nearZ a7 1 6) (nearZ a8 0 400) hno
    clear hno ok
    go_enter Tryz.func103, Tryz.ntmps103
    go_wp2_with fail
    rw [← hwA]
    clear hwA
    go_region_with (go_at_call 133; refine (CN _).mono ?_; rintro ee w2 ⟨rfl, hb2⟩; have hB2 : Below wA.heap.size wA w2 := ⟨hb2.os, hb2.tape, hb2.output, hb2.size, hb2.block⟩; obtain ⟨y0, y1, y2, y3, y4, y5, y6, y7, y8⟩ := box9 (HX.out.below hB2 HX.out.lt))
    all_goals
      go_wp2
      go_ret
      exact ⟨3, rfl, .inl ⟨rfl, HO.out⟩, HB.out.trans (hB2.mono HB.out.size)⟩
end Go.Proofs.YtbmfndjglndnlaaGreat

namespace Go.Proofs.YtbmfndjglndnlaaGreat
open Go.RowKit F256
set_option linter.unusedVariables false
set_option linter.unusedSimpArgs false

set_option maxHeartbeats 4000000 in
theorem rowLength_any (s : Nat → Int) (h1 : 1 ≤ s 2) (h2 : s 2 ≤ 1000) (w : World) :
    Calls Tryz.prog 165 #[shapeV s] w fun e w' => e = .returned (.int .i64 (s 2 * 4)) ∧ Below w.heap.size w w' := by
  unfold shapeV
  obtain ⟨a2, h0⟩ : ∃ a, a = s 2 := ⟨_, rfl⟩
  rw [← h0] at h1 h2 ⊢
  clear h0
  have B0 : Below w.heap.size w (w.alloc (.cells #[.int .i64 (s 0), .int .i64 (s 1), .int .i64 a2, .int .i64 (s 3), .int .i64 (s 4), .int .i64 (s 5), .int .i64 (s 6), .int .i64 (s 7), .int .i64 (s 8)] 30)) := bnew (Below.refl _ _)
  go_enter Tryz.func165, Tryz.ntmps165
  go_wp2
  go_ret
  exact ⟨rfl, B0⟩

set_option maxHeartbeats 4000000 in
theorem implParts_any (s : Nat → Int) (l : Int) (w : World) :
    Calls Tryz.prog 164 #[shapeV s, .int .i64 l] w fun e w' => ∃ x c, e = .returned (intR c x) ∧ PfAns s l x c ∧ Below w.heap.size w w' := by
  unfold shapeV
  go_enter Tryz.func164, Tryz.ntmps164
  go_wp2_with fail
  refine (implShape_any s _).mono ?_
  rintro e w1 ⟨x, rfl, hx, B1'⟩
  obtain ⟨X1, X2, B1, z1⟩ := two_new B1'
  obtain ⟨x0, x1, x2, x3, x4, x5, x6, x7, x8⟩ := box9 X1
  obtain ⟨y0, y1, y2, y3⟩ := res_cells X2
  have HX : Hid (Box w1 (w.heap.size + 1) #[.int .i64 0, .int .i64 0] 163) := X2
  have HX1 : Hid (Box w1 w.heap.size #[.int .i64 (s 0), .int .i64 (s 1), .int .i64 (s 2), .int .i64 (s 3), .int .i64 (s 4), .int .i64 (s 5), .int .i64 (s 6), .int .i64 (s 7), .int .i64 (s 8)] 30) := X1
  clear B1' X1 X2
  rcases hx with ⟨rfl, hx⟩ | ⟨rfl, hx⟩
  · have HN : Hid (¬ OkShape s) := hx
    clear hx
    go_wp2
    exact bodyPost_ret (v := intR 3 0) (by simp [results, Tryz.results164, go_sem, intR, y0, y1]) rfl ⟨0, 3, rfl, .inl ⟨HN.out, rfl, rfl⟩, (B1.setCell (Nat.le_succ _) _).setCell (Nat.le_succ _) _⟩
  · have HO : Hid (OkShape s) := hx
    have HD : Hid (1 ≤ s 2 ∧ s 2 ≤ 1000) := by show 1 ≤ s 2 ∧ s 2 ≤ 1000; have := hx.2.1; unfold Shp at this; omega
    clear hx
    have CL := rowLength_any s HD.out.1 HD.out.2
    unfold shapeV at CL
    have HM : Hid (∀ m, m = (l + s 2 * 4 - 1) / (s 2 * 4) → 1 ≤ l → l ≤ 3 * (s 2 * 4) → PfAns s l m 0) := fun m hm h1 h2 => .inr (.inr (.inr ⟨HO.out, h1, h2, rfl, hm⟩))
    have HM2 : Hid (1 ≤ l → 3 * (s 2 * 4) < l → PfAns s l 0 2) := fun h1 h2 => .inr (.inr (.inl ⟨HO.out, h1, h2, rfl, rfl⟩))
    obtain ⟨S, hS⟩ : ∃ S, S = s 2 * 4 := ⟨_, rfl⟩
    rw [← hS] at CL HM HM2
    have q1 : 4 ≤ S := by have := HD.out.1; omega
    have q2 : S ≤ 4000 := by have := HD.out.2; omega
    clear hS
    by_cases c1 : l < 1
    · go_wp2
      exact bodyPost_ret (v := intR 6 0) (by simp [results, Tryz.results164, go_sem, intR, y0, y1]) rfl ⟨0, 6, rfl, .inr (.inl ⟨HO.out, c1, rfl, rfl⟩), (B1.setCell (Nat.le_succ _) _).setCell (Nat.le_succ _) _⟩
    · go_wp2_with fail
      refine (CL _).mono ?_
      rintro e w2 ⟨rfl, B2⟩
      have z2 := B2.size
      have B12 : Below w.heap.size w w2 := B1.trans (B2.mono B1.size)
      have HX2 : Hid (Box w2 (w.heap.size + 1) #[.int .i64 0, .int .i64 0] 163) := HX.out.below B2 z1
      have HY2 : Hid (Box w2 w.heap.size #[.int .i64 (s 0), .int .i64 (s 1), .int .i64 (s 2), .int .i64 (s 3), .int .i64 (s 4), .int .i64 (s 5), .int .i64 (s 6), .int .i64 (s 7), .int .i64 (s 8)] 30) := HX1.out.below B2 (by omega)
      clear x0 x1 x2 x3 x4 x5 x6 x7 x8 y0 y1 y2 y3 B2 HX HX1
      obtain ⟨y0, y1, y2, y3⟩ := res_cells HX2.out
      obtain ⟨x0, x1, x2, x3, x4, x5, x6, x7, x8⟩ := box9 HY2.out
      by_cases c2 : 3 * S < l
      · have t2 : decide (3 * S < l) = true := by simp; omega
        go_wp2
        exact bodyPost_ret (v := intR 2 0) (by simp [results, Tryz.results164, go_sem, intR, y0, y1]) rfl ⟨0, 2, rfl, HM2.out (by omega) c2, (B12.setCell (Nat.le_succ _) _).setCell (Nat.le_succ _) _⟩
      · have t2 : decide (3 * S < l) = false := by simp; omega
        have q3 : 0 ≤ l + S - 1 := by omega
        go_wp2_with fail
        have K0 : Hid (Below w2.heap.size w2 w2) := Below.refl _ _
        go_region_with (go_at_call 165; refine (CL _).mono ?_; rintro ee w3 ⟨rfl, hb3⟩; (first | (have hB2 : Below w2.heap.size w2 w3 := hB.trans ((⟨hb3.os, hb3.tape, hb3.output, hb3.size, hb3.block⟩ : Below _ _ _).mono hB.size); clear hb3; obtain ⟨v0, v1, v2, v3⟩ := res_cells (HX2.out.below hB2 (by omega)); obtain ⟨u0, u1, u2, u3, u4, u5, u6, u7, u8⟩ := box9 (HY2.out.below hB2 (by omega))) | (have hB : Below w2.heap.size w2 w3 := ⟨hb3.os, hb3.tape, hb3.output, hb3.size, hb3.block⟩; clear hb3; obtain ⟨u0, u1, u2, u3, u4, u5, u6, u7, u8⟩ := box9 (HY2.out.below hB (by omega)))))
        all_goals
          have B4 : Below w.heap.size w w3 := B12.trans (hB2.mono B12.size)
          go_wp2
          exact bodyPost_ret (v := intR 0 ((l + S - 1) / S)) (by simp [results, Tryz.results164, go_sem, intR, v0, v1]) rfl ⟨(l + S - 1) / S, 0, rfl, HM.out _ rfl (by omega) (by omega), (B4.setCell (Nat.le_succ _) _).setCell (Nat.le_succ _) _⟩
end Go.Proofs.YtbmfndjglndnlaaGreat

namespace Go.Proofs.YtbmfndjglndnlaaGreat
open Go.RowKit F256
set_option linter.unusedVariables false
set_option linter.unusedSimpArgs false

theorem inBounds_b {x a b : Int} {t : Bool} (hab : a ≤ b) (ht : t = true ↔ InP x a b) (w : World) :
    Calls Tryz.prog 77 #[.int .i64 x, .int .i64 a, .int .i64 b] w fun e w' => e = .returned (.bool t) ∧ w' = w := by
  by_cases h1 : a ≤ x
  · by_cases h2 : x ≤ b
    · obtain rfl : t = true := ht.2 ⟨h1, h2⟩
      clear ht hab
      go_enter Tryz.func77, Tryz.ntmps77
      go_wp2
      go_ret
      exact ⟨rfl, rfl⟩
    · obtain rfl : t = false := by
        cases t with
        | false => rfl
        | true => exact absurd (ht.1 rfl).2 h2
      clear ht hab
      have hd : decide (x ≤ b) = false := decide_eq_false h2
      go_enter Tryz.func77, Tryz.ntmps77
      go_wp2
      go_ret
      exact ⟨rfl, rfl⟩
  · obtain rfl : t = false := by
      cases t with
      | false => rfl
      | true => exact absurd (ht.1 rfl).1 h1
    clear ht hab
    have hd : decide (a ≤ x) = false := decide_eq_false h1
    go_enter Tryz.func77, Tryz.ntmps77
    go_wp2
    go_ret
    exact ⟨rfl, rfl⟩
theorem groupCount_any (s : Nat → Int) (h : OkShape s) (w : World) :
    Calls Tryz.prog 78 #[shapeV s] w fun e w' => e = .returned (.int .i64 (s 0 + s 1)) ∧ Below w.heap.size w w' := by
  obtain ⟨h1, h2, _⟩ := h
  unfold Shp3 at h1
  have B0 := (one_new w #[.int .i64 (s 0), .int .i64 (s 1), .int .i64 (s 2), .int .i64 (s 3), .int .i64 (s 4), .int .i64 (s 5), .int .i64 (s 6), .int .i64 (s 7), .int .i64 (s 8)] 30).bel
  unfold shapeV
  have hw : -9223372036854775808 ≤ s 0 + s 1 ∧ s 0 + s 1 ≤ 9223372036854775807 := by omega
  go_enter Tryz.func78, Tryz.ntmps78
  go_wp2
  go_ret
  exact ⟨rfl, B0⟩
theorem driveCount_any (s : Nat → Int) (h : OkShape s) (w : World) :
    Calls Tryz.prog 93 #[shapeV s] w fun e w' => e = .returned (.int .i64 (s 2 + s 3)) ∧ Below w.heap.size w w' := by
  obtain ⟨h1, h2, _⟩ := h
  unfold Shp at h2
  have B0 := (one_new w #[.int .i64 (s 0), .int .i64 (s 1), .int .i64 (s 2), .int .i64 (s 3), .int .i64 (s 4), .int .i64 (s 5), .int .i64 (s 6), .int .i64 (s 7), .int .i64 (s 8)] 30).bel
  unfold shapeV
  have hw : -9223372036854775808 ≤ s 2 + s 3 ∧ s 2 + s 3 ≤ 9223372036854775807 := by omega
  go_enter Tryz.func93, Tryz.ntmps93
  go_wp2
  go_ret
  exact ⟨rfl, B0⟩
theorem okB {s : Nat → Int} (h : OkShape s) : 1 ≤ s 0 ∧ s 0 ≤ 4 ∧ 0 ≤ s 1 ∧ s 1 ≤ 2 ∧ 1 ≤ s 2 ∧ s 2 ≤ 3 ∧ 0 ≤ s 3 ∧ s 3 ≤ 2 ∧ 1 ≤ s 4 ∧ s 4 ≤ 6 ∧ 1 ≤ s 5 ∧ s 5 ≤ 6 := by
  obtain ⟨h1, h2, h3, h4, _⟩ := h
  unfold Shp3 at h1
  unfold Shp at h2
  omega
theorem isGroup_b {s : Nat → Int} (h : OkShape s) {x : Int} {t : Bool} (ht : t = true ↔ InP x 0 (s 0 + s 1 - 1)) (w : World) :
    Calls Tryz.prog 44 #[shapeV s, .int .i64 x] w fun e w' => e = .returned (.bool t) ∧ Below w.heap.size w w' := by
  have hb := okB h
  have C := groupCount_any s h
  have CB := fun w' => inBounds_b (w := w') (show 0 ≤ s 0 + s 1 - 1 by omega) ht
  have T0 := one_new w #[.int .i64 (s 0), .int .i64 (s 1), .int .i64 (s 2), .int .i64 (s 3), .int .i64 (s 4), .int .i64 (s 5), .int .i64 (s 6), .int .i64 (s 7), .int .i64 (s 8)] 30
  unfold shapeV at C ⊢
  clear ht h
  go_enter Tryz.func44, Tryz.ntmps44
  go_wp2_with fail
  refine (C _).mono ?_
  rintro e w1 ⟨rfl, b1⟩
  have HB : Hid (Below w.heap.size w w1) := (T0.call b1).bel
  clear b1 T0 C
  go_wp2_with fail
  refine (CB _).mono ?_
  rintro e w2 ⟨rfl, hw2⟩
  obtain rfl := hw2.symm
  go_wp2
  go_ret
  exact ⟨rfl, HB.out⟩
theorem isDataGroup_b {s : Nat → Int} (h : OkShape s) {x : Int} {t : Bool} (ht : t = true ↔ InP x 0 (s 0 - 1)) (w : World) :
    Calls Tryz.prog 161 #[shapeV s, .int .i64 x] w fun e w' => e = .returned (.bool t) ∧ Below w.heap.size w w' := by
  have hb := okB h
  have CB := fun w' => inBounds_b (w := w') (show 0 ≤ s 0 - 1 by omega) ht
  have HB : Hid (Below w.heap.size w (w.alloc (.cells #[.int .i64 (s 0), .int .i64 (s 1), .int .i64 (s 2), .int .i64 (s 3), .int .i64 (s 4), .int .i64 (s 5), .int .i64 (s 6), .int .i64 (s 7), .int .i64 (s 8)] 30))) := (one_new w #[.int .i64 (s 0), .int .i64 (s 1), .int .i64 (s 2), .int .i64 (s 3), .int .i64 (s 4), .int .i64 (s 5), .int .i64 (s 6), .int .i64 (s 7), .int .i64 (s 8)] 30).bel
  unfold shapeV
  clear ht h
  go_enter Tryz.func161, Tryz.ntmps161
  go_wp2_with fail
  refine (CB _).mono ?_
  rintro e w2 ⟨rfl, hw2⟩
  obtain rfl := hw2.symm
  go_wp2
  go_ret
  exact ⟨rfl, HB.out⟩
theorem isRow_b {s : Nat → Int} (h : OkShape s) {x : Int} {t : Bool} (ht : t = true ↔ InP x 0 (s 4 - 1)) (w : World) :
    Calls Tryz.prog 61 #[shapeV s, .int .i64 x] w fun e w' => e = .returned (.bool t) ∧ Below w.heap.size w w' := by
  have hb := okB h
  have CB := fun w' => inBounds_b (w := w') (show 0 ≤ s 4 - 1 by omega) ht
  have HB : Hid (Below w.heap.size w (w.alloc (.cells #[.int .i64 (s 0), .int .i64 (s 1), .int .i64 (s 2), .int .i64 (s 3), .int .i64 (s 4), .int .i64 (s 5), .int .i64 (s 6), .int .i64 (s 7), .int .i64 (s 8)] 30))) := (one_new w #[.int .i64 (s 0), .int .i64 (s 1), .int .i64 (s 2), .int .i64 (s 3), .int .i64 (s 4), .int .i64 (s 5), .int .i64 (s 6), .int .i64 (s 7), .int .i64 (s 8)] 30).bel
  unfold shapeV
  clear ht h
  go_enter Tryz.func61, Tryz.ntmps61
  go_wp2_with fail
  refine (CB _).mono ?_
  rintro e w2 ⟨rfl, hw2⟩
  obtain rfl := hw2.symm
  go_wp2
  go_ret
  exact ⟨rfl, HB.out⟩
theorem rowLong_b {s : Nat → Int} (h : OkShape s) {ao : Option Addr} {n cap : Nat} (hn : n ≤ 9223372036854775807) {t : Bool} (ht : ((n : Int) == s 2 * 4) = t) (w : World) :
    Calls Tryz.prog 162 #[shapeV s, .slice ao n cap] w fun e w' => e = .returned (.bool t) ∧ Below w.heap.size w w' := by
  have hb := okB h
  have C := fun w' => rowLength_any s (by omega) (by omega) w'
  have T0 := one_new w #[.int .i64 (s 0), .int .i64 (s 1), .int .i64 (s 2), .int .i64 (s 3), .int .i64 (s 4), .int .i64 (s 5), .int .i64 (s 6), .int .i64 (s 7), .int .i64 (s 8)] 30
  unfold shapeV at C ⊢
  clear h
  go_enter Tryz.func162, Tryz.ntmps162
  go_wp2_with fail
  refine (C _).mono ?_
  rintro e w1 ⟨rfl, b1⟩
  have HB : Hid (Below w.heap.size w w1) := (T0.call b1).bel
  clear b1 T0 C
  go_wp2
  go_ret
  exact ⟨by simp [ht], HB.out⟩
set_option maxHeartbeats 4000000 in
theorem differWithin_any (v : Value) (n : Nat) (g : Nat → Int) (hi : Nat) (bound : Int) (hb1 : 1 ≤ bound) (hb2 : bound ≤ 1000000) (w : World) (r : RdI w hi v n g) (hcp : CapP v n) (hhi : hi ≤ w.heap.size) :
    Calls Tryz.prog 135 #[v, .int .i64 bound] w (BoolP (ApartP n g (bound - 1)) w) := by
  have HR : Hid (RdI w hi v n g) := r
  obtain ⟨ao, cap, rfl, hm, hc⟩ := r
  obtain ⟨_, _, e, hcp⟩ := hcp
  cases e
  unfold maxLen at hm
  go_enter Tryz.func135, Tryz.ntmps135
  go_wp2
  go_loopw [9] (fun i wr => ∃ k : Nat, k ≤ n ∧ i = .int .i64 k ∧ ApartP k g (bound - 1) ∧ Below w.heap.size w wr) (fun i _ => n - (intOf i).toNat)
  case atStart => exact ⟨0, Nat.zero_le _, rfl, fun i hi => by omega, Below.refl _ _⟩
  case round =>
    obtain ⟨k, hk, rfl, hall, hb⟩ := hrel
    have HALL : Hid (ApartP k g (bound - 1)) := hall
    clear hall
    by_cases hlt : k < n
    · obtain ⟨b, off, rfl, hblt, hcell⟩ := hc (by omega)
      have hck : wr.cell? ⟨b, off + k, none⟩ = some (.int .i64 (g k)) := (hb.cell (p := ⟨b, off + k, none⟩) (by show b < w.heap.size; omega)).trans (hcell k hlt)
      have kcp : k ≤ cap := by omega
      obtain ⟨t1, h1⟩ := exB (InP (g k) 0 (bound - 1))
      obtain ⟨t2, h2⟩ := exB (∃ t, t < k ∧ g t = g k)
      have C1 := fun w' => inBounds_b (w := w') (show 0 ≤ bound - 1 by omega) h1
      have C2 := det_b (contains_any (.slice (some ⟨b, off, none⟩) k cap) k g hi (g k) wr ((HR.out.part hk (by omega)).below hb hhi)) h2
      have H1 : Hid (t1 = true ↔ InP (g k) 0 (bound - 1)) := h1
      have H2 : Hid (t2 = true ↔ ∃ t, t < k ∧ g t = g k) := h2
      obtain ⟨y, hy⟩ : ∃ y, y = g k := ⟨_, rfl⟩
      have HY : Hid (y = g k) := hy
      rw [← hy] at hck C1 C2
      have HB : Hid (Below w.heap.size w wr) := hb
      clear hc hcell h1 h2 hy hb
      go_wp2_with fail
      refine (C1 _).mono ?_
      rintro e w' ⟨rfl, hw'⟩
      obtain rfl := hw'.symm
      clear C1
      cases t1 with
      | false =>
        go_wp2
        go_ret
        exact boolNo rfl (fun h => by
          have := H1.out.2 (h k hlt).1
          simp at this) HB.out
      | true =>
        go_wp2_with fail
        refine C2.mono ?_
        rintro e w2 ⟨rfl, b2⟩
        have HB2 : Hid (Below w.heap.size w w2) := HB.out.trans (b2.mono HB.out.size)
        clear b2 C2
        cases t2 with
        | true =>
          go_wp2
          go_ret
          exact boolNo rfl (fun h => by
            obtain ⟨t, ht, e⟩ := H2.out.1 (by simp)
            exact (h k hlt).2 t ht e) HB2.out
        | false =>
          go_wp2
          go_roundw
          case rel => exact ⟨k + 1, by omega, by go_num, fun i hi => by
                        by_cases c : i = k
                        · subst c
                          exact ⟨H1.out.1 (by simp), fun t ht e => by
                            have := H2.out.2 ⟨t, ht, e⟩
                            simp at this⟩
                        · exact HALL.out i (by omega), HB2.out⟩
          case measure => simp [intOf]; omega
    · obtain rfl : k = n := by omega
      go_wp2
      go_ret
      exact boolYes rfl HALL.out hb
end Go.Proofs.YtbmfndjglndnlaaGreat

namespace Go.Proofs.YtbmfndjglndnlaaGreat
open Go.RowKit F256
set_option linter.unusedVariables false
set_option linter.unusedSimpArgs false

set_option maxHeartbeats 2000000 in
theorem blockFits_any (b : BlockD) (ao : Option Addr) (cap : Nat) (w : World) :
    Calls Tryz.prog 149 #[.agg #[.int .i64 b.stamp, .slice ao b.bytes.1 cap]] w (BoolP (BlockP b) w) := by
  obtain ⟨t1, h1⟩ := exB (InP b.stamp 0 1000000000)
  obtain ⟨b2, h2⟩ : ∃ x, ((b.bytes.1 : Int) == 4) = x := ⟨_, rfl⟩
  have HE : Hid (BlockP b ↔ (t1 = true ∧ b2 = true)) := by
    show BlockP b ↔ _
    rw [h1, ← h2]
    unfold BlockP
    simp
    intro _
    omega
  have C1 := fun w' => inBounds_b (w := w') (show (0 : Int) ≤ 1000000000 by omega) h1
  have HB : Hid (Below w.heap.size w (w.alloc (.cells #[.int .i64 b.stamp, .slice ao b.bytes.1 cap] 46))) := (Below.refl _ _).alloc (Nat.le_refl _) _
  clear h1
  go_enter Tryz.func149, Tryz.ntmps149
  go_wp2_with fail
  refine (C1 _).mono ?_
  rintro e w' ⟨rfl, hw'⟩
  obtain rfl := hw'.symm
  clear C1
  cases t1 with
  | false =>
    go_wp2
    go_ret
    exact boolNo rfl (fun h => by have := HE.out.1 h; simp at this) HB.out
  | true =>
    cases b2 with
    | false =>
      go_wp2
      go_ret
      exact boolNo rfl (fun h => by have := HE.out.1 h; simp at this) HB.out
    | true =>
      go_wp2
      go_ret
      exact boolYes rfl (HE.out.2 (by simp)) HB.out
set_option maxHeartbeats 4000000 in
theorem blocksFit_any (s : Nat → Int) (hs : OkShape s) (p : Nat × (Nat → BlockD)) (t : TypeId) (v : Value) (hi : Nat) (w : World) (h : (layBlock.slice t).rd w hi p [v]) (hhi : hi ≤ w.heap.size) :
    Calls Tryz.prog 134 #[shapeV s, v] w (BoolP (BlocksP s p) w) := by
  obtain ⟨ao, cap, e, hm, hc⟩ := h
  cases e
  unfold maxLen at hm
  have HC : Hid (p.1 ≠ 0 → ∃ b off, ao = some ⟨b, off, none⟩ ∧ b < hi ∧ ∀ i, i < p.1 → ∃ ce, layBlock.rd w hi (p.2 i) ce ∧ ∀ j, j < layBlock.sz → w.cell? ⟨b, off + (i * layBlock.sz + j), none⟩ = ce[j]?) := hc
  have HT0 : Hid (One w (w.alloc (.cells #[.int .i64 (s 0), .int .i64 (s 1), .int .i64 (s 2), .int .i64 (s 3), .int .i64 (s 4), .int .i64 (s 5), .int .i64 (s 6), .int .i64 (s 7), .int .i64 (s 8)] 30)) #[.int .i64 (s 0), .int .i64 (s 1), .int .i64 (s 2), .int .i64 (s 3), .int .i64 (s 4), .int .i64 (s 5), .int .i64 (s 6), .int .i64 (s 7), .int .i64 (s 8)] 30) := one_new w #[.int .i64 (s 0), .int .i64 (s 1), .int .i64 (s 2), .int .i64 (s 3), .int .i64 (s 4), .int .i64 (s 5), .int .i64 (s 6), .int .i64 (s 7), .int .i64 (s 8)] 30
  clear hc
  unfold shapeV
  go_enter Tryz.func134, Tryz.ntmps134
  by_cases hl : (p.1 : Int) = s 4
  · have hne : ((p.1 : Int) != s 4) = false := by simpa using hl
    have HL : Hid ((p.1 : Int) = s 4) := hl
    clear hl
    go_wp2
    go_loopw [14] (fun i wr => ∃ k : Nat, k ≤ p.1 ∧ i = .int .i64 k ∧ (∀ i, i < k → BlockP (p.2 i)) ∧ Below w.heap.size w wr) (fun i _ => p.1 - (intOf i).toNat)
    case atStart => exact ⟨0, Nat.zero_le _, rfl, fun i hi => by omega, HT0.out.bel⟩
    case round =>
      obtain ⟨k, hk, rfl, hal, hb⟩ := hrel
      have HAL : Hid (∀ i, i < k → BlockP (p.2 i)) := hal
      have HB : Hid (Below w.heap.size w wr) := hb
      clear hal
      by_cases hlt : k < p.1
      · obtain ⟨b, off, he, hbl, hel⟩ := HC.out (by omega)
        subst he
        obtain ⟨ck, hrk, hcell⟩ := elem_rd (t := 0) hel hb hhi hbl hlt
        obtain ⟨ao1, cap1, rfl, -⟩ := Block_rd hrk
        have c0 : wr.cell? ⟨b, off + k * 2, none⟩ = some (.int .i64 (p.2 k).stamp) := hcell 0 (by decide)
        have c1 : wr.cell? ⟨b, off + k * 2 + 1, none⟩ = some (.slice ao1 (p.2 k).bytes.1 cap1) := hcell 1 (by decide)
        have C := fun w' => blockFits_any (p.2 k) ao1 cap1 w'
        clear hel hcell hrk hb
        go_wp2_with fail
        refine (C _).mono ?_
        rintro e w2 ⟨t2, rfl, ht2, b2⟩
        have HB2 : Hid (Below w.heap.size w w2) := HB.out.trans ((bnew b2).mono HB.out.size)
        have HT2 : Hid (t2 = true ↔ BlockP (p.2 k)) := ht2
        clear C b2 ht2
        cases t2 with
        | false =>
          go_wp2
          go_ret
          exact boolNo rfl (fun h => by have := HT2.out.2 (h.2 k hlt); simp at this) HB2.out
        | true =>
          go_wp2
          go_roundw
          case rel => exact ⟨k + 1, by omega, by go_num, fun i hi => by
                        by_cases c : i = k
                        · subst c; exact HT2.out.1 (by simp)
                        · exact HAL.out i (by omega), HB2.out⟩
          case measure => simp [intOf]; omega
      · obtain rfl : k = p.1 := by omega
        go_wp2
        go_ret
        exact boolYes rfl ⟨HL.out, HAL.out⟩ hb
  · have hne : ((p.1 : Int) != s 4) = true := by simpa using hl
    have HN : Hid (¬ (p.1 : Int) = s 4) := hl
    clear hl
    go_wp2
    go_ret
    exact boolNo rfl (fun h => HN.out h.1) HT0.out.bel
theorem overfull_any (wp : Bool) (n : Nat) (hn : n ≤ 9223372036854775807) (ao : Option Addr) (cap : Nat) (w : World) :
    Calls Tryz.prog 107 #[.agg #[.bool wp, .slice ao n cap]] w (BoolP (200 < n) w) := by
  obtain ⟨P, hP⟩ : ∃ P : Prop, P = (200 < n) := ⟨_, rfl⟩
  have HB : Hid (Below w.heap.size w (w.alloc (.cells #[.bool wp, .slice ao n cap] 94))) := (Below.refl _ _).alloc (Nat.le_refl _) _
  have HP : Hid (P = (200 < n)) := hP
  rw [← hP]
  clear hP
  by_cases h : 200 < n
  · have h1 : decide (200 < (n : Int)) = true := by simp; omega
    go_enter Tryz.func107, Tryz.ntmps107
    go_wp2
    go_ret
    exact boolYes (by simp [h1]) (by rw [HP.out]; exact h) HB.out
  · have h1 : decide (200 < (n : Int)) = false := by simp; omega
    go_enter Tryz.func107, Tryz.ntmps107
    go_wp2
    go_ret
    exact boolNo (by simp [h1]) (by rw [HP.out]; exact h) HB.out
theorem wipedRecs_any (wp : Bool) (n : Nat) (hn : n ≤ 9223372036854775807) (ao : Option Addr) (cap : Nat) (w : World) :
    Calls Tryz.prog 109 #[.agg #[.bool wp, .slice ao n cap]] w (BoolP (wp = true ∧ 0 < n) w) := by
  obtain ⟨P, hP⟩ : ∃ P : Prop, P = (wp = true ∧ 0 < n) := ⟨_, rfl⟩
  have HB : Hid (Below w.heap.size w (w.alloc (.cells #[.bool wp, .slice ao n cap] 94))) := (Below.refl _ _).alloc (Nat.le_refl _) _
  have HP : Hid (P = (wp = true ∧ 0 < n)) := hP
  rw [← hP]
  clear hP
  cases wp with
  | false =>
    go_enter Tryz.func109, Tryz.ntmps109
    go_wp2
    go_ret
    exact boolNo rfl (by rw [HP.out]; simp) HB.out
  | true =>
    by_cases h : 0 < n
    · have h1 : decide (0 < (n : Int)) = true := by simp; omega
      go_enter Tryz.func109, Tryz.ntmps109
      go_wp2
      go_ret
      exact boolYes (by simp [h]) (by rw [HP.out]; exact ⟨by simp, h⟩) HB.out
    · have h1 : decide (0 < (n : Int)) = false := by simp; omega
      go_enter Tryz.func109, Tryz.ntmps109
      go_wp2
      go_ret
      exact boolNo (by simp [h]) (by rw [HP.out]; exact fun x => h x.2) HB.out
end Go.Proofs.YtbmfndjglndnlaaGreat

namespace Go.Proofs.YtbmfndjglndnlaaGreat
open Go.RowKit F256
set_option linter.unusedVariables false
set_option linter.unusedSimpArgs false
def Any_overfull (p : Nat × (Nat → TapeD)) : Prop := ∃ t, t < p.1 ∧ 200 < (p.2 t).recs.1
def Any_wipedWithRecs (p : Nat × (Nat → TapeD)) : Prop := ∃ t, t < p.1 ∧ ((p.2 t).wiped = true ∧ 0 < (p.2 t).recs.1)
set_option maxHeartbeats 4000000 in
theorem index_overfull (p : Nat × (Nat → TapeD)) (t : TypeId) (v : Value) (hi : Nat) (w : World) (h : (layTape.slice t).rd w hi p [v]) (hhi : hi ≤ w.heap.size) :
    Calls Tryz.prog 136 #[v, .func (.func 107) #[] #[]] w fun e w' => ∃ z : Int, e = .returned (.int .i64 z) ∧ (0 ≤ z ↔ Any_overfull p) ∧ Below w.heap.size w w' := by
  obtain ⟨ao, cap, e, hm, hc⟩ := h
  cases e
  unfold maxLen at hm
  have HC : Hid (p.1 ≠ 0 → ∃ b off, ao = some ⟨b, off, none⟩ ∧ b < hi ∧ ∀ i, i < p.1 → ∃ ce, layTape.rd w hi (p.2 i) ce ∧ ∀ j, j < layTape.sz → w.cell? ⟨b, off + (i * layTape.sz + j), none⟩ = ce[j]?) := hc
  clear hc
  go_enter Tryz.func136, Tryz.ntmps136
  go_wp2
  go_loopw [8] (fun i wr => ∃ k : Nat, k ≤ p.1 ∧ i = .int .i64 k ∧ (∀ i, i < k → ¬ (200 < (p.2 i).recs.1)) ∧ Below w.heap.size w wr) (fun i _ => p.1 - (intOf i).toNat)
  case atStart => exact ⟨0, Nat.zero_le _, rfl, fun i hi => by omega, Below.refl _ _⟩
  case round =>
    obtain ⟨k, hk, rfl, hal, hb⟩ := hrel
    have HAL : Hid (∀ i, i < k → ¬ (200 < (p.2 i).recs.1)) := hal
    have HB : Hid (Below w.heap.size w wr) := hb
    clear hal
    by_cases hlt : k < p.1
    · obtain ⟨b, off, he, hbl, hel⟩ := HC.out (by omega)
      subst he
      obtain ⟨ck, hrk, hcell⟩ := elem_rd (t := 0) hel hb hhi hbl hlt
      obtain ⟨ao1, cap1, rfl, g1⟩ := Tape_rd hrk
      have hm1 : (p.2 k).recs.1 ≤ maxLen := by
        obtain ⟨_, _, _, h, _⟩ := g1
        exact h
      unfold maxLen at hm1
      have c0 : wr.cell? ⟨b, off + k * 2, none⟩ = some (.bool (p.2 k).wiped) := hcell 0 (by decide)
      have c1 : wr.cell? ⟨b, off + k * 2 + 1, none⟩ = some (.slice ao1 (p.2 k).recs.1 cap1) := hcell 1 (by decide)
      have C := fun w' => overfull_any (p.2 k).wiped (p.2 k).recs.1 (by omega) ao1 cap1 w'
      clear hel hcell hrk hb g1
      go_wp2_with fail
      refine (C _).mono ?_
      rintro e w2 ⟨t2, rfl, ht2, b2⟩
      have HB2 : Hid (Below w.heap.size w w2) := HB.out.trans (b2.mono HB.out.size)
      have HT2 : Hid (t2 = true ↔ (200 < (p.2 k).recs.1)) := ht2
      clear C b2 ht2
      cases t2 with
      | true =>
        have HP : Hid (0 ≤ (k : Int) ↔ Any_overfull p) := ⟨fun _ => ⟨k, hlt, HT2.out.1 rfl⟩, fun _ => by omega⟩
        go_wp2
        go_ret
        exact ⟨_, rfl, HP.out, HB2.out⟩
      | false =>
        go_wp2
        go_roundw
        case rel => exact ⟨k + 1, by omega, by go_num, fun i hi => by
                      by_cases c : i = k
                      · subst c; exact fun h => by have := HT2.out.2 h; simp at this
                      · exact HAL.out i (by omega), HB2.out⟩
        case measure => simp [intOf]; omega
    · obtain rfl : k = p.1 := by omega
      have HP : Hid (0 ≤ (-1 : Int) ↔ Any_overfull p) := ⟨fun h => by omega, fun ⟨t, ht, he⟩ => absurd he (HAL.out t ht)⟩
      go_wp2
      go_ret
      exact ⟨-1, rfl, HP.out, hb⟩
theorem contains_overfull (p : Nat × (Nat → TapeD)) (t : TypeId) (v : Value) (hi : Nat) (w : World) (h : (layTape.slice t).rd w hi p [v]) (hhi : hi ≤ w.heap.size) :
    Calls Tryz.prog 106 #[v, .func (.func 107) #[] #[]] w (BoolP (Any_overfull p) w) := by
  have C := index_overfull p t v hi w h hhi
  obtain ⟨ao, cap, e, hm, hc⟩ := h
  cases e
  clear hc hm
  go_enter Tryz.func106, Tryz.ntmps106
  go_wp2_with fail
  refine C.mono ?_
  rintro e w1 ⟨z, rfl, hz, b1⟩
  have HZ : Hid (0 ≤ z ↔ Any_overfull p) := hz
  have HB : Hid (Below w.heap.size w w1) := b1
  clear hz C b1
  by_cases h0 : 0 ≤ z
  · have HP : Hid (Any_overfull p) := HZ.out.mp h0
    go_wp2
    go_ret
    exact boolYes rfl HP.out HB.out
  · have HP : Hid (¬ Any_overfull p) := fun h => h0 (HZ.out.mpr h)
    have td : decide (0 ≤ z) = false := by simp; omega
    clear h0
    go_wp2
    go_ret
    exact boolNo rfl HP.out HB.out
set_option maxHeartbeats 4000000 in
theorem index_wipedWithRecs (p : Nat × (Nat → TapeD)) (t : TypeId) (v : Value) (hi : Nat) (w : World) (h : (layTape.slice t).rd w hi p [v]) (hhi : hi ≤ w.heap.size) :
    Calls Tryz.prog 136 #[v, .func (.func 109) #[] #[]] w fun e w' => ∃ z : Int, e = .returned (.int .i64 z) ∧ (0 ≤ z ↔ Any_wipedWithRecs p) ∧ Below w.heap.size w w' := by
  obtain ⟨ao, cap, e, hm, hc⟩ := h
  cases e
  unfold maxLen at hm
  have HC : Hid (p.1 ≠ 0 → ∃ b off, ao = some ⟨b, off, none⟩ ∧ b < hi ∧ ∀ i, i < p.1 → ∃ ce, layTape.rd w hi (p.2 i) ce ∧ ∀ j, j < layTape.sz → w.cell? ⟨b, off + (i * layTape.sz + j), none⟩ = ce[j]?) := hc
  clear hc
  go_enter Tryz.func136, Tryz.ntmps136
  go_wp2
  go_loopw [8] (fun i wr => ∃ k : Nat, k ≤ p.1 ∧ i = .int .i64 k ∧ (∀ i, i < k → ¬ ((p.2 i).wiped = true ∧ 0 < (p.2 i).recs.1)) ∧ Below w.heap.size w wr) (fun i _ => p.1 - (intOf i).toNat)
  case atStart => exact ⟨0, Nat.zero_le _, rfl, fun i hi => by omega, Below.refl _ _⟩
  case round =>
    obtain ⟨k, hk, rfl, hal, hb⟩ := hrel
    have HAL : Hid (∀ i, i < k → ¬ ((p.2 i).wiped = true ∧ 0 < (p.2 i).recs.1)) := hal
    have HB : Hid (Below w.heap.size w wr) := hb
    clear hal
    by_cases hlt : k < p.1
    · obtain ⟨b, off, he, hbl, hel⟩ := HC.out (by omega)
      subst he
      obtain ⟨ck, hrk, hcell⟩ := elem_rd (t := 0) hel hb hhi hbl hlt
      obtain ⟨ao1, cap1, rfl, g1⟩ := Tape_rd hrk
      have hm1 : (p.2 k).recs.1 ≤ maxLen := by
        obtain ⟨_, _, _, h, _⟩ := g1
        exact h
      unfold maxLen at hm1
      have c0 : wr.cell? ⟨b, off + k * 2, none⟩ = some (.bool (p.2 k).wiped) := hcell 0 (by decide)
      have c1 : wr.cell? ⟨b, off + k * 2 + 1, none⟩ = some (.slice ao1 (p.2 k).recs.1 cap1) := hcell 1 (by decide)
      have C := fun w' => wipedRecs_any (p.2 k).wiped (p.2 k).recs.1 (by omega) ao1 cap1 w'
      clear hel hcell hrk hb g1
      go_wp2_with fail
      refine (C _).mono ?_
      rintro e w2 ⟨t2, rfl, ht2, b2⟩
      have HB2 : Hid (Below w.heap.size w w2) := HB.out.trans (b2.mono HB.out.size)
      have HT2 : Hid (t2 = true ↔ ((p.2 k).wiped = true ∧ 0 < (p.2 k).recs.1)) := ht2
      clear C b2 ht2
      cases t2 with
      | true =>
        have HP : Hid (0 ≤ (k : Int) ↔ Any_wipedWithRecs p) := ⟨fun _ => ⟨k, hlt, HT2.out.1 rfl⟩, fun _ => by omega⟩
        go_wp2
        go_ret
        exact ⟨_, rfl, HP.out, HB2.out⟩
      | false =>
        go_wp2
        go_roundw
        case rel => exact ⟨k + 1, by omega, by go_num, fun i hi => by
                      by_cases c : i = k
                      · subst c; exact fun h => by have := HT2.out.2 h; simp at this
                      · exact HAL.out i (by omega), HB2.out⟩
        case measure => simp [intOf]; omega
    · obtain rfl : k = p.1 := by omega
      have HP : Hid (0 ≤ (-1 : Int) ↔ Any_wipedWithRecs p) := ⟨fun h => by omega, fun ⟨t, ht, he⟩ => absurd he (HAL.out t ht)⟩
      go_wp2
      go_ret
      exact ⟨-1, rfl, HP.out, hb⟩
theorem contains_wipedWithRecs (p : Nat × (Nat → TapeD)) (t : TypeId) (v : Value) (hi : Nat) (w : World) (h : (layTape.slice t).rd w hi p [v]) (hhi : hi ≤ w.heap.size) :
    Calls Tryz.prog 106 #[v, .func (.func 109) #[] #[]] w (BoolP (Any_wipedWithRecs p) w) := by
  have C := index_wipedWithRecs p t v hi w h hhi
  obtain ⟨ao, cap, e, hm, hc⟩ := h
  cases e
  clear hc hm
  go_enter Tryz.func106, Tryz.ntmps106
  go_wp2_with fail
  refine C.mono ?_
  rintro e w1 ⟨z, rfl, hz, b1⟩
  have HZ : Hid (0 ≤ z ↔ Any_wipedWithRecs p) := hz
  have HB : Hid (Below w.heap.size w w1) := b1
  clear hz C b1
  by_cases h0 : 0 ≤ z
  · have HP : Hid (Any_wipedWithRecs p) := HZ.out.mp h0
    go_wp2
    go_ret
    exact boolYes rfl HP.out HB.out
  · have HP : Hid (¬ Any_wipedWithRecs p) := fun h => h0 (HZ.out.mpr h)
    have td : decide (0 ≤ z) = false := by simp; omega
    clear h0
    go_wp2
    go_ret
    exact boolNo rfl HP.out HB.out

def GroupsP (s : Nat → Int) (p : Nat × (Nat → Nat × (Nat → DriveD))) : Prop := (p.1 : Int) = s 0 + s 1 ∧ ∀ i, i < p.1 → DrivesP s (p.2 i)
set_option maxHeartbeats 8000000 in
theorem groupsFit_any (s : Nat → Int) (hs : OkShape s) (p : Nat × (Nat → Nat × (Nat → DriveD))) (v : Value) (hi : Nat) (w : World) (h : ((layDrive.slice 84).slice 85).rd w hi p [v]) (hhi : hi ≤ w.heap.size) :
    Calls Tryz.prog 104 #[shapeV s, v] w (BoolP (GroupsP s p) w) := by
  obtain ⟨ao, cap, e, hm, hc⟩ := h
  cases e
  unfold maxLen at hm
  have HC : Hid (p.1 ≠ 0 → ∃ b off, ao = some ⟨b, off, none⟩ ∧ b < hi ∧ ∀ i, i < p.1 → ∃ ce, (layDrive.slice 84).rd w hi (p.2 i) ce ∧ ∀ j, j < (layDrive.slice 84).sz → w.cell? ⟨b, off + (i * (layDrive.slice 84).sz + j), none⟩ = ce[j]?) := hc
  have T0 := one_new w #[.int .i64 (s 0), .int .i64 (s 1), .int .i64 (s 2), .int .i64 (s 3), .int .i64 (s 4), .int .i64 (s 5), .int .i64 (s 6), .int .i64 (s 7), .int .i64 (s 8)] 30
  have CG := fun w' => groupCount_any s hs w'
  have CD := fun w' => driveCount_any s hs w'
  have HS : Hid (OkShape s) := hs
  clear hc hs
  unfold shapeV at CG CD ⊢
  go_enter Tryz.func104, Tryz.ntmps104
  go_wp2_with fail
  refine (CG _).mono ?_
  rintro e w1 ⟨rfl, b1⟩
  have HT1 : Hid (One w w1 #[.int .i64 (s 0), .int .i64 (s 1), .int .i64 (s 2), .int .i64 (s 3), .int .i64 (s 4), .int .i64 (s 5), .int .i64 (s 6), .int .i64 (s 7), .int .i64 (s 8)] 30) := T0.call b1
  clear b1 T0 CG
  by_cases hl : (p.1 : Int) = s 0 + s 1
  · have hne : ((p.1 : Int) != s 0 + s 1) = false := by simpa using hl
    have HL : Hid ((p.1 : Int) = s 0 + s 1) := hl
    clear hl
    go_wp2
    go_loopw [16] (fun i wr => ∃ k : Nat, k ≤ p.1 ∧ i = .int .i64 k ∧ (∀ i, i < k → DrivesP s (p.2 i)) ∧ One w wr #[.int .i64 (s 0), .int .i64 (s 1), .int .i64 (s 2), .int .i64 (s 3), .int .i64 (s 4), .int .i64 (s 5), .int .i64 (s 6), .int .i64 (s 7), .int .i64 (s 8)] 30) (fun i _ => p.1 - (intOf i).toNat)
    case atStart => exact ⟨0, Nat.zero_le _, rfl, fun i hi => by omega, HT1.out⟩
    case round =>
      clear HT1
      obtain ⟨k, hk, rfl, hal, T2⟩ := hrel
      obtain ⟨wo, rfl⟩ : ∃ x, x = wr := ⟨_, rfl⟩
      have HAL : Hid (∀ i, i < k → DrivesP s (p.2 i)) := hal
      have HT2 : Hid (One w wo #[.int .i64 (s 0), .int .i64 (s 1), .int .i64 (s 2), .int .i64 (s 3), .int .i64 (s 4), .int .i64 (s 5), .int .i64 (s 6), .int .i64 (s 7), .int .i64 (s 8)] 30) := T2
      clear hal
      have x2_0 : wo.cell? ⟨w.heap.size, 0, none⟩ = some (.int .i64 (s 0)) := T2.b1.cell 0
      have x2_1 : wo.cell? ⟨w.heap.size, 1, none⟩ = some (.int .i64 (s 1)) := T2.b1.cell 1
      have x2_2 : wo.cell? ⟨w.heap.size, 2, none⟩ = some (.int .i64 (s 2)) := T2.b1.cell 2
      have x2_3 : wo.cell? ⟨w.heap.size, 3, none⟩ = some (.int .i64 (s 3)) := T2.b1.cell 3
      have x2_4 : wo.cell? ⟨w.heap.size, 4, none⟩ = some (.int .i64 (s 4)) := T2.b1.cell 4
      have x2_5 : wo.cell? ⟨w.heap.size, 5, none⟩ = some (.int .i64 (s 5)) := T2.b1.cell 5
      have x2_6 : wo.cell? ⟨w.heap.size, 6, none⟩ = some (.int .i64 (s 6)) := T2.b1.cell 6
      have x2_7 : wo.cell? ⟨w.heap.size, 7, none⟩ = some (.int .i64 (s 7)) := T2.b1.cell 7
      have x2_8 : wo.cell? ⟨w.heap.size, 8, none⟩ = some (.int .i64 (s 8)) := T2.b1.cell 8
      by_cases hlt : k < p.1
      · obtain ⟨b, off, he, hbl, hel⟩ := HC.out (by omega)
        subst he
        obtain ⟨ck, hrk, hcell⟩ := elem_rd (t := 0) hel T2.bel hhi hbl hlt
        obtain ⟨ao9, cap9, rfl⟩ := sl_form hrk
        have c0 : wo.cell? ⟨b, off + k, none⟩ = some (.slice ao9 (p.2 k).1 cap9) := by
          have h := hcell 0 (show 0 < 1 by decide)
          rw [show (layDrive.slice 84).sz = 1 from rfl, Nat.mul_one, Nat.add_zero] at h
          exact h
        obtain ⟨_, _, e9, hm9, hc9⟩ := hrk
        cases e9
        have HC9 : Hid ((p.2 k).1 ≠ 0 → ∃ b off, ao9 = some ⟨b, off, none⟩ ∧ b < hi ∧ ∀ i, i < (p.2 k).1 → ∃ ce, layDrive.rd wo hi ((p.2 k).2 i) ce ∧ ∀ j, j < layDrive.sz → wo.cell? ⟨b, off + (i * layDrive.sz + j), none⟩ = ce[j]?) := hc9
        unfold maxLen at hm9
        have zw : w.heap.size < wo.heap.size := T2.b1.lt
        clear hcell hc9 hel T2
        go_wp2_with fail
        refine (CD _).mono ?_
        rintro e w3 ⟨rfl, b3⟩
        have HT3 : Hid (One w w3 #[.int .i64 (s 0), .int .i64 (s 1), .int .i64 (s 2), .int .i64 (s 3), .int .i64 (s 4), .int .i64 (s 5), .int .i64 (s 6), .int .i64 (s 7), .int .i64 (s 8)] 30) := HT2.out.call b3
        have HB3 : Hid (Below wo.heap.size wo w3) := b3
        clear b3 c0 x2_0 x2_1 x2_2 x2_3 x2_4 x2_5 x2_6 x2_7 x2_8
        by_cases hl2 : ((p.2 k).1 : Int) = s 2 + s 3
        · have hne2 : (((p.2 k).1 : Int) != s 2 + s 3) = false := by simpa using hl2
          have HL2 : Hid (((p.2 k).1 : Int) = s 2 + s 3) := hl2
          clear hl2
          go_wp2
          go_loopw [27] (fun i wx => ∃ q : Nat, q ≤ (p.2 k).1 ∧ i = .int .i64 q ∧ (∀ i, i < q → BlocksP s ((p.2 k).2 i).blocks) ∧ One w wx #[.int .i64 (s 0), .int .i64 (s 1), .int .i64 (s 2), .int .i64 (s 3), .int .i64 (s 4), .int .i64 (s 5), .int .i64 (s 6), .int .i64 (s 7), .int .i64 (s 8)] 30 ∧ Below wo.heap.size wo wx) (fun i _ => (p.2 k).1 - (intOf i).toNat)
          case atStart => exact ⟨0, Nat.zero_le _, rfl, fun i hi => by omega, HT3.out, HB3.out⟩
          case round =>
            clear HT3 HB3
            obtain ⟨q, hq, rfl, hal2, T4, hb4⟩ := hrel
            obtain ⟨wx, rfl⟩ : ∃ x, x = wr := ⟨_, rfl⟩
            have HAL2 : Hid (∀ i, i < q → BlocksP s ((p.2 k).2 i).blocks) := hal2
            have HT4 : Hid (One w wx #[.int .i64 (s 0), .int .i64 (s 1), .int .i64 (s 2), .int .i64 (s 3), .int .i64 (s 4), .int .i64 (s 5), .int .i64 (s 6), .int .i64 (s 7), .int .i64 (s 8)] 30) := T4
            have HB4 : Hid (Below wo.heap.size wo wx) := hb4
            clear hal2
            by_cases hlq : q < (p.2 k).1
            · obtain ⟨b9, off9, he9, hb9, hel9⟩ := HC9.out (by omega)
              subst he9
              obtain ⟨cq, hrq, hcq⟩ := elem_rd (t := 0) hel9 hb4 (by omega) hb9 hlq
              obtain ⟨ao5, cap5, rfl, g5⟩ := Drive_rd hrq
              have c4 : wx.cell? ⟨b9, off9 + q * 2, none⟩ = some (.bool ((p.2 k).2 q).wiped) := hcq 0 (by decide)
              have c5 : wx.cell? ⟨b9, off9 + q * 2 + 1, none⟩ = some (.slice ao5 ((p.2 k).2 q).blocks.1 cap5) := hcq 1 (by decide)
              have HG5 : Hid ((layBlock.slice 46).rd wx hi ((p.2 k).2 q).blocks [.slice ao5 ((p.2 k).2 q).blocks.1 cap5]) := g5
              have zx : w.heap.size < wx.heap.size := T4.b1.lt
              clear hel9 hcq hrq T4 hb4 g5
              go_upto_region 11 with fail
              have bA : Below wx.heap.size wx (wx.alloc (.cells #[.bool ((p.2 k).2 q).wiped, .slice ao5 ((p.2 k).2 q).blocks.1 cap5] 84)) := (Below.refl _ _).alloc (Nat.le_refl _) _
              have T5 : One w (wx.alloc (.cells #[.bool ((p.2 k).2 q).wiped, .slice ao5 ((p.2 k).2 q).blocks.1 cap5] 84)) #[.int .i64 (s 0), .int .i64 (s 1), .int .i64 (s 2), .int .i64 (s 3), .int .i64 (s 4), .int .i64 (s 5), .int .i64 (s 6), .int .i64 (s 7), .int .i64 (s 8)] 30 := HT4.out.call bA
              have X5 : Box (wx.alloc (.cells #[.bool ((p.2 k).2 q).wiped, .slice ao5 ((p.2 k).2 q).blocks.1 cap5] 84)) wx.heap.size #[.bool ((p.2 k).2 q).wiped, .slice ao5 ((p.2 k).2 q).blocks.1 cap5] 84 := box_new _ _ _
              obtain ⟨W5, hW5⟩ : ∃ x, x = wx.alloc (.cells #[.bool ((p.2 k).2 q).wiped, .slice ao5 ((p.2 k).2 q).blocks.1 cap5] 84) := ⟨_, rfl⟩
              rw [← hW5] at T5 X5 bA ⊢
              have y5_1 : W5.cell? ⟨wx.heap.size, 1, none⟩ = some (.slice ao5 ((p.2 k).2 q).blocks.1 cap5) := X5.cell 1
              have HT5 : Hid (One w W5 #[.int .i64 (s 0), .int .i64 (s 1), .int .i64 (s 2), .int .i64 (s 3), .int .i64 (s 4), .int .i64 (s 5), .int .i64 (s 6), .int .i64 (s 7), .int .i64 (s 8)] 30) := T5
              have HB5 : Hid (Below wx.heap.size wx W5) := bA
              have x5_0 : W5.cell? ⟨w.heap.size, 0, none⟩ = some (.int .i64 (s 0)) := T5.b1.cell 0
              have x5_1 : W5.cell? ⟨w.heap.size, 1, none⟩ = some (.int .i64 (s 1)) := T5.b1.cell 1
              have x5_2 : W5.cell? ⟨w.heap.size, 2, none⟩ = some (.int .i64 (s 2)) := T5.b1.cell 2
              have x5_3 : W5.cell? ⟨w.heap.size, 3, none⟩ = some (.int .i64 (s 3)) := T5.b1.cell 3
              have x5_4 : W5.cell? ⟨w.heap.size, 4, none⟩ = some (.int .i64 (s 4)) := T5.b1.cell 4
              have x5_5 : W5.cell? ⟨w.heap.size, 5, none⟩ = some (.int .i64 (s 5)) := T5.b1.cell 5
              have x5_6 : W5.cell? ⟨w.heap.size, 6, none⟩ = some (.int .i64 (s 6)) := T5.b1.cell 6
              have x5_7 : W5.cell? ⟨w.heap.size, 7, none⟩ = some (.int .i64 (s 7)) := T5.b1.cell 7
              have x5_8 : W5.cell? ⟨w.heap.size, 8, none⟩ = some (.int .i64 (s 8)) := T5.b1.cell 8
              obtain ⟨t6, h6⟩ := exB (BlocksP s ((p.2 k).2 q).blocks)
              have CB := det_b (blocksFit_any s HS.out ((p.2 k).2 q).blocks _ _ hi W5 ((layBlock.slice 46).rd_below HG5.out bA (by omega)) (by have := bA.size; omega)) h6
              unfold shapeV at CB
              have H6 : Hid (t6 = true ↔ BlocksP s ((p.2 k).2 q).blocks) := h6
              clear T5 X5 bA hW5 h6 c4 c5
              go_wp2_with fail
              refine CB.mono ?_
              rintro e w6 ⟨rfl, b6⟩
              have HT6 : Hid (One w w6 #[.int .i64 (s 0), .int .i64 (s 1), .int .i64 (s 2), .int .i64 (s 3), .int .i64 (s 4), .int .i64 (s 5), .int .i64 (s 6), .int .i64 (s 7), .int .i64 (s 8)] 30) := HT5.out.call b6
              have HB6 : Hid (Below wo.heap.size wo w6) := HB4.out.trans ((HB5.out.trans (b6.mono HB5.out.size)).mono HB4.out.size)
              clear b6 CB x5_0 x5_1 x5_2 x5_3 x5_4 x5_5 x5_6 x5_7 x5_8 y5_1
              cases t6 with
              | false =>
                go_wp2
                go_ret
                exact boolNo rfl (fun h => by have := H6.out.2 ((h.2 k hlt).2 q hlq); simp at this) HT6.out.bel
              | true =>
                go_wp2
                go_roundw
                case rel => exact ⟨q + 1, by omega, by go_num, fun i hi => by
                              by_cases c : i = q
                              · subst c; exact H6.out.1 (by simp)
                              · exact HAL2.out i (by omega), HT6.out, HB6.out⟩
                case measure => simp [intOf]; omega
            · obtain rfl : q = (p.2 k).1 := by omega
              clear T4 hb4
              go_wp2
              go_roundw
              case rel => exact ⟨k + 1, by omega, by go_num, fun i hi => by
                            by_cases c : i = k
                            · subst c
                              exact ⟨HL2.out, HAL2.out⟩
                            · exact HAL.out i (by omega), HT4.out⟩
              case measure => simp [intOf]; omega
        · have hne2 : (((p.2 k).1 : Int) != s 2 + s 3) = true := by simpa using hl2
          have HN2 : Hid (¬ ((p.2 k).1 : Int) = s 2 + s 3) := hl2
          clear hl2
          go_wp2
          go_ret
          exact boolNo rfl (fun h => HN2.out (h.2 k hlt).1) HT3.out.bel
      · obtain rfl : k = p.1 := by omega
        go_wp2
        go_ret
        exact boolYes rfl ⟨HL.out, HAL.out⟩ HT2.out.bel
  · have hne : ((p.1 : Int) != s 0 + s 1) = true := by simpa using hl
    have HN : Hid (¬ (p.1 : Int) = s 0 + s 1) := hl
    clear hl
    go_wp2
    go_ret
    exact boolNo rfl (fun h => HN.out h.1) HT1.out.bel
end Go.Proofs.YtbmfndjglndnlaaGreat
