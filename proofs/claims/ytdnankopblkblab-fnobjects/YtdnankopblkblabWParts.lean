/- Walk of the specification's PartsFor. -/
import Derived.Test.YtdnankopblkblabWHome
namespace Go.Proofs.Ytdnankopblkblab
open Go.RowKit F256
set_option linter.unusedVariables false
set_option linter.unusedSimpArgs false

set_option maxHeartbeats 4000000 in
theorem l4Wide_any (s : Nat → Int) (h1 : 1 ≤ s 2) (h2 : s 2 ≤ 1000) (w : World) :
    Calls Try.prog 29 #[shapeV s] w fun e w' => e = .returned (.int .i64 (s 2 * 4)) ∧ Below w.heap.size w w' := by
  unfold shapeV
  obtain ⟨a2, h0⟩ : ∃ a, a = s 2 := ⟨_, rfl⟩
  rw [← h0] at h1 h2 ⊢
  clear h0
  have B0 : Below w.heap.size w (w.alloc (.cells #[.int .i64 (s 0), .int .i64 (s 1), .int .i64 a2, .int .i64 (s 3), .int .i64 (s 4), .int .i64 (s 5), .int .i64 (s 6), .int .i64 (s 7), .int .i64 (s 8)] 25)) := bnew (Below.refl _ _)
  go_enter Try.func29, Try.ntmps29
  go_wp2
  go_ret
  exact ⟨rfl, B0⟩

theorem box_new9 {w w1 : World} {cs : Array Value} {t : TypeId} (h : Below (w.alloc (.cells cs t)).heap.size (w.alloc (.cells cs t)) w1) :
    Box w1 w.heap.size cs t ∧ Below w.heap.size w w1 ∧ w.heap.size < w1.heap.size :=
  ⟨(box_new w cs t).below h (by simp), bnew h, bsize h⟩

theorem keep9 {B : Nat} {w W w2 : World} {cs : Array Value} {t : TypeId} (hX : Box W B cs t) (hB : Below B w W) (hb : Below W.heap.size W w2) : Box w2 B cs t ∧ Below B w w2 :=
  ⟨hX.below hb hX.lt, hB.trans (hb.mono (Nat.le_of_lt hX.lt))⟩

set_option maxHeartbeats 4000000 in
theorem l4Parts_any (s : Nat → Int) (h1 : 1 ≤ s 2) (h2 : s 2 ≤ 1000) (l : Int) (h3 : 0 ≤ l) (h4 : l ≤ 1000000000) (w : World) :
    Calls Try.prog 28 #[shapeV s, .int .i64 l] w fun e w' => e = .returned (.int .i64 ((l + s 2 * 4 - 1) / (s 2 * 4))) ∧ Below w.heap.size w w' := by
  have CL := l4Wide_any s h1 h2
  unfold shapeV
  have K0 : Hid (Box (w.alloc (.cells #[.int .i64 (s 0), .int .i64 (s 1), .int .i64 (s 2), .int .i64 (s 3), .int .i64 (s 4), .int .i64 (s 5), .int .i64 (s 6), .int .i64 (s 7), .int .i64 (s 8)] 25)) w.heap.size #[.int .i64 (s 0), .int .i64 (s 1), .int .i64 (s 2), .int .i64 (s 3), .int .i64 (s 4), .int .i64 (s 5), .int .i64 (s 6), .int .i64 (s 7), .int .i64 (s 8)] 25) := box_new w _ _
  have KB : Hid (Below w.heap.size w (w.alloc (.cells #[.int .i64 (s 0), .int .i64 (s 1), .int .i64 (s 2), .int .i64 (s 3), .int .i64 (s 4), .int .i64 (s 5), .int .i64 (s 6), .int .i64 (s 7), .int .i64 (s 8)] 25))) := bnew (Below.refl _ _)
  obtain ⟨S, hS⟩ : ∃ S, S = s 2 * 4 := ⟨_, rfl⟩
  rw [← hS]
  rw [← hS] at CL
  have q1 : 4 ≤ S := by omega
  have q2 : S ≤ 4000 := by omega
  have q3 : 0 ≤ l + S - 1 := by omega
  clear hS
  go_enter Try.func28, Try.ntmps28
  go_wp2_with fail
  go_region_with (go_at_call 29; refine (CL _).mono ?_; rintro ee w2 ⟨rfl, hb2⟩; (first | (obtain ⟨hX2, hB2⟩ := keep9 hX hB ⟨hb2.os, hb2.tape, hb2.output, hb2.size, hb2.block⟩; clear hb2; obtain ⟨x0, x1, x2, x3, x4, x5, x6, x7, x8⟩ := box9 hX2) | (obtain ⟨hX, hB⟩ := keep9 K0.out KB.out ⟨hb2.os, hb2.tape, hb2.output, hb2.size, hb2.block⟩; clear hb2; obtain ⟨x0, x1, x2, x3, x4, x5, x6, x7, x8⟩ := box9 hX)))
  all_goals
    clear hX hX2
    go_wp2
    go_ret
    exact ⟨rfl, hB2⟩

set_option maxHeartbeats 4000000 in
theorem l4Long_any (s : Nat → Int) (h1 : 1 ≤ s 2) (h2 : s 2 ≤ 1000) (l : Int) (w : World) :
    Calls Try.prog 27 #[shapeV s, .int .i64 l] w fun e w' => ∃ c, e = .returned (.int .i64 c) ∧ ((l < 1 ∧ c = 6) ∨ (1 ≤ l ∧ 3 * (s 2 * 4) < l ∧ c = 2) ∨ (1 ≤ l ∧ l ≤ 3 * (s 2 * 4) ∧ c = 0)) ∧ Below w.heap.size w w' := by
  have CL := l4Wide_any s h1 h2
  have KB : Hid (Below w.heap.size w (w.alloc (.cells #[.int .i64 (s 0), .int .i64 (s 1), .int .i64 (s 2), .int .i64 (s 3), .int .i64 (s 4), .int .i64 (s 5), .int .i64 (s 6), .int .i64 (s 7), .int .i64 (s 8)] 25))) := bnew (Below.refl _ _)
  obtain ⟨S, hS⟩ : ∃ S, S = s 2 * 4 := ⟨_, rfl⟩
  rw [← hS]
  rw [← hS] at CL
  have q1 : 4 ≤ S := by omega
  have q2 : S ≤ 4000 := by omega
  clear hS
  unfold shapeV
  by_cases c1 : l < 1
  · go_enter Try.func27, Try.ntmps27
    go_wp2
    go_ret
    exact ⟨6, rfl, .inl ⟨c1, rfl⟩, KB.out⟩
  · by_cases c2 : 3 * S < l
    · go_enter Try.func27, Try.ntmps27
      go_wp2_with fail
      refine (CL _).mono ?_
      rintro e w2 ⟨rfl, hb2⟩
      have B := bnew hb2
      clear hb2
      go_wp2
      go_ret
      exact ⟨2, rfl, .inr (.inl ⟨by omega, c2, rfl⟩), B⟩
    · go_enter Try.func27, Try.ntmps27
      go_wp2_with fail
      refine (CL _).mono ?_
      rintro e w2 ⟨rfl, hb2⟩
      have B := bnew hb2
      clear hb2
      go_wp2
      go_ret
      exact ⟨0, rfl, .inr (.inr ⟨by omega, by omega, rfl⟩), B⟩

/-- what PartsFor answers -/
def PfAns (s : Nat → Int) (l x c : Int) : Prop :=
  (¬ OkShape s ∧ c = 3 ∧ x = 0) ∨ (OkShape s ∧ l < 1 ∧ c = 6 ∧ x = 0) ∨ (OkShape s ∧ 1 ≤ l ∧ 3 * (s 2 * 4) < l ∧ c = 2 ∧ x = 0) ∨ (OkShape s ∧ 1 ≤ l ∧ l ≤ 3 * (s 2 * 4) ∧ c = 0 ∧ x = (l + s 2 * 4 - 1) / (s 2 * 4))
theorem PfAns.one {s : Nat → Int} {l x c y d : Int} (h : PfAns s l x c) (k : PfAns s l y d) : x = y ∧ c = d := by
  rcases h with ⟨h1, rfl, rfl⟩ | ⟨h1, h2, rfl, rfl⟩ | ⟨h1, h2, h3, rfl, rfl⟩ | ⟨h1, h2, h3, rfl, rfl⟩ <;> rcases k with ⟨k1, rfl, rfl⟩ | ⟨k1, k2, rfl, rfl⟩ | ⟨k1, k2, k3, rfl, rfl⟩ | ⟨k1, k2, k3, rfl, rfl⟩ <;>
    first | exact ⟨rfl, rfl⟩ | exact absurd h1 k1 | exact absurd k1 h1 | (exfalso; omega)

set_option maxHeartbeats 4000000 in
theorem specParts_any (s : Nat → Int) (l : Int) (w : World) :
    Calls Try.prog 17 #[shapeV s, .int .i64 l] w fun e w' => ∃ x c, e = .returned (intR c x) ∧ PfAns s l x c ∧ Below w.heap.size w w' := by
  unfold shapeV
  go_enter Try.func17, Try.ntmps17
  go_wp2_with fail
  refine (specShape_any s _).mono ?_
  rintro e w1 ⟨x, rfl, hx, B1'⟩
  obtain ⟨X1, X2, B1, z1⟩ := two_new B1'
  obtain ⟨x0, x1, x2, x3, x4, x5, x6, x7, x8⟩ := box9 X1
  obtain ⟨y0, y1, y2, y3⟩ := res_cells X2
  have HX : Hid (Box w1 (w.heap.size + 1) #[.int .i64 0, .int .i64 0] 37) := X2
  have HX1 : Hid (Box w1 w.heap.size #[.int .i64 (s 0), .int .i64 (s 1), .int .i64 (s 2), .int .i64 (s 3), .int .i64 (s 4), .int .i64 (s 5), .int .i64 (s 6), .int .i64 (s 7), .int .i64 (s 8)] 25) := X1
  clear B1' X1 X2
  rcases hx with ⟨rfl, hx⟩ | ⟨rfl, hx⟩
  · have HN : Hid (¬ OkShape s) := hx
    clear hx
    go_wp2
    exact bodyPost_ret (v := intR 3 0) (by simp [results, Try.results17, go_sem, intR, y0, y1]) rfl ⟨0, 3, rfl, .inl ⟨HN.out, rfl, rfl⟩, (B1.setCell (Nat.le_succ _) _).setCell (Nat.le_succ _) _⟩
  · have HO : Hid (OkShape s) := hx
    have HD : Hid (1 ≤ s 2 ∧ s 2 ≤ 1000) := by show 1 ≤ s 2 ∧ s 2 ≤ 1000; have := hx.2.1; unfold Shp at this; omega
    clear hx
    go_wp2_with fail
    refine (l4Long_any s HD.out.1 HD.out.2 l _).mono ?_
    rintro e w2 ⟨c, rfl, hc, B2⟩
    have z2 := B2.size
    obtain ⟨v0, v1, v2, v3⟩ := res_cells (HX.out.below B2 z1)
    obtain ⟨u0, u1, u2, u3, u4, u5, u6, u7, u8⟩ := box9 (HX1.out.below B2 (by omega))
    have HX2 : Hid (Box w2 (w.heap.size + 1) #[.int .i64 0, .int .i64 0] 37) := HX.out.below B2 z1
    have B12 : Below w.heap.size w w2 := B1.trans (B2.mono B1.size)
    clear B2
    rcases hc with ⟨hc, rfl⟩ | ⟨hc, hd, rfl⟩ | ⟨hc, hd, rfl⟩
    · go_wp2
      exact bodyPost_ret (v := intR 6 0) (by simp [results, Try.results17, go_sem, intR, v0, v1]) rfl ⟨0, 6, rfl, .inr (.inl ⟨HO.out, hc, rfl, rfl⟩), (B12.setCell (Nat.le_succ _) _).setCell (Nat.le_succ _) _⟩
    · go_wp2
      exact bodyPost_ret (v := intR 2 0) (by simp [results, Try.results17, go_sem, intR, v0, v1]) rfl ⟨0, 2, rfl, .inr (.inr (.inl ⟨HO.out, hc, hd, rfl, rfl⟩)), (B12.setCell (Nat.le_succ _) _).setCell (Nat.le_succ _) _⟩
    · go_wp2_with fail
      refine (l4Parts_any s HD.out.1 HD.out.2 l (by omega) (by have := HD.out.2; omega) _).mono ?_
      rintro e w3 ⟨rfl, B3⟩
      obtain ⟨r0, r1, r2, r3⟩ := res_cells (HX2.out.below B3 (by omega))
      have B4 : Below w.heap.size w w3 := B12.trans (B3.mono B12.size)
      obtain ⟨m, hm⟩ : ∃ m, m = (l + s 2 * 4 - 1) / (s 2 * 4) := ⟨_, rfl⟩
      rw [← hm]
      have HM : Hid (m = (l + s 2 * 4 - 1) / (s 2 * 4)) := hm
      clear hm B3
      go_wp2
      exact bodyPost_ret (v := intR 0 m) (by simp [results, Try.results17, go_sem, intR, r0, r1]) rfl ⟨m, 0, rfl, .inr (.inr (.inr ⟨HO.out, hc, hd, rfl, HM.out⟩)), (B4.setCell (Nat.le_succ _) _).setCell (Nat.le_succ _) _⟩
end Go.Proofs.Ytdnankopblkblab
