/- An object that is cut is joined again, and its lists are as many as are told: the law FnObjects returns true at every code, and changes nothing that was there. No condition. -/
import Derived.Test.YtdnankopblkblabWNear
import Derived.Laws.StructEq
import Derived.Test.YtdnankopblkblabWParts
import Derived.Test.YtdnankopblkblabWBld
import Derived.Test.YtdnankopblkblabWJoinO
import Derived.Test.YtdnankopblkblabShapeB
import Derived.Test.YtdnankopblkblabWJoin
import Derived.Test.YtdnankopblkblabWJoinP
import Derived.Test.YtdnankopblkblabWDrawO
import Derived.Test.YtdnankopblkblabRows
import Derived.Test.YtdnankopblkblabFrameB
namespace Go.Proofs.Ytdnankopblkblab
open Go.RowKit F256
set_option linter.unusedVariables false
set_option linter.unusedSimpArgs false

theorem shape_eq_yes (a0 a1 a2 a3 a4 a5 a6 a7 a8 : Int) (w : World) : (Op.equalIn 10000 25 (.agg #[.int .i64 a0, .int .i64 a1, .int .i64 a2, .int .i64 a3, .int .i64 a4, .int .i64 a5, .int .i64 a6, .int .i64 a7, .int .i64 a8]) (.agg #[.int .i64 a0, .int .i64 a1, .int .i64 a2, .int .i64 a3, .int .i64 a4, .int .i64 a5, .int .i64 a6, .int .i64 a7, .int .i64 a8])).run Try.prog w = .ok true w := by
  have u3 := Try.underlying2
  rw [show (10000 : Nat) = 9999 + 1 from rfl, run_equalIn_agg w 9999 25 _ _ (by kernel_rfl) (by kernel_rfl)]
  simp only [Program.fieldsOf, Try.underlying25]
  go_simp
theorem shape_eq_no (a0 a1 a2 a3 a4 a5 a6 a7 a8 b0 b1 b2 b3 b4 b5 b6 b7 b8 : Int) (h : ¬ (a0 = b0 ∧ a1 = b1 ∧ a2 = b2 ∧ a3 = b3 ∧ a4 = b4 ∧ a5 = b5 ∧ a6 = b6 ∧ a7 = b7 ∧ a8 = b8)) (w : World) : (Op.equalIn 10000 25 (.agg #[.int .i64 a0, .int .i64 a1, .int .i64 a2, .int .i64 a3, .int .i64 a4, .int .i64 a5, .int .i64 a6, .int .i64 a7, .int .i64 a8]) (.agg #[.int .i64 b0, .int .i64 b1, .int .i64 b2, .int .i64 b3, .int .i64 b4, .int .i64 b5, .int .i64 b6, .int .i64 b7, .int .i64 b8])).run Try.prog w = .ok false w := by
  have u3 := Try.underlying2
  rw [show (10000 : Nat) = 9999 + 1 from rfl, run_equalIn_agg w 9999 25 _ _ (by kernel_rfl) (by kernel_rfl)]
  simp only [Program.fieldsOf, Try.underlying25]
  have H : Hid (¬ (a0 = b0 ∧ a1 = b1 ∧ a2 = b2 ∧ a3 = b3 ∧ a4 = b4 ∧ a5 = b5 ∧ a6 = b6 ∧ a7 = b7 ∧ a8 = b8)) := h
  clear h
  go_simp
  exact fun h0 h1 h2 h3 h4 h5 h6 h7 h8 => H.out ⟨h0, h1, h2, h3, h4, h5, h6, h7, h8⟩
theorem ok_near (s : Nat → Int) : OkShape s ↔ s 0 = nearZ (s 0) 1 4 ∧ s 1 = nearZ (s 1) 0 2 ∧ s 2 = nearZ (s 2) 1 3 ∧ s 3 = nearZ (s 3) 0 2 ∧ s 4 = nearZ (s 4) 1 6 ∧ s 5 = nearZ (s 5) 1 6 ∧ s 6 = nearZ (s 6) 1 4 ∧ s 7 = nearZ (s 7) 1 6 ∧ s 8 = nearZ (s 8) 0 400 := by
  unfold OkShape Shp3 Shp
  rw [nearZ_iff (s 0) 1 4 (by omega), nearZ_iff (s 1) 0 2 (by omega), nearZ_iff (s 2) 1 3 (by omega), nearZ_iff (s 3) 0 2 (by omega), nearZ_iff (s 4) 1 6 (by omega), nearZ_iff (s 5) 1 6 (by omega), nearZ_iff (s 6) 1 4 (by omega), nearZ_iff (s 7) 1 6 (by omega), nearZ_iff (s 8) 0 400 (by omega)]
  omega

set_option maxHeartbeats 4000000 in
theorem implShape_any (s : Nat → Int) (w : World) :
    Calls Try.prog 20 #[shapeV s] w fun e w' => ∃ x, e = .returned (.int .i64 x) ∧ ShFAns s x ∧ Below w.heap.size w w' := by
  have HK : Hid (OkShape s ↔ s 0 = nearZ (s 0) 1 4 ∧ s 1 = nearZ (s 1) 0 2 ∧ s 2 = nearZ (s 2) 1 3 ∧ s 3 = nearZ (s 3) 0 2 ∧ s 4 = nearZ (s 4) 1 6 ∧ s 5 = nearZ (s 5) 1 6 ∧ s 6 = nearZ (s 6) 1 4 ∧ s 7 = nearZ (s 7) 1 6 ∧ s 8 = nearZ (s 8) 0 400) := ok_near s
  unfold shapeV
  obtain ⟨a0, h0⟩ : ∃ a, a = s 0 := ⟨_, rfl⟩
  obtain ⟨a1, h1⟩ : ∃ a, a = s 1 := ⟨_, rfl⟩
  obtain ⟨a2, h2⟩ : ∃ a, a = s 2 := ⟨_, rfl⟩
  obtain ⟨a3, h3⟩ : ∃ a, a = s 3 := ⟨_, rfl⟩
  obtain ⟨a4, h4⟩ : ∃ a, a = s 4 := ⟨_, rfl⟩
  obtain ⟨a5, h5⟩ : ∃ a, a = s 5 := ⟨_, rfl⟩
  obtain ⟨a6, h6⟩ : ∃ a, a = s 6 := ⟨_, rfl⟩
  obtain ⟨a7, h7⟩ : ∃ a, a = s 7 := ⟨_, rfl⟩
  obtain ⟨a8, h8⟩ : ∃ a, a = s 8 := ⟨_, rfl⟩
  rw [← h0, ← h1, ← h2, ← h3, ← h4, ← h5, ← h6, ← h7, ← h8]
  have HK2 : Hid (OkShape s ↔ a0 = nearZ a0 1 4 ∧ a1 = nearZ a1 0 2 ∧ a2 = nearZ a2 1 3 ∧ a3 = nearZ a3 0 2 ∧ a4 = nearZ a4 1 6 ∧ a5 = nearZ a5 1 6 ∧ a6 = nearZ a6 1 4 ∧ a7 = nearZ a7 1 6 ∧ a8 = nearZ a8 0 400) := by
    show OkShape s ↔ _
    rw [h0, h1, h2, h3, h4, h5, h6, h7, h8]
    exact HK.out
  clear HK h0 h1 h2 h3 h4 h5 h6 h7 h8
  have CN := nearestShape_any a0 a1 a2 a3 a4 a5 a6 a7 a8
  have XA := box_new w #[.int .i64 a0, .int .i64 a1, .int .i64 a2, .int .i64 a3, .int .i64 a4, .int .i64 a5, .int .i64 a6, .int .i64 a7, .int .i64 a8] 25
  obtain ⟨x0, x1, x2, x3, x4, x5, x6, x7, x8⟩ := box9 XA
  have HX : Hid (Box (w.alloc (.cells #[.int .i64 a0, .int .i64 a1, .int .i64 a2, .int .i64 a3, .int .i64 a4, .int .i64 a5, .int .i64 a6, .int .i64 a7, .int .i64 a8] 25)) w.heap.size #[.int .i64 a0, .int .i64 a1, .int .i64 a2, .int .i64 a3, .int .i64 a4, .int .i64 a5, .int .i64 a6, .int .i64 a7, .int .i64 a8] 25) := XA
  have HB : Hid (Below w.heap.size w (w.alloc (.cells #[.int .i64 a0, .int .i64 a1, .int .i64 a2, .int .i64 a3, .int .i64 a4, .int .i64 a5, .int .i64 a6, .int .i64 a7, .int .i64 a8] 25))) := bnew (Below.refl _ _)
  obtain ⟨wA, hwA⟩ : ∃ x, x = w.alloc (.cells #[.int .i64 a0, .int .i64 a1, .int .i64 a2, .int .i64 a3, .int .i64 a4, .int .i64 a5, .int .i64 a6, .int .i64 a7, .int .i64 a8] 25) := ⟨_, rfl⟩
  rw [← hwA] at x0 x1 x2 x3 x4 x5 x6 x7 x8 HX HB
  clear XA
  by_cases ok : OkShape s
  · have HO : Hid (OkShape s) := ok
    obtain ⟨e0, e1, e2, e3, e4, e5, e6, e7, e8⟩ := HK2.out.mp ok
    rw [← e0, ← e1, ← e2, ← e3, ← e4, ← e5, ← e6, ← e7, ← e8] at CN
    have heq := shape_eq_yes a0 a1 a2 a3 a4 a5 a6 a7 a8
    clear e0 e1 e2 e3 e4 e5 e6 e7 e8 ok
    go_enter Try.func20, Try.ntmps20
    go_wp2_with fail
    rw [← hwA]
    clear hwA
    go_region_with (go_at_call 30; refine (CN _).mono ?_; rintro ee w2 ⟨rfl, hb2⟩; have hB2 : Below wA.heap.size wA w2 := ⟨hb2.os, hb2.tape, hb2.output, hb2.size, hb2.block⟩; obtain ⟨y0, y1, y2, y3, y4, y5, y6, y7, y8⟩ := box9 (HX.out.below hB2 HX.out.lt))
    all_goals
      go_wp2
      go_ret
      exact ⟨0, rfl, .inr ⟨rfl, HO.out⟩, HB.out.trans (hB2.mono HB.out.size)⟩
  · have HO : Hid (¬ OkShape s) := ok
    have hno : ¬ (a0 = nearZ a0 1 4 ∧ a1 = nearZ a1 0 2 ∧ a2 = nearZ a2 1 3 ∧ a3 = nearZ a3 0 2 ∧ a4 = nearZ a4 1 6 ∧ a5 = nearZ a5 1 6 ∧ a6 = nearZ a6 1 4 ∧ a7 = nearZ a7 1 6 ∧ a8 = nearZ a8 0 400) := fun h => ok (HK2.out.mpr h)
    have heq := shape_eq_no a0 a1 a2 a3 a4 a5 a6 a7 a8 (nearZ a0 1 4) (nearZ a1 0 2) (nearZ a2 1 3) (nearZ a3 0 2) (nearZ a4 1 6) (nearZ a5 1 6) (nearZ a6 1 4) (nearZ a7 1 6) (nearZ a8 0 400) hno
    clear hno ok
    go_enter Try.func20, Try.ntmps20
    go_wp2_with fail
    rw [← hwA]
    clear hwA
    go_region_with (go_at_call 30; refine (CN _).mono ?_; rintro ee w2 ⟨rfl, hb2⟩; have hB2 : Below wA.heap.size wA w2 := ⟨hb2.os, hb2.tape, hb2.output, hb2.size, hb2.block⟩; obtain ⟨y0, y1, y2, y3, y4, y5, y6, y7, y8⟩ := box9 (HX.out.below hB2 HX.out.lt))
    all_goals
      go_wp2
      go_ret
      exact ⟨3, rfl, .inl ⟨rfl, HO.out⟩, HB.out.trans (hB2.mono HB.out.size)⟩
end Go.Proofs.Ytdnankopblkblab

namespace Go.Proofs.Ytdnankopblkblab
open Go.RowKit F256
set_option linter.unusedVariables false
set_option linter.unusedSimpArgs false

set_option maxHeartbeats 4000000 in
theorem rowLength_any (s : Nat → Int) (h1 : 1 ≤ s 2) (h2 : s 2 ≤ 1000) (w : World) :
    Calls Try.prog 16 #[shapeV s] w fun e w' => e = .returned (.int .i64 (s 2 * 4)) ∧ Below w.heap.size w w' := by
  unfold shapeV
  obtain ⟨a2, h0⟩ : ∃ a, a = s 2 := ⟨_, rfl⟩
  rw [← h0] at h1 h2 ⊢
  clear h0
  have B0 : Below w.heap.size w (w.alloc (.cells #[.int .i64 (s 0), .int .i64 (s 1), .int .i64 a2, .int .i64 (s 3), .int .i64 (s 4), .int .i64 (s 5), .int .i64 (s 6), .int .i64 (s 7), .int .i64 (s 8)] 25)) := bnew (Below.refl _ _)
  go_enter Try.func16, Try.ntmps16
  go_wp2
  go_ret
  exact ⟨rfl, B0⟩

set_option maxHeartbeats 4000000 in
theorem implParts_any (s : Nat → Int) (l : Int) (w : World) :
    Calls Try.prog 10 #[shapeV s, .int .i64 l] w fun e w' => ∃ x c, e = .returned (intR c x) ∧ PfAns s l x c ∧ Below w.heap.size w w' := by
  unfold shapeV
  go_enter Try.func10, Try.ntmps10
  go_wp2_with fail
  refine (implShape_any s _).mono ?_
  rintro e w1 ⟨x, rfl, hx, B1'⟩
  obtain ⟨X1, X2, B1, z1⟩ := two_new B1'
  obtain ⟨x0, x1, x2, x3, x4, x5, x6, x7, x8⟩ := box9 X1
  obtain ⟨y0, y1, y2, y3⟩ := res_cells X2
  have HX : Hid (Box w1 (w.heap.size + 1) #[.int .i64 0, .int .i64 0] 37) := X2
  have HX1 : Hid (Box w1 w.heap.size #[.int .i64 (s 0), .int .i64 (s 1), .int .i64 (s 2), .int .i64 (s 3), .int .i64 (s 4), .int .i64 (s 5), .int .i64 (s 6), .int .i64 (s 7), .int .i64 (s 8)] 25) := X1
  clear B1' X1 X2
  rcases hx with ⟨rfl, hx⟩ | ⟨rfl, hx⟩
  · have HN : Hid (¬ OkShape s) := hx
    clear hx
    go_wp2
    exact bodyPost_ret (v := intR 3 0) (by simp [results, Try.results10, go_sem, intR, y0, y1]) rfl ⟨0, 3, rfl, .inl ⟨HN.out, rfl, rfl⟩, (B1.setCell (Nat.le_succ _) _).setCell (Nat.le_succ _) _⟩
  · have HO : Hid (OkShape s) := hx
    have HD : Hid (1 ≤ s 2 ∧ s 2 ≤ 1000) := by show 1 ≤ s 2 ∧ s 2 ≤ 1000; have := hx.2.1; unfold Shp at this; omega
    clear hx
    have CL := rowLength_any s HD.out.1 HD.out.2
    unfold shapeV at CL
    have HM : Hid (∀ m, m = (l + s 2 * 4 - 1) / (s 2 * 4) → 1 ≤ l → l ≤ 3 * (s 2 * 4) → PfAns s l m 0) := fun m hm h1 h2 => .inr (.inr (.inr ⟨HO.out, h1, h2, rfl, hm⟩))
    have HM2 : Hid (1 ≤ l → 3 * (s 2 * 4) < l → PfAns s l 0 2) := fun h1 h2 => .inr (.inr (.inl ⟨HO.out, h1, h2, rfl, rfl⟩))
    obtain ⟨S, hS⟩ : ∃ S, S = s 2 * 4 := ⟨_, rfl⟩
    rw [← hS] at CL HM HM2
    have q1 : 4 ≤ S := by have := HD.out.1; omega
    have q2 : S ≤ 4000 := by have := HD.out.2; omega
    clear hS
    by_cases c1 : l < 1
    · go_wp2
      exact bodyPost_ret (v := intR 6 0) (by simp [results, Try.results10, go_sem, intR, y0, y1]) rfl ⟨0, 6, rfl, .inr (.inl ⟨HO.out, c1, rfl, rfl⟩), (B1.setCell (Nat.le_succ _) _).setCell (Nat.le_succ _) _⟩
    · go_wp2_with fail
      refine (CL _).mono ?_
      rintro e w2 ⟨rfl, B2⟩
      have z2 := B2.size
      have B12 : Below w.heap.size w w2 := B1.trans (B2.mono B1.size)
      have HX2 : Hid (Box w2 (w.heap.size + 1) #[.int .i64 0, .int .i64 0] 37) := HX.out.below B2 z1
      have HY2 : Hid (Box w2 w.heap.size #[.int .i64 (s 0), .int .i64 (s 1), .int .i64 (s 2), .int .i64 (s 3), .int .i64 (s 4), .int .i64 (s 5), .int .i64 (s 6), .int .i64 (s 7), .int .i64 (s 8)] 25) := HX1.out.below B2 (by omega)
      clear x0 x1 x2 x3 x4 x5 x6 x7 x8 y0 y1 y2 y3 B2 HX HX1
      obtain ⟨y0, y1, y2, y3⟩ := res_cells HX2.out
      obtain ⟨x0, x1, x2, x3, x4, x5, x6, x7, x8⟩ := box9 HY2.out
      by_cases c2 : 3 * S < l
      · have t2 : decide (3 * S < l) = true := by simp; omega
        go_wp2
        exact bodyPost_ret (v := intR 2 0) (by simp [results, Try.results10, go_sem, intR, y0, y1]) rfl ⟨0, 2, rfl, HM2.out (by omega) c2, (B12.setCell (Nat.le_succ _) _).setCell (Nat.le_succ _) _⟩
      · have t2 : decide (3 * S < l) = false := by simp; omega
        have q3 : 0 ≤ l + S - 1 := by omega
        go_wp2_with fail
        have K0 : Hid (Below w2.heap.size w2 w2) := Below.refl _ _
        go_region_with (go_at_call 16; refine (CL _).mono ?_; rintro ee w3 ⟨rfl, hb3⟩; (first | (have hB2 : Below w2.heap.size w2 w3 := hB.trans ((⟨hb3.os, hb3.tape, hb3.output, hb3.size, hb3.block⟩ : Below _ _ _).mono hB.size); clear hb3; obtain ⟨v0, v1, v2, v3⟩ := res_cells (HX2.out.below hB2 (by omega)); obtain ⟨u0, u1, u2, u3, u4, u5, u6, u7, u8⟩ := box9 (HY2.out.below hB2 (by omega))) | (have hB : Below w2.heap.size w2 w3 := ⟨hb3.os, hb3.tape, hb3.output, hb3.size, hb3.block⟩; clear hb3; obtain ⟨u0, u1, u2, u3, u4, u5, u6, u7, u8⟩ := box9 (HY2.out.below hB (by omega)))))
        all_goals
          have B4 : Below w.heap.size w w3 := B12.trans (hB2.mono B12.size)
          go_wp2
          exact bodyPost_ret (v := intR 0 ((l + S - 1) / S)) (by simp [results, Try.results10, go_sem, intR, v0, v1]) rfl ⟨(l + S - 1) / S, 0, rfl, HM.out _ rfl (by omega) (by omega), (B4.setCell (Nat.le_succ _) _).setCell (Nat.le_succ _) _⟩
end Go.Proofs.Ytdnankopblkblab

namespace Go.Proofs.Ytdnankopblkblab
open Go.RowKit F256

/-- R rows, none of them there yet -/
theorem ownE_made {w : World} {lo hi g R : Nat} {f : Mat} {n : Nat → Nat} (h : w.ownsRow lo 22 1 (.slice (some ⟨g, 0, none⟩) R R) R (valsOf R fun _ => nilS)) (h1 : lo ≤ g) (h2 : g < hi) (hn : ∀ i, i < R → n i = 0) :
    OwnE w lo hi (.slice (some ⟨g, 0, none⟩) R R) R n f g R (fun _ => nilS) :=
  ⟨rfl, h1, h2, h, fun i hi => by rw [hn i hi]; exact own_nil _ _ _ _, ⟨fun i hi h => by simp [Value.ownBlock] at h, fun i j hi hj hne k hk => by simp [Value.ownBlock] at hk⟩⟩
/-- the rows' lengths behind k of them -/
def lenN (N k : Nat) : Nat → Nat := fun i => if i < k then N else 0
end Go.Proofs.Ytdnankopblkblab

namespace Go.Proofs.Ytdnankopblkblab
open Go.RowKit F256
set_option linter.unusedVariables false
set_option linter.unusedSimpArgs false

/-- list[m:] -/
theorem run_slice_from (b off n cap m : Nat) (hm : m ≤ n) : ∃ ao, (cap ≠ m → ao = some ⟨b, off + m, none⟩) ∧ ∀ w, (Instr.slice 22 (.slice (some ⟨b, off, none⟩) n cap) (some (.int .i64 (m : Int))) none none).run Try.prog w = .ok (.slice ao (n - m) (cap - m)) w := by
  by_cases h : cap = m
  · refine ⟨some ⟨b, off, none⟩, fun k => absurd h k, fun w => ?_⟩
    have e1 : (m : Int) ≤ (n : Int) := by omega
    subst h
    simp [Instr.slice, run_underlying Try.underlying22, Instr.sliceBounds, Instr.sliceBound, asIntOf, go_sem, e1, hm]
  · refine ⟨some ⟨b, off + m, none⟩, fun _ => rfl, fun w => ?_⟩
    have e1 : (m : Int) ≤ (n : Int) := by omega
    simp [Instr.slice, run_underlying Try.underlying22, Instr.sliceBounds, Instr.sliceBound, asIntOf, go_sem, e1, hm, h]
theorem rowLength_be (s : Nat → Int) (W : Nat) (hW : s 2 * 4 = (W : Int)) (h1 : 1 ≤ s 2) (h2 : s 2 ≤ 1000) (w : World) :
    Calls Try.prog 16 #[.agg #[.int .i64 (s 0), .int .i64 (s 1), .int .i64 (s 2), .int .i64 (s 3), .int .i64 (s 4), .int .i64 (s 5), .int .i64 (s 6), .int .i64 (s 7), .int .i64 (s 8)]] w fun e w' => e = .returned (.int .i64 (W : Int)) ∧ Below w.heap.size w w' :=
  (rowLength_any s h1 h2 w).mono fun e w' h => ⟨by rw [h.1, hW], h.2⟩
theorem rd_part {w : World} {hi gb n cap : Nat} {f : Nat → Nat} (r : Rd w hi (.slice (some ⟨gb, 0, none⟩) n cap) n f) (A c C : Nat) (h : A + c ≤ n) : Rd w hi (.slice (some ⟨gb, A, none⟩) c C) c (fun i => f (A + i)) := by
  obtain ⟨ao, cp, he, hm, hc⟩ := r
  refine ⟨_, _, rfl, by omega, fun h0 => ?_⟩
  obtain ⟨b, off, h1, h2, h3⟩ := hc (by omega)
  simp only [Value.slice.injEq, true_and] at he
  obtain ⟨he, -⟩ := he
  rw [← he] at h1
  simp only [Option.some.injEq, Addr.mk.injEq] at h1
  obtain ⟨rfl, rfl, -⟩ := h1
  refine ⟨_, _, rfl, h2, fun i hi => ?_⟩
  have := h3 (A + i) (by omega)
  rw [Nat.zero_add] at this
  exact this
theorem full_stored {w4 : World} {g hi W gl k : Nat} {x : Value} (ho : Own w4 g hi (.slice (some ⟨g, 0, none⟩) W W) W (fun _ => 0)) (h : gl < g) : (w4.setCell ⟨gl, k, none⟩ x).heap[g]? = some (.cells (cellsOf W fun _ => 0).toArray 5 (0, 0)) :=
  ((out_store w4 gl (gl + 1) gl k x (Nat.le_refl _) (Nat.lt_succ_self _)).block g (.inr h)).trans ho.full
theorem OwnE.filled {wA w' : World} {lo hi hi' B : Nat} {v : Value} {R : Nat} {n : Nat → Nat} {M M' : Mat} {g cap k : Nat} {e : Nat → Value} (h : OwnE wA lo hi v R n M g cap e) (hb : Below B wA w') (hg : g < B) (hhi : hi ≤ hi')
    (hoth : ∀ j, j < R → j ≠ k → ∀ q, (e j).ownBlock = some q → q < B) (ho : Own w' lo hi' (e k) (n k) (M' k)) (hM : ∀ j, j < R → j ≠ k → M' j = M j) : OwnE w' lo hi' v R n M' g cap e := by
  refine ⟨h.val, h.low, Nat.lt_of_lt_of_le h.high hhi, row_kept h.row fun q hq => hb.block q ?_, fun j hj => ?_, h.apart⟩
  · rw [h.val] at hq
    simp [Value.ownBlock] at hq
    omega
  · by_cases c : j = k
    · subst c; exact ho
    · rw [hM j hj c]
      exact ((h.each j hj).kept fun q hq => hb.block q (hoth j hj c q hq)).weaken (Nat.le_refl _) hhi
theorem part_lt {D n k : Nat} (hD : 1 ≤ D) (hn : 1 ≤ n) (h : k < partN D n) : 4 * D * k < n := by
  unfold partN at h
  have h2 : (k + 1) * (4 * D) ≤ n + 4 * D - 1 := (Nat.le_div_iff_mul_le (by omega)).mp h
  rw [Nat.succ_mul, Nat.mul_comm] at h2
  omega
theorem splitN_row {D n k c : Nat} {f : Nat → Nat} (hc : c ≤ 4 * D) (h : (∀ i, i < 4 * D → (i < c ↔ 4 * D * k + i < n))) : splice (cellsOf (4 * D) fun _ => 0) 0 (cellsOf c fun i => f (4 * D * k + i)) = cellsOf (4 * D) (splitN D n f k) := by
  refine splice_cells (4 * D) 0 c _ _ _ (by omega) (fun i hi => ?_)
  unfold splitN
  by_cases hc' : i < c
  · rw [if_pos ((h i hi).mp hc'), if_pos ⟨by omega, by omega⟩, Nat.sub_zero]
  · rw [if_neg (fun x => hc' ((h i hi).mpr x)), if_neg (by omega)]

set_option maxHeartbeats 8000000 in
theorem implSplit_any (s : Nat → Int) (vb : Value) (n : Nat) (f : Nat → Nat) (lo hi : Nat) (w : World) (ob : Own w lo hi vb n f) (hh : hi ≤ w.heap.size) :
    Calls Try.prog 6 #[shapeV s, vb] w fun ee w' => ∃ x v', ee = .returned (bytesR x v') ∧ SoAns s n x ∧ OwnB w' w.heap.size w'.heap.size v' (if x = 0 then partN (s 2).toNat n else 0) (fun _ => 4 * (s 2).toNat) (splitN (s 2).toNat n f) ∧ Below w.heap.size w w' := by
  have HOB : Hid (Own w lo hi vb n f) := ob
  have hmb : n ≤ 9223372036854775807 := by obtain ⟨_, _, _, h, _⟩ := ob.rd; unfold maxLen at h; omega
  obtain ⟨aob, capb, rfl⟩ := ob.slice
  have CP := implParts_any s (n : Int)
  unfold shapeV at *
  clear ob
  go_enter Try.func6, Try.ntmps6
  go_wp2_with fail
  refine (CP _).mono ?_
  rintro e w1 ⟨x, c, rfl, hp, b1'⟩
  obtain ⟨X1, X2, B1, z1⟩ := two_new b1'
  obtain ⟨x0, x1, x2, x3, x4, x5, x6, x7, x8⟩ := box9 X1
  obtain ⟨y0, y1, y2, y3⟩ := res_cells X2
  have z0 : w.heap.size < w1.heap.size := by omega
  have HP : Hid (PfAns s (n : Int) x c) := hp
  have HX1 : Hid (Box w1 w.heap.size #[.int .i64 (s 0), .int .i64 (s 1), .int .i64 (s 2), .int .i64 (s 3), .int .i64 (s 4), .int .i64 (s 5), .int .i64 (s 6), .int .i64 (s 7), .int .i64 (s 8)] 25) := X1
  have HX2 : Hid (Box w1 (w.heap.size + 1) #[.int .i64 0, .slice none 0 0] 30) := X2
  have BA : Below w.heap.size w (w1.alloc (.cells #[.int .i64 c, .int .i64 x] 37)) := B1.alloc B1.size _
  clear b1' X1 X2 hp CP
  unfold intR
  by_cases hc0 : c = 0
  · subst hc0
    have HOK : Hid (OkShape s ∧ 1 ≤ (n : Int) ∧ (n : Int) ≤ 3 * (s 2 * 4) ∧ x = ((n : Int) + s 2 * 4 - 1) / (s 2 * 4)) := by
      rcases HP.out with ⟨_, h, _⟩ | ⟨_, _, h, _⟩ | ⟨_, _, _, h, _⟩ | ⟨h1, h2, h3, _, h4⟩
      · omega
      · omega
      · omega
      · exact ⟨h1, h2, h3, h4⟩
    obtain ⟨D, hD, hD1, hD3⟩ := ok_data HOK.out.1
    have hn1 : 1 ≤ n := by have := HOK.out.2.1; omega
    have hn2 : n ≤ 12 * D := by have := HOK.out.2.2.1; rw [hD] at this; omega
    have HDT : Hid ((s 2).toNat = D) := by show (s 2).toNat = D; rw [hD]; simp
    have hxP : x = ((partN D n : Nat) : Int) := by rw [HOK.out.2.2.2, hD, part_int hD1]
    have HPL : Hid (∀ k, k < partN D n → 4 * D * k < n) := fun k hk => part_lt hD1 hn1 hk
    obtain ⟨p1, p2, p3, p4⟩ := part_bounds hD1 hD3 hn1 hn2
    have HSR : Hid (∀ k c, c ≤ 4 * D → (∀ i, i < 4 * D → (i < c ↔ 4 * D * k + i < n)) → splice (cellsOf (4 * D) fun _ => 0) 0 (cellsOf c fun i => f (4 * D * k + i)) = cellsOf (4 * D) (splitN D n f k)) := fun k c h1 h2 => splitN_row h1 h2
    have HANS : Hid (∀ w' v', OwnB w' w.heap.size w'.heap.size v' (partN D n) (fun _ => 4 * D) (splitN D n f) → Below w.heap.size w w' → ∃ x v'', Ending.returned (bytesR 0 v') = .returned (bytesR x v'') ∧ SoAns s n x ∧ OwnB w' w.heap.size w'.heap.size v'' (if x = 0 then partN (s 2).toNat n else 0) (fun _ => 4 * (s 2).toNat) (splitN (s 2).toNat n f) ∧ Below w.heap.size w w') := fun w' v' ho hb => ⟨0, v', rfl, ⟨x, HP.out⟩, by rw [if_pos rfl, HDT.out]; exact ho, hb⟩
    obtain ⟨M, hM⟩ : ∃ M, M = splitN D n f := ⟨_, rfl⟩
    obtain ⟨P, hP⟩ : ∃ P, P = partN D n := ⟨_, rfl⟩
    rw [← hP] at hxP p1 p2 p3 p4 HPL HANS
    rw [← hM] at HSR HANS
    obtain ⟨W, hW⟩ : ∃ W, W = 4 * D := ⟨_, rfl⟩
    rw [← hW] at p3 p4 HPL HSR HANS
    have CW := rowLength_be s W (by rw [hD]; omega) (by omega) (by omega)
    have hW12 : W ≤ 12 ∧ 4 ≤ W := by omega
    have HNW : Hid (n ≤ P * W) := p3
    subst hxP
    clear hP hM hW hD p3 p4 HOK HP HDT hD1 hD3 hn2
    obtain ⟨gb, capb', hgb, gb1, gb2, gb3, gb4⟩ := HOB.out.form (by omega)
    simp only [Value.slice.injEq, true_and] at hgb
    obtain ⟨rfl, rfl⟩ := hgb
    have HRB : Hid (∀ wx, Below w.heap.size w wx → Rd wx hi (.slice (some ⟨gb, 0, none⟩) n capb) n f) := fun wx h => HOB.out.rd.below h hh
    obtain ⟨wA, hwA⟩ : ∃ wA, wA = w1.alloc (.cells #[.int .i64 0, .int .i64 (P : Int)] 37) := ⟨_, rfl⟩
    have HXA : Hid (Box wA w.heap.size #[.int .i64 (s 0), .int .i64 (s 1), .int .i64 (s 2), .int .i64 (s 3), .int .i64 (s 4), .int .i64 (s 5), .int .i64 (s 6), .int .i64 (s 7), .int .i64 (s 8)] 25) := by
      show Box wA w.heap.size _ _
      rw [hwA]; exact HX1.out.allocd _
    have HXB : Hid (Box wA (w.heap.size + 1) #[.int .i64 0, .slice none 0 0] 30) := by
      show Box wA (w.heap.size + 1) _ _
      rw [hwA]; exact HX2.out.allocd _
    have HBA : Hid (Below w.heap.size w wA) := by show Below w.heap.size w wA; rw [hwA]; exact BA
    have zA : w.heap.size + 1 < wA.heap.size := HXB.out.lt
    clear BA HX1 HX2 HOB x0 x1 x2 x3 x4 x5 x6 x7 x8 y0 y1 y2 y3
    go_wp2_with (at_make; refine wp_makeM _ rfl _ _ rfl _ _ P rfl rfl rfl rfl (by omega) ?_; intro w2 hown2 hb2 hz2)
    have hGA : wA.heap.size = w1.heap.size + 1 := by rw [hwA]; simp
    rw [← hwA] at hown2 hb2 hz2
    rw [← hGA]
    clear hwA hGA
    have E0 : OwnE w2 wA.heap.size w2.heap.size (.slice (some ⟨wA.heap.size, 0, none⟩) P P) P (lenN W 0) M wA.heap.size P (fun _ => nilS) := ownE_made hown2 (Nat.le_refl _) hz2 (fun i hi => by simp [lenN])
    clear hown2
    go_loopw [7, 25] (fun u i wr => ∃ k : Nat, k ≤ P ∧ i = .int .i64 k ∧ (k < P → u = .slice (some ⟨gb, W * k, none⟩) (n - W * k) (capb - W * k)) ∧ ∃ e', OwnE wr wA.heap.size wr.heap.size (.slice (some ⟨wA.heap.size, 0, none⟩) P P) P (lenN W k) M wA.heap.size P e' ∧ Below wA.heap.size wA wr) (fun _ i _ => P - (intOf i).toNat)
    case atStart => exact ⟨0, Nat.zero_le _, rfl, fun _ => by simp, _, E0, hb2⟩
    case round =>
      clear E0 hb2 hz2
      obtain ⟨k, hk, rfl, hu, e', hE, hb⟩ := hrel
      by_cases hlt : k < P
      · obtain rfl := hu hlt
        have HOE : Hid (OwnE wr wA.heap.size wr.heap.size (.slice (some ⟨wA.heap.size, 0, none⟩) P P) P (lenN W k) M wA.heap.size P e') := hE
        have HB : Hid (Below wA.heap.size wA wr) := hb
        have HBW : Hid (Below w.heap.size w wr) := HBA.out.trans (hb.mono HBA.out.size)
        have szr := hb.size
        have szg := hE.high
        obtain ⟨x0, x1, x2, x3, x4, x5, x6, x7, x8⟩ := box9 (HXA.out.below hb (by omega))
        obtain ⟨A, hA⟩ : ∃ A, A = W * k := ⟨_, rfl⟩
        have hAn : A < n := by rw [hA]; exact HPL.out k hlt
        have hA1 : k + 1 < P → A + W < n := fun h => by have := HPL.out (k + 1) h; rw [Nat.mul_succ, ← hA] at this; exact this
        have hA2 : ¬ k + 1 < P → n ≤ A + W := fun h => by
          have h1 := HNW.out
          have h2 : P = k + 1 := by omega
          rw [h2, Nat.succ_mul, Nat.mul_comm, ← hA] at h1
          exact h1
        obtain ⟨Ln, hLn⟩ : ∃ x, x = n - A := ⟨_, rfl⟩
        obtain ⟨Cp, hCp⟩ : ∃ x, x = capb - A := ⟨_, rfl⟩
        obtain ⟨c, hc⟩ : ∃ c, c = Nat.min Ln W := ⟨_, rfl⟩
        have hcm : c ≤ Ln ∧ c ≤ W ∧ (c = Ln ∨ c = W) := by
          have : c = min Ln W := hc
          omega
        have HSP : Hid (splice (cellsOf W fun _ => 0) 0 (cellsOf c fun i => f (A + i)) = cellsOf W (M k)) := by
          show splice (cellsOf W fun _ => 0) 0 (cellsOf c fun i => f (A + i)) = cellsOf W (M k)
          rw [hA]
          exact HSR.out k c hcm.2.1 (fun i hi => by rw [← hA]; omega)
        have HL1 : Hid ((cellsOf c fun i => f (A + i)).length = Nat.min Ln W) := by show (cellsOf c fun i => f (A + i)).length = Nat.min Ln W; rw [cellsOf_length, hc]
        have HL2 : Hid (0 + (cellsOf c fun i => f (A + i)).length ≤ (cellsOf W fun _ => 0).length) := by
          show 0 + (cellsOf c fun i => f (A + i)).length ≤ (cellsOf W fun _ => 0).length
          rw [cellsOf_length, cellsOf_length]; omega
        obtain ⟨ao, hao, hsl⟩ := run_slice_from gb A Ln Cp c hcm.1
        have HAO : Hid (k + 1 < P → (.slice ao (Ln - c) (Cp - c) : Value) = .slice (some ⟨gb, W * (k + 1), none⟩) (n - W * (k + 1)) (capb - W * (k + 1))) := fun h => by
          have h1 := hA1 h
          have h2 : c = W := by omega
          rw [hao (by omega), Nat.mul_succ, ← hA, h2]
          congr 1 <;> omega
        have HRD : Hid (∀ wx, Below w.heap.size w wx → Rd wx hi (.slice (some ⟨gb, A, none⟩) c Cp) c (fun i => f (A + i))) := fun wx h => rd_part (HRB.out wx h) A c Cp (by omega)
        obtain ⟨r1, hr1⟩ : ∃ x, x = Ln - c := ⟨_, rfl⟩
        obtain ⟨r2, hr2⟩ : ∃ x, x = Cp - c := ⟨_, rfl⟩
        rw [← hr1, ← hr2] at hsl HAO
        have hlc : (cellsOf c fun i => f (A + i)).length = c := cellsOf_length _ _
        rw [← hA, ← hLn, ← hCp]
        have hc12 : c ≤ 12 := by omega
        clear hE hb hu hA hA1 hA2 hLn hCp hc hcm hao hr1 hr2 hAn
        go_wp2_with fail
        refine (CW _).mono ?_
        rintro ee w3 ⟨rfl, b3⟩
        have E3 := HOE.out.below b3 (Nat.le_refl _)
        have s3 := b3.size
        have HB3 : Hid (Below wA.heap.size wA w3) := HB.out.trans (b3.mono szr)
        have HW3 : Hid (Below w.heap.size w w3) := HBW.out.trans (b3.mono HBW.out.size)
        have HE3 : Hid (OwnE w3 wA.heap.size wr.heap.size (.slice (some ⟨wA.heap.size, 0, none⟩) P P) P (lenN W k) M wA.heap.size P e') := E3
        clear x0 x1 x2 x3 x4 x5 x6 x7 x8 b3 E3 HOE HB HBW
        go_wp2_with (first | (at_make; refine wp_makeB _ rfl _ _ rfl _ _ W rfl rfl rfl rfl (by omega) ?_; intro w4 ho4 hb4 hz4; have q1 : w4.cell? ⟨wA.heap.size, k, none⟩ = some (e' k) := (HE3.out.below hb4 s3).cell k hlt; have q2 : w4.frozen? ⟨wA.heap.size, k, none⟩ = false := (HE3.out.below hb4 s3).frozen k; have HO4 : Hid (Own w4 w3.heap.size w4.heap.size (.slice (some ⟨w3.heap.size, 0, none⟩) W W) W (fun _ => 0)) := ho4; have HB4 : Hid (Below w3.heap.size w3 w4) := hb4; have HWB : Hid (Below w.heap.size w (w4.setCell ⟨wA.heap.size, k, none⟩ (.slice (some ⟨w3.heap.size, 0, none⟩) W W))) := ((HW3.out.trans (hb4.mono HW3.out.size)).setCell (Nat.le_trans (Nat.le_succ _) (Nat.le_of_lt zA)) _); clear ho4 hb4) | (refine wpList_copy_splice rfl (.tmp 38) (.tmp 39) 22 22 rfl 5 Try.underlying22 size_u8 (some ⟨w3.heap.size, 0, none⟩) (some ⟨gb, A, none⟩) W W Ln Cp ?_ rfl w3.heap.size 0 (cellsOf W fun _ => 0) 5 (full_stored HO4.out (Nat.lt_of_lt_of_le szg s3)) (cellsOf c fun i => f (A + i)) HL1.out (fun hp => ⟨rfl, copy_src (HRD.out _ HWB.out) (by rw [cellsOf_length] at hp ⊢; exact hp)⟩) HL2.out (cellsOf_one c _) w3.heap.size (w4.setCell ⟨wA.heap.size, k, none⟩ (.slice (some ⟨w3.heap.size, 0, none⟩) W W)) (Below.refl _ _) (Nat.le_refl _) ?_; (simp [Act.eval]); intro w6 hF6 hb6; rw [hlc]))
        have HE4 := HE3.out.below HB4.out s3
        have ER := HE4.lay k hlt (n' := lenN W (k + 1)) (M' := fun j => if j = k then (fun _ => 0) else M j) (lo2 := w3.heap.size) (hi2 := w4.heap.size) (x := .slice (some ⟨w3.heap.size, 0, none⟩) W W) (by
          rw [show lenN W (k + 1) k = W by simp [lenN]]
          exact HO4.out.congr (fun i _ => by simp)) s3 (Nat.le_trans s3 HB4.out.size) (fun j hj hne => by
          unfold lenN
          by_cases cc : j < k
          · rw [if_pos cc, if_pos (by omega)]
          · rw [if_neg cc, if_neg (by omega)]) (fun j hj hne => by simp [hne])
        have F6 := hF6.out
        rw [HSP.out] at F6
        have s6 : w4.heap.size ≤ w6.heap.size := by have := hb6.size; simpa using this
        have O6 : Own w6 wA.heap.size w6.heap.size (.slice (some ⟨w3.heap.size, 0, none⟩) W W) W (M k) := own_of_full F6 HB3.out.size (by unfold maxLen; omega)
        have E6 := ER.filled (k := k) (M' := M) (hi' := w6.heap.size) hb6 (Nat.lt_of_lt_of_le szg s3) s6 (fun j hj hne q hq => by
          simp only [if_neg hne] at hq
          exact ((HE3.out.each j hj).1.lt q hq).2) (by
          rw [show lenN W (k + 1) k = W by simp [lenN]]
          simp only [if_pos]
          exact O6) (fun j hj hne => by simp [hne])
        have B6 : Below wA.heap.size wA w6 := ((HB3.out.trans (HB4.out.mono HB3.out.size)).setCell (Nat.le_refl _) _).trans (hb6.mono HB3.out.size)
        clear HE4 ER F6 O6 hF6 hb6 HO4 HB4 HWB HE3 HRD
        go_roundw
        case rel => exact ⟨k + 1, by omega, by go_num, HAO.out, _, E6, B6⟩
        case measure => simp [intOf]; omega
      · obtain rfl : k = P := by omega
        have E9 : OwnE wr wA.heap.size wr.heap.size (.slice (some ⟨wA.heap.size, 0, none⟩) k k) k (fun _ => W) M wA.heap.size k e' := ⟨hE.val, hE.low, hE.high, hE.row, fun i hi => by
          have := hE.each i hi
          rw [show lenN W k i = W by simp [lenN, hi]] at this
          exact this, hE.apart⟩
        have B9 : Below w.heap.size w wr := HBA.out.trans (hb.mono HBA.out.size)
        have X9 := HXB.out.below hb zA
        have z9 := X9.lt
        have HE9 : Hid (OwnE wr wA.heap.size wr.heap.size (.slice (some ⟨wA.heap.size, 0, none⟩) k k) k (fun _ => W) M wA.heap.size k e') := E9
        obtain ⟨r0, r1, r2, r3⟩ := res_cells X9
        clear hE hb hu E9 X9
        go_wp2
        refine bodyPost_ret (v := bytesR 0 (.slice (some ⟨wA.heap.size, 0, none⟩) k k)) (by simp [results, Try.results6, go_sem, bytesR, r0, r1]) rfl (HANS.out _ _ ?_ ((B9.setCell (Nat.le_succ _) _).setCell (Nat.le_succ _) _))
        have o1 := out_store wr (w.heap.size + 1) (w.heap.size + 2) (w.heap.size + 1) 0 (.int .i64 0) (Nat.le_refl _) (by omega)
        have o2 := out_store (wr.setCell ⟨w.heap.size + 1, 0, none⟩ (.int .i64 0)) (w.heap.size + 1) (w.heap.size + 2) (w.heap.size + 1) 1 (.slice (some ⟨wA.heap.size, 0, none⟩) k k) (Nat.le_refl _) (by omega)
        exact .inr ((OwnM.out ⟨_, _, _, HE9.out⟩ (o1.trans o2) (.inr (by omega))).weaken (by omega) (by rw [(o1.trans o2).size]; exact Nat.le_refl _))
  · have tc : (c != 0) = true := by simp [hc0]
    clear x0 x1 x2 x3 x4 x5 x6 x7 x8
    go_wp2
    have sz2 : w.heap.size + 1 < ((w1.setCell ⟨w.heap.size + 1, 0, none⟩ (.int .i64 c)).setCell ⟨w.heap.size + 1, 1, none⟩ (.slice none 0 0)).heap.size := by simp; exact z1
    have u0 : ((w1.setCell ⟨w.heap.size + 1, 0, none⟩ (.int .i64 c)).setCell ⟨w.heap.size + 1, 1, none⟩ (.slice none 0 0)).cell? ⟨w.heap.size + 1, 0, none⟩ = some (.int .i64 c) := by simp [go_sem, y0, y1]
    have u1 : ((w1.setCell ⟨w.heap.size + 1, 0, none⟩ (.int .i64 c)).setCell ⟨w.heap.size + 1, 1, none⟩ (.slice none 0 0)).cell? ⟨w.heap.size + 1, 1, none⟩ = some (.slice none 0 0) := by simp [go_sem, y0, y1]
    have q0 := alloc_cell (o := .cells #[.int .i64 c, .int .i64 x] 37) sz2 u0
    have q1 := alloc_cell (o := .cells #[.int .i64 c, .int .i64 x] 37) sz2 u1
    refine bodyPost_ret (v := bytesR c (.slice none 0 0)) (by simp [results, Try.results6, go_sem, bytesR, q0, q1]) rfl ⟨c, _, rfl, ⟨x, HP.out⟩, ?_, ((B1.setCell (Nat.le_succ _) _).setCell (Nat.le_succ _) _).alloc (by simp; omega) _⟩
    rw [if_neg hc0]
    exact OwnB.none _ _ _ _ _
end Go.Proofs.Ytdnankopblkblab

namespace Go.Proofs.Ytdnankopblkblab
open Go.RowKit F256
set_option linter.unusedVariables false
set_option linter.unusedSimpArgs false

set_option maxHeartbeats 1000000 in
/-- whether all rows have W bytes -/
theorem allLong_any (v : Value) (R : Nat) (n : Nat → Nat) (f : Mat) (hi : Nat) (W : Nat) (hW : W ≤ 1000) (bb : Bool) (hbb : bb = true ↔ ∀ i, i < R → n i = W) (w : World) (r : RdM w hi v R n f) :
    Calls Try.prog 19 #[v, .int .i64 (W : Int)] w fun e w' => e = .returned (.bool bb) ∧ w' = w := by
  obtain ⟨ao, cap, e, rfl, hm, hc, he⟩ := r
  unfold maxLen at hm
  have HB : Hid (bb = true ↔ ∀ i, i < R → n i = W) := hbb
  clear hbb
  go_enter Try.func19, Try.ntmps19
  go_wp2
  go_loop [9] (fun i => ∃ k : Nat, k ≤ R ∧ i = .int .i64 k ∧ ∀ i, i < k → n i = W) (fun i => R - (intOf i).toNat)
  case atStart => exact ⟨0, Nat.zero_le _, rfl, fun i hi => by omega⟩
  case round =>
    obtain ⟨k, hk, rfl, hall⟩ := hrel
    have HALL : Hid (∀ i, i < k → n i = W) := hall
    clear hall
    by_cases hlt : k < R
    · obtain ⟨b, off, rfl, hblt, hcell⟩ := hc (by omega)
      obtain ⟨aok, capk, hsk, hmk, hqk⟩ := he k hlt
      have hck : w.cell? ⟨b, off + k, none⟩ = some (.slice aok (n k) capk) := by rw [← hsk]; exact hcell k hlt
      unfold maxLen at hmk
      obtain ⟨nk, hnk⟩ : ∃ x, x = n k := ⟨_, rfl⟩
      rw [← hnk] at hck hmk
      have HN : Hid (nk = n k) := hnk
      clear hc he hcell hsk hqk hnk
      by_cases heq : nk = W
      · subst heq
        have tn : ((nk : Int) != (nk : Int)) = false := by simp
        go_wp2
        go_round
        case rel => exact ⟨k + 1, by omega, by go_num, fun i hi => by
                      by_cases cc : i = k
                      · rw [cc, ← HN.out]
                      · exact HALL.out i (by omega)⟩
        case measure => simp [intOf]; omega
      · have tn : ((nk : Int) != (W : Int)) = true := by simp; omega
        have HF : Hid (bb = false) := by
          show bb = false
          cases hb : bb with
          | false => rfl
          | true => exact absurd (HN.out.trans (HB.out.mp hb k hlt)) heq
        clear heq
        go_wp2
        go_ret
        have hf := HF.out
        subst hf
        exact ⟨rfl, rfl⟩
    · obtain rfl : k = R := by omega
      have HF : Hid (bb = true) := HB.out.mpr HALL.out
      go_wp2
      go_ret
      have hf := HF.out
      subst hf
      exact ⟨rfl, rfl⟩
/-- the first k rows of W bytes, one behind the other, zeros behind them -/
def upTo (W : Nat) (f : Mat) (k : Nat) : Nat → Nat := fun i => if i < W * k then joinW W f i else 0
theorem upTo_zero (W : Nat) (f : Mat) : upTo W f 0 = fun _ => 0 := by funext i; simp [upTo]
theorem upTo_row {W L k c : Nat} {f : Mat} (hc : c ≤ W) (h1 : W * k + c ≤ L) (h2 : c = L - W * k ∨ c = W) : splice (cellsOf L (upTo W f k)) (W * k) (cellsOf c (f k)) = cellsOf L (upTo W f (k + 1)) := by
  refine splice_cells L (W * k) c _ _ _ h1 (fun i hi => ?_)
  unfold upTo
  rw [Nat.mul_succ]
  by_cases hk : i < W * k
  · rw [if_pos (by omega), if_neg (by omega), if_pos hk]
  · by_cases hk2 : i < W * k + c
    · rw [if_pos (by omega), if_pos ⟨by omega, hk2⟩]
      have := joinW_at W f k (i - W * k) (by omega)
      rw [← this]
      congr 1
      omega
    · rw [if_neg (by omega), if_neg (by omega), if_neg hk]
theorem copy_src_part {w : World} {hi n c cap : Nat} {ao : Option Addr} {f : Nat → Nat} (r : Rd w hi (.slice ao n cap) n f) (hc : c ≤ n) (h : 0 < (cellsOf c f).length) : ∃ ad, ao = some ad ∧ ∀ j v, (cellsOf c f)[j]? = some v → w.cell? (ad.add j) = some v := by
  have h' := h
  rw [cellsOf_length] at h'
  obtain ⟨ad, h1, h2⟩ := copy_src r (by rw [cellsOf_length]; omega)
  refine ⟨ad, h1, fun j v hj => h2 j v ?_⟩
  by_cases hjc : j < c
  · rw [cellsOf_get c f j hjc] at hj
    rw [cellsOf_get n f j (by omega)]
    exact hj
  · rw [List.getElem?_eq_none (by rw [cellsOf_length]; omega)] at hj
    cases hj

set_option maxHeartbeats 8000000 in
theorem implJoin_any (s : Nat → Int) (v : Value) (R : Nat) (n : Nat → Nat) (f : Mat) (l : Int) (h1 : Nat) (w : World) (r : RdM w h1 v R n f) (hh : h1 ≤ w.heap.size) :
    Calls Try.prog 8 #[shapeV s, v, .int .i64 l] w fun ee w' => ∃ x v', ee = .returned (bytesR x v') ∧ JoAns s R n l x ∧ Own w' w.heap.size w'.heap.size v' (if x = 0 then l.toNat else 0) (joinW (4 * (s 2).toNat) f) ∧ Below w.heap.size w w' := by
  have HR : Hid (RdM w h1 v R n f) := r
  obtain ⟨ao, cap, e, rfl, hm, hc, he⟩ := r
  unfold maxLen at hm
  have HHE : Hid (∀ i, i < R → Rd w h1 (e i) (n i) (f i)) := he
  have HHC : Hid (R ≠ 0 → ∃ b off, ao = some ⟨b, off, none⟩ ∧ b < h1 ∧ ∀ i, i < R → w.cell? ⟨b, off + i, none⟩ = some (e i)) := hc
  clear hc he
  have CP := implParts_any s l
  unfold shapeV at *
  go_enter Try.func8, Try.ntmps8
  go_wp2_with fail
  refine (CP _).mono ?_
  rintro e0 w1 ⟨x, c, rfl, hp, b1'⟩
  obtain ⟨X1, X2, B1, z1⟩ := two_new b1'
  obtain ⟨y0, y1, y2, y3⟩ := res_cells X2
  have z0 : w.heap.size < w1.heap.size := by omega
  have HP : Hid (PfAns s l x c) := hp
  have HX1 : Hid (Box w1 w.heap.size #[.int .i64 (s 0), .int .i64 (s 1), .int .i64 (s 2), .int .i64 (s 3), .int .i64 (s 4), .int .i64 (s 5), .int .i64 (s 6), .int .i64 (s 7), .int .i64 (s 8)] 25) := X1
  have HX2 : Hid (Box w1 (w.heap.size + 1) #[.int .i64 0, .slice none 0 0] 33) := X2
  have BA : Below w.heap.size w (w1.alloc (.cells #[.int .i64 c, .int .i64 x] 37)) := B1.alloc B1.size _
  clear b1' X1 X2 hp CP
  unfold intR
  have HQ : Hid (∀ d : Int, (((w1.setCell ⟨w.heap.size + 1, 0, none⟩ (.int .i64 d)).setCell ⟨w.heap.size + 1, 1, none⟩ (.slice none 0 0)).alloc (.cells #[.int .i64 c, .int .i64 x] 37)).cell? ⟨w.heap.size + 1, 0, none⟩ = some (.int .i64 d) ∧ (((w1.setCell ⟨w.heap.size + 1, 0, none⟩ (.int .i64 d)).setCell ⟨w.heap.size + 1, 1, none⟩ (.slice none 0 0)).alloc (.cells #[.int .i64 c, .int .i64 x] 37)).cell? ⟨w.heap.size + 1, 1, none⟩ = some (.slice none 0 0)) := fun d => by
    have sz2 : w.heap.size + 1 < ((w1.setCell ⟨w.heap.size + 1, 0, none⟩ (.int .i64 d)).setCell ⟨w.heap.size + 1, 1, none⟩ (.slice none 0 0)).heap.size := by simp; exact z1
    have u0 : ((w1.setCell ⟨w.heap.size + 1, 0, none⟩ (.int .i64 d)).setCell ⟨w.heap.size + 1, 1, none⟩ (.slice none 0 0)).cell? ⟨w.heap.size + 1, 0, none⟩ = some (.int .i64 d) := by simp [go_sem, y0, y1]
    have u1 : ((w1.setCell ⟨w.heap.size + 1, 0, none⟩ (.int .i64 d)).setCell ⟨w.heap.size + 1, 1, none⟩ (.slice none 0 0)).cell? ⟨w.heap.size + 1, 1, none⟩ = some (.slice none 0 0) := by simp [go_sem, y0, y1]
    exact ⟨alloc_cell sz2 u0, alloc_cell sz2 u1⟩
  by_cases hc0 : c = 0
  · subst hc0
    have HOK : Hid (OkShape s ∧ 1 ≤ l ∧ l ≤ 3 * (s 2 * 4) ∧ x = (l + s 2 * 4 - 1) / (s 2 * 4)) := by
      rcases HP.out with ⟨_, h, _⟩ | ⟨_, _, h, _⟩ | ⟨_, _, _, h, _⟩ | ⟨h1, h2, h3, _, h4⟩
      · omega
      · omega
      · omega
      · exact ⟨h1, h2, h3, h4⟩
    obtain ⟨D, hD, hD1, hD3⟩ := ok_data HOK.out.1
    have HDT : Hid ((s 2).toNat = D) := by show (s 2).toNat = D; rw [hD]; simp
    obtain ⟨L, rfl⟩ : ∃ L : Nat, l = L := ⟨l.toNat, by have := HOK.out.2.1; omega⟩
    have hL1 : 1 ≤ L := by have := HOK.out.2.1; omega
    have hL2 : L ≤ 12 * D := by have := HOK.out.2.2.1; rw [hD] at this; omega
    have hxP : x = ((partN D L : Nat) : Int) := by rw [HOK.out.2.2.2, hD, part_int hD1]
    obtain ⟨p1, p2, p3, p4⟩ := part_bounds hD1 hD3 hL1 hL2
    have HPLL : Hid (∀ k, k < partN D L → 4 * D * k < L) := fun k hk => part_lt hD1 hL1 hk
    obtain ⟨P, hP⟩ : ∃ P, P = partN D L := ⟨_, rfl⟩
    rw [← hP] at hxP p1 p2 p3 p4 HPLL
    obtain ⟨W, hW⟩ : ∃ W, W = 4 * D := ⟨_, rfl⟩
    have HW : Hid (4 * (s 2).toNat = W) := by show 4 * (s 2).toNat = W; rw [HDT.out, hW]
    rw [← hW] at p3 p4 HPLL
    have CW := rowLength_be s W (by rw [hD]; omega) (by omega) (by omega)
    have hW12 : W ≤ 12 ∧ 4 ≤ W := by omega
    have HPW : Hid (L ≤ P * W ∧ P * W ≤ 36) := ⟨p3, p4⟩
    subst hxP
    clear hP hW hD p3 p4 HOK
    by_cases hRP : R = P
    · subst hRP
      obtain ⟨wA, hwA⟩ : ∃ wA, wA = w1.alloc (.cells #[.int .i64 0, .int .i64 (R : Int)] 37) := ⟨_, rfl⟩
      have HXA : Hid (Box wA w.heap.size #[.int .i64 (s 0), .int .i64 (s 1), .int .i64 (s 2), .int .i64 (s 3), .int .i64 (s 4), .int .i64 (s 5), .int .i64 (s 6), .int .i64 (s 7), .int .i64 (s 8)] 25) := by
        show Box wA w.heap.size _ _
        rw [hwA]; exact HX1.out.allocd _
      have HXB : Hid (Box wA (w.heap.size + 1) #[.int .i64 0, .slice none 0 0] 33) := by
        show Box wA (w.heap.size + 1) _ _
        rw [hwA]; exact HX2.out.allocd _
      have HBA : Hid (Below w.heap.size w wA) := by show Below w.heap.size w wA; rw [hwA]; exact BA
      have zA : w.heap.size + 1 < wA.heap.size := HXB.out.lt
      have tR : ((R : Int) != (R : Int)) = false := by simp
      clear BA
      have XA := HX1.out.allocd (.cells #[.int .i64 0, .int .i64 (R : Int)] 37)
      obtain ⟨x0, x1, x2, x3, x4, x5, x6, x7, x8⟩ := box9 XA
      clear XA
      go_wp2_with fail
      refine (CW _).mono ?_
      rintro ee w3 ⟨rfl, b3⟩
      rw [← hwA] at b3
      clear hwA y0 y1 y2 y3 x0 x1 x2 x3 x4 x5 x6 x7 x8
      have HB3 : Hid (Below w.heap.size w w3) := HBA.out.trans (b3.mono HBA.out.size)
      have HX3 : Hid (Box w3 (w.heap.size + 1) #[.int .i64 0, .slice none 0 0] 33) := HXB.out.below b3 zA
      have z3 : w.heap.size + 1 < w3.heap.size := HX3.out.lt
      have HR3 : Hid (RdM w3 h1 (.slice ao R cap) R n f) := HR.out.below HB3.out hh
      clear b3 HXA HXB HBA zA HX1 HX2
      obtain ⟨bb, hbb⟩ : ∃ bb : Bool, bb = true ↔ ∀ i, i < R → n i = W := by
        by_cases c : ∀ i, i < R → n i = W
        · exact ⟨true, ⟨fun _ => c, fun _ => rfl⟩⟩
        · exact ⟨false, ⟨fun h => (by cases h), fun h => absurd h c⟩⟩
      have CA := allLong_any (.slice ao R cap) R n f h1 W (by omega) bb hbb w3 HR3.out
      have HBB : Hid (bb = true ↔ ∀ i, i < R → n i = W) := hbb
      clear hbb
      go_wp2_with fail
      refine CA.mono ?_
      rintro ee w4 ⟨rfl, hw4⟩
      obtain rfl := hw4.symm
      clear CA
      cases bb with
      | false =>
        have HJ : Hid (JoAns s R n (L : Int) 1) := .inr (.inl ⟨rfl, _, HP.out, .inr (by
          have h1 : ¬ ∀ i, i < R → n i = W := fun h => by have := HBB.out.mpr h; cases this
          rw [HW.out]
          exact Classical.byContradiction fun h2 => h1 fun i hi => Classical.byContradiction fun h3 => h2 ⟨i, hi, h3⟩)⟩)
        obtain ⟨r0, r1, r2, r3⟩ := res_cells HX3.out
        go_wp2
        exact bodyPost_ret (v := bytesR 1 (.slice none 0 0)) (by simp [results, Try.results8, go_sem, bytesR, r0, r1]) rfl ⟨1, _, rfl, HJ.out, own_nil _ _ _ _, (HB3.out.setCell (Nat.le_succ _) _).setCell (Nat.le_succ _) _⟩
      | true =>
        have HALL : Hid (∀ i, i < R → n i = W) := HBB.out.mp rfl
        have HJ : Hid (JoAns s R n (L : Int) 0) := .inr (.inr ⟨rfl, _, HP.out, rfl, fun i hi => by rw [HW.out]; exact HALL.out i hi⟩)
        have HANS : Hid (∀ w' v', Own w' w.heap.size w'.heap.size v' L (joinW W f) → Below w.heap.size w w' → ∃ x v'', Ending.returned (bytesR 0 v') = .returned (bytesR x v'') ∧ JoAns s R n (L : Int) x ∧ Own w' w.heap.size w'.heap.size v'' (if x = 0 then ((L : Int)).toNat else 0) (joinW (4 * (s 2).toNat) f) ∧ Below w.heap.size w w') := fun w' v' ho hb => ⟨0, v', rfl, HJ.out, by rw [if_pos rfl, HW.out, Int.toNat_natCast]; exact ho, hb⟩
        have HPL : Hid (∀ k, k < R → W * k < L) := HPLL.out
        clear HBB HJ HP HR CW HPLL
        go_wp2_with (at_make; refine wp_makeB _ rfl _ _ rfl _ _ L rfl rfl rfl rfl (by omega) ?_; intro w5 ho5 hb5 hz5)
        have HF0 : Hid (w5.heap[w3.heap.size]? = some (.cells (cellsOf L (upTo W f 0)).toArray 5 (0, 0))) := by
          have := ho5.full
          rw [show (cellsOf L fun _ => 0) = cellsOf L (upTo W f 0) from congrArg (cellsOf L) (upTo_zero W f).symm] at this
          exact this
        clear ho5
        go_loopw [9, 39] (fun u i wr => ∃ k : Nat, k ≤ R ∧ i = .int .i64 k ∧ (k < R → u = .slice (some ⟨w3.heap.size, W * k, none⟩) (L - W * k) (L - W * k)) ∧ Hid (wr.heap[w3.heap.size]? = some (.cells (cellsOf L (upTo W f k)).toArray 5 (0, 0))) ∧ Below w3.heap.size w3 wr ∧ w3.heap.size < wr.heap.size) (fun _ i _ => R - (intOf i).toNat)
        case atStart => exact ⟨0, Nat.zero_le _, rfl, fun _ => by simp, HF0, hb5, hz5⟩
        case round =>
          clear HF0 hb5 hz5
          obtain ⟨k, hk, rfl, hu, hF, hb, hz⟩ := hrel
          by_cases hlt : k < R
          · obtain rfl := hu hlt
            have HB : Hid (Below w3.heap.size w3 wr) := hb
            have HBW : Hid (Below w.heap.size w wr) := HB3.out.trans (hb.mono HB3.out.size)
            obtain ⟨b, off, hao, hblt, hcell⟩ := HHC.out (by omega)
            subst hao
            have hbw : b < w.heap.size := by omega
            have hck : wr.cell? ⟨b, off + k, none⟩ = some (e k) := (HBW.out.cell (p := ⟨b, off + k, none⟩) hbw).trans (hcell k hlt)
            have rk : Rd wr h1 (e k) W (f k) := by have := HHE.out k hlt; rw [HALL.out k hlt] at this; exact this.below HBW.out hh
            obtain ⟨aok, capk, hsk, hmk, hqk⟩ := rk
            have HRK : Hid (Rd wr h1 (.slice aok W capk) W (f k)) := ⟨aok, capk, rfl, hmk, hqk⟩
            rw [hsk] at hck
            obtain ⟨A, hA⟩ : ∃ A, A = W * k := ⟨_, rfl⟩
            have hAn : A < L := by rw [hA]; exact HPL.out k hlt
            have hA1 : k + 1 < R → A + W < L := fun h => by have := HPL.out (k + 1) h; rw [Nat.mul_succ, ← hA] at this; exact this
            obtain ⟨Ln, hLn⟩ : ∃ x, x = L - A := ⟨_, rfl⟩
            obtain ⟨c, hc⟩ : ∃ c, c = Nat.min W Ln := ⟨_, rfl⟩
            have hcm : c ≤ Ln ∧ c ≤ W ∧ (c = Ln ∨ c = W) := by
              have : c = min W Ln := hc
              omega
            have HSP : Hid (splice (cellsOf L (upTo W f k)) A (cellsOf c (f k)) = cellsOf L (upTo W f (k + 1))) := by
              show splice (cellsOf L (upTo W f k)) A (cellsOf c (f k)) = cellsOf L (upTo W f (k + 1))
              rw [hA]
              exact upTo_row hcm.2.1 (by rw [← hA]; omega) (by rw [← hA]; omega)
            have HL1 : Hid ((cellsOf c (f k)).length = Nat.min W Ln) := by show (cellsOf c (f k)).length = Nat.min W Ln; rw [cellsOf_length, hc]
            have HL2 : Hid (A + (cellsOf c (f k)).length ≤ (cellsOf L (upTo W f k)).length) := by
              show A + (cellsOf c (f k)).length ≤ (cellsOf L (upTo W f k)).length
              rw [cellsOf_length, cellsOf_length]; omega
            obtain ⟨ar, har, hsl⟩ := run_slice_from w3.heap.size A Ln Ln c hcm.1
            have HAO : Hid (k + 1 < R → (.slice ar (Ln - c) (Ln - c) : Value) = .slice (some ⟨w3.heap.size, W * (k + 1), none⟩) (L - W * (k + 1)) (L - W * (k + 1))) := fun h => by
              have h1 := hA1 h
              have h2 : c = W := by omega
              rw [har (by omega), Nat.mul_succ, ← hA, h2]
              congr 1 <;> omega
            have HSRC : Hid (∀ hp : 0 < (cellsOf c (f k)).length, ∃ ad, aok = some ad ∧ ∀ j v, (cellsOf c (f k))[j]? = some v → wr.cell? (ad.add j) = some v) := fun hp => copy_src_part HRK.out hcm.2.1 hp
            obtain ⟨r1, hr1⟩ : ∃ x, x = Ln - c := ⟨_, rfl⟩
            rw [← hr1] at hsl HAO
            have hlc : (cellsOf c (f k)).length = c := cellsOf_length _ _
            rw [← hA, ← hLn]
            have hc12 : c ≤ 12 := by omega
            clear hb hu hA hA1 hLn hc hcm har hr1 hAn hcell hsk hqk hmk HRK
            go_wp2_with (refine wpList_copy_splice rfl (.tmp 44) (.tmp 45) 22 22 rfl 5 Try.underlying22 size_u8 (some ⟨w3.heap.size, A, none⟩) aok Ln Ln W capk rfl ?_ w3.heap.size A (cellsOf L (upTo W f k)) 5 hF.out (cellsOf c (f k)) HL1.out (fun hp => ⟨rfl, HSRC.out hp⟩) HL2.out (cellsOf_one c _) w3.heap.size w3 HB.out (Nat.le_refl _) ?_; (simp [Act.eval]); intro w6 hF6 hb6; rw [hlc])
            have F6 := hF6.out
            rw [HSP.out] at F6
            have HF6 : Hid (w6.heap[w3.heap.size]? = some (.cells (cellsOf L (upTo W f (k + 1))).toArray 5 (0, 0))) := F6
            have z6 : w3.heap.size < w6.heap.size := (Array.getElem?_eq_some_iff.1 F6).1
            clear F6 hF6
            go_roundw
            case rel => exact ⟨k + 1, by omega, by go_num, HAO.out, HF6, hb6, z6⟩
            case measure => simp [intOf]; omega
          · obtain rfl : k = R := by omega
            have B9 : Below w.heap.size w wr := HB3.out.trans (hb.mono HB3.out.size)
            obtain ⟨r0, r1, r2, r3⟩ := res_cells (HX3.out.below hb z3)
            have O9 : Own wr w3.heap.size wr.heap.size (.slice (some ⟨w3.heap.size, 0, none⟩) L L) L (upTo W f k) := own_of_full hF.out (Nat.le_refl _) (by unfold maxLen; omega)
            have O8 : Own wr w3.heap.size wr.heap.size (.slice (some ⟨w3.heap.size, 0, none⟩) L L) L (joinW W f) := O9.congr (fun i hi => by
              have := HPW.out.1
              rw [Nat.mul_comm] at this
              simp [upTo, show i < W * k by omega])
            have HO8 : Hid (Own wr w3.heap.size wr.heap.size (.slice (some ⟨w3.heap.size, 0, none⟩) L L) L (joinW W f)) := O8
            clear hb hu O9 O8 hF
            go_wp2
            refine bodyPost_ret (v := bytesR 0 (.slice (some ⟨w3.heap.size, 0, none⟩) L L)) (by simp [results, Try.results8, go_sem, bytesR, r0, r1]) rfl (HANS.out _ _ ?_ ((B9.setCell (Nat.le_succ _) _).setCell (Nat.le_succ _) _))
            have o1 := out_store wr (w.heap.size + 1) (w.heap.size + 2) (w.heap.size + 1) 0 (.int .i64 0) (Nat.le_refl _) (by omega)
            have o2 := out_store (wr.setCell ⟨w.heap.size + 1, 0, none⟩ (.int .i64 0)) (w.heap.size + 1) (w.heap.size + 2) (w.heap.size + 1) 1 (.slice (some ⟨w3.heap.size, 0, none⟩) L L) (Nat.le_refl _) (by omega)
            exact (HO8.out.out (o1.trans o2) (.inr (by omega))).weaken (by omega) (by rw [(o1.trans o2).size]; exact Nat.le_refl _)
    · have tR : ((R : Int) != (P : Int)) = true := by simp; omega
      have HJ : Hid (JoAns s R n (L : Int) 1) := .inr (.inl ⟨rfl, _, HP.out, .inl (by omega)⟩)
      obtain ⟨q0, q1⟩ := HQ.out 1
      clear hRP
      go_wp2
      exact bodyPost_ret (v := bytesR 1 (.slice none 0 0)) (by simp [results, Try.results8, go_sem, bytesR, q0, q1]) rfl ⟨1, _, rfl, HJ.out, own_nil _ _ _ _, ((B1.setCell (Nat.le_succ _) _).setCell (Nat.le_succ _) _).alloc (by simp; omega) _⟩
  · have tc : (c != 0) = true := by simp [hc0]
    have HJ : Hid (JoAns s R n l c) := .inl ⟨hc0, x, HP.out⟩
    obtain ⟨q0, q1⟩ := HQ.out c
    go_wp2
    refine bodyPost_ret (v := bytesR c (.slice none 0 0)) (by simp [results, Try.results8, go_sem, bytesR, q0, q1]) rfl ⟨c, _, rfl, HJ.out, ?_, ((B1.setCell (Nat.le_succ _) _).setCell (Nat.le_succ _) _).alloc (by simp; omega) _⟩
    rw [if_neg hc0]
    exact own_nil _ _ _ _
end Go.Proofs.Ytdnankopblkblab

namespace Go.Proofs.Ytdnankopblkblab
open Go.RowKit F256
set_option linter.unusedVariables false
set_option linter.unusedSimpArgs false

theorem fieldO0 (a : Int) (v : Value) (w : World) : (Instr.field 30 (.agg #[.int .i64 a, v]) 0).run Try.prog w = .ok (.int .i64 a) w := by kernel_rfl
theorem fieldO1 (a b : Int) (w : World) : (Instr.field 37 (.agg #[.int .i64 a, .int .i64 b]) 1).run Try.prog w = .ok (.int .i64 b) w := by kernel_rfl
theorem undrewO {B : Nat} {w w2 : World} {d : Nat} (h : Below B { w with drawn := d } w2) : Below B w w2 := ⟨h.os, h.tape, h.output, h.size, h.block⟩
theorem below_self_drew (w : World) (d : Nat) : Below w.heap.size w { w with drawn := d } := ⟨rfl, rfl, rfl, Nat.le_refl _, fun _ _ => rfl⟩
/-- what is cut is joined again -/
theorem join_split {D n i : Nat} {g : Nat → Nat} (hD : 1 ≤ D) (hi : i < n) : joinW (4 * D) (splitN D n g) i = g i := by
  have e : 4 * D * (i / (4 * D)) + i % (4 * D) = i := Nat.div_add_mod i (4 * D)
  unfold joinW splitN
  rw [e, if_pos hi]
theorem split_parts {s : Nat → Int} {N : Nat} (h : SoAns s N 0) : ∃ D : Nat, s 2 = (D : Int) ∧ 1 ≤ D ∧ D ≤ 3 ∧ 1 ≤ partN D N ∧ partN D N ≤ 3 ∧ PfAns s (N : Int) ((partN D N : Nat) : Int) 0 := by
  obtain ⟨v, hv⟩ := h
  have hv0 := hv
  rcases hv with ⟨_, h, _⟩ | ⟨_, _, h, _⟩ | ⟨_, _, _, h, _⟩ | ⟨h1, h2, h3, _, h4⟩
  · omega
  · omega
  · omega
  · obtain ⟨D, hD, hD1, hD3⟩ := ok_data h1
    have hb := part_bounds hD1 hD3 (n := N) (by omega) (by rw [hD] at h3; omega)
    refine ⟨D, hD, hD1, hD3, hb.1, hb.2.1, ?_⟩
    rw [hD, part_int hD1] at h4
    rw [← h4]
    exact hv0

set_option maxHeartbeats 8000000 in
theorem fnObjects_core (v : Value) (n0 : Nat) (f0 : Nat → Nat) (k0 : ∀ i, f0 i < 256) (w : World) (r0 : Rd w w.heap.size v n0 f0) :
    Calls Try.prog 3 #[v] w fun e w' => e = .returned (.bool true) ∧ Below w.heap.size w w' := by
  by_cases hbig : 1048576 < n0
  · go_enter Try.func3, Try.ntmps3
    go_wp2_with fail
    refine (lwBig_yes _ n0 f0 _ _ r0 hbig).mono ?_
    rintro e w1 ⟨rfl, hw1⟩
    obtain rfl := hw1.symm
    go_wp2
    go_ret
    exact ⟨rfl, Below.refl _ _⟩
  go_enter Try.func3, Try.ntmps3
  go_wp2_with fail
  refine (lwBig_no _ n0 f0 _ _ r0 (by omega)).mono ?_
  rintro e w1 ⟨rfl, hw1⟩
  obtain rfl := hw1.symm
  go_wp2_with fail
  refine (drawSplit_any _ n0 f0 _ r0 k0 (by omega)).mono ?_
  rintro e w1 ⟨s, vb, N, g, rfl, ob, kg, hN, b1⟩
  obtain ⟨aob, capb, rfl⟩ := ob.slice
  have HOB : Hid (Own w1 w.heap.size w1.heap.size (.slice aob N capb) N g) := ob
  have HB1 : Hid (Below w.heap.size w w1) := b1
  have s1 := b1.size
  have ba : Below w1.heap.size w1 (w1.alloc (.cells #[.int .i64 (s 0), .int .i64 (s 1), .int .i64 (s 2), .int .i64 (s 3), .int .i64 (s 4), .int .i64 (s 5), .int .i64 (s 6), .int .i64 (s 7), .int .i64 (s 8)] 25)) := (Below.refl _ _).alloc (Nat.le_refl _) _
  have CI := implSplit_any s (.slice aob N capb) N g w.heap.size w1.heap.size (w1.alloc (.cells #[.int .i64 (s 0), .int .i64 (s 1), .int .i64 (s 2), .int .i64 (s 3), .int .i64 (s 4), .int .i64 (s 5), .int .i64 (s 6), .int .i64 (s 7), .int .i64 (s 8)] 25)) (ob.below ba (Nat.le_refl _)) ba.size
  have HCS : Hid (∀ W, Below w1.heap.size w1 W → Calls Try.prog 7 #[shapeV s, .slice aob N capb] W fun ee w' => ∃ x v', ee = .returned (bytesR x v') ∧ SoAns s N x ∧ OwnB w' W.heap.size w'.heap.size v' (if x = 0 then partN (s 2).toNat N else 0) (fun _ => 4 * (s 2).toNat) (splitN (s 2).toNat N g) ∧ Below W.heap.size W w') := fun W hW => specSplit_any s _ N g w1.heap.size W (HOB.out.rd.below hW (Nat.le_refl _)) hW.size
  have HCP : Hid (∀ W, Calls Try.prog 10 #[shapeV s, .int .i64 (N : Int)] W fun e w' => ∃ x c, e = .returned (intR c x) ∧ PfAns s (N : Int) x c ∧ Below W.heap.size W w') := fun W => implParts_any s (N : Int) W
  have HCJ : Hid (∀ (vr : Value) (R : Nat) (nn : Nat → Nat) (M : Mat) (h1 : Nat) (W : World), RdM W h1 vr R nn M → h1 ≤ W.heap.size → Calls Try.prog 8 #[shapeV s, vr, .int .i64 (N : Int)] W fun ee w' => ∃ x v', ee = .returned (bytesR x v') ∧ JoAns s R nn (N : Int) x ∧ Own w' W.heap.size w'.heap.size v' (if x = 0 then ((N : Int)).toNat else 0) (joinW (4 * (s 2).toNat) M) ∧ Below W.heap.size W w') := fun vr R nn M h1 W h hh => implJoin_any s vr R nn M (N : Int) h1 W h hh
  unfold shapeV at *
  clear r0 k0 ob kg b1 ba
  go_wp2_with fail
  refine CI.mono ?_
  rintro e w2 ⟨x, vr, rfl, hans, og, b2⟩
  obtain ⟨XS, B2⟩ := box_first b2
  have HA : Hid (SoAns s N x) := hans
  have HXS : Hid (Box w2 w1.heap.size #[.int .i64 (s 0), .int .i64 (s 1), .int .i64 (s 2), .int .i64 (s 3), .int .i64 (s 4), .int .i64 (s 5), .int .i64 (s 6), .int .i64 (s 7), .int .i64 (s 8)] 25) := XS
  have HB2 : Hid (Below w1.heap.size w1 w2) := B2
  have s2 := B2.size
  have zS := XS.lt
  clear CI b2 XS B2 hans
  unfold bytesR
  by_cases hx : x = 0
  · subst hx
    rw [if_pos rfl] at og
    obtain ⟨D, hD, hD1, hD3, hP1, hP3, hPf⟩ := split_parts HA.out
    have hT : (s 2).toNat = D := by rw [hD]; simp
    rw [hT] at og HCJ
    have HPf : Hid (PfAns s (N : Int) ((partN D N : Nat) : Int) 0) := hPf
    have HJO : Hid (JoAns s (partN D N) (fun _ => 4 * D) (N : Int) 0) := .inr (.inr ⟨rfl, _, hPf, rfl, fun i hi => by rw [hT]⟩)
    have hrm := og.rd
    obtain ⟨P, hP⟩ : ∃ P, P = partN D N := ⟨_, rfl⟩
    rw [← hP] at HPf HJO hrm hP1 hP3 og
    obtain ⟨aor, capr, rfl⟩ : ∃ ao cap, vr = .slice ao P cap := by obtain ⟨ao, cap, e, h, _⟩ := hrm; exact ⟨ao, cap, h⟩
    have HRM : Hid (RdM w2 w2.heap.size (.slice aor P capr) P (fun _ => 4 * D) (splitN D N g)) := hrm
    have ba2 : Below w2.heap.size w2 (w2.alloc (.cells #[.int .i64 0, .slice aor P capr] 30)) := (Below.refl _ _).alloc (Nat.le_refl _) _
    have CJ := HCJ.out (.slice aor P capr) P (fun _ => 4 * D) (splitN D N g) w2.heap.size (w2.alloc (.cells #[.int .i64 0, .slice aor P capr] 30)) (HRM.out.below ba2 (Nat.le_refl _)) ba2.size
    obtain ⟨x0, x1, x2, x3, x4, x5, x6, x7, x8⟩ := box9 (HXS.out.allocd (.cells #[.int .i64 0, .slice aor P capr] 30))
    clear hrm og hPf hP ba2 HCJ hD hT
    go_wp2_with fail
    refine CJ.mono ?_
    rintro e w3 ⟨xj, vj, rfl, hj, oj, b3⟩
    obtain rfl := hj.one HJO.out
    rw [if_pos rfl, Int.toNat_natCast] at oj
    replace oj := oj.congr (g := g) (fun i hi => join_split hD1 hi)
    obtain ⟨aoj, capj, rfl⟩ := oj.slice
    obtain ⟨XR, B3⟩ := box_first b3
    have HXR : Hid (Box w3 w2.heap.size #[.int .i64 0, .slice aor P capr] 30) := XR
    have HXS3 : Hid (Box w3 w1.heap.size #[.int .i64 (s 0), .int .i64 (s 1), .int .i64 (s 2), .int .i64 (s 3), .int .i64 (s 4), .int .i64 (s 5), .int .i64 (s 6), .int .i64 (s 7), .int .i64 (s 8)] 25) := HXS.out.below B3 HXS.out.lt
    have HB3 : Hid (Below w2.heap.size w2 w3) := B3
    have zR := XR.lt
    have HOJ : Hid (Rd w3 w3.heap.size (.slice aoj N capj) N g) := oj.rd
    have HOV : Hid (Rd w3 w1.heap.size (.slice aob N capb) N g) := (HOB.out.rd.below HB2.out (Nat.le_refl _)).below B3 s2
    clear CJ hj oj b3 XR B3 x0 x1 x2 x3 x4 x5 x6 x7 x8 HXS HRM
    unfold bytesR
    have ba3 : Below w3.heap.size w3 (w3.alloc (.cells #[.int .i64 0, .slice aoj N capj] 33)) := (Below.refl _ _).alloc (Nat.le_refl _) _
    have XJ := box_new w3 #[.int .i64 0, .slice aoj N capj] 33
    have XR := HXR.out.allocd (.cells #[.int .i64 0, .slice aoj N capj] 33)
    have XS := HXS3.out.allocd (.cells #[.int .i64 0, .slice aoj N capj] 33)
    have RJ := HOJ.out.below ba3 (Nat.le_refl _)
    have RV := HOV.out.below ba3 (by omega)
    obtain ⟨wJ, hwJ⟩ : ∃ x, x = w3.alloc (.cells #[.int .i64 0, .slice aoj N capj] 33) := ⟨_, rfl⟩
    go_wp2_with fail
    rw [← hwJ] at ba3 XJ XR XS RJ RV ⊢
    clear hwJ
    have HXRa : Hid (Box wJ w2.heap.size #[.int .i64 0, .slice aor P capr] 30) := XR
    have HXSa : Hid (Box wJ w1.heap.size #[.int .i64 (s 0), .int .i64 (s 1), .int .i64 (s 2), .int .i64 (s 3), .int .i64 (s 4), .int .i64 (s 5), .int .i64 (s 6), .int .i64 (s 7), .int .i64 (s 8)] 25) := XS
    have HBJ : Hid (Below w.heap.size w wJ) := HB1.out.trans ((HB2.out.mono s1).trans ((HB3.out.mono (by omega)).trans (ba3.mono (by have := HB3.out.size; omega))))
    have zRJ := XR.lt
    have zSJ := XS.lt
    obtain ⟨y0, y1, -, -⟩ := res_cells XJ
    obtain ⟨c0, c1, -, -⟩ := res_cells XR
    obtain ⟨x0, x1, x2, x3, x4, x5, x6, x7, x8⟩ := box9 XS
    have HRJ : Hid (Rd wJ w3.heap.size (.slice aoj N capj) N g) := RJ
    have HRV : Hid (Rd wJ w1.heap.size (.slice aob N capb) N g) := RV
    have hfd := fieldO1 0 (P : Int)
    have tP : ((P : Int) == (P : Int)) = true := by simp
    have t0 : decide ((0 : Int) < (P : Int)) = true := by simp; omega
    have t0n : decide (0 < P) = true := by simp; omega
    clear XJ XR XS RJ RV ba3
    first | go_region_with (first | (go_at_call 9; refine (lwBytes_same _ _ N g w3.heap.size w1.heap.size _ ?_ ?_).mono ?_; exact HRJ.out; exact HRV.out; rintro ee w4 ⟨rfl, b4⟩; have k4 : Below wJ.heap.size wJ w4 := ⟨b4.os, b4.tape, b4.output, b4.size, b4.block⟩; clear b4; obtain ⟨p0, p1, p2, p3, p4, p5, p6, p7, p8⟩ := box9 (HXSa.out.below k4 zSJ); obtain ⟨d0, d1, -, -⟩ := res_cells (HXRa.out.below k4 zRJ)) | (go_at_call 10; refine (HCP.out _).mono ?_; rintro ee w5 ⟨xp, cp, rfl, hp, b5⟩; obtain ⟨rfl, rfl⟩ := hp.one HPf.out; have k5 : Below wJ.heap.size wJ w5 := k4.trans ((⟨b5.os, b5.tape, b5.output, b5.size, b5.block⟩ : Below _ w4 w5).mono k4.size); clear b5; obtain ⟨g0, g1, -, -⟩ := res_cells (HXRa.out.below k5 zRJ); unfold intR)) | fail
    all_goals
      go_wp2
      go_ret
      refine ⟨?_, HBJ.out.trans (k5.mono HBJ.out.size)⟩
      first | rfl | (simp [Act.put, Act.eval, t0, t0n]; done) | (simp [Act.put, Act.eval, go_sem, t0, t0n]; done) | (go_simp; done) | (simp [Act.put, Act.eval, t0, t0n]; trace_state; sorry)
  · have tc : (x != 0) = true := by simp [hx]
    have te : (x == x) = true := by simp
    have HX : Hid (x ≠ 0) := hx
    obtain ⟨aor, capr, rfl⟩ : ∃ ao cap, vr = .slice ao 0 cap := by rw [if_neg hx] at og; obtain ⟨ao, cap, e, h, _⟩ := og.rd; exact ⟨ao, cap, h⟩
    have hfd := fun (vv : Value) => fieldO0 x vv
    clear og hx
    have ba2 : Below w2.heap.size w2 (w2.alloc (.cells #[.int .i64 x, .slice aor 0 capr] 30)) := (Below.refl _ _).alloc (Nat.le_refl _) _
    have XR := box_new w2 #[.int .i64 x, .slice aor 0 capr] 30
    have XS := HXS.out.allocd (.cells #[.int .i64 x, .slice aor 0 capr] 30)
    obtain ⟨wR, hwR⟩ : ∃ y, y = w2.alloc (.cells #[.int .i64 x, .slice aor 0 capr] 30) := ⟨_, rfl⟩
    go_wp2_with fail
    rw [← hwR] at ba2 XR XS ⊢
    clear hwR
    have HXRa : Hid (Box wR w2.heap.size #[.int .i64 x, .slice aor 0 capr] 30) := XR
    have HBR : Hid (Below w1.heap.size w1 wR) := HB2.out.trans (ba2.mono s2)
    have zRJ := XR.lt
    obtain ⟨c0, c1, -, -⟩ := res_cells XR
    obtain ⟨x0, x1, x2, x3, x4, x5, x6, x7, x8⟩ := box9 XS
    clear XR XS ba2
    first | go_region_with (go_at_call 7; refine (HCS.out _ ?_).mono ?_; exact ⟨HBR.out.os, HBR.out.tape, HBR.out.output, HBR.out.size, HBR.out.block⟩; rintro ee w4 ⟨x', vb', rfl, ha', ob', b4⟩; obtain rfl := ha'.one HA.out; unfold bytesR; have k4 : Below wR.heap.size wR w4 := ⟨b4.os, b4.tape, b4.output, b4.size, b4.block⟩; clear b4; obtain ⟨q0, q1, -, -⟩ := res_cells (HXRa.out.below k4 zRJ)) | fail
    all_goals
      go_wp2
      go_ret
      exact ⟨rfl, HB1.out.trans ((HBR.out.trans (k4.mono HBR.out.size)).mono s1)⟩
end Go.Proofs.Ytdnankopblkblab

namespace Go.Proofs.Ytdnankopblkblab
open Go.ChangeShapes Go.WideShapes Go.ChangeAt Go.RowKit F256
set_option linter.unusedVariables false

theorem fnObjects_walk (a0 : Option Addr) (n0 c0 : Nat) (z0 : List Int) (w : World) (q0 : IsRow w a0 n0 c0 z0) :
    Calls Try.prog 3 #[.slice a0 n0 c0] w fun e w' => e = .returned (.bool true) ∧ Below w.heap.size w w' := by
  obtain ⟨f0, k0, r0⟩ := q0.rd
  exact fnObjects_core _ n0 f0 k0 w r0

set_option maxRecDepth 100000 in
theorem fnObjects_lifted (os : Os) (started : os.Started) (H : Type) (enc : TypeId × Value → H) :
    ReturnsInHanded {} Try.checked os 3 .any (Rows.fnObjectsSpec.pre6 enc Try.prog Try.f3 Rows.fnObjectsRow.domain false) (Rows.fnObjectsSpec.post enc Try.prog Try.f3 false true false false) := by
  refine returnsInHanded_of_change (C := Try.checked) frame_own started (by kernel_rfl) Try.func3
    (ChangeSpec.witness6 (enc := enc) (C := Try.checked) false ⟨#[], #[.slice none 0 0], []⟩ 8 (by kernel_rfl) (by kernel_rfl) (by kernel_rfl) (by kernel_rfl)) ?_
  intro W base args ds gs before hval0 hW hcnd _
  have hval : ∀ (j : Nat) t v, Try.f3.params[j]? = some t → args[j]? = some v → Value.okWide Try.prog W .any base t v := hval0
  have hW' := hW
  obtain ⟨p, q, hA0, hV, rfl, hfz, hnd⟩ := hW
  have hA : DataW.TrodAll enc Try.prog W 0 (fun _ => true) true Try.f3.params.toList args.toList ds p := hA0
  rw [Try.params3] at hA hval
  obtain ⟨v0, vs0, d0, ds0, p0, q0, hargs, rfl, rfl, h0, r0⟩ := trodAll_cons hA
  obtain ⟨rfl, rfl, rfl⟩ := trodAll_nil r0
  obtain rfl : args = #[v0] := by cases args; simp_all
  obtain ⟨rfl, rfl⟩ := trodVars_none hV
  obtain ⟨a0, len0, cap0, rfl⟩ := okWide_slice Try.underlying22 (hval 0 22 v0 rfl rfl)
  have k0 := h0
  have lt0 : ∀ x ∈ p0, x.block < W.heap.size := by obtain ⟨m, hm⟩ := k0; exact DataW.trod_lt m _ _ _ hm
  obtain ⟨z0, w0⟩ : ∃ zs, IsRow W a0 len0 cap0 zs := row_of_trod Try.underlying22 Try.underlying5 (by kernel_rfl) h0
  clear hA0 hval0
  refine (fnObjects_walk a0 len0 cap0 z0 W w0).mono fun e W' ⟨he, bel⟩ => ?_
  subst he
  exact ⟨_, rfl, _, _, _, [], _, [], hW', trodAll_mk1 (shut_bool Try.underlying4 _), (trodAll_cons_mk (Below.trod frame_laid (by kernel_rfl) (of_decide_eq_true (by kernel_rfl)) k0 bel lt0) trodAll_mk0), rfl, bel.frame _, fun h => by cases h⟩

theorem fnObjects_proved : Rows.FnObjectsSaid :=
  OpenClaim.holds_of_wide 3 Try.f3 rfl rfl rfl rfl rfl rfl rfl ⟨rfl, rfl, rfl, rfl, rfl⟩ rfl rfl rfl rfl rfl (by kernel_rfl) Try.func3 (by kernel_rfl)
    (of_decide_eq_true (by kernel_rfl)) (by unfold Func.isWrapper; first | (rw [if_pos (by decide +kernel)]; kernel_rfl) | (rw [if_neg (by decide +kernel)]; exact ⟨rfl, rfl⟩))
    (fun os started H enc _ => fnObjects_lifted os started H enc)
#print axioms fnObjects_proved
end Go.Proofs.Ytdnankopblkblab
