/- Walk of the program's RoomOf. -/
import Derived.Test.YtdnankopblkblakWRoom
import Derived.Test.YtdnankopblkblakWNearB
namespace Go.Proofs.Ytdnankopblkblak
open Go.RowKit F256
set_option linter.unusedVariables false
set_option linter.unusedSimpArgs false

set_option maxHeartbeats 4000000 in
theorem implRoom_any (s : Nat → Int) (w : World) :
    Calls Try.prog 32 #[shapeV s] w fun e w' => ∃ x c, e = .returned (intR c x) ∧ RoAns s x c ∧ Below w.heap.size w w' := by
  unfold shapeV
  go_enter Try.func32, Try.ntmps32
  go_wp2_with fail
  refine (implShape_any s _).mono ?_
  rintro e w1 ⟨x, rfl, hx, B1'⟩
  obtain ⟨X1, X2, B1, z1⟩ := two_new B1'
  obtain ⟨x0, x1, x2, x3, x4, x5, x6, x7, x8⟩ := box9 X1
  obtain ⟨y0, y1, y2, y3⟩ := res_cells X2
  clear B1' X1 X2
  rcases hx with ⟨rfl, hx⟩ | ⟨rfl, hx⟩
  · have HN : Hid (¬ OkShape s) := hx
    clear hx
    go_wp2
    exact bodyPost_ret (v := intR 3 0) (by simp [results, Try.results32, go_sem, intR, y0, y1]) rfl ⟨0, 3, rfl, .inl ⟨HN.out, rfl, rfl⟩, (B1.setCell (Nat.le_succ _) _).setCell (Nat.le_succ _) _⟩
  · have HO : Hid (OkShape s) := hx
    have q1 : 1 ≤ s 0 ∧ s 0 ≤ 1000 := by have := hx.1; unfold Shp3 at this; omega
    have q2 := hx.2.2.1
    clear hx
    have p1 : 0 ≤ s 0 * s 4 := Int.mul_nonneg (by omega) (by omega)
    have p2 : s 0 * s 4 ≤ 1000 * 6 := Int.mul_le_mul q1.2 q2.2 (by omega) (by omega)
    obtain ⟨q3, q4⟩ := q1
    obtain ⟨q5, q6⟩ := q2
    go_wp2
    exact bodyPost_ret (v := intR 0 (s 0 * s 4)) (by simp [results, Try.results32, go_sem, intR, y0, y1]) rfl ⟨_, 0, rfl, .inr ⟨HO.out, rfl, rfl⟩, (B1.setCell (Nat.le_succ _) _).setCell (Nat.le_succ _) _⟩
end Go.Proofs.Ytdnankopblkblak
