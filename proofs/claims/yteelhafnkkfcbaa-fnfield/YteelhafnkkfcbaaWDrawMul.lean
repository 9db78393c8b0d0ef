/- Walk of the draw of two bytes. -/
import Derived.Test.YteelhafnkkfcbaaWDraw
namespace Go.Proofs.Yteelhafnkkfcbaa
open Go.RowKit F256

set_option maxHeartbeats 2000000 in
theorem drawMul_any (v : Value) (n : Nat) (f : Nat → Nat) (w : World) (h : Rd w w.heap.size v n f) (kf : ∀ i, f i < 256) (hn : n ≤ 1048576) :
    Calls Try.prog 6 #[v] w fun e w' => ∃ a b : Nat, a < 256 ∧ b < 256 ∧ e = .returned (.tuple #[.int .u8 a, .int .u8 b]) ∧ Below w.heap.size w w' := by
  go_enter Try.func6, Try.ntmps6
  go_wp2_with fail
  refine (l1Source_any v n f _ h kf hn).mono ?_
  rintro e w1 ⟨rfl, h1, b1⟩
  go_wp2_with fail
  refine (l1Byte_any w.heap.size 0 v n f (by omega) _ h1).mono ?_
  rintro e w2 ⟨a, ha, rfl, h2, c2⟩
  go_wp2_with fail
  refine (l1Byte_any w.heap.size 3 v n f (by omega) _ h2).mono ?_
  rintro e w3 ⟨b, hb, rfl, h3, c3⟩
  go_wp2
  go_ret2
  exact ⟨a, b, ha, hb, rfl, b1.trans ((c2.trans c3).below (Nat.le_refl _) (Nat.le_of_lt h1.1.lt))⟩
end Go.Proofs.Yteelhafnkkfcbaa
