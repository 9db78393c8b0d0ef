/- Walk of the program's quotient. -/
import Derived.Test.YteelhafnkkfcbaaWPow
namespace Go.Proofs.Yteelhafnkkfcbaa
open Go.RowKit F256

/-- a result with a number in it -/
def intR (code value : Int) : Value := .agg #[.int .i64 code, .int .i64 value]
theorem implDiv_zero (a : Nat) (w : World) :
    Calls Try.prog 10 #[.int .u8 a, .int .u8 0] w fun e w' => e = .returned (intR 6 0) ∧ Below w.heap.size w w' := by
  go_enter Try.func10, Try.ntmps10
  go_wp2
  exact bodyPost_ret (v := intR 6 0) (by simp [results, Try.results10, go_sem, intR]) rfl ⟨rfl, (Below.refl _ _).alloc (Nat.le_refl _) _⟩

theorem implDiv_any (a b : Nat) (ha : a < 256) (hb : b < 256) (h0 : b ≠ 0) (w : World) :
    Calls Try.prog 10 #[.int .u8 a, .int .u8 b] w fun e w' => e = .returned (intR 0 (mulN a (powN b 254))) ∧ Below w.heap.size w w' := by
  have hne : ((b : Int) == 0) = false := by simp; omega
  have hi := powN_lt (a := b) 254
  have hv := mulN_lt (b := powN b 254) ha
  go_enter Try.func10, Try.ntmps10
  go_wp2_with (first | (go_at_call 19; refine (implInv_any _ hb _).mono ?_; rintro e w1 ⟨rfl, hb1⟩) | (go_at_call 8; refine (implMul_any _ _ ha hi _).mono ?_; rintro e w2 ⟨rfl, hb2⟩; obtain ⟨hc, hf⟩ := bcell (bthen hb1 hb2)))
  refine bodyPost_ret (v := intR 0 (mulN a (powN b 254))) (by simp [results, Try.results10, go_sem, intR, hc]) rfl ⟨rfl, ?_⟩
  exact ((bnew (bthen hb1 hb2)).setCell (Nat.le_refl _) _).setCell (Nat.le_refl _) _

end Go.Proofs.Yteelhafnkkfcbaa
