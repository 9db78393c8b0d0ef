/- A result with a number in it, and the comparison of two such. -/
import Derived.Test.YthncbkgklhbcjaaProg
import Derived.Test.YthncbkgklhbcjaaBits
import Derived.WalkLawsBesides
namespace Go.Proofs.Ythncbkgklhbcjaa
open Go.RowKit F256

/-- a result with a number in it -/
def intR (code value : Int) : Value := .agg #[.int .i64 code, .int .i64 value]

theorem eqInt_same (c v : Int) (w : World) :
    Calls Try.prog 19 #[intR c v, intR c v] w fun e w' => e = .returned (.bool true) ∧ Below w.heap.size w w' := by
  unfold intR
  go_enter Try.func19, Try.ntmps19
  go_wp2
  go_ret
  exact ⟨rfl, ((Below.refl _ _).alloc (Nat.le_refl _) _).alloc (by simp) _⟩
end Go.Proofs.Ythncbkgklhbcjaa
