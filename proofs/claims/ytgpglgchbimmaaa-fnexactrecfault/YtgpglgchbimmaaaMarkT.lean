/- The decimal text of a number, as the laws mark names by it. -/
import Derived.Test.YtgpglgchbimmaaaOwn
import Derived.Laws.BytesArg
import Derived.BigQuiet
import Derived.Deep.QuietTactic
namespace Go.Proofs.Ytgpglgchbimmaaa
open Go.RowKit F256
set_option linter.unusedVariables false
/-- the digits of k, ahead of out -/
def digT : Nat → Nat → ByteArray → ByteArray
  | 0, _, out => out
  | f + 1, k, out => if k = 0 then out else digT f (k / 10) (strOfNums [48 + (k : Int) % 10] ++ out)
def markT (k : Nat) : ByteArray := ByteArray.mk #[109] ++ digT 20 k ByteArray.empty
theorem digT_zero (f : Nat) (out : ByteArray) : digT f 0 out = out := by
  cases f <;> simp [digT]
theorem str1_size (x : Int) : (strOfNums [x]).size = 1 := rfl
theorem digT_size : ∀ (f k : Nat) (out : ByteArray), (digT f k out).size ≤ f + out.size
  | 0, k, out => by simp [digT]
  | f + 1, k, out => by
    rw [digT]
    split
    · omega
    · have := digT_size f (k / 10) (strOfNums [48 + (k : Int) % 10] ++ out)
      rw [ByteArray.size_append, str1_size] at this
      omega
theorem markT_le (k : Nat) : (markT k).size ≤ maxLen := by
  have := digT_size 20 k ByteArray.empty
  have e0 : ByteArray.empty.size = 0 := rfl
  have e : (markT k).size = 1 + (digT 20 k ByteArray.empty).size := by unfold markT; rw [ByteArray.size_append]; rfl
  rw [e]
  unfold maxLen
  omega
end Go.Proofs.Ytgpglgchbimmaaa
