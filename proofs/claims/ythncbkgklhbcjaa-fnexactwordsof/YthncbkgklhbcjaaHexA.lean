/- Walks of the specification's l14Hex and HexOf. -/
import Derived.Test.YthncbkgklhbcjaaWBytes
import Derived.Laws.Concat
namespace Go.Proofs.Ythncbkgklhbcjaa
open Go.RowKit F256
set_option linter.unusedVariables false
set_option linter.unusedSimpArgs false

def hexArr : Array UInt8 := #[48, 49, 50, 51, 52, 53, 54, 55, 56, 57, 97, 98, 99, 100, 101, 102]
/-- the digit of base 16 -/
def hexD (k : Nat) : UInt8 := hexArr.getD k 0
/-- two digits a byte -/
def hexL (f : Nat → Nat) : Nat → List UInt8
  | 0 => []
  | n + 1 => hexL f n ++ [hexD (f n / 16), hexD (f n % 16)]
theorem hexL_length (f : Nat → Nat) : ∀ n, (hexL f n).length = 2 * n
  | 0 => rfl
  | n + 1 => by simp [hexL, hexL_length f n]; omega
def hexS (f : Nat → Nat) (n : Nat) : ByteArray := ⟨(hexL f n).toArray⟩
theorem hexS_succ (f : Nat → Nat) (n : Nat) : hexS f n ++ ⟨#[hexD (f n / 16)]⟩ ++ ⟨#[hexD (f n % 16)]⟩ = hexS f (n + 1) := by
  apply ByteArray.ext
  simp [hexS, hexL, ByteArray.data_append]
theorem hexS_size (f : Nat → Nat) (n : Nat) : (hexS f n).size = 2 * n := by
  show (hexL f n).toArray.size = 2 * n
  simp [hexL_length]

end Go.Proofs.Ythncbkgklhbcjaa
