/- Walk of the specification's NameFault. -/
import Derived.Test.YthncbkgklhbcjaaWShape
namespace Go.Proofs.Ythncbkgklhbcjaa
open Go.RowKit F256
set_option linter.unusedVariables false
set_option linter.unusedSimpArgs false

/-- the bytes of a string -/
def nameByte (b : ByteArray) (i : Nat) : Nat := if h : i < b.size then (b[i]'h).toNat else 0
theorem nameByte_lt (b : ByteArray) (i : Nat) : nameByte b i < 256 := by
  unfold nameByte
  split
  · exact UInt8.toNat_lt _
  · omega
theorem index_name (b : ByteArray) (i : Nat) (h : i < b.size) (w : World) : (Instr.index 9 (.string b) (.int .i64 (i : Int))).run Try.prog w = .ok (.int .u8 (nameByte b i)) w := by
  rw [run_index_string w 9 b .i64 (i : Int) Try.underlying9, dif_pos ⟨by omega, by omega⟩]
  simp [nameByte, h]
def LetP (y : Nat) : Prop := 97 ≤ y ∧ y ≤ 122
def DigP (y : Nat) : Prop := 48 ≤ y ∧ y ≤ 57
/-- a name that has no fault -/
def OkName (b : ByteArray) : Prop := 1 ≤ b.size ∧ b.size ≤ 8 ∧ LetP (nameByte b 0) ∧ ∀ i, i < b.size → LetP (nameByte b i) ∨ DigP (nameByte b i)
def NmAns (b : ByteArray) (x : Int) : Prop := (x = 5 ∧ ¬ OkName b) ∨ (x = 0 ∧ OkName b)
theorem NmAns.one {b : ByteArray} {x y : Int} (h : NmAns b x) (k : NmAns b y) : x = y := by
  rcases h with ⟨rfl, h⟩ | ⟨rfl, h⟩ <;> rcases k with ⟨rfl, k⟩ | ⟨rfl, k⟩ <;> first | rfl | exact absurd h k | exact absurd k h

end Go.Proofs.Ythncbkgklhbcjaa
