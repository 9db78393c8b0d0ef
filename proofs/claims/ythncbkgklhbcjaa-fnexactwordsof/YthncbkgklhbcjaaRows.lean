/-
  No cell of these rows narrows 'for every input' (looked for: loops, veiled, ifaces, maps, wideKeys, modest, calm, conditions, laid).
  DERIVED. THE GIVEN ROWS OF THIS SEAT. 3 by the template 'for every input the law returns true; each argument reads behind the call as it read before'; 0 by the template 'total and deterministic' (their statements: YthncbkgklhbcjaaTotals.lean).
  GIVEN WITH THE SEED: the statements are not yours to turn. If you find one false, say at which input.
  Laid BY PROGRAM, IN A SANDBOX (cutbox-rows.mjs): the forced cells as the released guide's own fill.sh prints them over the translation 11e977de7a51dadc… (all of the seat's roots in one cut). By AI agents, Wed Nov 11 2026. No macro, syntax, notation, axiom, sorry.
-/
import Derived.Test.YthncbkgklhbcjaaChecked
import GoSem.Claim
import GoSem.ClaimJoined
import GoSem.ClaimMapViews
import Derived.JoinedTies
import Derived.KernelRfl
namespace Go.Proofs.Ythncbkgklhbcjaa
/- THE CELL 'sum', in the pinned program and in every row, IS THE sha256 OF THE DUMP (.gsa) THAT YthncbkgklhbcjaaProg.lean LOADS. Nothing in Lean hashes anything: it is a label: what it is worth is what the hold of that sum in a sandbox is worth. -/
noncomputable def Try.pinned : Pinned := { name := "ythncbkgklhbcjaa", sum := "11e977de7a51dadc2d9bf85c1feac4f65774a7c06bcda8bf3be5b0dd919aff7e", checked := Try.checked }
namespace Rows
def none {H : Type} : Left H := { results := [], args := [] }

/-- 'laws.FnExactBytesOfHex': WHATEVER THE INPUT: true; the input reads as it did. -/
def fnExactBytesOfHexSpec : ChangeSpec := { name := "fnExactBytesOfHex", fn := fun _ => fun
  | [d] => { results := [.lit (.bool true)], args := [d] }
  | _ => none }
def fnExactBytesOfHexRow : OpenClaim := { program := "ythncbkgklhbcjaa", sum := "11e977de7a51dadc2d9bf85c1feac4f65774a7c06bcda8bf3be5b0dd919aff7e", func := "loop.example/g00089/laws.FnExactBytesOfHex", spec := "fnExactBytesOfHex", inPlace := ["internal/bytealg.IndexByteString", "internal/bytealg.IndexString"], named := ["internal/bytealg.MaxLen"], apart := false }
def FnExactBytesOfHexSaid : Prop := fnExactBytesOfHexRow.holds Try.pinned (OpenSpec.ofChange fnExactBytesOfHexSpec)

/-- ITS FALSE NEIGHBOUR: 'it returns false'. Refute it at one input. -/
def fnExactBytesOfHexWrong : ChangeSpec := { name := "fnExactBytesOfHex", fn := fun _ => fun
  | [d] => { results := [.lit (.bool false)], args := [d] }
  | _ => none }
def FnExactBytesOfHexWrongFalsely : Prop := fnExactBytesOfHexRow.holds Try.pinned (OpenSpec.ofChange fnExactBytesOfHexWrong)

/-- 'laws.FnExactWordsOf': WHATEVER THE INPUT: true; the input reads as it did. -/
def fnExactWordsOfSpec : ChangeSpec := { name := "fnExactWordsOf", fn := fun _ => fun
  | [d] => { results := [.lit (.bool true)], args := [d] }
  | _ => none }
def fnExactWordsOfRow : OpenClaim := { program := "ythncbkgklhbcjaa", sum := "11e977de7a51dadc2d9bf85c1feac4f65774a7c06bcda8bf3be5b0dd919aff7e", func := "loop.example/g00089/laws.FnExactWordsOf", spec := "fnExactWordsOf", unfollowed := true, recurses := true, apart := false }
def FnExactWordsOfSaid : Prop := fnExactWordsOfRow.holds Try.pinned (OpenSpec.ofChange fnExactWordsOfSpec)

/-- ITS FALSE NEIGHBOUR: 'it returns false'. Refute it at one input. -/
def fnExactWordsOfWrong : ChangeSpec := { name := "fnExactWordsOf", fn := fun _ => fun
  | [d] => { results := [.lit (.bool false)], args := [d] }
  | _ => none }
def FnExactWordsOfWrongFalsely : Prop := fnExactWordsOfRow.holds Try.pinned (OpenSpec.ofChange fnExactWordsOfWrong)

/-- 'laws.FnExactReadBound': WHATEVER THE INPUT: true; the input reads as it did. -/
def fnExactReadBoundSpec : ChangeSpec := { name := "fnExactReadBound", fn := fun _ => fun
  | [d1, d2] => { results := [.lit (.bool true)], args := [d1, d2] }
  | _ => none }
def fnExactReadBoundRow : OpenClaim := { program := "ythncbkgklhbcjaa", sum := "11e977de7a51dadc2d9bf85c1feac4f65774a7c06bcda8bf3be5b0dd919aff7e", func := "loop.example/g00089/laws.FnExactReadBound", spec := "fnExactReadBound", apart := false }
def FnExactReadBoundSaid : Prop := fnExactReadBoundRow.holds Try.pinned (OpenSpec.ofChange fnExactReadBoundSpec)

/-- ITS FALSE NEIGHBOUR: 'it returns false'. Refute it at one input. -/
def fnExactReadBoundWrong : ChangeSpec := { name := "fnExactReadBound", fn := fun _ => fun
  | [d1, d2] => { results := [.lit (.bool false)], args := [d1, d2] }
  | _ => none }
def FnExactReadBoundWrongFalsely : Prop := fnExactReadBoundRow.holds Try.pinned (OpenSpec.ofChange fnExactReadBoundWrong)

/- THE SECOND FORM. 'bulk': how many values and letters a reading holds, each counted each time it is reached (what is shared counts as often as it is met; a slice's spare places count too). A statement '..UptoSaid' is the law's where the arguments, and the package variables that the reading takes, are together of bulk at most 1048576: NARROWER than '..Said'. Prove '..Said' where nothing that the law and all that it calls make is longer than what came in: it says more and counts as full. Else prove '..UptoSaid'. A law counts once. -/
mutual
def uptoBulk {H : Type} : DataW H → Nat
  | .lit (.string bytes) => bytes.length + 1
  | .lit _ => 1
  | .nil => 1
  | .ptr d => uptoBulk d + 1
  | .slice elems spare => uptoBulkAll elems + uptoBulkAll spare + 1
  | .agg parts => uptoBulkAll parts + 1
  | .iface _ d => uptoBulk d + 1
  | .map entries => uptoBulkEntries entries + 1
  | .held _ => 1
def uptoBulkAll {H : Type} : List (DataW H) → Nat
  | [] => 0
  | d :: r => uptoBulk d + uptoBulkAll r
def uptoBulkEntries {H : Type} : List (Lit × DataW H) → Nat
  | [] => 0
  | x :: r => uptoBulkEntry x + uptoBulkEntries r
def uptoBulkEntry {H : Type} : Lit × DataW H → Nat
  | (.string bytes, d) => bytes.length + uptoBulk d + 1
  | (_, d) => uptoBulk d + 1
 end
def uptoSmall : (H : Type) → List (DataW H) → Bool := fun _ ds => decide (uptoBulkAll ds ≤ 1048576)
def OpenSpec.upto (s : _root_.Go.ChangeSpec) : _root_.Go.OpenSpec := { _root_.Go.OpenSpec.ofChange s with cond := some uptoSmall }

/-- 'laws.FnExactBytesOfHex', WHERE WHAT IT READS IS OF BULK AT MOST 1048576: true; the input reads as it did. -/
def fnExactBytesOfHexUptoRow : OpenClaim := { program := "ythncbkgklhbcjaa", sum := "11e977de7a51dadc2d9bf85c1feac4f65774a7c06bcda8bf3be5b0dd919aff7e", func := "loop.example/g00089/laws.FnExactBytesOfHex", spec := "fnExactBytesOfHex", inPlace := ["internal/bytealg.IndexByteString", "internal/bytealg.IndexString"], named := ["internal/bytealg.MaxLen"], apart := false, narrowed := true }
def FnExactBytesOfHexUptoSaid : Prop := fnExactBytesOfHexUptoRow.holds Try.pinned (OpenSpec.upto fnExactBytesOfHexSpec)

/-- 'laws.FnExactWordsOf', WHERE WHAT IT READS IS OF BULK AT MOST 1048576: true; the input reads as it did. -/
def fnExactWordsOfUptoRow : OpenClaim := { program := "ythncbkgklhbcjaa", sum := "11e977de7a51dadc2d9bf85c1feac4f65774a7c06bcda8bf3be5b0dd919aff7e", func := "loop.example/g00089/laws.FnExactWordsOf", spec := "fnExactWordsOf", unfollowed := true, recurses := true, apart := false, narrowed := true }
def FnExactWordsOfUptoSaid : Prop := fnExactWordsOfUptoRow.holds Try.pinned (OpenSpec.upto fnExactWordsOfSpec)

/-- 'laws.FnExactReadBound', WHERE WHAT IT READS IS OF BULK AT MOST 1048576: true; the input reads as it did. -/
def fnExactReadBoundUptoRow : OpenClaim := { program := "ythncbkgklhbcjaa", sum := "11e977de7a51dadc2d9bf85c1feac4f65774a7c06bcda8bf3be5b0dd919aff7e", func := "loop.example/g00089/laws.FnExactReadBound", spec := "fnExactReadBound", apart := false, narrowed := true }
def FnExactReadBoundUptoSaid : Prop := fnExactReadBoundUptoRow.holds Try.pinned (OpenSpec.upto fnExactReadBoundSpec)

end Rows
end Go.Proofs.Ythncbkgklhbcjaa
