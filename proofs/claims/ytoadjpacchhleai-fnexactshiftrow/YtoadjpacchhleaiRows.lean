/-
  No cell of these rows narrows 'for every input' (looked for: loops, veiled, ifaces, maps, wideKeys, modest, calm, conditions, laid).
  DERIVED. THE GIVEN ROWS OF THIS SEAT. 6 by the template 'for every input the law returns true; each argument reads behind the call as it read before'; 0 by the template 'total and deterministic' (their statements: YtoadjpacchhleaiTotals.lean).
  GIVEN WITH THE SEED: the statements are not yours to turn. If you find one false, say at which input.
  Laid BY PROGRAM, IN A SANDBOX (cutbox-rows.mjs): the forced cells as the released guide's own fill.sh prints them over the translation 7c6e9c845b32ddd8… (all of the seat's roots in one cut). By AI agents, Wed Nov 11 2026. No macro, syntax, notation, axiom, sorry.
-/
import Derived.Test.YtoadjpacchhleaiChecked
import GoSem.Claim
import GoSem.ClaimJoined
import GoSem.ClaimMapViews
import Derived.JoinedTies
import Derived.KernelRfl
namespace Go.Proofs.Ytoadjpacchhleai
/- THE CELL 'sum', in the pinned program and in every row, IS THE sha256 OF THE DUMP (.gsa) THAT YtoadjpacchhleaiProg.lean LOADS. Nothing in Lean hashes anything: it is a label: what it is worth is what the hold of that sum in a sandbox is worth. -/
noncomputable def Try.pinned : Pinned := { name := "ytoadjpacchhleai", sum := "7c6e9c845b32ddd8931b4250ee1cc6d514011921a9c36a76cdde060403a447db", checked := Try.checked }
namespace Rows
def none {H : Type} : Left H := { results := [], args := [] }

/-- 'laws.FnExactRowWeights': WHATEVER THE INPUT: true; the input reads as it did. -/
def fnExactRowWeightsSpec : ChangeSpec := { name := "fnExactRowWeights", fn := fun _ => fun
  | [d1, d2, d3, d4] => { results := [.lit (.bool true)], args := [d1, d2, d3, d4] }
  | _ => none }
def fnExactRowWeightsRow : OpenClaim := { program := "ytoadjpacchhleai", sum := "7c6e9c845b32ddd8931b4250ee1cc6d514011921a9c36a76cdde060403a447db", func := "loop.example/g00089/laws.FnExactRowWeights", spec := "fnExactRowWeights", apart := false }
def FnExactRowWeightsSaid : Prop := fnExactRowWeightsRow.holds Try.pinned (OpenSpec.ofChange fnExactRowWeightsSpec)

/-- ITS FALSE NEIGHBOUR: 'it returns false'. Refute it at one input. -/
def fnExactRowWeightsWrong : ChangeSpec := { name := "fnExactRowWeights", fn := fun _ => fun
  | [d1, d2, d3, d4] => { results := [.lit (.bool false)], args := [d1, d2, d3, d4] }
  | _ => none }
def FnExactRowWeightsWrongFalsely : Prop := fnExactRowWeightsRow.holds Try.pinned (OpenSpec.ofChange fnExactRowWeightsWrong)

/-- 'laws.FnExactDecodeRow': WHATEVER THE INPUT: true; the input reads as it did. -/
def fnExactDecodeRowSpec : ChangeSpec := { name := "fnExactDecodeRow", fn := fun _ => fun
  | [d1, d2, d3] => { results := [.lit (.bool true)], args := [d1, d2, d3] }
  | _ => none }
def fnExactDecodeRowRow : OpenClaim := { program := "ytoadjpacchhleai", sum := "7c6e9c845b32ddd8931b4250ee1cc6d514011921a9c36a76cdde060403a447db", func := "loop.example/g00089/laws.FnExactDecodeRow", spec := "fnExactDecodeRow", apart := false }
def FnExactDecodeRowSaid : Prop := fnExactDecodeRowRow.holds Try.pinned (OpenSpec.ofChange fnExactDecodeRowSpec)

/-- ITS FALSE NEIGHBOUR: 'it returns false'. Refute it at one input. -/
def fnExactDecodeRowWrong : ChangeSpec := { name := "fnExactDecodeRow", fn := fun _ => fun
  | [d1, d2, d3] => { results := [.lit (.bool false)], args := [d1, d2, d3] }
  | _ => none }
def FnExactDecodeRowWrongFalsely : Prop := fnExactDecodeRowRow.holds Try.pinned (OpenSpec.ofChange fnExactDecodeRowWrong)

/-- 'laws.FnExactBlockOf': WHATEVER THE INPUT: true; the input reads as it did. -/
def fnExactBlockOfSpec : ChangeSpec := { name := "fnExactBlockOf", fn := fun _ => fun
  | [d1, d2, d3, d4] => { results := [.lit (.bool true)], args := [d1, d2, d3, d4] }
  | _ => none }
def fnExactBlockOfRow : OpenClaim := { program := "ytoadjpacchhleai", sum := "7c6e9c845b32ddd8931b4250ee1cc6d514011921a9c36a76cdde060403a447db", func := "loop.example/g00089/laws.FnExactBlockOf", spec := "fnExactBlockOf", apart := false }
def FnExactBlockOfSaid : Prop := fnExactBlockOfRow.holds Try.pinned (OpenSpec.ofChange fnExactBlockOfSpec)

/-- ITS FALSE NEIGHBOUR: 'it returns false'. Refute it at one input. -/
def fnExactBlockOfWrong : ChangeSpec := { name := "fnExactBlockOf", fn := fun _ => fun
  | [d1, d2, d3, d4] => { results := [.lit (.bool false)], args := [d1, d2, d3, d4] }
  | _ => none }
def FnExactBlockOfWrongFalsely : Prop := fnExactBlockOfRow.holds Try.pinned (OpenSpec.ofChange fnExactBlockOfWrong)

/-- 'laws.FnExactShiftRow': WHATEVER THE INPUT: true; the input reads as it did. -/
def fnExactShiftRowSpec : ChangeSpec := { name := "fnExactShiftRow", fn := fun _ => fun
  | [d1, d2, d3, d4] => { results := [.lit (.bool true)], args := [d1, d2, d3, d4] }
  | _ => none }
def fnExactShiftRowRow : OpenClaim := { program := "ytoadjpacchhleai", sum := "7c6e9c845b32ddd8931b4250ee1cc6d514011921a9c36a76cdde060403a447db", func := "loop.example/g00089/laws.FnExactShiftRow", spec := "fnExactShiftRow", apart := false }
def FnExactShiftRowSaid : Prop := fnExactShiftRowRow.holds Try.pinned (OpenSpec.ofChange fnExactShiftRowSpec)

/-- ITS FALSE NEIGHBOUR: 'it returns false'. Refute it at one input. -/
def fnExactShiftRowWrong : ChangeSpec := { name := "fnExactShiftRow", fn := fun _ => fun
  | [d1, d2, d3, d4] => { results := [.lit (.bool false)], args := [d1, d2, d3, d4] }
  | _ => none }
def FnExactShiftRowWrongFalsely : Prop := fnExactShiftRowRow.holds Try.pinned (OpenSpec.ofChange fnExactShiftRowWrong)

/-- 'laws.FnExactEncodeColumn': WHATEVER THE INPUT: true; the input reads as it did. -/
def fnExactEncodeColumnSpec : ChangeSpec := { name := "fnExactEncodeColumn", fn := fun _ => fun
  | [d1, d2] => { results := [.lit (.bool true)], args := [d1, d2] }
  | _ => none }
def fnExactEncodeColumnRow : OpenClaim := { program := "ytoadjpacchhleai", sum := "7c6e9c845b32ddd8931b4250ee1cc6d514011921a9c36a76cdde060403a447db", func := "loop.example/g00089/laws.FnExactEncodeColumn", spec := "fnExactEncodeColumn", apart := false }
def FnExactEncodeColumnSaid : Prop := fnExactEncodeColumnRow.holds Try.pinned (OpenSpec.ofChange fnExactEncodeColumnSpec)

/-- ITS FALSE NEIGHBOUR: 'it returns false'. Refute it at one input. -/
def fnExactEncodeColumnWrong : ChangeSpec := { name := "fnExactEncodeColumn", fn := fun _ => fun
  | [d1, d2] => { results := [.lit (.bool false)], args := [d1, d2] }
  | _ => none }
def FnExactEncodeColumnWrongFalsely : Prop := fnExactEncodeColumnRow.holds Try.pinned (OpenSpec.ofChange fnExactEncodeColumnWrong)

/-- 'laws.FnExactColumnFits': WHATEVER THE INPUT: true; the input reads as it did. -/
def fnExactColumnFitsSpec : ChangeSpec := { name := "fnExactColumnFits", fn := fun _ => fun
  | [d1, d2] => { results := [.lit (.bool true)], args := [d1, d2] }
  | _ => none }
def fnExactColumnFitsRow : OpenClaim := { program := "ytoadjpacchhleai", sum := "7c6e9c845b32ddd8931b4250ee1cc6d514011921a9c36a76cdde060403a447db", func := "loop.example/g00089/laws.FnExactColumnFits", spec := "fnExactColumnFits", apart := false }
def FnExactColumnFitsSaid : Prop := fnExactColumnFitsRow.holds Try.pinned (OpenSpec.ofChange fnExactColumnFitsSpec)

/-- ITS FALSE NEIGHBOUR: 'it returns false'. Refute it at one input. -/
def fnExactColumnFitsWrong : ChangeSpec := { name := "fnExactColumnFits", fn := fun _ => fun
  | [d1, d2] => { results := [.lit (.bool false)], args := [d1, d2] }
  | _ => none }
def FnExactColumnFitsWrongFalsely : Prop := fnExactColumnFitsRow.holds Try.pinned (OpenSpec.ofChange fnExactColumnFitsWrong)

/- THE SECOND FORM. 'bulk': how many values and letters a reading holds, each counted each time it is reached (what is shared counts as often as it is met; a slice's spare places count too). A statement '..UptoSaid' is the law's where the arguments, and the package variables that the reading takes, are together of bulk at most 1048576: NARROWER than '..Said'. Prove '..Said' where nothing that the law and all that it calls make is longer than what came in: it says more and counts as full. Else prove '..UptoSaid'. A law counts once. -/
mutual
def uptoBulk {H : Type} : DataW H → Nat
  | .lit (.string bytes) => bytes.length + 1
  | .lit _ => 1
  | .nil => 1
  | .ptr d => uptoBulk d + 1
  | .slice elems spare => uptoBulkAll elems + uptoBulkAll spare + 1
  | .agg parts => uptoBulkAll parts + 1
  | .iface _ d => uptoBulk d + 1
  | .map entries => uptoBulkEntries entries + 1
  | .held _ => 1
def uptoBulkAll {H : Type} : List (DataW H) → Nat
  | [] => 0
  | d :: r => uptoBulk d + uptoBulkAll r
def uptoBulkEntries {H : Type} : List (Lit × DataW H) → Nat
  | [] => 0
  | x :: r => uptoBulkEntry x + uptoBulkEntries r
def uptoBulkEntry {H : Type} : Lit × DataW H → Nat
  | (.string bytes, d) => bytes.length + uptoBulk d + 1
  | (_, d) => uptoBulk d + 1
 end
def uptoSmall : (H : Type) → List (DataW H) → Bool := fun _ ds => decide (uptoBulkAll ds ≤ 1048576)
def OpenSpec.upto (s : _root_.Go.ChangeSpec) : _root_.Go.OpenSpec := { _root_.Go.OpenSpec.ofChange s with cond := some uptoSmall }

/-- 'laws.FnExactRowWeights', WHERE WHAT IT READS IS OF BULK AT MOST 1048576: true; the input reads as it did. -/
def fnExactRowWeightsUptoRow : OpenClaim := { program := "ytoadjpacchhleai", sum := "7c6e9c845b32ddd8931b4250ee1cc6d514011921a9c36a76cdde060403a447db", func := "loop.example/g00089/laws.FnExactRowWeights", spec := "fnExactRowWeights", apart := false, narrowed := true }
def FnExactRowWeightsUptoSaid : Prop := fnExactRowWeightsUptoRow.holds Try.pinned (OpenSpec.upto fnExactRowWeightsSpec)

/-- 'laws.FnExactDecodeRow', WHERE WHAT IT READS IS OF BULK AT MOST 1048576: true; the input reads as it did. -/
def fnExactDecodeRowUptoRow : OpenClaim := { program := "ytoadjpacchhleai", sum := "7c6e9c845b32ddd8931b4250ee1cc6d514011921a9c36a76cdde060403a447db", func := "loop.example/g00089/laws.FnExactDecodeRow", spec := "fnExactDecodeRow", apart := false, narrowed := true }
def FnExactDecodeRowUptoSaid : Prop := fnExactDecodeRowUptoRow.holds Try.pinned (OpenSpec.upto fnExactDecodeRowSpec)

/-- 'laws.FnExactBlockOf', WHERE WHAT IT READS IS OF BULK AT MOST 1048576: true; the input reads as it did. -/
def fnExactBlockOfUptoRow : OpenClaim := { program := "ytoadjpacchhleai", sum := "7c6e9c845b32ddd8931b4250ee1cc6d514011921a9c36a76cdde060403a447db", func := "loop.example/g00089/laws.FnExactBlockOf", spec := "fnExactBlockOf", apart := false, narrowed := true }
def FnExactBlockOfUptoSaid : Prop := fnExactBlockOfUptoRow.holds Try.pinned (OpenSpec.upto fnExactBlockOfSpec)

/-- 'laws.FnExactShiftRow', WHERE WHAT IT READS IS OF BULK AT MOST 1048576: true; the input reads as it did. -/
def fnExactShiftRowUptoRow : OpenClaim := { program := "ytoadjpacchhleai", sum := "7c6e9c845b32ddd8931b4250ee1cc6d514011921a9c36a76cdde060403a447db", func := "loop.example/g00089/laws.FnExactShiftRow", spec := "fnExactShiftRow", apart := false, narrowed := true }
def FnExactShiftRowUptoSaid : Prop := fnExactShiftRowUptoRow.holds Try.pinned (OpenSpec.upto fnExactShiftRowSpec)

/-- 'laws.FnExactEncodeColumn', WHERE WHAT IT READS IS OF BULK AT MOST 1048576: true; the input reads as it did. -/
def fnExactEncodeColumnUptoRow : OpenClaim := { program := "ytoadjpacchhleai", sum := "7c6e9c845b32ddd8931b4250ee1cc6d514011921a9c36a76cdde060403a447db", func := "loop.example/g00089/laws.FnExactEncodeColumn", spec := "fnExactEncodeColumn", apart := false, narrowed := true }
def FnExactEncodeColumnUptoSaid : Prop := fnExactEncodeColumnUptoRow.holds Try.pinned (OpenSpec.upto fnExactEncodeColumnSpec)

/-- 'laws.FnExactColumnFits', WHERE WHAT IT READS IS OF BULK AT MOST 1048576: true; the input reads as it did. -/
def fnExactColumnFitsUptoRow : OpenClaim := { program := "ytoadjpacchhleai", sum := "7c6e9c845b32ddd8931b4250ee1cc6d514011921a9c36a76cdde060403a447db", func := "loop.example/g00089/laws.FnExactColumnFits", spec := "fnExactColumnFits", apart := false, narrowed := true }
def FnExactColumnFitsUptoSaid : Prop := fnExactColumnFitsUptoRow.holds Try.pinned (OpenSpec.upto fnExactColumnFitsSpec)

end Rows
end Go.Proofs.Ytoadjpacchhleai
