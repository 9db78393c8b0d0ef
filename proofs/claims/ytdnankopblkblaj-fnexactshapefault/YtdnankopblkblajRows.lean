/-
  No cell of these rows narrows 'for every input' (looked for: loops, veiled, ifaces, maps, wideKeys, modest, calm, conditions, laid).
  DERIVED. THE GIVEN ROWS OF THIS SEAT. 6 by the template 'for every input the law returns true; each argument reads behind the call as it read before'; 0 by the template 'total and deterministic' (their statements: YtdnankopblkblajTotals.lean).
  GIVEN WITH THE SEED: the statements are not yours to turn. If you find one false, say at which input.
  Laid BY PROGRAM, IN A SANDBOX (cutbox-rows.mjs): the forced cells as the released guide's own fill.sh prints them over the translation d2b20247e5d0ff5b… (all of the seat's roots in one cut). By AI agents, Wed Nov 11 2026. No macro, syntax, notation, axiom, sorry.
-/
import Derived.Test.YtdnankopblkblajChecked
import GoSem.Claim
import GoSem.ClaimJoined
import GoSem.ClaimMapViews
import Derived.JoinedTies
import Derived.KernelRfl
namespace Go.Proofs.Ytdnankopblkblaj
/- THE CELL 'sum', in the pinned program and in every row, IS THE sha256 OF THE DUMP (.gsa) THAT YtdnankopblkblajProg.lean LOADS. Nothing in Lean hashes anything: it is a label: what it is worth is what the hold of that sum in a sandbox is worth. -/
noncomputable def Try.pinned : Pinned := { name := "ytdnankopblkblaj", sum := "d2b20247e5d0ff5b96ead783825ca643056d39381194b97f0565e798b7956bce", checked := Try.checked }
namespace Rows
def none {H : Type} : Left H := { results := [], args := [] }

/-- 'laws.FnExactShareOf': WHATEVER THE INPUT: true; the input reads as it did. -/
def fnExactShareOfSpec : ChangeSpec := { name := "fnExactShareOf", fn := fun _ => fun
  | [d1, d2, d3, d4] => { results := [.lit (.bool true)], args := [d1, d2, d3, d4] }
  | _ => none }
def fnExactShareOfRow : OpenClaim := { program := "ytdnankopblkblaj", sum := "d2b20247e5d0ff5b96ead783825ca643056d39381194b97f0565e798b7956bce", func := "loop.example/g00089/laws.FnExactShareOf", spec := "fnExactShareOf", plainKeys := false, apart := false }
def FnExactShareOfSaid : Prop := fnExactShareOfRow.holds Try.pinned (OpenSpec.ofChange fnExactShareOfSpec)

/-- ITS FALSE NEIGHBOUR: 'it returns false'. Refute it at one input. -/
def fnExactShareOfWrong : ChangeSpec := { name := "fnExactShareOf", fn := fun _ => fun
  | [d1, d2, d3, d4] => { results := [.lit (.bool false)], args := [d1, d2, d3, d4] }
  | _ => none }
def FnExactShareOfWrongFalsely : Prop := fnExactShareOfRow.holds Try.pinned (OpenSpec.ofChange fnExactShareOfWrong)

/-- 'laws.FnExactDecodeColumn': WHATEVER THE INPUT: true; the input reads as it did. -/
def fnExactDecodeColumnSpec : ChangeSpec := { name := "fnExactDecodeColumn", fn := fun _ => fun
  | [d1, d2, d3] => { results := [.lit (.bool true)], args := [d1, d2, d3] }
  | _ => none }
def fnExactDecodeColumnRow : OpenClaim := { program := "ytdnankopblkblaj", sum := "d2b20247e5d0ff5b96ead783825ca643056d39381194b97f0565e798b7956bce", func := "loop.example/g00089/laws.FnExactDecodeColumn", spec := "fnExactDecodeColumn", plainKeys := false, apart := false }
def FnExactDecodeColumnSaid : Prop := fnExactDecodeColumnRow.holds Try.pinned (OpenSpec.ofChange fnExactDecodeColumnSpec)

/-- ITS FALSE NEIGHBOUR: 'it returns false'. Refute it at one input. -/
def fnExactDecodeColumnWrong : ChangeSpec := { name := "fnExactDecodeColumn", fn := fun _ => fun
  | [d1, d2, d3] => { results := [.lit (.bool false)], args := [d1, d2, d3] }
  | _ => none }
def FnExactDecodeColumnWrongFalsely : Prop := fnExactDecodeColumnRow.holds Try.pinned (OpenSpec.ofChange fnExactDecodeColumnWrong)

/-- 'laws.FnExactFactorOf': WHATEVER THE INPUT: true; the input reads as it did. -/
def fnExactFactorOfSpec : ChangeSpec := { name := "fnExactFactorOf", fn := fun _ => fun
  | [d1, d2, d3, d4] => { results := [.lit (.bool true)], args := [d1, d2, d3, d4] }
  | _ => none }
def fnExactFactorOfRow : OpenClaim := { program := "ytdnankopblkblaj", sum := "d2b20247e5d0ff5b96ead783825ca643056d39381194b97f0565e798b7956bce", func := "loop.example/g00089/laws.FnExactFactorOf", spec := "fnExactFactorOf", plainKeys := false, apart := false }
def FnExactFactorOfSaid : Prop := fnExactFactorOfRow.holds Try.pinned (OpenSpec.ofChange fnExactFactorOfSpec)

/-- ITS FALSE NEIGHBOUR: 'it returns false'. Refute it at one input. -/
def fnExactFactorOfWrong : ChangeSpec := { name := "fnExactFactorOf", fn := fun _ => fun
  | [d1, d2, d3, d4] => { results := [.lit (.bool false)], args := [d1, d2, d3, d4] }
  | _ => none }
def FnExactFactorOfWrongFalsely : Prop := fnExactFactorOfRow.holds Try.pinned (OpenSpec.ofChange fnExactFactorOfWrong)

/-- 'laws.FnExactAddShare': WHATEVER THE INPUT: true; the input reads as it did. -/
def fnExactAddShareSpec : ChangeSpec := { name := "fnExactAddShare", fn := fun _ => fun
  | [d1, d2, d3] => { results := [.lit (.bool true)], args := [d1, d2, d3] }
  | _ => none }
def fnExactAddShareRow : OpenClaim := { program := "ytdnankopblkblaj", sum := "d2b20247e5d0ff5b96ead783825ca643056d39381194b97f0565e798b7956bce", func := "loop.example/g00089/laws.FnExactAddShare", spec := "fnExactAddShare", plainKeys := false, apart := false }
def FnExactAddShareSaid : Prop := fnExactAddShareRow.holds Try.pinned (OpenSpec.ofChange fnExactAddShareSpec)

/-- ITS FALSE NEIGHBOUR: 'it returns false'. Refute it at one input. -/
def fnExactAddShareWrong : ChangeSpec := { name := "fnExactAddShare", fn := fun _ => fun
  | [d1, d2, d3] => { results := [.lit (.bool false)], args := [d1, d2, d3] }
  | _ => none }
def FnExactAddShareWrongFalsely : Prop := fnExactAddShareRow.holds Try.pinned (OpenSpec.ofChange fnExactAddShareWrong)

/-- 'laws.FnExactNameFault': WHATEVER THE INPUT: true; the input reads as it did. -/
def fnExactNameFaultSpec : ChangeSpec := { name := "fnExactNameFault", fn := fun _ => fun
  | [d] => { results := [.lit (.bool true)], args := [d] }
  | _ => none }
def fnExactNameFaultRow : OpenClaim := { program := "ytdnankopblkblaj", sum := "d2b20247e5d0ff5b96ead783825ca643056d39381194b97f0565e798b7956bce", func := "loop.example/g00089/laws.FnExactNameFault", spec := "fnExactNameFault", plainKeys := false, apart := false }
def FnExactNameFaultSaid : Prop := fnExactNameFaultRow.holds Try.pinned (OpenSpec.ofChange fnExactNameFaultSpec)

/-- ITS FALSE NEIGHBOUR: 'it returns false'. Refute it at one input. -/
def fnExactNameFaultWrong : ChangeSpec := { name := "fnExactNameFault", fn := fun _ => fun
  | [d] => { results := [.lit (.bool false)], args := [d] }
  | _ => none }
def FnExactNameFaultWrongFalsely : Prop := fnExactNameFaultRow.holds Try.pinned (OpenSpec.ofChange fnExactNameFaultWrong)

/-- 'laws.FnExactShapeFault': WHATEVER THE INPUT: true; the input reads as it did. -/
def fnExactShapeFaultSpec : ChangeSpec := { name := "fnExactShapeFault", fn := fun _ => fun
  | [d] => { results := [.lit (.bool true)], args := [d] }
  | _ => none }
def fnExactShapeFaultRow : OpenClaim := { program := "ytdnankopblkblaj", sum := "d2b20247e5d0ff5b96ead783825ca643056d39381194b97f0565e798b7956bce", func := "loop.example/g00089/laws.FnExactShapeFault", spec := "fnExactShapeFault", plainKeys := false, apart := false }
def FnExactShapeFaultSaid : Prop := fnExactShapeFaultRow.holds Try.pinned (OpenSpec.ofChange fnExactShapeFaultSpec)

/-- ITS FALSE NEIGHBOUR: 'it returns false'. Refute it at one input. -/
def fnExactShapeFaultWrong : ChangeSpec := { name := "fnExactShapeFault", fn := fun _ => fun
  | [d] => { results := [.lit (.bool false)], args := [d] }
  | _ => none }
def FnExactShapeFaultWrongFalsely : Prop := fnExactShapeFaultRow.holds Try.pinned (OpenSpec.ofChange fnExactShapeFaultWrong)

/- THE SECOND FORM. 'bulk': how many values and letters a reading holds, each counted each time it is reached (what is shared counts as often as it is met; a slice's spare places count too). A statement '..UptoSaid' is the law's where the arguments, and the package variables that the reading takes, are together of bulk at most 1048576: NARROWER than '..Said'. Prove '..Said' where nothing that the law and all that it calls make is longer than what came in: it says more and counts as full. Else prove '..UptoSaid'. A law counts once. -/
mutual
def uptoBulk {H : Type} : DataW H → Nat
  | .lit (.string bytes) => bytes.length + 1
  | .lit _ => 1
  | .nil => 1
  | .ptr d => uptoBulk d + 1
  | .slice elems spare => uptoBulkAll elems + uptoBulkAll spare + 1
  | .agg parts => uptoBulkAll parts + 1
  | .iface _ d => uptoBulk d + 1
  | .map entries => uptoBulkEntries entries + 1
  | .held _ => 1
def uptoBulkAll {H : Type} : List (DataW H) → Nat
  | [] => 0
  | d :: r => uptoBulk d + uptoBulkAll r
def uptoBulkEntries {H : Type} : List (Lit × DataW H) → Nat
  | [] => 0
  | x :: r => uptoBulkEntry x + uptoBulkEntries r
def uptoBulkEntry {H : Type} : Lit × DataW H → Nat
  | (.string bytes, d) => bytes.length + uptoBulk d + 1
  | (_, d) => uptoBulk d + 1
 end
def uptoSmall : (H : Type) → List (DataW H) → Bool := fun _ ds => decide (uptoBulkAll ds ≤ 1048576)
def OpenSpec.upto (s : _root_.Go.ChangeSpec) : _root_.Go.OpenSpec := { _root_.Go.OpenSpec.ofChange s with cond := some uptoSmall }

/-- 'laws.FnExactShareOf', WHERE WHAT IT READS IS OF BULK AT MOST 1048576: true; the input reads as it did. -/
def fnExactShareOfUptoRow : OpenClaim := { program := "ytdnankopblkblaj", sum := "d2b20247e5d0ff5b96ead783825ca643056d39381194b97f0565e798b7956bce", func := "loop.example/g00089/laws.FnExactShareOf", spec := "fnExactShareOf", plainKeys := false, apart := false, narrowed := true }
def FnExactShareOfUptoSaid : Prop := fnExactShareOfUptoRow.holds Try.pinned (OpenSpec.upto fnExactShareOfSpec)

/-- 'laws.FnExactDecodeColumn', WHERE WHAT IT READS IS OF BULK AT MOST 1048576: true; the input reads as it did. -/
def fnExactDecodeColumnUptoRow : OpenClaim := { program := "ytdnankopblkblaj", sum := "d2b20247e5d0ff5b96ead783825ca643056d39381194b97f0565e798b7956bce", func := "loop.example/g00089/laws.FnExactDecodeColumn", spec := "fnExactDecodeColumn", plainKeys := false, apart := false, narrowed := true }
def FnExactDecodeColumnUptoSaid : Prop := fnExactDecodeColumnUptoRow.holds Try.pinned (OpenSpec.upto fnExactDecodeColumnSpec)

/-- 'laws.FnExactFactorOf', WHERE WHAT IT READS IS OF BULK AT MOST 1048576: true; the input reads as it did. -/
def fnExactFactorOfUptoRow : OpenClaim := { program := "ytdnankopblkblaj", sum := "d2b20247e5d0ff5b96ead783825ca643056d39381194b97f0565e798b7956bce", func := "loop.example/g00089/laws.FnExactFactorOf", spec := "fnExactFactorOf", plainKeys := false, apart := false, narrowed := true }
def FnExactFactorOfUptoSaid : Prop := fnExactFactorOfUptoRow.holds Try.pinned (OpenSpec.upto fnExactFactorOfSpec)

/-- 'laws.FnExactAddShare', WHERE WHAT IT READS IS OF BULK AT MOST 1048576: true; the input reads as it did. -/
def fnExactAddShareUptoRow : OpenClaim := { program := "ytdnankopblkblaj", sum := "d2b20247e5d0ff5b96ead783825ca643056d39381194b97f0565e798b7956bce", func := "loop.example/g00089/laws.FnExactAddShare", spec := "fnExactAddShare", plainKeys := false, apart := false, narrowed := true }
def FnExactAddShareUptoSaid : Prop := fnExactAddShareUptoRow.holds Try.pinned (OpenSpec.upto fnExactAddShareSpec)

/-- 'laws.FnExactNameFault', WHERE WHAT IT READS IS OF BULK AT MOST 1048576: true; the input reads as it did. -/
def fnExactNameFaultUptoRow : OpenClaim := { program := "ytdnankopblkblaj", sum := "d2b20247e5d0ff5b96ead783825ca643056d39381194b97f0565e798b7956bce", func := "loop.example/g00089/laws.FnExactNameFault", spec := "fnExactNameFault", plainKeys := false, apart := false, narrowed := true }
def FnExactNameFaultUptoSaid : Prop := fnExactNameFaultUptoRow.holds Try.pinned (OpenSpec.upto fnExactNameFaultSpec)

/-- 'laws.FnExactShapeFault', WHERE WHAT IT READS IS OF BULK AT MOST 1048576: true; the input reads as it did. -/
def fnExactShapeFaultUptoRow : OpenClaim := { program := "ytdnankopblkblaj", sum := "d2b20247e5d0ff5b96ead783825ca643056d39381194b97f0565e798b7956bce", func := "loop.example/g00089/laws.FnExactShapeFault", spec := "fnExactShapeFault", plainKeys := false, apart := false, narrowed := true }
def FnExactShapeFaultUptoSaid : Prop := fnExactShapeFaultUptoRow.holds Try.pinned (OpenSpec.upto fnExactShapeFaultSpec)

end Rows
end Go.Proofs.Ytdnankopblkblaj
