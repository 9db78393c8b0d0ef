/-
  No cell of these rows narrows 'for every input' (looked for: loops, veiled, ifaces, maps, wideKeys, modest, calm, conditions, laid).
  DERIVED. THE GIVEN ROWS OF THIS SEAT. 5 by the template 'for every input the law returns true; each argument reads behind the call as it read before'; 0 by the template 'total and deterministic' (their statements: YteelhafnkkfcbagTotals.lean).
  GIVEN WITH THE SEED: the statements are not yours to turn. If you find one false, say at which input.
  Laid BY PROGRAM, IN A SANDBOX (cutbox-rows.mjs): the forced cells as the released guide's own fill.sh prints them over the translation 764d828472df4283… (all of the seat's roots in one cut). By AI agents, Wed Nov 11 2026. No macro, syntax, notation, axiom, sorry.
-/
import Derived.Test.YteelhafnkkfcbagChecked
import GoSem.Claim
import GoSem.ClaimJoined
import GoSem.ClaimMapViews
import Derived.JoinedTies
import Derived.KernelRfl
namespace Go.Proofs.Yteelhafnkkfcbag
/- THE CELL 'sum', in the pinned program and in every row, IS THE sha256 OF THE DUMP (.gsa) THAT YteelhafnkkfcbagProg.lean LOADS. Nothing in Lean hashes anything: it is a label: what it is worth is what the hold of that sum in a sandbox is worth. -/
noncomputable def Try.pinned : Pinned := { name := "yteelhafnkkfcbag", sum := "764d828472df4283de765ecb300ef17b9e05ef98cc094140abadbefbde218964", checked := Try.checked }
namespace Rows
def none {H : Type} : Left H := { results := [], args := [] }

/-- 'laws.FnExactMulG': WHATEVER THE INPUT: true; the input reads as it did. -/
def fnExactMulGSpec : ChangeSpec := { name := "fnExactMulG", fn := fun _ => fun
  | [d1, d2] => { results := [.lit (.bool true)], args := [d1, d2] }
  | _ => none }
def fnExactMulGRow : OpenClaim := { program := "yteelhafnkkfcbag", sum := "764d828472df4283de765ecb300ef17b9e05ef98cc094140abadbefbde218964", func := "loop.example/g00089/laws.FnExactMulG", spec := "fnExactMulG", apart := false }
def FnExactMulGSaid : Prop := fnExactMulGRow.holds Try.pinned (OpenSpec.ofChange fnExactMulGSpec)

/-- ITS FALSE NEIGHBOUR: 'it returns false'. Refute it at one input. -/
def fnExactMulGWrong : ChangeSpec := { name := "fnExactMulG", fn := fun _ => fun
  | [d1, d2] => { results := [.lit (.bool false)], args := [d1, d2] }
  | _ => none }
def FnExactMulGWrongFalsely : Prop := fnExactMulGRow.holds Try.pinned (OpenSpec.ofChange fnExactMulGWrong)

/-- 'laws.FnExactPowG': WHATEVER THE INPUT: true; the input reads as it did. -/
def fnExactPowGSpec : ChangeSpec := { name := "fnExactPowG", fn := fun _ => fun
  | [d1, d2] => { results := [.lit (.bool true)], args := [d1, d2] }
  | _ => none }
def fnExactPowGRow : OpenClaim := { program := "yteelhafnkkfcbag", sum := "764d828472df4283de765ecb300ef17b9e05ef98cc094140abadbefbde218964", func := "loop.example/g00089/laws.FnExactPowG", spec := "fnExactPowG", apart := false }
def FnExactPowGSaid : Prop := fnExactPowGRow.holds Try.pinned (OpenSpec.ofChange fnExactPowGSpec)

/-- ITS FALSE NEIGHBOUR: 'it returns false'. Refute it at one input. -/
def fnExactPowGWrong : ChangeSpec := { name := "fnExactPowG", fn := fun _ => fun
  | [d1, d2] => { results := [.lit (.bool false)], args := [d1, d2] }
  | _ => none }
def FnExactPowGWrongFalsely : Prop := fnExactPowGRow.holds Try.pinned (OpenSpec.ofChange fnExactPowGWrong)

/-- 'laws.FnExactDivG': WHATEVER THE INPUT: true; the input reads as it did. -/
def fnExactDivGSpec : ChangeSpec := { name := "fnExactDivG", fn := fun _ => fun
  | [d1, d2] => { results := [.lit (.bool true)], args := [d1, d2] }
  | _ => none }
def fnExactDivGRow : OpenClaim := { program := "yteelhafnkkfcbag", sum := "764d828472df4283de765ecb300ef17b9e05ef98cc094140abadbefbde218964", func := "loop.example/g00089/laws.FnExactDivG", spec := "fnExactDivG", apart := false }
def FnExactDivGSaid : Prop := fnExactDivGRow.holds Try.pinned (OpenSpec.ofChange fnExactDivGSpec)

/-- ITS FALSE NEIGHBOUR: 'it returns false'. Refute it at one input. -/
def fnExactDivGWrong : ChangeSpec := { name := "fnExactDivG", fn := fun _ => fun
  | [d1, d2] => { results := [.lit (.bool false)], args := [d1, d2] }
  | _ => none }
def FnExactDivGWrongFalsely : Prop := fnExactDivGRow.holds Try.pinned (OpenSpec.ofChange fnExactDivGWrong)

/-- 'laws.FnExactAddBytes': WHATEVER THE INPUT: true; the input reads as it did. -/
def fnExactAddBytesSpec : ChangeSpec := { name := "fnExactAddBytes", fn := fun _ => fun
  | [d1, d2] => { results := [.lit (.bool true)], args := [d1, d2] }
  | _ => none }
def fnExactAddBytesRow : OpenClaim := { program := "yteelhafnkkfcbag", sum := "764d828472df4283de765ecb300ef17b9e05ef98cc094140abadbefbde218964", func := "loop.example/g00089/laws.FnExactAddBytes", spec := "fnExactAddBytes", apart := false }
def FnExactAddBytesSaid : Prop := fnExactAddBytesRow.holds Try.pinned (OpenSpec.ofChange fnExactAddBytesSpec)

/-- ITS FALSE NEIGHBOUR: 'it returns false'. Refute it at one input. -/
def fnExactAddBytesWrong : ChangeSpec := { name := "fnExactAddBytes", fn := fun _ => fun
  | [d1, d2] => { results := [.lit (.bool false)], args := [d1, d2] }
  | _ => none }
def FnExactAddBytesWrongFalsely : Prop := fnExactAddBytesRow.holds Try.pinned (OpenSpec.ofChange fnExactAddBytesWrong)

/-- 'laws.FnExactScaleBytes': WHATEVER THE INPUT: true; the input reads as it did. -/
def fnExactScaleBytesSpec : ChangeSpec := { name := "fnExactScaleBytes", fn := fun _ => fun
  | [d1, d2] => { results := [.lit (.bool true)], args := [d1, d2] }
  | _ => none }
def fnExactScaleBytesRow : OpenClaim := { program := "yteelhafnkkfcbag", sum := "764d828472df4283de765ecb300ef17b9e05ef98cc094140abadbefbde218964", func := "loop.example/g00089/laws.FnExactScaleBytes", spec := "fnExactScaleBytes", apart := false }
def FnExactScaleBytesSaid : Prop := fnExactScaleBytesRow.holds Try.pinned (OpenSpec.ofChange fnExactScaleBytesSpec)

/-- ITS FALSE NEIGHBOUR: 'it returns false'. Refute it at one input. -/
def fnExactScaleBytesWrong : ChangeSpec := { name := "fnExactScaleBytes", fn := fun _ => fun
  | [d1, d2] => { results := [.lit (.bool false)], args := [d1, d2] }
  | _ => none }
def FnExactScaleBytesWrongFalsely : Prop := fnExactScaleBytesRow.holds Try.pinned (OpenSpec.ofChange fnExactScaleBytesWrong)

/- THE SECOND FORM. 'bulk': how many values and letters a reading holds, each counted each time it is reached (what is shared counts as often as it is met; a slice's spare places count too). A statement '..UptoSaid' is the law's where the arguments, and the package variables that the reading takes, are together of bulk at most 1048576: NARROWER than '..Said'. Prove '..Said' where nothing that the law and all that it calls make is longer than what came in: it says more and counts as full. Else prove '..UptoSaid'. A law counts once. -/
mutual
def uptoBulk {H : Type} : DataW H → Nat
  | .lit (.string bytes) => bytes.length + 1
  | .lit _ => 1
  | .nil => 1
  | .ptr d => uptoBulk d + 1
  | .slice elems spare => uptoBulkAll elems + uptoBulkAll spare + 1
  | .agg parts => uptoBulkAll parts + 1
  | .iface _ d => uptoBulk d + 1
  | .map entries => uptoBulkEntries entries + 1
  | .held _ => 1
def uptoBulkAll {H : Type} : List (DataW H) → Nat
  | [] => 0
  | d :: r => uptoBulk d + uptoBulkAll r
def uptoBulkEntries {H : Type} : List (Lit × DataW H) → Nat
  | [] => 0
  | x :: r => uptoBulkEntry x + uptoBulkEntries r
def uptoBulkEntry {H : Type} : Lit × DataW H → Nat
  | (.string bytes, d) => bytes.length + uptoBulk d + 1
  | (_, d) => uptoBulk d + 1
 end
def uptoSmall : (H : Type) → List (DataW H) → Bool := fun _ ds => decide (uptoBulkAll ds ≤ 1048576)
def OpenSpec.upto (s : _root_.Go.ChangeSpec) : _root_.Go.OpenSpec := { _root_.Go.OpenSpec.ofChange s with cond := some uptoSmall }

/-- 'laws.FnExactMulG', WHERE WHAT IT READS IS OF BULK AT MOST 1048576: true; the input reads as it did. -/
def fnExactMulGUptoRow : OpenClaim := { program := "yteelhafnkkfcbag", sum := "764d828472df4283de765ecb300ef17b9e05ef98cc094140abadbefbde218964", func := "loop.example/g00089/laws.FnExactMulG", spec := "fnExactMulG", apart := false, narrowed := true }
def FnExactMulGUptoSaid : Prop := fnExactMulGUptoRow.holds Try.pinned (OpenSpec.upto fnExactMulGSpec)

/-- 'laws.FnExactPowG', WHERE WHAT IT READS IS OF BULK AT MOST 1048576: true; the input reads as it did. -/
def fnExactPowGUptoRow : OpenClaim := { program := "yteelhafnkkfcbag", sum := "764d828472df4283de765ecb300ef17b9e05ef98cc094140abadbefbde218964", func := "loop.example/g00089/laws.FnExactPowG", spec := "fnExactPowG", apart := false, narrowed := true }
def FnExactPowGUptoSaid : Prop := fnExactPowGUptoRow.holds Try.pinned (OpenSpec.upto fnExactPowGSpec)

/-- 'laws.FnExactDivG', WHERE WHAT IT READS IS OF BULK AT MOST 1048576: true; the input reads as it did. -/
def fnExactDivGUptoRow : OpenClaim := { program := "yteelhafnkkfcbag", sum := "764d828472df4283de765ecb300ef17b9e05ef98cc094140abadbefbde218964", func := "loop.example/g00089/laws.FnExactDivG", spec := "fnExactDivG", apart := false, narrowed := true }
def FnExactDivGUptoSaid : Prop := fnExactDivGUptoRow.holds Try.pinned (OpenSpec.upto fnExactDivGSpec)

/-- 'laws.FnExactAddBytes', WHERE WHAT IT READS IS OF BULK AT MOST 1048576: true; the input reads as it did. -/
def fnExactAddBytesUptoRow : OpenClaim := { program := "yteelhafnkkfcbag", sum := "764d828472df4283de765ecb300ef17b9e05ef98cc094140abadbefbde218964", func := "loop.example/g00089/laws.FnExactAddBytes", spec := "fnExactAddBytes", apart := false, narrowed := true }
def FnExactAddBytesUptoSaid : Prop := fnExactAddBytesUptoRow.holds Try.pinned (OpenSpec.upto fnExactAddBytesSpec)

/-- 'laws.FnExactScaleBytes', WHERE WHAT IT READS IS OF BULK AT MOST 1048576: true; the input reads as it did. -/
def fnExactScaleBytesUptoRow : OpenClaim := { program := "yteelhafnkkfcbag", sum := "764d828472df4283de765ecb300ef17b9e05ef98cc094140abadbefbde218964", func := "loop.example/g00089/laws.FnExactScaleBytes", spec := "fnExactScaleBytes", apart := false, narrowed := true }
def FnExactScaleBytesUptoSaid : Prop := fnExactScaleBytesUptoRow.holds Try.pinned (OpenSpec.upto fnExactScaleBytesSpec)

end Rows
end Go.Proofs.Yteelhafnkkfcbag
