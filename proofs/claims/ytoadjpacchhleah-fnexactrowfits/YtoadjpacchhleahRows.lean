/-
  No cell of these rows narrows 'for every input' (looked for: loops, veiled, ifaces, maps, wideKeys, modest, calm, conditions, laid).
  DERIVED. THE GIVEN ROWS OF THIS SEAT. 6 by the template 'for every input the law returns true; each argument reads behind the call as it read before'; 0 by the template 'total and deterministic' (their statements: YtoadjpacchhleahTotals.lean).
  GIVEN WITH THE SEED: the statements are not yours to turn. If you find one false, say at which input.
  Laid BY PROGRAM, IN A SANDBOX (cutbox-rows.mjs): the forced cells as the released guide's own fill.sh prints them over the translation b671551d9d4f80f9… (all of the seat's roots in one cut). By AI agents, Wed Nov 11 2026. No macro, syntax, notation, axiom, sorry.
-/
import Derived.Test.YtoadjpacchhleahChecked
import GoSem.Claim
import GoSem.ClaimJoined
import GoSem.ClaimMapViews
import Derived.JoinedTies
import Derived.KernelRfl
namespace Go.Proofs.Ytoadjpacchhleah
/- THE CELL 'sum', in the pinned program and in every row, IS THE sha256 OF THE DUMP (.gsa) THAT YtoadjpacchhleahProg.lean LOADS. Nothing in Lean hashes anything: it is a label: what it is worth is what the hold of that sum in a sandbox is worth. -/
noncomputable def Try.pinned : Pinned := { name := "ytoadjpacchhleah", sum := "b671551d9d4f80f9b749399346034a11662a575c5bea6eca42d5d19e48f93a5a", checked := Try.checked }
namespace Rows
def none {H : Type} : Left H := { results := [], args := [] }

/-- 'laws.FnExactMixBytes': WHATEVER THE INPUT: true; the input reads as it did. -/
def fnExactMixBytesSpec : ChangeSpec := { name := "fnExactMixBytes", fn := fun _ => fun
  | [d1, d2] => { results := [.lit (.bool true)], args := [d1, d2] }
  | _ => none }
def fnExactMixBytesRow : OpenClaim := { program := "ytoadjpacchhleah", sum := "b671551d9d4f80f9b749399346034a11662a575c5bea6eca42d5d19e48f93a5a", func := "loop.example/g00089/laws.FnExactMixBytes", spec := "fnExactMixBytes", apart := false }
def FnExactMixBytesSaid : Prop := fnExactMixBytesRow.holds Try.pinned (OpenSpec.ofChange fnExactMixBytesSpec)

/-- ITS FALSE NEIGHBOUR: 'it returns false'. Refute it at one input. -/
def fnExactMixBytesWrong : ChangeSpec := { name := "fnExactMixBytes", fn := fun _ => fun
  | [d1, d2] => { results := [.lit (.bool false)], args := [d1, d2] }
  | _ => none }
def FnExactMixBytesWrongFalsely : Prop := fnExactMixBytesRow.holds Try.pinned (OpenSpec.ofChange fnExactMixBytesWrong)

/-- 'laws.FnExactCauchyG': WHATEVER THE INPUT: true; the input reads as it did. -/
def fnExactCauchyGSpec : ChangeSpec := { name := "fnExactCauchyG", fn := fun _ => fun
  | [d1, d2] => { results := [.lit (.bool true)], args := [d1, d2] }
  | _ => none }
def fnExactCauchyGRow : OpenClaim := { program := "ytoadjpacchhleah", sum := "b671551d9d4f80f9b749399346034a11662a575c5bea6eca42d5d19e48f93a5a", func := "loop.example/g00089/laws.FnExactCauchyG", spec := "fnExactCauchyG", apart := false }
def FnExactCauchyGSaid : Prop := fnExactCauchyGRow.holds Try.pinned (OpenSpec.ofChange fnExactCauchyGSpec)

/-- ITS FALSE NEIGHBOUR: 'it returns false'. Refute it at one input. -/
def fnExactCauchyGWrong : ChangeSpec := { name := "fnExactCauchyG", fn := fun _ => fun
  | [d1, d2] => { results := [.lit (.bool false)], args := [d1, d2] }
  | _ => none }
def FnExactCauchyGWrongFalsely : Prop := fnExactCauchyGRow.holds Try.pinned (OpenSpec.ofChange fnExactCauchyGWrong)

/-- 'laws.FnExactSolveG': WHATEVER THE INPUT: true; the input reads as it did. -/
def fnExactSolveGSpec : ChangeSpec := { name := "fnExactSolveG", fn := fun _ => fun
  | [d1, d2] => { results := [.lit (.bool true)], args := [d1, d2] }
  | _ => none }
def fnExactSolveGRow : OpenClaim := { program := "ytoadjpacchhleah", sum := "b671551d9d4f80f9b749399346034a11662a575c5bea6eca42d5d19e48f93a5a", func := "loop.example/g00089/laws.FnExactSolveG", spec := "fnExactSolveG", apart := false }
def FnExactSolveGSaid : Prop := fnExactSolveGRow.holds Try.pinned (OpenSpec.ofChange fnExactSolveGSpec)

/-- ITS FALSE NEIGHBOUR: 'it returns false'. Refute it at one input. -/
def fnExactSolveGWrong : ChangeSpec := { name := "fnExactSolveG", fn := fun _ => fun
  | [d1, d2] => { results := [.lit (.bool false)], args := [d1, d2] }
  | _ => none }
def FnExactSolveGWrongFalsely : Prop := fnExactSolveGRow.holds Try.pinned (OpenSpec.ofChange fnExactSolveGWrong)

/-- 'laws.FnExactRankG': WHATEVER THE INPUT: true; the input reads as it did. -/
def fnExactRankGSpec : ChangeSpec := { name := "fnExactRankG", fn := fun _ => fun
  | [d] => { results := [.lit (.bool true)], args := [d] }
  | _ => none }
def fnExactRankGRow : OpenClaim := { program := "ytoadjpacchhleah", sum := "b671551d9d4f80f9b749399346034a11662a575c5bea6eca42d5d19e48f93a5a", func := "loop.example/g00089/laws.FnExactRankG", spec := "fnExactRankG", apart := false }
def FnExactRankGSaid : Prop := fnExactRankGRow.holds Try.pinned (OpenSpec.ofChange fnExactRankGSpec)

/-- ITS FALSE NEIGHBOUR: 'it returns false'. Refute it at one input. -/
def fnExactRankGWrong : ChangeSpec := { name := "fnExactRankG", fn := fun _ => fun
  | [d] => { results := [.lit (.bool false)], args := [d] }
  | _ => none }
def FnExactRankGWrongFalsely : Prop := fnExactRankGRow.holds Try.pinned (OpenSpec.ofChange fnExactRankGWrong)

/-- 'laws.FnExactEncodeRow': WHATEVER THE INPUT: true; the input reads as it did. -/
def fnExactEncodeRowSpec : ChangeSpec := { name := "fnExactEncodeRow", fn := fun _ => fun
  | [d1, d2, d3] => { results := [.lit (.bool true)], args := [d1, d2, d3] }
  | _ => none }
def fnExactEncodeRowRow : OpenClaim := { program := "ytoadjpacchhleah", sum := "b671551d9d4f80f9b749399346034a11662a575c5bea6eca42d5d19e48f93a5a", func := "loop.example/g00089/laws.FnExactEncodeRow", spec := "fnExactEncodeRow", apart := false }
def FnExactEncodeRowSaid : Prop := fnExactEncodeRowRow.holds Try.pinned (OpenSpec.ofChange fnExactEncodeRowSpec)

/-- ITS FALSE NEIGHBOUR: 'it returns false'. Refute it at one input. -/
def fnExactEncodeRowWrong : ChangeSpec := { name := "fnExactEncodeRow", fn := fun _ => fun
  | [d1, d2, d3] => { results := [.lit (.bool false)], args := [d1, d2, d3] }
  | _ => none }
def FnExactEncodeRowWrongFalsely : Prop := fnExactEncodeRowRow.holds Try.pinned (OpenSpec.ofChange fnExactEncodeRowWrong)

/-- 'laws.FnExactRowFits': WHATEVER THE INPUT: true; the input reads as it did. -/
def fnExactRowFitsSpec : ChangeSpec := { name := "fnExactRowFits", fn := fun _ => fun
  | [d1, d2, d3] => { results := [.lit (.bool true)], args := [d1, d2, d3] }
  | _ => none }
def fnExactRowFitsRow : OpenClaim := { program := "ytoadjpacchhleah", sum := "b671551d9d4f80f9b749399346034a11662a575c5bea6eca42d5d19e48f93a5a", func := "loop.example/g00089/laws.FnExactRowFits", spec := "fnExactRowFits", apart := false }
def FnExactRowFitsSaid : Prop := fnExactRowFitsRow.holds Try.pinned (OpenSpec.ofChange fnExactRowFitsSpec)

/-- ITS FALSE NEIGHBOUR: 'it returns false'. Refute it at one input. -/
def fnExactRowFitsWrong : ChangeSpec := { name := "fnExactRowFits", fn := fun _ => fun
  | [d1, d2, d3] => { results := [.lit (.bool false)], args := [d1, d2, d3] }
  | _ => none }
def FnExactRowFitsWrongFalsely : Prop := fnExactRowFitsRow.holds Try.pinned (OpenSpec.ofChange fnExactRowFitsWrong)

/- THE SECOND FORM. 'bulk': how many values and letters a reading holds, each counted each time it is reached (what is shared counts as often as it is met; a slice's spare places count too). A statement '..UptoSaid' is the law's where the arguments, and the package variables that the reading takes, are together of bulk at most 1048576: NARROWER than '..Said'. Prove '..Said' where nothing that the law and all that it calls make is longer than what came in: it says more and counts as full. Else prove '..UptoSaid'. A law counts once. -/
mutual
def uptoBulk {H : Type} : DataW H → Nat
  | .lit (.string bytes) => bytes.length + 1
  | .lit _ => 1
  | .nil => 1
  | .ptr d => uptoBulk d + 1
  | .slice elems spare => uptoBulkAll elems + uptoBulkAll spare + 1
  | .agg parts => uptoBulkAll parts + 1
  | .iface _ d => uptoBulk d + 1
  | .map entries => uptoBulkEntries entries + 1
  | .held _ => 1
def uptoBulkAll {H : Type} : List (DataW H) → Nat
  | [] => 0
  | d :: r => uptoBulk d + uptoBulkAll r
def uptoBulkEntries {H : Type} : List (Lit × DataW H) → Nat
  | [] => 0
  | x :: r => uptoBulkEntry x + uptoBulkEntries r
def uptoBulkEntry {H : Type} : Lit × DataW H → Nat
  | (.string bytes, d) => bytes.length + uptoBulk d + 1
  | (_, d) => uptoBulk d + 1
 end
def uptoSmall : (H : Type) → List (DataW H) → Bool := fun _ ds => decide (uptoBulkAll ds ≤ 1048576)
def OpenSpec.upto (s : _root_.Go.ChangeSpec) : _root_.Go.OpenSpec := { _root_.Go.OpenSpec.ofChange s with cond := some uptoSmall }

/-- 'laws.FnExactMixBytes', WHERE WHAT IT READS IS OF BULK AT MOST 1048576: true; the input reads as it did. -/
def fnExactMixBytesUptoRow : OpenClaim := { program := "ytoadjpacchhleah", sum := "b671551d9d4f80f9b749399346034a11662a575c5bea6eca42d5d19e48f93a5a", func := "loop.example/g00089/laws.FnExactMixBytes", spec := "fnExactMixBytes", apart := false, narrowed := true }
def FnExactMixBytesUptoSaid : Prop := fnExactMixBytesUptoRow.holds Try.pinned (OpenSpec.upto fnExactMixBytesSpec)

/-- 'laws.FnExactCauchyG', WHERE WHAT IT READS IS OF BULK AT MOST 1048576: true; the input reads as it did. -/
def fnExactCauchyGUptoRow : OpenClaim := { program := "ytoadjpacchhleah", sum := "b671551d9d4f80f9b749399346034a11662a575c5bea6eca42d5d19e48f93a5a", func := "loop.example/g00089/laws.FnExactCauchyG", spec := "fnExactCauchyG", apart := false, narrowed := true }
def FnExactCauchyGUptoSaid : Prop := fnExactCauchyGUptoRow.holds Try.pinned (OpenSpec.upto fnExactCauchyGSpec)

/-- 'laws.FnExactSolveG', WHERE WHAT IT READS IS OF BULK AT MOST 1048576: true; the input reads as it did. -/
def fnExactSolveGUptoRow : OpenClaim := { program := "ytoadjpacchhleah", sum := "b671551d9d4f80f9b749399346034a11662a575c5bea6eca42d5d19e48f93a5a", func := "loop.example/g00089/laws.FnExactSolveG", spec := "fnExactSolveG", apart := false, narrowed := true }
def FnExactSolveGUptoSaid : Prop := fnExactSolveGUptoRow.holds Try.pinned (OpenSpec.upto fnExactSolveGSpec)

/-- 'laws.FnExactRankG', WHERE WHAT IT READS IS OF BULK AT MOST 1048576: true; the input reads as it did. -/
def fnExactRankGUptoRow : OpenClaim := { program := "ytoadjpacchhleah", sum := "b671551d9d4f80f9b749399346034a11662a575c5bea6eca42d5d19e48f93a5a", func := "loop.example/g00089/laws.FnExactRankG", spec := "fnExactRankG", apart := false, narrowed := true }
def FnExactRankGUptoSaid : Prop := fnExactRankGUptoRow.holds Try.pinned (OpenSpec.upto fnExactRankGSpec)

/-- 'laws.FnExactEncodeRow', WHERE WHAT IT READS IS OF BULK AT MOST 1048576: true; the input reads as it did. -/
def fnExactEncodeRowUptoRow : OpenClaim := { program := "ytoadjpacchhleah", sum := "b671551d9d4f80f9b749399346034a11662a575c5bea6eca42d5d19e48f93a5a", func := "loop.example/g00089/laws.FnExactEncodeRow", spec := "fnExactEncodeRow", apart := false, narrowed := true }
def FnExactEncodeRowUptoSaid : Prop := fnExactEncodeRowUptoRow.holds Try.pinned (OpenSpec.upto fnExactEncodeRowSpec)

/-- 'laws.FnExactRowFits', WHERE WHAT IT READS IS OF BULK AT MOST 1048576: true; the input reads as it did. -/
def fnExactRowFitsUptoRow : OpenClaim := { program := "ytoadjpacchhleah", sum := "b671551d9d4f80f9b749399346034a11662a575c5bea6eca42d5d19e48f93a5a", func := "loop.example/g00089/laws.FnExactRowFits", spec := "fnExactRowFits", apart := false, narrowed := true }
def FnExactRowFitsUptoSaid : Prop := fnExactRowFitsUptoRow.holds Try.pinned (OpenSpec.upto fnExactRowFitsSpec)

end Rows
end Go.Proofs.Ytoadjpacchhleah
