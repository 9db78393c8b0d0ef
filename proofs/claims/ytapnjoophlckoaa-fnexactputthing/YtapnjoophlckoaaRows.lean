/-
  No cell of these rows narrows 'for every input' (looked for: loops, veiled, ifaces, maps, wideKeys, modest, calm, conditions, laid).
  DERIVED. THE GIVEN ROWS OF THIS SEAT. 3 by the template 'for every input the law returns true; each argument reads behind the call as it read before'; 0 by the template 'total and deterministic' (their statements: YtapnjoophlckoaaTotals.lean).
  GIVEN WITH THE SEED: the statements are not yours to turn. If you find one false, say at which input.
  Laid BY PROGRAM, IN A SANDBOX (cutbox-rows.mjs): the forced cells as the released guide's own fill.sh prints them over the translation b36a514a466243ed… (all of the seat's roots in one cut). By AI agents, Wed Nov 11 2026. No macro, syntax, notation, axiom, sorry.
-/
import Derived.Test.YtapnjoophlckoaaChecked
import GoSem.Claim
import GoSem.ClaimJoined
import GoSem.ClaimMapViews
import Derived.JoinedTies
import Derived.KernelRfl
namespace Go.Proofs.Ytapnjoophlckoaa
/- THE CELL 'sum', in the pinned program and in every row, IS THE sha256 OF THE DUMP (.gsa) THAT YtapnjoophlckoaaProg.lean LOADS. Nothing in Lean hashes anything: it is a label: what it is worth is what the hold of that sum in a sandbox is worth. -/
noncomputable def Try.pinned : Pinned := { name := "ytapnjoophlckoaa", sum := "b36a514a466243edbaf6616352500496c6afcc21108ec676a0616fe0148022e6", checked := Try.checked }
namespace Rows
def none {H : Type} : Left H := { results := [], args := [] }

/-- 'laws.FnExactPutThing': WHATEVER THE INPUT: true; the input reads as it did. -/
def fnExactPutThingSpec : ChangeSpec := { name := "fnExactPutThing", fn := fun _ => fun
  | [d1, d2, d3] => { results := [.lit (.bool true)], args := [d1, d2, d3] }
  | _ => none }
def fnExactPutThingRow : OpenClaim := { program := "ytapnjoophlckoaa", sum := "b36a514a466243edbaf6616352500496c6afcc21108ec676a0616fe0148022e6", func := "loop.example/g00089/laws.FnExactPutThing", spec := "fnExactPutThing", inPlace := ["slices.overlaps[loop.example/g00089/impl.Thing]"], unfollowed := true, recurses := true, apart := false }
def FnExactPutThingSaid : Prop := fnExactPutThingRow.holds Try.pinned (OpenSpec.ofChange fnExactPutThingSpec)

/-- ITS FALSE NEIGHBOUR: 'it returns false'. Refute it at one input. -/
def fnExactPutThingWrong : ChangeSpec := { name := "fnExactPutThing", fn := fun _ => fun
  | [d1, d2, d3] => { results := [.lit (.bool false)], args := [d1, d2, d3] }
  | _ => none }
def FnExactPutThingWrongFalsely : Prop := fnExactPutThingRow.holds Try.pinned (OpenSpec.ofChange fnExactPutThingWrong)

/-- 'laws.FnExactDropThing': WHATEVER THE INPUT: true; the input reads as it did. -/
def fnExactDropThingSpec : ChangeSpec := { name := "fnExactDropThing", fn := fun _ => fun
  | [d1, d2] => { results := [.lit (.bool true)], args := [d1, d2] }
  | _ => none }
def fnExactDropThingRow : OpenClaim := { program := "ytapnjoophlckoaa", sum := "b36a514a466243edbaf6616352500496c6afcc21108ec676a0616fe0148022e6", func := "loop.example/g00089/laws.FnExactDropThing", spec := "fnExactDropThing", unfollowed := true, recurses := true, apart := false }
def FnExactDropThingSaid : Prop := fnExactDropThingRow.holds Try.pinned (OpenSpec.ofChange fnExactDropThingSpec)

/-- ITS FALSE NEIGHBOUR: 'it returns false'. Refute it at one input. -/
def fnExactDropThingWrong : ChangeSpec := { name := "fnExactDropThing", fn := fun _ => fun
  | [d1, d2] => { results := [.lit (.bool false)], args := [d1, d2] }
  | _ => none }
def FnExactDropThingWrongFalsely : Prop := fnExactDropThingRow.holds Try.pinned (OpenSpec.ofChange fnExactDropThingWrong)

/-- 'laws.FnExactSameThings': WHATEVER THE INPUT: true; the input reads as it did. -/
def fnExactSameThingsSpec : ChangeSpec := { name := "fnExactSameThings", fn := fun _ => fun
  | [d1, d2] => { results := [.lit (.bool true)], args := [d1, d2] }
  | _ => none }
def fnExactSameThingsRow : OpenClaim := { program := "ytapnjoophlckoaa", sum := "b36a514a466243edbaf6616352500496c6afcc21108ec676a0616fe0148022e6", func := "loop.example/g00089/laws.FnExactSameThings", spec := "fnExactSameThings", unfollowed := true, recurses := true, apart := false }
def FnExactSameThingsSaid : Prop := fnExactSameThingsRow.holds Try.pinned (OpenSpec.ofChange fnExactSameThingsSpec)

/-- ITS FALSE NEIGHBOUR: 'it returns false'. Refute it at one input. -/
def fnExactSameThingsWrong : ChangeSpec := { name := "fnExactSameThings", fn := fun _ => fun
  | [d1, d2] => { results := [.lit (.bool false)], args := [d1, d2] }
  | _ => none }
def FnExactSameThingsWrongFalsely : Prop := fnExactSameThingsRow.holds Try.pinned (OpenSpec.ofChange fnExactSameThingsWrong)

/- THE SECOND FORM. 'bulk': how many values and letters a reading holds, each counted each time it is reached (what is shared counts as often as it is met; a slice's spare places count too). A statement '..UptoSaid' is the law's where the arguments, and the package variables that the reading takes, are together of bulk at most 1048576: NARROWER than '..Said'. Prove '..Said' where nothing that the law and all that it calls make is longer than what came in: it says more and counts as full. Else prove '..UptoSaid'. A law counts once. -/
mutual
def uptoBulk {H : Type} : DataW H → Nat
  | .lit (.string bytes) => bytes.length + 1
  | .lit _ => 1
  | .nil => 1
  | .ptr d => uptoBulk d + 1
  | .slice elems spare => uptoBulkAll elems + uptoBulkAll spare + 1
  | .agg parts => uptoBulkAll parts + 1
  | .iface _ d => uptoBulk d + 1
  | .map entries => uptoBulkEntries entries + 1
  | .held _ => 1
def uptoBulkAll {H : Type} : List (DataW H) → Nat
  | [] => 0
  | d :: r => uptoBulk d + uptoBulkAll r
def uptoBulkEntries {H : Type} : List (Lit × DataW H) → Nat
  | [] => 0
  | x :: r => uptoBulkEntry x + uptoBulkEntries r
def uptoBulkEntry {H : Type} : Lit × DataW H → Nat
  | (.string bytes, d) => bytes.length + uptoBulk d + 1
  | (_, d) => uptoBulk d + 1
 end
def uptoSmall : (H : Type) → List (DataW H) → Bool := fun _ ds => decide (uptoBulkAll ds ≤ 1048576)
def OpenSpec.upto (s : _root_.Go.ChangeSpec) : _root_.Go.OpenSpec := { _root_.Go.OpenSpec.ofChange s with cond := some uptoSmall }

/-- 'laws.FnExactPutThing', WHERE WHAT IT READS IS OF BULK AT MOST 1048576: true; the input reads as it did. -/
def fnExactPutThingUptoRow : OpenClaim := { program := "ytapnjoophlckoaa", sum := "b36a514a466243edbaf6616352500496c6afcc21108ec676a0616fe0148022e6", func := "loop.example/g00089/laws.FnExactPutThing", spec := "fnExactPutThing", inPlace := ["slices.overlaps[loop.example/g00089/impl.Thing]"], unfollowed := true, recurses := true, apart := false, narrowed := true }
def FnExactPutThingUptoSaid : Prop := fnExactPutThingUptoRow.holds Try.pinned (OpenSpec.upto fnExactPutThingSpec)

/-- 'laws.FnExactDropThing', WHERE WHAT IT READS IS OF BULK AT MOST 1048576: true; the input reads as it did. -/
def fnExactDropThingUptoRow : OpenClaim := { program := "ytapnjoophlckoaa", sum := "b36a514a466243edbaf6616352500496c6afcc21108ec676a0616fe0148022e6", func := "loop.example/g00089/laws.FnExactDropThing", spec := "fnExactDropThing", unfollowed := true, recurses := true, apart := false, narrowed := true }
def FnExactDropThingUptoSaid : Prop := fnExactDropThingUptoRow.holds Try.pinned (OpenSpec.upto fnExactDropThingSpec)

/-- 'laws.FnExactSameThings', WHERE WHAT IT READS IS OF BULK AT MOST 1048576: true; the input reads as it did. -/
def fnExactSameThingsUptoRow : OpenClaim := { program := "ytapnjoophlckoaa", sum := "b36a514a466243edbaf6616352500496c6afcc21108ec676a0616fe0148022e6", func := "loop.example/g00089/laws.FnExactSameThings", spec := "fnExactSameThings", unfollowed := true, recurses := true, apart := false, narrowed := true }
def FnExactSameThingsUptoSaid : Prop := fnExactSameThingsUptoRow.holds Try.pinned (OpenSpec.upto fnExactSameThingsSpec)

end Rows
end Go.Proofs.Ytapnjoophlckoaa
