/-
  No cell of these rows narrows 'for every input' (looked for: loops, veiled, ifaces, maps, wideKeys, modest, calm, conditions, laid).
  DERIVED. THE GIVEN ROWS OF THIS SEAT. 5 by the template 'for every input the law returns true; each argument reads behind the call as it read before'; 0 by the template 'total and deterministic' (their statements: YtdnankopblkblakTotals.lean).
  GIVEN WITH THE SEED: the statements are not yours to turn. If you find one false, say at which input.
  Laid BY PROGRAM, IN A SANDBOX (cutbox-rows.mjs): the forced cells as the released guide's own fill.sh prints them over the translation c0555939b400a288… (all of the seat's roots in one cut). By AI agents, Wed Nov 11 2026. No macro, syntax, notation, axiom, sorry.
-/
import Derived.Test.YtdnankopblkblakChecked
import GoSem.Claim
import GoSem.ClaimJoined
import GoSem.ClaimMapViews
import Derived.JoinedTies
import Derived.KernelRfl
namespace Go.Proofs.Ytdnankopblkblak
/- THE CELL 'sum', in the pinned program and in every row, IS THE sha256 OF THE DUMP (.gsa) THAT YtdnankopblkblakProg.lean LOADS. Nothing in Lean hashes anything: it is a label: what it is worth is what the hold of that sum in a sandbox is worth. -/
noncomputable def Try.pinned : Pinned := { name := "ytdnankopblkblak", sum := "c0555939b400a2885cee76ccd19b44ff0d6a9cd820d7df9f3e4610757aba00e2", checked := Try.checked }
namespace Rows
def none {H : Type} : Left H := { results := [], args := [] }

/-- 'laws.FnExactHomeOf': WHATEVER THE INPUT: true; the input reads as it did. -/
def fnExactHomeOfSpec : ChangeSpec := { name := "fnExactHomeOf", fn := fun _ => fun
  | [d1, d2] => { results := [.lit (.bool true)], args := [d1, d2] }
  | _ => none }
def fnExactHomeOfRow : OpenClaim := { program := "ytdnankopblkblak", sum := "c0555939b400a2885cee76ccd19b44ff0d6a9cd820d7df9f3e4610757aba00e2", func := "loop.example/g00089/laws.FnExactHomeOf", spec := "fnExactHomeOf", apart := false }
def FnExactHomeOfSaid : Prop := fnExactHomeOfRow.holds Try.pinned (OpenSpec.ofChange fnExactHomeOfSpec)

/-- ITS FALSE NEIGHBOUR: 'it returns false'. Refute it at one input. -/
def fnExactHomeOfWrong : ChangeSpec := { name := "fnExactHomeOf", fn := fun _ => fun
  | [d1, d2] => { results := [.lit (.bool false)], args := [d1, d2] }
  | _ => none }
def FnExactHomeOfWrongFalsely : Prop := fnExactHomeOfRow.holds Try.pinned (OpenSpec.ofChange fnExactHomeOfWrong)

/-- 'laws.FnExactPartsFor': WHATEVER THE INPUT: true; the input reads as it did. -/
def fnExactPartsForSpec : ChangeSpec := { name := "fnExactPartsFor", fn := fun _ => fun
  | [d1, d2] => { results := [.lit (.bool true)], args := [d1, d2] }
  | _ => none }
def fnExactPartsForRow : OpenClaim := { program := "ytdnankopblkblak", sum := "c0555939b400a2885cee76ccd19b44ff0d6a9cd820d7df9f3e4610757aba00e2", func := "loop.example/g00089/laws.FnExactPartsFor", spec := "fnExactPartsFor", apart := false }
def FnExactPartsForSaid : Prop := fnExactPartsForRow.holds Try.pinned (OpenSpec.ofChange fnExactPartsForSpec)

/-- ITS FALSE NEIGHBOUR: 'it returns false'. Refute it at one input. -/
def fnExactPartsForWrong : ChangeSpec := { name := "fnExactPartsFor", fn := fun _ => fun
  | [d1, d2] => { results := [.lit (.bool false)], args := [d1, d2] }
  | _ => none }
def FnExactPartsForWrongFalsely : Prop := fnExactPartsForRow.holds Try.pinned (OpenSpec.ofChange fnExactPartsForWrong)

/-- 'laws.FnExactSplitObject': WHATEVER THE INPUT: true; the input reads as it did. -/
def fnExactSplitObjectSpec : ChangeSpec := { name := "fnExactSplitObject", fn := fun _ => fun
  | [d1, d2] => { results := [.lit (.bool true)], args := [d1, d2] }
  | _ => none }
def fnExactSplitObjectRow : OpenClaim := { program := "ytdnankopblkblak", sum := "c0555939b400a2885cee76ccd19b44ff0d6a9cd820d7df9f3e4610757aba00e2", func := "loop.example/g00089/laws.FnExactSplitObject", spec := "fnExactSplitObject", apart := false }
def FnExactSplitObjectSaid : Prop := fnExactSplitObjectRow.holds Try.pinned (OpenSpec.ofChange fnExactSplitObjectSpec)

/-- ITS FALSE NEIGHBOUR: 'it returns false'. Refute it at one input. -/
def fnExactSplitObjectWrong : ChangeSpec := { name := "fnExactSplitObject", fn := fun _ => fun
  | [d1, d2] => { results := [.lit (.bool false)], args := [d1, d2] }
  | _ => none }
def FnExactSplitObjectWrongFalsely : Prop := fnExactSplitObjectRow.holds Try.pinned (OpenSpec.ofChange fnExactSplitObjectWrong)

/-- 'laws.FnExactJoinObject': WHATEVER THE INPUT: true; the input reads as it did. -/
def fnExactJoinObjectSpec : ChangeSpec := { name := "fnExactJoinObject", fn := fun _ => fun
  | [d1, d2, d3] => { results := [.lit (.bool true)], args := [d1, d2, d3] }
  | _ => none }
def fnExactJoinObjectRow : OpenClaim := { program := "ytdnankopblkblak", sum := "c0555939b400a2885cee76ccd19b44ff0d6a9cd820d7df9f3e4610757aba00e2", func := "loop.example/g00089/laws.FnExactJoinObject", spec := "fnExactJoinObject", apart := false }
def FnExactJoinObjectSaid : Prop := fnExactJoinObjectRow.holds Try.pinned (OpenSpec.ofChange fnExactJoinObjectSpec)

/-- ITS FALSE NEIGHBOUR: 'it returns false'. Refute it at one input. -/
def fnExactJoinObjectWrong : ChangeSpec := { name := "fnExactJoinObject", fn := fun _ => fun
  | [d1, d2, d3] => { results := [.lit (.bool false)], args := [d1, d2, d3] }
  | _ => none }
def FnExactJoinObjectWrongFalsely : Prop := fnExactJoinObjectRow.holds Try.pinned (OpenSpec.ofChange fnExactJoinObjectWrong)

/-- 'laws.FnExactRoomOf': WHATEVER THE INPUT: true; the input reads as it did. -/
def fnExactRoomOfSpec : ChangeSpec := { name := "fnExactRoomOf", fn := fun _ => fun
  | [d] => { results := [.lit (.bool true)], args := [d] }
  | _ => none }
def fnExactRoomOfRow : OpenClaim := { program := "ytdnankopblkblak", sum := "c0555939b400a2885cee76ccd19b44ff0d6a9cd820d7df9f3e4610757aba00e2", func := "loop.example/g00089/laws.FnExactRoomOf", spec := "fnExactRoomOf", apart := false }
def FnExactRoomOfSaid : Prop := fnExactRoomOfRow.holds Try.pinned (OpenSpec.ofChange fnExactRoomOfSpec)

/-- ITS FALSE NEIGHBOUR: 'it returns false'. Refute it at one input. -/
def fnExactRoomOfWrong : ChangeSpec := { name := "fnExactRoomOf", fn := fun _ => fun
  | [d] => { results := [.lit (.bool false)], args := [d] }
  | _ => none }
def FnExactRoomOfWrongFalsely : Prop := fnExactRoomOfRow.holds Try.pinned (OpenSpec.ofChange fnExactRoomOfWrong)

/- THE SECOND FORM. 'bulk': how many values and letters a reading holds, each counted each time it is reached (what is shared counts as often as it is met; a slice's spare places count too). A statement '..UptoSaid' is the law's where the arguments, and the package variables that the reading takes, are together of bulk at most 1048576: NARROWER than '..Said'. Prove '..Said' where nothing that the law and all that it calls make is longer than what came in: it says more and counts as full. Else prove '..UptoSaid'. A law counts once. -/
mutual
def uptoBulk {H : Type} : DataW H → Nat
  | .lit (.string bytes) => bytes.length + 1
  | .lit _ => 1
  | .nil => 1
  | .ptr d => uptoBulk d + 1
  | .slice elems spare => uptoBulkAll elems + uptoBulkAll spare + 1
  | .agg parts => uptoBulkAll parts + 1
  | .iface _ d => uptoBulk d + 1
  | .map entries => uptoBulkEntries entries + 1
  | .held _ => 1
def uptoBulkAll {H : Type} : List (DataW H) → Nat
  | [] => 0
  | d :: r => uptoBulk d + uptoBulkAll r
def uptoBulkEntries {H : Type} : List (Lit × DataW H) → Nat
  | [] => 0
  | x :: r => uptoBulkEntry x + uptoBulkEntries r
def uptoBulkEntry {H : Type} : Lit × DataW H → Nat
  | (.string bytes, d) => bytes.length + uptoBulk d + 1
  | (_, d) => uptoBulk d + 1
 end
def uptoSmall : (H : Type) → List (DataW H) → Bool := fun _ ds => decide (uptoBulkAll ds ≤ 1048576)
def OpenSpec.upto (s : _root_.Go.ChangeSpec) : _root_.Go.OpenSpec := { _root_.Go.OpenSpec.ofChange s with cond := some uptoSmall }

/-- 'laws.FnExactHomeOf', WHERE WHAT IT READS IS OF BULK AT MOST 1048576: true; the input reads as it did. -/
def fnExactHomeOfUptoRow : OpenClaim := { program := "ytdnankopblkblak", sum := "c0555939b400a2885cee76ccd19b44ff0d6a9cd820d7df9f3e4610757aba00e2", func := "loop.example/g00089/laws.FnExactHomeOf", spec := "fnExactHomeOf", apart := false, narrowed := true }
def FnExactHomeOfUptoSaid : Prop := fnExactHomeOfUptoRow.holds Try.pinned (OpenSpec.upto fnExactHomeOfSpec)

/-- 'laws.FnExactPartsFor', WHERE WHAT IT READS IS OF BULK AT MOST 1048576: true; the input reads as it did. -/
def fnExactPartsForUptoRow : OpenClaim := { program := "ytdnankopblkblak", sum := "c0555939b400a2885cee76ccd19b44ff0d6a9cd820d7df9f3e4610757aba00e2", func := "loop.example/g00089/laws.FnExactPartsFor", spec := "fnExactPartsFor", apart := false, narrowed := true }
def FnExactPartsForUptoSaid : Prop := fnExactPartsForUptoRow.holds Try.pinned (OpenSpec.upto fnExactPartsForSpec)

/-- 'laws.FnExactSplitObject', WHERE WHAT IT READS IS OF BULK AT MOST 1048576: true; the input reads as it did. -/
def fnExactSplitObjectUptoRow : OpenClaim := { program := "ytdnankopblkblak", sum := "c0555939b400a2885cee76ccd19b44ff0d6a9cd820d7df9f3e4610757aba00e2", func := "loop.example/g00089/laws.FnExactSplitObject", spec := "fnExactSplitObject", apart := false, narrowed := true }
def FnExactSplitObjectUptoSaid : Prop := fnExactSplitObjectUptoRow.holds Try.pinned (OpenSpec.upto fnExactSplitObjectSpec)

/-- 'laws.FnExactJoinObject', WHERE WHAT IT READS IS OF BULK AT MOST 1048576: true; the input reads as it did. -/
def fnExactJoinObjectUptoRow : OpenClaim := { program := "ytdnankopblkblak", sum := "c0555939b400a2885cee76ccd19b44ff0d6a9cd820d7df9f3e4610757aba00e2", func := "loop.example/g00089/laws.FnExactJoinObject", spec := "fnExactJoinObject", apart := false, narrowed := true }
def FnExactJoinObjectUptoSaid : Prop := fnExactJoinObjectUptoRow.holds Try.pinned (OpenSpec.upto fnExactJoinObjectSpec)

/-- 'laws.FnExactRoomOf', WHERE WHAT IT READS IS OF BULK AT MOST 1048576: true; the input reads as it did. -/
def fnExactRoomOfUptoRow : OpenClaim := { program := "ytdnankopblkblak", sum := "c0555939b400a2885cee76ccd19b44ff0d6a9cd820d7df9f3e4610757aba00e2", func := "loop.example/g00089/laws.FnExactRoomOf", spec := "fnExactRoomOf", apart := false, narrowed := true }
def FnExactRoomOfUptoSaid : Prop := fnExactRoomOfUptoRow.holds Try.pinned (OpenSpec.upto fnExactRoomOfSpec)

end Rows
end Go.Proofs.Ytdnankopblkblak
