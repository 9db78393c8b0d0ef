/-
  No cell of these rows narrows 'for every input' (looked for: loops, veiled, ifaces, maps, wideKeys, modest, calm, conditions, laid).
  DERIVED. THE GIVEN ROWS OF THIS SEAT. 3 by the template 'for every input the law returns true; each argument reads behind the call as it read before'; 0 by the template 'total and deterministic' (their statements: YthcmdnlkohdeaaaGreatTotals.lean).
  GIVEN WITH THE SEED: the statements are not yours to turn. If you find one false, say at which input.
  Laid BY PROGRAM, IN A SANDBOX (cutbox-rows.mjs): the forced cells as the released guide's own fill.sh prints them over the translation 06253740fdfe736a… (all of the seat's roots in one cut). By AI agents, Wed Nov 11 2026. No macro, syntax, notation, axiom, sorry.
-/
import Derived.Test.YthcmdnlkohdeaaaGreatChecked
import GoSem.Claim
import GoSem.ClaimJoined
import GoSem.ClaimMapViews
import Derived.JoinedTies
import Derived.KernelRfl
namespace Go.Proofs.YthcmdnlkohdeaaaGreat
/- THE CELL 'sum', in the pinned program and in every row, IS THE sha256 OF THE DUMP (.gsa) THAT YthcmdnlkohdeaaaGreatProg.lean LOADS. Nothing in Lean hashes anything: it is a label: what it is worth is what the hold of that sum in a sandbox is worth. -/
noncomputable def Tryz.pinned : Pinned := { name := "ythcmdnlkohdeaaagreat", sum := "06253740fdfe736a359315ee32a7b50bbafe8802cc340af1e30f4801f7aff990", checked := Tryz.checked }
namespace Rows
def none {H : Type} : Left H := { results := [], args := [] }

/-- 'laws.FnExactCountedRecs': WHATEVER THE INPUT: true; the input reads as it did. -/
def fnExactCountedRecsSpec : ChangeSpec := { name := "fnExactCountedRecs", fn := fun _ => fun
  | [d] => { results := [.lit (.bool true)], args := [d] }
  | _ => none }
def fnExactCountedRecsRow : OpenClaim := { program := "ythcmdnlkohdeaaagreat", sum := "06253740fdfe736a359315ee32a7b50bbafe8802cc340af1e30f4801f7aff990", func := "loop.example/g00089/laws.FnExactCountedRecs", spec := "fnExactCountedRecs", unfollowed := true, recurses := true, apart := false }
def FnExactCountedRecsSaid : Prop := fnExactCountedRecsRow.holds Tryz.pinned (OpenSpec.ofChange fnExactCountedRecsSpec)

/-- ITS FALSE NEIGHBOUR: 'it returns false'. Refute it at one input. -/
def fnExactCountedRecsWrong : ChangeSpec := { name := "fnExactCountedRecs", fn := fun _ => fun
  | [d] => { results := [.lit (.bool false)], args := [d] }
  | _ => none }
def FnExactCountedRecsWrongFalsely : Prop := fnExactCountedRecsRow.holds Tryz.pinned (OpenSpec.ofChange fnExactCountedRecsWrong)

/-- 'laws.FnExactNextSeq': WHATEVER THE INPUT: true; the input reads as it did. -/
def fnExactNextSeqSpec : ChangeSpec := { name := "fnExactNextSeq", fn := fun _ => fun
  | [d] => { results := [.lit (.bool true)], args := [d] }
  | _ => none }
def fnExactNextSeqRow : OpenClaim := { program := "ythcmdnlkohdeaaagreat", sum := "06253740fdfe736a359315ee32a7b50bbafe8802cc340af1e30f4801f7aff990", func := "loop.example/g00089/laws.FnExactNextSeq", spec := "fnExactNextSeq", unfollowed := true, recurses := true, apart := false }
def FnExactNextSeqSaid : Prop := fnExactNextSeqRow.holds Tryz.pinned (OpenSpec.ofChange fnExactNextSeqSpec)

/-- ITS FALSE NEIGHBOUR: 'it returns false'. Refute it at one input. -/
def fnExactNextSeqWrong : ChangeSpec := { name := "fnExactNextSeq", fn := fun _ => fun
  | [d] => { results := [.lit (.bool false)], args := [d] }
  | _ => none }
def FnExactNextSeqWrongFalsely : Prop := fnExactNextSeqRow.holds Tryz.pinned (OpenSpec.ofChange fnExactNextSeqWrong)

/-- 'laws.FnExactMissingRecs': WHATEVER THE INPUT: true; the input reads as it did. -/
def fnExactMissingRecsSpec : ChangeSpec := { name := "fnExactMissingRecs", fn := fun _ => fun
  | [d1, d2] => { results := [.lit (.bool true)], args := [d1, d2] }
  | _ => none }
def fnExactMissingRecsRow : OpenClaim := { program := "ythcmdnlkohdeaaagreat", sum := "06253740fdfe736a359315ee32a7b50bbafe8802cc340af1e30f4801f7aff990", func := "loop.example/g00089/laws.FnExactMissingRecs", spec := "fnExactMissingRecs", unfollowed := true, recurses := true, apart := false }
def FnExactMissingRecsSaid : Prop := fnExactMissingRecsRow.holds Tryz.pinned (OpenSpec.ofChange fnExactMissingRecsSpec)

/-- ITS FALSE NEIGHBOUR: 'it returns false'. Refute it at one input. -/
def fnExactMissingRecsWrong : ChangeSpec := { name := "fnExactMissingRecs", fn := fun _ => fun
  | [d1, d2] => { results := [.lit (.bool false)], args := [d1, d2] }
  | _ => none }
def FnExactMissingRecsWrongFalsely : Prop := fnExactMissingRecsRow.holds Tryz.pinned (OpenSpec.ofChange fnExactMissingRecsWrong)

/- THE SECOND FORM. 'bulk': how many values and letters a reading holds, each counted each time it is reached (what is shared counts as often as it is met; a slice's spare places count too). A statement '..UptoSaid' is the law's where the arguments, and the package variables that the reading takes, are together of bulk at most 1048576: NARROWER than '..Said'. Prove '..Said' where nothing that the law and all that it calls make is longer than what came in: it says more and counts as full. Else prove '..UptoSaid'. A law counts once. -/
mutual
def uptoBulk {H : Type} : DataW H → Nat
  | .lit (.string bytes) => bytes.length + 1
  | .lit _ => 1
  | .nil => 1
  | .ptr d => uptoBulk d + 1
  | .slice elems spare => uptoBulkAll elems + uptoBulkAll spare + 1
  | .agg parts => uptoBulkAll parts + 1
  | .iface _ d => uptoBulk d + 1
  | .map entries => uptoBulkEntries entries + 1
  | .held _ => 1
def uptoBulkAll {H : Type} : List (DataW H) → Nat
  | [] => 0
  | d :: r => uptoBulk d + uptoBulkAll r
def uptoBulkEntries {H : Type} : List (Lit × DataW H) → Nat
  | [] => 0
  | x :: r => uptoBulkEntry x + uptoBulkEntries r
def uptoBulkEntry {H : Type} : Lit × DataW H → Nat
  | (.string bytes, d) => bytes.length + uptoBulk d + 1
  | (_, d) => uptoBulk d + 1
 end
def uptoSmall : (H : Type) → List (DataW H) → Bool := fun _ ds => decide (uptoBulkAll ds ≤ 1048576)
def OpenSpec.upto (s : _root_.Go.ChangeSpec) : _root_.Go.OpenSpec := { _root_.Go.OpenSpec.ofChange s with cond := some uptoSmall }

/-- 'laws.FnExactCountedRecs', WHERE WHAT IT READS IS OF BULK AT MOST 1048576: true; the input reads as it did. -/
def fnExactCountedRecsUptoRow : OpenClaim := { program := "ythcmdnlkohdeaaagreat", sum := "06253740fdfe736a359315ee32a7b50bbafe8802cc340af1e30f4801f7aff990", func := "loop.example/g00089/laws.FnExactCountedRecs", spec := "fnExactCountedRecs", unfollowed := true, recurses := true, apart := false, narrowed := true }
def FnExactCountedRecsUptoSaid : Prop := fnExactCountedRecsUptoRow.holds Tryz.pinned (OpenSpec.upto fnExactCountedRecsSpec)

/-- 'laws.FnExactNextSeq', WHERE WHAT IT READS IS OF BULK AT MOST 1048576: true; the input reads as it did. -/
def fnExactNextSeqUptoRow : OpenClaim := { program := "ythcmdnlkohdeaaagreat", sum := "06253740fdfe736a359315ee32a7b50bbafe8802cc340af1e30f4801f7aff990", func := "loop.example/g00089/laws.FnExactNextSeq", spec := "fnExactNextSeq", unfollowed := true, recurses := true, apart := false, narrowed := true }
def FnExactNextSeqUptoSaid : Prop := fnExactNextSeqUptoRow.holds Tryz.pinned (OpenSpec.upto fnExactNextSeqSpec)

/-- 'laws.FnExactMissingRecs', WHERE WHAT IT READS IS OF BULK AT MOST 1048576: true; the input reads as it did. -/
def fnExactMissingRecsUptoRow : OpenClaim := { program := "ythcmdnlkohdeaaagreat", sum := "06253740fdfe736a359315ee32a7b50bbafe8802cc340af1e30f4801f7aff990", func := "loop.example/g00089/laws.FnExactMissingRecs", spec := "fnExactMissingRecs", unfollowed := true, recurses := true, apart := false, narrowed := true }
def FnExactMissingRecsUptoSaid : Prop := fnExactMissingRecsUptoRow.holds Tryz.pinned (OpenSpec.upto fnExactMissingRecsSpec)

end Rows
end Go.Proofs.YthcmdnlkohdeaaaGreat
