/-
  No cell of these rows narrows 'for every input' (looked for: loops, veiled, ifaces, maps, wideKeys, modest, calm, conditions, laid).
  DERIVED. THE GIVEN ROWS OF THIS SEAT. 6 by the template 'for every input the law returns true; each argument reads behind the call as it read before'; 0 by the template 'total and deterministic' (their statements: YtbmfndjglndnlaaGreatTotals.lean).
  GIVEN WITH THE SEED: the statements are not yours to turn. If you find one false, say at which input.
  Laid BY PROGRAM, IN A SANDBOX (cutbox-rows.mjs): the forced cells as the released guide's own fill.sh prints them over the translation f79abc415689cfb2… (all of the seat's roots in one cut). By AI agents, Wed Nov 11 2026. No macro, syntax, notation, axiom, sorry.
-/
import Derived.Test.YtbmfndjglndnlaaGreatChecked
import GoSem.Claim
import GoSem.ClaimJoined
import GoSem.ClaimMapViews
import Derived.JoinedTies
import Derived.KernelRfl
namespace Go.Proofs.YtbmfndjglndnlaaGreat
/- THE CELL 'sum', in the pinned program and in every row, IS THE sha256 OF THE DUMP (.gsa) THAT YtbmfndjglndnlaaGreatProg.lean LOADS. Nothing in Lean hashes anything: it is a label: what it is worth is what the hold of that sum in a sandbox is worth. -/
noncomputable def Tryz.pinned : Pinned := { name := "ytbmfndjglndnlaagreat", sum := "f79abc415689cfb28e72d9d578dac9b7e9b57da51dffb1a5c362f64a5f093fa0", checked := Tryz.checked }
namespace Rows
def none {H : Type} : Left H := { results := [], args := [] }

/-- 'laws.FnExactSwitchOn': WHATEVER THE INPUT: true; the input reads as it did. -/
def fnExactSwitchOnSpec : ChangeSpec := { name := "fnExactSwitchOn", fn := fun _ => fun
  | [d1, d2] => { results := [.lit (.bool true)], args := [d1, d2] }
  | _ => none }
def fnExactSwitchOnRow : OpenClaim := { program := "ytbmfndjglndnlaagreat", sum := "f79abc415689cfb28e72d9d578dac9b7e9b57da51dffb1a5c362f64a5f093fa0", func := "loop.example/g00089/laws.FnExactSwitchOn", spec := "fnExactSwitchOn", unfollowed := true, recurses := true, apart := false }
def FnExactSwitchOnSaid : Prop := fnExactSwitchOnRow.holds Tryz.pinned (OpenSpec.ofChange fnExactSwitchOnSpec)

/-- ITS FALSE NEIGHBOUR: 'it returns false'. Refute it at one input. -/
def fnExactSwitchOnWrong : ChangeSpec := { name := "fnExactSwitchOn", fn := fun _ => fun
  | [d1, d2] => { results := [.lit (.bool false)], args := [d1, d2] }
  | _ => none }
def FnExactSwitchOnWrongFalsely : Prop := fnExactSwitchOnRow.holds Tryz.pinned (OpenSpec.ofChange fnExactSwitchOnWrong)

/-- 'laws.FnExactSwitchOff': WHATEVER THE INPUT: true; the input reads as it did. -/
def fnExactSwitchOffSpec : ChangeSpec := { name := "fnExactSwitchOff", fn := fun _ => fun
  | [d1, d2] => { results := [.lit (.bool true)], args := [d1, d2] }
  | _ => none }
def fnExactSwitchOffRow : OpenClaim := { program := "ytbmfndjglndnlaagreat", sum := "f79abc415689cfb28e72d9d578dac9b7e9b57da51dffb1a5c362f64a5f093fa0", func := "loop.example/g00089/laws.FnExactSwitchOff", spec := "fnExactSwitchOff", unfollowed := true, recurses := true, apart := false }
def FnExactSwitchOffSaid : Prop := fnExactSwitchOffRow.holds Tryz.pinned (OpenSpec.ofChange fnExactSwitchOffSpec)

/-- ITS FALSE NEIGHBOUR: 'it returns false'. Refute it at one input. -/
def fnExactSwitchOffWrong : ChangeSpec := { name := "fnExactSwitchOff", fn := fun _ => fun
  | [d1, d2] => { results := [.lit (.bool false)], args := [d1, d2] }
  | _ => none }
def FnExactSwitchOffWrongFalsely : Prop := fnExactSwitchOffRow.holds Tryz.pinned (OpenSpec.ofChange fnExactSwitchOffWrong)

/-- 'laws.FnExactReadBlock': WHATEVER THE INPUT: true; the input reads as it did. -/
def fnExactReadBlockSpec : ChangeSpec := { name := "fnExactReadBlock", fn := fun _ => fun
  | [d1, d2, d3, d4] => { results := [.lit (.bool true)], args := [d1, d2, d3, d4] }
  | _ => none }
def fnExactReadBlockRow : OpenClaim := { program := "ytbmfndjglndnlaagreat", sum := "f79abc415689cfb28e72d9d578dac9b7e9b57da51dffb1a5c362f64a5f093fa0", func := "loop.example/g00089/laws.FnExactReadBlock", spec := "fnExactReadBlock", unfollowed := true, recurses := true, apart := false }
def FnExactReadBlockSaid : Prop := fnExactReadBlockRow.holds Tryz.pinned (OpenSpec.ofChange fnExactReadBlockSpec)

/-- ITS FALSE NEIGHBOUR: 'it returns false'. Refute it at one input. -/
def fnExactReadBlockWrong : ChangeSpec := { name := "fnExactReadBlock", fn := fun _ => fun
  | [d1, d2, d3, d4] => { results := [.lit (.bool false)], args := [d1, d2, d3, d4] }
  | _ => none }
def FnExactReadBlockWrongFalsely : Prop := fnExactReadBlockRow.holds Tryz.pinned (OpenSpec.ofChange fnExactReadBlockWrong)

/-- 'laws.FnExactWipeDrive': WHATEVER THE INPUT: true; the input reads as it did. -/
def fnExactWipeDriveSpec : ChangeSpec := { name := "fnExactWipeDrive", fn := fun _ => fun
  | [d1, d2, d3] => { results := [.lit (.bool true)], args := [d1, d2, d3] }
  | _ => none }
def fnExactWipeDriveRow : OpenClaim := { program := "ytbmfndjglndnlaagreat", sum := "f79abc415689cfb28e72d9d578dac9b7e9b57da51dffb1a5c362f64a5f093fa0", func := "loop.example/g00089/laws.FnExactWipeDrive", spec := "fnExactWipeDrive", unfollowed := true, recurses := true, apart := false }
def FnExactWipeDriveSaid : Prop := fnExactWipeDriveRow.holds Tryz.pinned (OpenSpec.ofChange fnExactWipeDriveSpec)

/-- ITS FALSE NEIGHBOUR: 'it returns false'. Refute it at one input. -/
def fnExactWipeDriveWrong : ChangeSpec := { name := "fnExactWipeDrive", fn := fun _ => fun
  | [d1, d2, d3] => { results := [.lit (.bool false)], args := [d1, d2, d3] }
  | _ => none }
def FnExactWipeDriveWrongFalsely : Prop := fnExactWipeDriveRow.holds Tryz.pinned (OpenSpec.ofChange fnExactWipeDriveWrong)

/-- 'laws.FnExactWipeTape': WHATEVER THE INPUT: true; the input reads as it did. -/
def fnExactWipeTapeSpec : ChangeSpec := { name := "fnExactWipeTape", fn := fun _ => fun
  | [d1, d2] => { results := [.lit (.bool true)], args := [d1, d2] }
  | _ => none }
def fnExactWipeTapeRow : OpenClaim := { program := "ytbmfndjglndnlaagreat", sum := "f79abc415689cfb28e72d9d578dac9b7e9b57da51dffb1a5c362f64a5f093fa0", func := "loop.example/g00089/laws.FnExactWipeTape", spec := "fnExactWipeTape", unfollowed := true, recurses := true, apart := false }
def FnExactWipeTapeSaid : Prop := fnExactWipeTapeRow.holds Tryz.pinned (OpenSpec.ofChange fnExactWipeTapeSpec)

/-- ITS FALSE NEIGHBOUR: 'it returns false'. Refute it at one input. -/
def fnExactWipeTapeWrong : ChangeSpec := { name := "fnExactWipeTape", fn := fun _ => fun
  | [d1, d2] => { results := [.lit (.bool false)], args := [d1, d2] }
  | _ => none }
def FnExactWipeTapeWrongFalsely : Prop := fnExactWipeTapeRow.holds Tryz.pinned (OpenSpec.ofChange fnExactWipeTapeWrong)

/-- 'laws.FnExactCutPower': WHATEVER THE INPUT: true; the input reads as it did. -/
def fnExactCutPowerSpec : ChangeSpec := { name := "fnExactCutPower", fn := fun _ => fun
  | [d] => { results := [.lit (.bool true)], args := [d] }
  | _ => none }
def fnExactCutPowerRow : OpenClaim := { program := "ytbmfndjglndnlaagreat", sum := "f79abc415689cfb28e72d9d578dac9b7e9b57da51dffb1a5c362f64a5f093fa0", func := "loop.example/g00089/laws.FnExactCutPower", spec := "fnExactCutPower", unfollowed := true, recurses := true, apart := false }
def FnExactCutPowerSaid : Prop := fnExactCutPowerRow.holds Tryz.pinned (OpenSpec.ofChange fnExactCutPowerSpec)

/-- ITS FALSE NEIGHBOUR: 'it returns false'. Refute it at one input. -/
def fnExactCutPowerWrong : ChangeSpec := { name := "fnExactCutPower", fn := fun _ => fun
  | [d] => { results := [.lit (.bool false)], args := [d] }
  | _ => none }
def FnExactCutPowerWrongFalsely : Prop := fnExactCutPowerRow.holds Tryz.pinned (OpenSpec.ofChange fnExactCutPowerWrong)

/- THE SECOND FORM. 'bulk': how many values and letters a reading holds, each counted each time it is reached (what is shared counts as often as it is met; a slice's spare places count too). A statement '..UptoSaid' is the law's where the arguments, and the package variables that the reading takes, are together of bulk at most 1048576: NARROWER than '..Said'. Prove '..Said' where nothing that the law and all that it calls make is longer than what came in: it says more and counts as full. Else prove '..UptoSaid'. A law counts once. -/
mutual
def uptoBulk {H : Type} : DataW H → Nat
  | .lit (.string bytes) => bytes.length + 1
  | .lit _ => 1
  | .nil => 1
  | .ptr d => uptoBulk d + 1
  | .slice elems spare => uptoBulkAll elems + uptoBulkAll spare + 1
  | .agg parts => uptoBulkAll parts + 1
  | .iface _ d => uptoBulk d + 1
  | .map entries => uptoBulkEntries entries + 1
  | .held _ => 1
def uptoBulkAll {H : Type} : List (DataW H) → Nat
  | [] => 0
  | d :: r => uptoBulk d + uptoBulkAll r
def uptoBulkEntries {H : Type} : List (Lit × DataW H) → Nat
  | [] => 0
  | x :: r => uptoBulkEntry x + uptoBulkEntries r
def uptoBulkEntry {H : Type} : Lit × DataW H → Nat
  | (.string bytes, d) => bytes.length + uptoBulk d + 1
  | (_, d) => uptoBulk d + 1
 end
def uptoSmall : (H : Type) → List (DataW H) → Bool := fun _ ds => decide (uptoBulkAll ds ≤ 1048576)
def OpenSpec.upto (s : _root_.Go.ChangeSpec) : _root_.Go.OpenSpec := { _root_.Go.OpenSpec.ofChange s with cond := some uptoSmall }

/-- 'laws.FnExactSwitchOn', WHERE WHAT IT READS IS OF BULK AT MOST 1048576: true; the input reads as it did. -/
def fnExactSwitchOnUptoRow : OpenClaim := { program := "ytbmfndjglndnlaagreat", sum := "f79abc415689cfb28e72d9d578dac9b7e9b57da51dffb1a5c362f64a5f093fa0", func := "loop.example/g00089/laws.FnExactSwitchOn", spec := "fnExactSwitchOn", unfollowed := true, recurses := true, apart := false, narrowed := true }
def FnExactSwitchOnUptoSaid : Prop := fnExactSwitchOnUptoRow.holds Tryz.pinned (OpenSpec.upto fnExactSwitchOnSpec)

/-- 'laws.FnExactSwitchOff', WHERE WHAT IT READS IS OF BULK AT MOST 1048576: true; the input reads as it did. -/
def fnExactSwitchOffUptoRow : OpenClaim := { program := "ytbmfndjglndnlaagreat", sum := "f79abc415689cfb28e72d9d578dac9b7e9b57da51dffb1a5c362f64a5f093fa0", func := "loop.example/g00089/laws.FnExactSwitchOff", spec := "fnExactSwitchOff", unfollowed := true, recurses := true, apart := false, narrowed := true }
def FnExactSwitchOffUptoSaid : Prop := fnExactSwitchOffUptoRow.holds Tryz.pinned (OpenSpec.upto fnExactSwitchOffSpec)

/-- 'laws.FnExactReadBlock', WHERE WHAT IT READS IS OF BULK AT MOST 1048576: true; the input reads as it did. -/
def fnExactReadBlockUptoRow : OpenClaim := { program := "ytbmfndjglndnlaagreat", sum := "f79abc415689cfb28e72d9d578dac9b7e9b57da51dffb1a5c362f64a5f093fa0", func := "loop.example/g00089/laws.FnExactReadBlock", spec := "fnExactReadBlock", unfollowed := true, recurses := true, apart := false, narrowed := true }
def FnExactReadBlockUptoSaid : Prop := fnExactReadBlockUptoRow.holds Tryz.pinned (OpenSpec.upto fnExactReadBlockSpec)

/-- 'laws.FnExactWipeDrive', WHERE WHAT IT READS IS OF BULK AT MOST 1048576: true; the input reads as it did. -/
def fnExactWipeDriveUptoRow : OpenClaim := { program := "ytbmfndjglndnlaagreat", sum := "f79abc415689cfb28e72d9d578dac9b7e9b57da51dffb1a5c362f64a5f093fa0", func := "loop.example/g00089/laws.FnExactWipeDrive", spec := "fnExactWipeDrive", unfollowed := true, recurses := true, apart := false, narrowed := true }
def FnExactWipeDriveUptoSaid : Prop := fnExactWipeDriveUptoRow.holds Tryz.pinned (OpenSpec.upto fnExactWipeDriveSpec)

/-- 'laws.FnExactWipeTape', WHERE WHAT IT READS IS OF BULK AT MOST 1048576: true; the input reads as it did. -/
def fnExactWipeTapeUptoRow : OpenClaim := { program := "ytbmfndjglndnlaagreat", sum := "f79abc415689cfb28e72d9d578dac9b7e9b57da51dffb1a5c362f64a5f093fa0", func := "loop.example/g00089/laws.FnExactWipeTape", spec := "fnExactWipeTape", unfollowed := true, recurses := true, apart := false, narrowed := true }
def FnExactWipeTapeUptoSaid : Prop := fnExactWipeTapeUptoRow.holds Tryz.pinned (OpenSpec.upto fnExactWipeTapeSpec)

/-- 'laws.FnExactCutPower', WHERE WHAT IT READS IS OF BULK AT MOST 1048576: true; the input reads as it did. -/
def fnExactCutPowerUptoRow : OpenClaim := { program := "ytbmfndjglndnlaagreat", sum := "f79abc415689cfb28e72d9d578dac9b7e9b57da51dffb1a5c362f64a5f093fa0", func := "loop.example/g00089/laws.FnExactCutPower", spec := "fnExactCutPower", unfollowed := true, recurses := true, apart := false, narrowed := true }
def FnExactCutPowerUptoSaid : Prop := fnExactCutPowerUptoRow.holds Tryz.pinned (OpenSpec.upto fnExactCutPowerSpec)

end Rows
end Go.Proofs.YtbmfndjglndnlaaGreat
